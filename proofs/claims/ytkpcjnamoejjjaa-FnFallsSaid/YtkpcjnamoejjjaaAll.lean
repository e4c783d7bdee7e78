/- Facts about memory that stay true while memory grows: carried together, in one hypothesis. Plain, over any program. -/
import Derived.Test.YtkpcjnamoejjjaaDrawDisk0
namespace Go.Proofs.Ytkpcjnamoejjjaa
open Go.RowKit Go.Maps
set_option linter.unusedVariables false

/-- Nothing that was there has turned. -/
def Later (w w' : World) : Prop := Below w.heap.size w w'
theorem Later.trans {w w1 w2 : World} (h : Later w w1) (h2 : Later w1 w2) : Later w w2 := Below.trans h (Below.mono h2 h.size)
theorem Later.drew (w : World) : Later w w.drew := belowD (Below.refl _ _) 1
theorem Later.drewN (w : World) (n : Nat) : Later w (w.drewN n) := belowD (Below.refl _ _) n
theorem Later.alloc (w : World) (o : Obj) : Later w (w.alloc o) := (Below.refl _ _).alloc (Nat.le_refl _) o
theorem Later.refl (w : World) : Later w w := Below.refl _ _
theorem Later.of {w w' : World} (h : Below w.heap.size w w') : Later w w' := h

class Keeps (F : World → Prop) : Prop where
  keeps : ∀ {w w' : World}, Later w w' → F w → F w'

instance Keeps.and {F G : World → Prop} [Keeps F] [Keeps G] : Keeps (fun w => F w ∧ G w) := ⟨fun h x => ⟨Keeps.keeps h x.1, Keeps.keeps h x.2⟩⟩
instance Keeps.hid {F : World → Prop} [Keeps F] : Keeps (fun w => Hid (F w)) := ⟨fun h x => Lib.hid (Keeps.keeps (F := F) h x.out)⟩
instance Keeps.at_ {α : Type} (R : Rep α) (cs : List Value) (x : α) : Keeps (fun w => R.at_ w w.heap.size cs x) := ⟨fun h x => R.more (Rep.at_below x h) h.size⟩
instance Keeps.reads (size n : Nat) (A : Option Addr) (xs : List Value) : Keeps (fun w => Reads w w.heap.size size A n xs) := ⟨fun h x => (x.below h).more h.size⟩
instance Keeps.own {α : Type} (R : Rep α) (base : Nat) (cs : List Value) (x : α) (fp : List Nat) : Keeps (fun w => R.own w base cs x fp) := ⟨fun h x => Rep.own_below x h⟩
instance Keeps.block (g : Nat) (o : Obj) : Keeps (fun w => w.heap[g]? = some o) := ⟨fun h x => (h.block g (Array.getElem?_eq_some_iff.1 x).1).trans x⟩
instance Keeps.cell (p : Addr) (v : Value) : Keeps (fun w => w.cell? p = some v) := ⟨fun h x => (h.cell (World.block_lt_of_cell? _ _ x)).trans x⟩
instance Keeps.lt (n : Nat) : Keeps (fun w => n < w.heap.size) := ⟨fun h x => Nat.lt_of_lt_of_le x h.size⟩
instance Keeps.le (n : Nat) : Keeps (fun w => n ≤ w.heap.size) := ⟨fun h x => Nat.le_trans x h.size⟩
instance Keeps.below (w0 : World) : Keeps (fun w => Below w0.heap.size w0 w) := ⟨fun h x => Later.trans x h⟩
instance Keeps.pure (p : Prop) : Keeps (fun _ => p) := ⟨fun _ x => x⟩

/-- All that is known of the memory. -/
structure All (F : World → Prop) (w : World) : Prop where
  out : F w
theorem All.later {F : World → Prop} [Keeps F] {w w' : World} (h : All F w) (hb : Below w.heap.size w w') : All F w' := ⟨Keeps.keeps hb h.out⟩
theorem All.drew {F : World → Prop} [Keeps F] {w : World} (h : All F w) : All F w.drew := h.later (Later.drew w)
theorem All.alloc {F : World → Prop} [Keeps F] {w : World} (h : All F w) (o : Obj) : All F (w.alloc o) := h.later (Later.alloc w o)

end Go.Proofs.Ytkpcjnamoejjjaa
