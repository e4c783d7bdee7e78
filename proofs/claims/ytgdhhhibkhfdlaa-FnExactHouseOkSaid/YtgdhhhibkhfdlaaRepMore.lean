/- More about data in memory: copies, variables of structs, what stays while memory grows. -/
import Derived.Test.YtgdhhhibkhfdlaaRepRow
import Derived.StillTailTactics
import Derived.WalkSmall
import Derived.Deep.DeepMust
namespace Go.Proofs.Ytgdhhhibkhfdlaa
open Go.RowKit
set_option linter.unusedVariables false

/-- The first k elements are copied, the others are still zero. -/
def halfL {α : Type} (z : α) (xs : List α) (k : Nat) : List α := xs.take k ++ List.replicate (xs.length - k) z
theorem halfL_length {α : Type} (z : α) (xs : List α) (k : Nat) (h : k ≤ xs.length) : (halfL z xs k).length = xs.length := by simp [halfL]; omega
theorem halfL_zero {α : Type} (z : α) (xs : List α) : halfL z xs 0 = List.replicate xs.length z := by simp [halfL]
theorem halfL_all {α : Type} (z : α) (xs : List α) : halfL z xs xs.length = xs := by simp [halfL]
theorem halfL_set {α : Type} (z : α) {xs : List α} {k : Nat} {x : α} (h : xs[k]? = some x) : (halfL z xs k).set k x = halfL z xs (k + 1) := by
  have hk : k < xs.length := (List.getElem?_eq_some_iff.1 h).1
  have e : xs.length - k = (xs.length - (k + 1)) + 1 := by omega
  unfold halfL
  rw [Rep.take_get h, e, List.replicate_succ, List.set_append_right _ _ (by simp; omega)]
  have : k - (xs.take k).length = 0 := by simp; omega
  rw [this]
  simp

theorem rows_zero {α : Type} (R : Rep α) (e : TypeId) (w : World) (base n : Nat) (v : Value) (z : α) (c : List Value) (cells : List Value) (h : w.ownsRow base e R.size v n cells) (hc : ∀ i, i < n → Rep.seg R.size i cells = c) (hz : ∀ w, R.own w base c z []) :
    Rep.OwnRows R e w base v (List.replicate n z) v.ownBlock.toList := by
  refine ⟨cells, List.replicate n [], by simpa using h, by simp, ?_, by simp, Rep.nodup_toList _⟩
  intro i x f hx hf
  rw [List.getElem?_replicate] at hx hf
  split at hx
  · rename_i hi
    rw [if_pos hi] at hf
    injection hx with hx
    injection hf with hf
    subst hx hf
    rw [hc i hi]
    exact hz w
  · cases hx

theorem bcell {W w1 : World} (hb : Below W.heap.size W w1) : (∀ b o, b < W.heap.size → w1.cell? ⟨b, o, none⟩ = W.cell? ⟨b, o, none⟩) ∧ (∀ b o, b < W.heap.size → w1.frozen? ⟨b, o, none⟩ = W.frozen? ⟨b, o, none⟩) :=
  ⟨fun b o h => hb.cell (p := ⟨b, o, none⟩) h, fun b o h => hb.frozen (p := ⟨b, o, none⟩) h⟩

/-- The same, behind a step that has only made memory. -/
theorem gcell {W w1 : World} (hg : W.grownBy w1 none) : (∀ b o, b < W.heap.size → w1.cell? ⟨b, o, none⟩ = W.cell? ⟨b, o, none⟩) ∧ (∀ b o, b < W.heap.size → w1.frozen? ⟨b, o, none⟩ = W.frozen? ⟨b, o, none⟩) :=
  bcell ((Below.refl _ _).grown hg (Nat.le_refl _) (fun _ hk => by cases hk))

theorem Owns.setLow {w : World} {base : Nat} {e : TypeId} {v : Value} {l : List UInt8} (h : Owns w base e v l) {p : Addr} (hp : p.block < base) (u : Value) : Owns (w.setCell p u) base e v l :=
  Rep.ownsRow_block h fun g hg => heap_setCell_other _ _ _ _ (by have := (h.lt g (by simpa using hg)).1; omega)

/-- What a count of the room that is left says. -/
def Room (bound : Prop) (left : Nat) (w : World) (e : Ending) (w' : World) : Prop := ((∃ z : Nat, z ≤ left ∧ bound ∧ e = .returned (.int .i64 z)) ∨ e = .returned (.int .i64 (-1))) ∧ w = w'

/-- What a count of the room that is left says, where the count makes memory. -/
def RoomB (bound : Prop) (left : Nat) (w : World) (e : Ending) (w' : World) : Prop := ((∃ z : Nat, z ≤ left ∧ bound ∧ e = .returned (.int .i64 z)) ∨ e = .returned (.int .i64 (-1))) ∧ Below w.heap.size w w'

theorem var_cell {w : World} {g t : Nat} {cs : Array Value} (h : w.heap[g]? = some (.cells cs t (0, 0))) (i : Nat) : w.cell? ⟨g, i, none⟩ = cs[i]? := cell_of_row w g i cs t (0, 0) h
theorem var_frozen {w : World} {g t : Nat} {cs : Array Value} (h : w.heap[g]? = some (.cells cs t (0, 0))) (i : Nat) : w.frozen? ⟨g, i, none⟩ = false := by simp [World.frozen?, h]
theorem var_set {w : World} {g t : Nat} {cs : Array Value} (h : w.heap[g]? = some (.cells cs t (0, 0))) (i : Nat) (u : Value) : (w.setCell ⟨g, i, none⟩ u).heap[g]? = some (.cells (cs.setIfInBounds i u) t (0, 0)) := by
  simp [World.setCell, Array.getElem?_modify, h]

theorem heap_alloc_new' (w : World) (o : Obj) {n : Nat} (h : n = w.heap.size) : (w.alloc o).heap[n]? = some o := by subst h; exact heap_alloc_new w o

theorem l1In_yes {x lo hi : Int} (w : World) (h1 : lo ≤ x) (h2 : x ≤ hi) : Calls Try.prog 86 #[.int .i64 x, .int .i64 lo, .int .i64 hi] w fun e w' => e = .returned (.bool true) ∧ w = w' := by
  go_enter Try.func86, Try.ntmps86
  go_wp2
  go_ret
  exact ⟨rfl, rfl⟩
theorem l1In_no {x lo hi : Int} (w : World) (h : ¬ (lo ≤ x ∧ x ≤ hi)) : Calls Try.prog 86 #[.int .i64 x, .int .i64 lo, .int .i64 hi] w fun e w' => e = .returned (.bool false) ∧ w = w' := by
  by_cases h1 : lo ≤ x
  · have h2 : ¬ x ≤ hi := fun h2 => h ⟨h1, h2⟩
    clear h
    go_enter Try.func86, Try.ntmps86
    go_wp2
    go_ret
    exact ⟨rfl, rfl⟩
  · clear h
    go_enter Try.func86, Try.ntmps86
    go_wp2
    go_ret
    exact ⟨rfl, rfl⟩

theorem quiet_left {P : Program} {f : FuncId} {args : Array Value} {w : World} {n : Nat} {v : Value}
    (h : Calls P f args (w.drewN n) fun e w' => e = .returned v ∧ w.drewN n = w') : Calls P f args (w.drewN n) fun e w'' => e = .returned v ∧ ∃ m, w'' = w.drewN m :=
  h.mono fun _ _ ⟨he, hm⟩ => ⟨he, n, hm.symm⟩

/-- A bool comes back; what was there is as it was. -/
def RetBool (w : World) (b : Bool) (e : Ending) (w' : World) : Prop := e = .returned (.bool b) ∧ Below w.heap.size w w'

def AllP {α : Type} (P : α → Prop) (xs : List α) (k : Nat) : Prop := ∀ l, l ∈ xs.take k → P l
theorem AllP.zero {α : Type} (P : α → Prop) (xs : List α) : AllP P xs 0 := by intro l hl; simp at hl
theorem AllP.succ {α : Type} {P : α → Prop} {xs : List α} {k : Nat} {l : α} (h : AllP P xs k) (hx : xs[k]? = some l) (hl : P l) : AllP P xs (k + 1) := by
  intro m hm
  rw [Rep.take_get hx, List.mem_append] at hm
  rcases hm with hm | hm
  · exact h m hm
  · simp at hm; subst hm; exact hl
theorem AllP.all {α : Type} {P : α → Prop} {xs : List α} (h : AllP P xs xs.length) : ∀ l, l ∈ xs → P l := fun l hl => h l (by simpa using hl)

theorem Rep.only_of_below {w w' : World} (h : Below w.heap.size w w') : Rep.Only w w' [] := ⟨h.os, h.tape, h.output, h.size, fun k hk _ => h.block k hk⟩
theorem Rep.only_drew (w : World) : Rep.Only w w.drew [] := ⟨rfl, rfl, rfl, Nat.le_refl _, fun _ _ _ => rfl⟩
theorem Rep.only_alloc (w : World) (o : Obj) : Rep.Only w (w.alloc o) [] := Rep.only_of_below ((Below.refl _ _).alloc (Nat.le_refl _) o)
theorem Rep.var_only {w w' : World} {g : Nat} {o : Obj} {fp : List Nat} (h : Hid (w.heap[g]? = some o)) (ho : Rep.Only w w' fp) (hg : g < w.heap.size) (hn : g ∉ fp) : Hid (w'.heap[g]? = some o) := Lib.hid ((ho.block g hg hn).trans h.out)

theorem Rep.Only.then {w w1 w2 : World} {fp fp2 : List Nat} (h : Rep.Only w w1 fp) (h2 : Rep.Only w1 w2 fp2) (hf : ∀ a, a ∈ fp2 → a ∈ fp ∨ w.heap.size ≤ a) : Rep.Only w w2 fp :=
  ⟨h2.os.trans h.os, h2.tape.trans h.tape, h2.output.trans h.output, Nat.le_trans h.size h2.size, fun k hk hn => (h2.block k (Nat.lt_of_lt_of_le hk h.size) (fun e => by rcases hf k e with h3 | h3; (exact hn h3); omega)).trans (h.block k hk hn)⟩
theorem Rep.Only.cell {w w' : World} {fp : List Nat} (h : Rep.Only w w' fp) {b o : Nat} (hb : b < w.heap.size) (hn : b ∉ fp) : w'.cell? ⟨b, o, none⟩ = w.cell? ⟨b, o, none⟩ := World.cell?_of_block (h.block b hb hn)

/-- Nothing that was there has turned. -/
def Later (w w' : World) : Prop := Below w.heap.size w w'
theorem Later.trans {w w1 w2 : World} (h : Later w w1) (h2 : Later w1 w2) : Later w w2 := Below.trans h (Below.mono h2 h.size)
theorem Later.drew (w : World) : Later w w.drew := belowD (Below.refl _ _) 1
theorem Later.drewN (w : World) (n : Nat) : Later w (w.drewN n) := belowD (Below.refl _ _) n
theorem Later.alloc (w : World) (o : Obj) : Later w (w.alloc o) := (Below.refl _ _).alloc (Nat.le_refl _) o
theorem Later.refl (w : World) : Later w w := Below.refl _ _
theorem Later.of {w w' : World} (h : Below w.heap.size w w') : Later w w' := h

class Keeps (F : World → Prop) : Prop where
  keeps : ∀ {w w' : World}, Later w w' → F w → F w'

instance Keeps.and {F G : World → Prop} [Keeps F] [Keeps G] : Keeps (fun w => F w ∧ G w) := ⟨fun h x => ⟨Keeps.keeps h x.1, Keeps.keeps h x.2⟩⟩
instance Keeps.hid {F : World → Prop} [Keeps F] : Keeps (fun w => Hid (F w)) := ⟨fun h x => Lib.hid (Keeps.keeps (F := F) h x.out)⟩
instance Keeps.at_ {α : Type} (R : Rep α) (cs : List Value) (x : α) : Keeps (fun w => R.at_ w w.heap.size cs x) := ⟨fun h x => R.more (Rep.at_below x h) h.size⟩
instance Keeps.reads (size n : Nat) (A : Option Addr) (xs : List Value) : Keeps (fun w => Reads w w.heap.size size A n xs) := ⟨fun h x => (x.below h).more h.size⟩
instance Keeps.own {α : Type} (R : Rep α) (base : Nat) (cs : List Value) (x : α) (fp : List Nat) : Keeps (fun w => R.own w base cs x fp) := ⟨fun h x => Rep.own_below x h⟩
instance Keeps.block (g : Nat) (o : Obj) : Keeps (fun w => w.heap[g]? = some o) := ⟨fun h x => (h.block g (Array.getElem?_eq_some_iff.1 x).1).trans x⟩
instance Keeps.cell (p : Addr) (v : Value) : Keeps (fun w => w.cell? p = some v) := ⟨fun h x => (h.cell (World.block_lt_of_cell? _ _ x)).trans x⟩
instance Keeps.lt (n : Nat) : Keeps (fun w => n < w.heap.size) := ⟨fun h x => Nat.lt_of_lt_of_le x h.size⟩
instance Keeps.le (n : Nat) : Keeps (fun w => n ≤ w.heap.size) := ⟨fun h x => Nat.le_trans x h.size⟩
instance Keeps.below (w0 : World) : Keeps (fun w => Below w0.heap.size w0 w) := ⟨fun h x => Later.trans x h⟩
instance Keeps.pure (p : Prop) : Keeps (fun _ => p) := ⟨fun _ x => x⟩

/-- All that is known of the memory. -/
structure All (F : World → Prop) (w : World) : Prop where
  out : F w
theorem All.later {F : World → Prop} [Keeps F] {w w' : World} (h : All F w) (hb : Below w.heap.size w w') : All F w' := ⟨Keeps.keeps hb h.out⟩
theorem All.drew {F : World → Prop} [Keeps F] {w : World} (h : All F w) : All F w.drew := h.later (Later.drew w)
theorem All.alloc {F : World → Prop} [Keeps F] {w : World} (h : All F w) (o : Obj) : All F (w.alloc o) := h.later (Later.alloc w o)

end Go.Proofs.Ytgdhhhibkhfdlaa
