/- A cursor, while memory grows; an int of a list. -/
import Derived.Test.YtlenidiijiinjaaRepMore
import Derived.Test.YtlenidiijiinjaaDrawMore
namespace Go.Proofs.Ytlenidiijiinjaa
open Go.RowKit
set_option linter.unusedVariables false

theorem Cur.only {w w' : World} {lo g : Nat} {A : Option Addr} {n c : Nat} {code : List UInt8} (h : Cur w lo g A n c code) {fp : List Nat} (ho : Rep.Only w w' fp) (hg : g ∉ fp) (hf : ∀ a, a ∈ fp → lo ≤ a) : Cur w' lo g A n c code := by
  have hlt := h.lt
  obtain ⟨hlo, hrd, i, hh, hi, h1, h2, hb⟩ := h
  refine ⟨hlo, hrd.keep fun p hp => World.cell?_of_block (ho.block p.block (by omega) (fun e => by have := hf _ e; omega)), i, hh, hi, h1, h2, ?_⟩
  rw [ho.block g hlt hg]
  exact hb
theorem Cur.drew {w : World} {lo g : Nat} {A : Option Addr} {n c : Nat} {code : List UInt8} (h : Cur w lo g A n c code) : Cur w.drew lo g A n c code := h.only (Rep.only_drew w) (by simp) (fun a ha => by cases ha)
theorem only_g {w w' : World} {g : Nat} (h : w.grownBy w' (some g)) : Rep.Only w w' [g] := Rep.Only.of_grown h (fun a ha => by injection ha with ha; simp [ha])

/-- An int of a list that has just been made. -/
def RetInt (w : World) (lo g : Nat) (A : Option Addr) (n c : Nat) (code : List UInt8) (zs : List Int) (e : Ending) (w' : World) : Prop :=
  ∃ z, z ∈ zs ∧ e = .returned (.int .i64 z) ∧ Cur w' lo g A n c code ∧ Rep.Only w w' [g]

theorem draw_int (lo g : Nat) (A : Option Addr) (n c : Nat) (code : List UInt8) (zs : List Int) (w : World) (h : Cur w lo g A n c code) (hn : n ≤ 140737488351232) (hz0 : 0 < zs.length) (hz : zs.length ≤ 1000) :
    Calls Try.prog 30 #[.pointer (some ⟨g, 0, none⟩), .slice (some ⟨w.heap.size, 0, none⟩) zs.length zs.length] (w.alloc (.cells (zs.map (Value.int .i64)).toArray 3)) (RetInt w lo g A n c code zs) := by
  refine (l1Int_any lo g w.heap.size A n c code zs _ (h.only (Rep.only_alloc w _) (by simp) (fun a ha => by cases ha)) hn hz0 hz (heap_alloc_new w _) (by have := h.lt; omega)).mono ?_
  rintro e w' ⟨z, hm, rfl, hc, hg⟩
  exact ⟨z, hm, rfl, hc, ((Rep.only_alloc w _).mono (by simp) : Rep.Only w _ [g]).trans (only_g hg)⟩

/-- A string of a list that has just been made. -/
def RetStr (w : World) (lo g : Nat) (A : Option Addr) (n c : Nat) (code : List UInt8) (ss : List ByteArray) (e : Ending) (w' : World) : Prop :=
  ∃ z, z ∈ ss ∧ e = .returned (.string z) ∧ Cur w' lo g A n c code ∧ Rep.Only w w' [g]

theorem draw_str (lo g : Nat) (A : Option Addr) (n c : Nat) (code : List UInt8) (ss : List ByteArray) (w : World) (h : Cur w lo g A n c code) (hn : n ≤ 140737488351232) (hz0 : 0 < ss.length) (hz : ss.length ≤ 1000) :
    Calls Try.prog 44 #[.pointer (some ⟨g, 0, none⟩), .slice (some ⟨w.heap.size, 0, none⟩) ss.length ss.length] (w.alloc (.cells (ss.map Value.string).toArray 9)) (RetStr w lo g A n c code ss) := by
  refine (l1Str_any lo g w.heap.size A n c code ss _ (h.only (Rep.only_alloc w _) (by simp) (fun a ha => by cases ha)) hn hz0 hz (heap_alloc_new w _) (by have := h.lt; omega)).mono ?_
  rintro e w' ⟨z, hm, rfl, hc, hg⟩
  exact ⟨z, hm, rfl, hc, ((Rep.only_alloc w _).mono (by simp) : Rep.Only w _ [g]).trans (only_g hg)⟩

/-- The cursor; what was there ahead of it is as it was. -/
structure CB (w : World) (lo g : Nat) (A : Option Addr) (n c : Nat) (code : List UInt8) (V : World) : Prop where
  below : Below w.heap.size w V
  cur : Cur V lo g A n c code
  low : w.heap.size ≤ lo
section
variable {w V V2 : World} {lo g : Nat} {A : Option Addr} {n c : Nat} {code : List UInt8}
theorem CB.step (h : CB w lo g A n c code V) (hc : Cur V2 lo g A n c code) (ho : Rep.Only V V2 [g]) : CB w lo g A n c code V2 := by
  have hf := h.cur.from_
  have hl := h.low
  exact ⟨Rep.Only.below h.below ho h.below.size (fun a ha => by simp at ha; omega), hc, hl⟩
theorem CB.later (h : CB w lo g A n c code V) (hb : Below V.heap.size V V2) : CB w lo g A n c code V2 :=
  h.step (h.cur.only (Rep.only_of_below hb) (by simp) (fun a ha => by cases ha)) ((Rep.only_of_below hb).mono (by simp))
theorem CB.alloc (h : CB w lo g A n c code V) (ob : Obj) : CB w lo g A n c code (V.alloc ob) := h.step (h.cur.alloc ob) ((Rep.only_alloc V ob).mono (by simp))
theorem CB.drew (h : CB w lo g A n c code V) : CB w lo g A n c code V.drew := h.step h.cur.drew ((Rep.only_drew V).mono (by simp))
theorem CB.beside {G : Nat} (h : CB w lo g A n c code V) (ho : Rep.Only V V2 [G]) (hne : G ≠ g) (hG : lo ≤ G) : CB w lo g A n c code V2 := by
  have hl := h.low
  exact ⟨Rep.Only.below h.below ho h.below.size (fun a ha => by simp at ha; omega), h.cur.only ho (by simp; omega) (fun a ha => by simp at ha; omega), hl⟩
theorem CB.gt (h : CB w lo g A n c code V) : V.heap.size ≠ g := by have := h.cur.lt; omega
theorem CB.of_new (hcur : Cur V w.heap.size g A n c code) (hb : Below w.heap.size w V) : CB w w.heap.size g A n c code V := ⟨hb, hcur, Nat.le_refl _⟩
end

theorem CB.row {w V V2 : World} {lo g : Nat} {A : Option Addr} {n c : Nat} {code : List UInt8} {row : Option Nat} (h : CB w lo g A n c code V) (hg : V.grownBy V2 row) (hr : ∀ k, row = some k → g < k) : CB w lo g A n c code V2 := by
  have hf := h.cur.from_
  have hl := h.low
  have ho : Rep.Only V V2 row.toList := Rep.Only.of_grown hg (fun k hk => by rw [hk]; simp)
  have hm : ∀ a, a ∈ row.toList → g < a := fun a ha => hr a (by simpa using ha)
  exact ⟨Rep.Only.below h.below ho h.below.size (fun a ha => by have := hm a ha; omega), h.cur.only ho (fun hx => by have := hm g hx; omega) (fun a ha => by have := hm a ha; omega), hl⟩

end Go.Proofs.Ytlenidiijiinjaa
