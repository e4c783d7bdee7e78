/- Rows of the call's own whose elements hold no memory: marks written cell by cell, and found again. Plain lemmas, over any program; the contract of the helper that makes a marked text. -/
import Derived.Test.YtcelkmphdeaaeaaRepMore
import Derived.Test.YtcelkmphdeaaeaaNum
namespace Go.Proofs.Ytcelkmphdeaaeaa
open Go.RowKit
set_option linter.unusedVariables false

/-- A row of the call's own, n elements of 'size' cells each; the first m cells are as f says. -/
def FlatTo (w : World) (base : Nat) (e : TypeId) (size n : Nat) (v : Value) (f : Nat → Value) (m : Nat) : Prop :=
  ∃ cells : List Value, w.ownsRow base e size v n cells ∧ ∀ j, j < m → cells[j]? = some (f j)

section
variable {w w' : World} {base : Nat} {e : TypeId} {size n m c g : Nat} {v : Value} {f : Nat → Value}
theorem FlatTo.zero {cells : List Value} (h : w.ownsRow base e size v n cells) (f : Nat → Value) : FlatTo w base e size n v f 0 := ⟨cells, h, fun j hj => by omega⟩
theorem FlatTo.later (h : FlatTo w base e size n v f m) (hb : Below w.heap.size w w') : FlatTo w' base e size n v f m := by
  obtain ⟨cells, ho, hc⟩ := h
  exact ⟨cells, ownsRow_below ho hb (Nat.le_refl _), hc⟩
theorem FlatTo.there (h : FlatTo w base e size n (.slice (some ⟨g, 0, none⟩) n c) f m) (j : Nat) (hj : j < n * size) : (∃ u, w.cell? ⟨g, j, none⟩ = some u) ∧ w.frozen? ⟨g, j, none⟩ = false := by
  obtain ⟨cells, ho, hc⟩ := h
  have hl := ho.1
  have hx := ho.cellAt j hj
  rw [List.getElem?_eq_getElem (by omega)] at hx
  exact ⟨⟨_, hx⟩, ho.frozenAt j⟩
theorem FlatTo.row (h : FlatTo w base e size n (.slice (some ⟨g, 0, none⟩) n c) f m) : base ≤ g ∧ g < w.heap.size := by
  obtain ⟨cells, ho, hc⟩ := h
  exact ho.lt g rfl
theorem FlatTo.set (h : FlatTo w base e size n (.slice (some ⟨g, 0, none⟩) n c) f m) (hm : m < n * size) {u : Value} (hu : f m = u) : FlatTo (w.setCell ⟨g, m, none⟩ u) base e size n (.slice (some ⟨g, 0, none⟩) n c) f (m + 1) := by
  obtain ⟨cells, ho, hc⟩ := h
  have hl := ho.1
  refine ⟨cells.set m u, (ho.stored m u).1, fun j hj => ?_⟩
  rw [List.getElem?_set]
  by_cases he : m = j
  · subst he
    rw [if_pos rfl, if_pos (by omega), hu]
  · rw [if_neg he]
    exact hc j (by omega)
/-- What is marked reads so. -/
theorem FlatTo.reads (h : FlatTo w base e size n v f (n * size)) (hs : 0 < size) : ∃ A c, v = .slice A n c ∧ (0 < n → ∃ b off, A = some ⟨b, off, none⟩ ∧ b < w.heap.size ∧ ∀ j, j < n * size → w.cell? ⟨b, off + j, none⟩ = some (f j)) := by
  obtain ⟨cells, ho, hc⟩ := h
  rcases ho.2 with ⟨rfl, h0⟩ | ⟨g, cap, cur, rfl, hb, hg, hnc, hcm, _, _⟩
  · subst h0
    exact ⟨none, 0, rfl, fun h => absurd h (by omega)⟩
  · refine ⟨some ⟨g, 0, none⟩, cap, rfl, fun hn => ⟨g, 0, rfl, (Array.getElem?_eq_some_iff.1 hg).1, fun j hj => ?_⟩⟩
    rw [Nat.zero_add, ho.cellAt j hj]
    exact hc j hj
end

/-- The text of a mark. -/
def mtxt (k : Nat) : ByteArray := if k = 0 then ⟨#[109, 48]⟩ else ⟨(109 :: Lib.decDigits k).toArray⟩

end Go.Proofs.Ytcelkmphdeaaeaa
