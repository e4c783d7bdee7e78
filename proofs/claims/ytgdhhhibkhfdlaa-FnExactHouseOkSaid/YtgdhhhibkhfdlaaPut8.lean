/- A struct of eight cells, stored. -/
import Derived.Test.YtgdhhhibkhfdlaaRepMore
namespace Go.Proofs.Ytgdhhhibkhfdlaa
open Go.RowKit
set_option linter.unusedVariables false

/-! ### a struct of eight cells, stored -/
theorem put8 {W : World} {E t : Nat} {z0 z1 z2 z3 z4 z5 z6 z7 : Value} (u0 u1 u2 u3 u4 u5 u6 u7 : Value) (h : W.heap[E]? = some (.cells #[z0, z1, z2, z3, z4, z5, z6, z7] t (0, 0))) : ((((((((W.setCell ⟨E, 0, none⟩ u0).setCell ⟨E, 1, none⟩ u1).setCell ⟨E, 2, none⟩ u2).setCell ⟨E, 3, none⟩ u3).setCell ⟨E, 4, none⟩ u4).setCell ⟨E, 5, none⟩ u5).setCell ⟨E, 6, none⟩ u6).setCell ⟨E, 7, none⟩ u7).heap[E]? = some (.cells #[u0, u1, u2, u3, u4, u5, u6, u7] t (0, 0)) := by
  have h0 : (W.setCell ⟨E, 0, none⟩ u0).heap[E]? = some (.cells #[u0, z1, z2, z3, z4, z5, z6, z7] t (0, 0)) := var_set h 0 u0
  have h1 : ((W.setCell ⟨E, 0, none⟩ u0).setCell ⟨E, 1, none⟩ u1).heap[E]? = some (.cells #[u0, u1, z2, z3, z4, z5, z6, z7] t (0, 0)) := var_set h0 1 u1
  have h2 : (((W.setCell ⟨E, 0, none⟩ u0).setCell ⟨E, 1, none⟩ u1).setCell ⟨E, 2, none⟩ u2).heap[E]? = some (.cells #[u0, u1, u2, z3, z4, z5, z6, z7] t (0, 0)) := var_set h1 2 u2
  have h3 : ((((W.setCell ⟨E, 0, none⟩ u0).setCell ⟨E, 1, none⟩ u1).setCell ⟨E, 2, none⟩ u2).setCell ⟨E, 3, none⟩ u3).heap[E]? = some (.cells #[u0, u1, u2, u3, z4, z5, z6, z7] t (0, 0)) := var_set h2 3 u3
  have h4 : (((((W.setCell ⟨E, 0, none⟩ u0).setCell ⟨E, 1, none⟩ u1).setCell ⟨E, 2, none⟩ u2).setCell ⟨E, 3, none⟩ u3).setCell ⟨E, 4, none⟩ u4).heap[E]? = some (.cells #[u0, u1, u2, u3, u4, z5, z6, z7] t (0, 0)) := var_set h3 4 u4
  have h5 : ((((((W.setCell ⟨E, 0, none⟩ u0).setCell ⟨E, 1, none⟩ u1).setCell ⟨E, 2, none⟩ u2).setCell ⟨E, 3, none⟩ u3).setCell ⟨E, 4, none⟩ u4).setCell ⟨E, 5, none⟩ u5).heap[E]? = some (.cells #[u0, u1, u2, u3, u4, u5, z6, z7] t (0, 0)) := var_set h4 5 u5
  have h6 : (((((((W.setCell ⟨E, 0, none⟩ u0).setCell ⟨E, 1, none⟩ u1).setCell ⟨E, 2, none⟩ u2).setCell ⟨E, 3, none⟩ u3).setCell ⟨E, 4, none⟩ u4).setCell ⟨E, 5, none⟩ u5).setCell ⟨E, 6, none⟩ u6).heap[E]? = some (.cells #[u0, u1, u2, u3, u4, u5, u6, z7] t (0, 0)) := var_set h5 6 u6
  have h7 : ((((((((W.setCell ⟨E, 0, none⟩ u0).setCell ⟨E, 1, none⟩ u1).setCell ⟨E, 2, none⟩ u2).setCell ⟨E, 3, none⟩ u3).setCell ⟨E, 4, none⟩ u4).setCell ⟨E, 5, none⟩ u5).setCell ⟨E, 6, none⟩ u6).setCell ⟨E, 7, none⟩ u7).heap[E]? = some (.cells #[u0, u1, u2, u3, u4, u5, u6, u7] t (0, 0)) := var_set h6 7 u7
  exact h7
theorem put8_other {W : World} {E g : Nat} (u0 u1 u2 u3 u4 u5 u6 u7 : Value) (hne : E ≠ g) : ((((((((W.setCell ⟨E, 0, none⟩ u0).setCell ⟨E, 1, none⟩ u1).setCell ⟨E, 2, none⟩ u2).setCell ⟨E, 3, none⟩ u3).setCell ⟨E, 4, none⟩ u4).setCell ⟨E, 5, none⟩ u5).setCell ⟨E, 6, none⟩ u6).setCell ⟨E, 7, none⟩ u7).heap[g]? = W.heap[g]? := by
  iterate 8 (rw [heap_setCell_other _ _ _ _ (fun e => hne (by first | exact e | exact Eq.symm e))])
theorem put8_below {W w0 : World} {E B : Nat} (u0 u1 u2 u3 u4 u5 u6 u7 : Value) (h : Below B w0 W) (hE : B ≤ E) : Below B w0 ((((((((W.setCell ⟨E, 0, none⟩ u0).setCell ⟨E, 1, none⟩ u1).setCell ⟨E, 2, none⟩ u2).setCell ⟨E, 3, none⟩ u3).setCell ⟨E, 4, none⟩ u4).setCell ⟨E, 5, none⟩ u5).setCell ⟨E, 6, none⟩ u6).setCell ⟨E, 7, none⟩ u7) := by
  repeat (refine Below.setCell ?_ hE _)
  exact h
theorem put8_own {α : Type} {R : Rep α} {W : World} {E base : Nat} {cs : List Value} {x : α} {fp : List Nat} (u0 u1 u2 u3 u4 u5 u6 u7 : Value) (h : R.own W base cs x fp) (hn : E ∉ fp) : R.own ((((((((W.setCell ⟨E, 0, none⟩ u0).setCell ⟨E, 1, none⟩ u1).setCell ⟨E, 2, none⟩ u2).setCell ⟨E, 3, none⟩ u3).setCell ⟨E, 4, none⟩ u4).setCell ⟨E, 5, none⟩ u5).setCell ⟨E, 6, none⟩ u6).setCell ⟨E, 7, none⟩ u7) base cs x fp := by
  refine R.kept h fun g hg => ?_
  have hne : E ≠ g := fun e => hn (by rw [e]; exact hg)
  exact put8_other u0 u1 u2 u3 u4 u5 u6 u7 hne

end Go.Proofs.Ytgdhhhibkhfdlaa
