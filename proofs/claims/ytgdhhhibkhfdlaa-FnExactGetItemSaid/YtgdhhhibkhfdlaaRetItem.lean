/- An item and a bool come back: the result's box is read as a whole. -/
import Derived.Test.YtgdhhhibkhfdlaaTItem
import Derived.Deep.MidRow
namespace Go.Proofs.Ytgdhhhibkhfdlaa
open Go.RowKit
set_option linter.unusedVariables false
set_option linter.unusedSimpArgs false

theorem ret_item {fn : Func} {tmps : Array Value} {D : Nat} {cs : List Value} {k : Bool} {W : World} (hf : fn.results = #[.cell 2 54, .tmp 3]) (h2 : tmps.getD 2 undef = .pointer (some ⟨D, 0, none⟩)) (h3 : tmps.getD 3 undef = .bool k)
    (hb : W.heap[D]? = some (.cells cs.toArray 54 (0, 0))) (hl : cs.length = 16) : (results fn tmps).run Try.prog W = .ok (.tuple #[.agg cs.toArray, .bool k]) W := by
  have hld := run_loadVar_mid (P := Try.prog) W D 0 54 cs _ (fun j v hv => by rw [var_cell hb (0 + j)]; simpa using hv) Try.underlying54 rfl (by rw [hl]; kernel_rfl)
  unfold results
  rw [hf]
  have h2' : tmps[2]?.getD undef = .pointer (some ⟨D, 0, none⟩) := by simpa using h2
  have h3' : tmps[3]?.getD undef = .bool k := by simpa using h3
  have ha : (asAddr (.pointer (some ⟨D, 0, none⟩))).run Try.prog W = .ok ⟨D, 0, none⟩ W := by simp [asAddr, go_sem]
  have e : (#[ResultVar.cell 2 54, .tmp 3] : Array ResultVar) = [ResultVar.cell 2 54, .tmp 3].toArray := rfl
  rw [e]
  simp [h2', h3', Sem.run_bind, Sem.run_pure, ha, hld]
end Go.Proofs.Ytgdhhhibkhfdlaa
