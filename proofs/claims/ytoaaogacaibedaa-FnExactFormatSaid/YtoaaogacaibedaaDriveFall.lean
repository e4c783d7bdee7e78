/- drive.restart. -/
import Derived.Test.YtoaaogacaibedaaDriveSync
import Derived.Test.YtoaaogacaibedaaFall0
namespace Go.Proofs.Ytoaaogacaibedaa
open Go.RowKit Go.Maps
set_option linter.unusedVariables false

theorem MapIs.mono {w : World} {mb m : Nat} {cells : List Value} {idx : Int → Option Nat} (h : MapIs w mb m cells idx) {m' : Nat} (hm : m ≤ m') : MapIs w mb m' cells idx := by
  obtain ⟨D, ho, hD, hi⟩ := h
  exact ⟨D, ho.mono hm, hD, hi⟩

end Go.Proofs.Ytoaaogacaibedaa
