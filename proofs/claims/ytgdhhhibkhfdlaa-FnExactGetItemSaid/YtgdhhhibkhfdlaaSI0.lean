/- GetItem of the model: what its walk asks. (By gen_l9g.py.) -/
import Derived.Test.YtgdhhhibkhfdlaaRdS
import Derived.Test.YtgdhhhibkhfdlaaRdAsk
import Derived.Test.YtgdhhhibkhfdlaaPutItemS
import Derived.Test.YtgdhhhibkhfdlaaGI0
import Derived.Test.YtgdhhhibkhfdlaaLexG
import Derived.Deep.Cut
namespace Go.Proofs.Ytgdhhhibkhfdlaa
open Go.RowKit
set_option linter.unusedVariables false
set_option linter.unusedSimpArgs false

theorem sW_bd (s : St) : 0 ≤ (sW s).1 ∧ (sW s).1 ≤ 65535 := by
  unfold sW
  split
  · simp
  · exact iW_bd s.1
theorem sB_bd (s : St) : 0 ≤ (sB s).1 ∧ (sB s).1 ≤ 255 := by
  unfold sB
  split
  · simp
  · exact iB_bd s.1
theorem sT_small (s : St) : (sT s).1.size ≤ 1048576 := by
  unfold sT
  split
  · show (⟨#[]⟩ : ByteArray).size ≤ _; decide
  · exact tx_small _ _
theorem fits_sIt (b : List UInt8) : FitsIt (sIt b).1 := by
  have hz : FitsAk akZero := ⟨by decide, by decide⟩
  have hy : FitsLn lnZero := by show (⟨#[]⟩ : ByteArray).size ≤ 1048576; decide
  unfold sIt
  dsimp only
  split
  · exact ⟨⟨sT_small _, sT_small _⟩, hy⟩
  · exact ⟨hz, sT_small _⟩


end Go.Proofs.Ytgdhhhibkhfdlaa
