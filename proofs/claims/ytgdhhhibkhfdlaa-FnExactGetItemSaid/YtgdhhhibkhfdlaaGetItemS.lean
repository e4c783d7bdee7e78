/- GetItem of the model. -/
import Derived.Test.YtgdhhhibkhfdlaaGetItemS1
import Derived.Test.YtgdhhhibkhfdlaaGetItemS2
import Derived.Test.YtgdhhhibkhfdlaaGetItemS3
namespace Go.Proofs.Ytgdhhhibkhfdlaa
open Go.RowKit
set_option linter.unusedVariables false

theorem getItemS_any (A : Option Addr) (c : Nat) (b : List UInt8) (w : World) (hr : Reads w w.heap.size 1 A b.length (bys b)) (hn : b.length ≤ 2000000) (hc : b.length ≤ c) :
    Calls Try.prog 37 #[.slice A b.length c] w (RetIt w (getI b)) := by
  cases h1 : (sIt b).2
  · cases h2 : (itemB (sIt b).1 == b)
    · exact getItemS_2 A c b w hr hn hc ⟨h1, h2⟩
    · exact getItemS_3 A c b w hr hn hc ⟨h1, h2⟩
  · exact getItemS_1 A c b w hr hn hc h1

end Go.Proofs.Ytgdhhhibkhfdlaa
