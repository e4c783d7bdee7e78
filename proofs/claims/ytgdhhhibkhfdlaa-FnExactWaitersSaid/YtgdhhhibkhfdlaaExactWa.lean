/- What the exact law of Waiters asks of the contracts. -/
import Derived.Test.YtgdhhhibkhfdlaaWaitS
import Derived.Test.YtgdhhhibkhfdlaaWaitI
import Derived.Test.YtgdhhhibkhfdlaaExactHo
import Derived.Test.YtgdhhhibkhfdlaaExactInt
import Derived.Test.YtgdhhhibkhfdlaaWeak
namespace Go.Proofs.Ytgdhhhibkhfdlaa
open Go.RowKit
set_option linter.unusedVariables false
set_option maxRecDepth 100000

def waitH (x : Ho) (db : ByteArray) : List Int := waitP x.as_ db
theorem fits_wait (db : ByteArray) {x : Ho} (h : FitsHo x) : FitsI (waitH x db) := by
  have h1 := h.2.1.1
  have h2 := ofDb_len x.as_ db x.as_.length
  unfold FitsI waitH waitP
  rw [List.length_map]
  omega
theorem waitersSX_rep (cs : List Value) (x : Ho) (db : ByteArray) (w : World) (h : hoR.at_ w w.heap.size cs x) (hs : FitsHo x) (hd : db.size ≤ maxLen) :
    Calls Try.prog 51 #[.agg cs.toArray, .string db] w (RetIS w (waitH x db)) := (waitersS_rep cs x db w h hs).mono fun e w' h => RetI.ints h
theorem waitersX_rep (cs : List Value) (x : Ho) (db : ByteArray) (w : World) (h : hoR.at_ w w.heap.size cs x) (hs : FitsHo x) (hd : db.size ≤ maxLen) :
    Calls Try.prog 47 #[.agg cs.toArray, .string db] w (RetIS w (waitH x db)) := (waiters_rep cs x db w h hs).mono fun e w' h => RetI.ints h

end Go.Proofs.Ytgdhhhibkhfdlaa
