/- AskerOk and LineOk in the exact laws (gen.py). -/
import Derived.Test.YtgdhhhibkhfdlaaAskI
import Derived.Test.YtgdhhhibkhfdlaaAskS
import Derived.Test.YtgdhhhibkhfdlaaLinOk
namespace Go.Proofs.Ytgdhhhibkhfdlaa
open Go.RowKit
theorem askerOk_rep (cs : List Value) (x : Ak) (w : World) (h : akR.at_ w w.heap.size cs x) (hs : FitsAk x) : Calls Try.prog 40 #[.agg cs.toArray] w (RetBool w (akB x)) := by
  obtain rfl := ak_cells h
  exact akB_any x w hs
theorem askerOkS_rep (cs : List Value) (x : Ak) (w : World) (h : akR.at_ w w.heap.size cs x) (hs : FitsAk x) : Calls Try.prog 41 #[.agg cs.toArray] w (RetBool w (akB x)) := by
  obtain rfl := ak_cells h
  exact akBS_any x w hs
theorem lineOk_rep (cs : List Value) (x : Ln) (w : World) (h : lnR.at_ w w.heap.size cs x) (hs : FitsLn x) : Calls Try.prog 42 #[.agg cs.toArray] w (RetBool w (lnB x)) := by
  obtain rfl := ln_cells h
  exact lnB_any x w hs
theorem lineOkS_rep (cs : List Value) (x : Ln) (w : World) (h : lnR.at_ w w.heap.size cs x) (hs : FitsLn x) : Calls Try.prog 43 #[.agg cs.toArray] w (RetBool w (lnB x)) := by
  obtain rfl := ln_cells h
  exact lnBS_any x w hs
end Go.Proofs.Ytgdhhhibkhfdlaa
