/- FallDisk, as the walk of its exact law takes it. -/
import Derived.Test.YtjhfnfffpofagaaFallS
import Derived.Test.YtjhfnfffpofagaaFall
namespace Go.Proofs.Ytjhfnfffpofagaa
open Go.RowKit
set_option linter.unusedVariables false

theorem fallDisk_rep (cs : List Value) (d : Disk) (keep : Int) (w : World) (h : diskR.at_ w w.heap.size cs d) (hf : Fits d) (hwn : (Lit.int .i64 keep).wf = true) :
    Calls Try.prog 20 #[.agg cs.toArray, .int .i64 keep] w (RetDisk w (fallDisk d keep)) := fallDisk_any cs d keep w h hf hwn
theorem fallDiskS_rep (cs : List Value) (d : Disk) (keep : Int) (w : World) (h : diskR.at_ w w.heap.size cs d) (hf : Fits d) (hwn : (Lit.int .i64 keep).wf = true) :
    Calls Try.prog 25 #[.agg cs.toArray, .int .i64 keep] w (RetDiskAt w (fallDisk d keep)) := (fallDiskS_any cs d keep w h hf hwn).mono fun _ _ h => h.at

end Go.Proofs.Ytjhfnfffpofagaa
