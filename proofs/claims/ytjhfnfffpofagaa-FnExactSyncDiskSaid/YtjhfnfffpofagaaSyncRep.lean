/- SyncDisk, as the walk of its exact law takes it. -/
import Derived.Test.YtjhfnfffpofagaaSyncS
import Derived.Test.YtjhfnfffpofagaaSync
namespace Go.Proofs.Ytjhfnfffpofagaa
open Go.RowKit
set_option linter.unusedVariables false

theorem syncDisk_rep (cs : List Value) (d : Disk) (w : World) (h : diskR.at_ w w.heap.size cs d) (hf : Fits d) :
    Calls Try.prog 21 #[.agg cs.toArray] w (RetDisk w (syncDisk d)) := syncDisk_any cs d w h hf
theorem syncDiskS_rep (cs : List Value) (d : Disk) (w : World) (h : diskR.at_ w w.heap.size cs d) (hf : Fits d) :
    Calls Try.prog 38 #[.agg cs.toArray] w (RetDiskAt w (syncDisk d)) := (syncDiskS_any cs d w h hf).mono fun _ _ h => h.at

end Go.Proofs.Ytjhfnfffpofagaa
