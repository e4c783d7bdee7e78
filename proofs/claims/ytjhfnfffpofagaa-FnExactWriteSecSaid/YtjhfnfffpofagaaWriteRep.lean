/- WriteSec, as the walk of its exact law takes it. -/
import Derived.Test.YtjhfnfffpofagaaWriteS
import Derived.Test.YtjhfnfffpofagaaWrite
namespace Go.Proofs.Ytjhfnfffpofagaa
open Go.RowKit
set_option linter.unusedVariables false

theorem writeSec_rep (cs : List Value) (d : Disk) (n : Int) (cs2 : List Value) (b : List UInt8) (w : World) (h : diskR.at_ w w.heap.size cs d) (h2 : byR.at_ w w.heap.size cs2 b) (hf : Fits d) (hw : (Lit.int .i64 n).wf = true) (hb : FitsB b) :
    Calls Try.prog 13 #[.agg cs.toArray, .int .i64 n, cs2.headD undef] w (RetDisk w (writeSec d n b)) := writeSec_any cs cs2 d n b w h h2 hf hb hw
theorem writeSecS_rep (cs : List Value) (d : Disk) (n : Int) (cs2 : List Value) (b : List UInt8) (w : World) (h : diskR.at_ w w.heap.size cs d) (h2 : byR.at_ w w.heap.size cs2 b) (hf : Fits d) (hw : (Lit.int .i64 n).wf = true) (hb : FitsB b) :
    Calls Try.prog 17 #[.agg cs.toArray, .int .i64 n, cs2.headD undef] w (RetDiskAt w (writeSec d n b)) := (writeSecS_any cs cs2 d n b w h h2 hf hb hw).mono fun _ _ h => h.at

end Go.Proofs.Ytjhfnfffpofagaa
