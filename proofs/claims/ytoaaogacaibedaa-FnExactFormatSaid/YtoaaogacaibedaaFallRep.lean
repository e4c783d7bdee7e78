/- WriteSec, as the walk of its exact law takes it. SyncDisk, as the walk of its exact law takes it. FallDisk, as the walk of its exact law takes it. -/
import Derived.Test.YtoaaogacaibedaaWriteS
import Derived.Test.YtoaaogacaibedaaWrite
import Derived.Test.YtoaaogacaibedaaSyncS
import Derived.Test.YtoaaogacaibedaaSync
import Derived.Test.YtoaaogacaibedaaFallS
import Derived.Test.YtoaaogacaibedaaFall
namespace Go.Proofs.Ytoaaogacaibedaa
open Go.RowKit
set_option linter.unusedVariables false

theorem writeSec_rep (cs : List Value) (d : Disk) (n : Int) (cs2 : List Value) (b : List UInt8) (w : World) (h : diskR.at_ w w.heap.size cs d) (h2 : byR.at_ w w.heap.size cs2 b) (hf : Fits d) (hw : (Lit.int .i64 n).wf = true) (hb : FitsB b) :
    Calls Try.prog 45 #[.agg cs.toArray, .int .i64 n, cs2.headD undef] w (RetDisk w (writeSec d n b)) := writeSec_any cs cs2 d n b w h h2 hf hb hw
theorem writeSecS_rep (cs : List Value) (d : Disk) (n : Int) (cs2 : List Value) (b : List UInt8) (w : World) (h : diskR.at_ w w.heap.size cs d) (h2 : byR.at_ w w.heap.size cs2 b) (hf : Fits d) (hw : (Lit.int .i64 n).wf = true) (hb : FitsB b) :
    Calls Try.prog 42 #[.agg cs.toArray, .int .i64 n, cs2.headD undef] w (RetDiskAt w (writeSec d n b)) := (writeSecS_any cs cs2 d n b w h h2 hf hb hw).mono fun _ _ h => h.at

end Go.Proofs.Ytoaaogacaibedaa

namespace Go.Proofs.Ytoaaogacaibedaa
open Go.RowKit
set_option linter.unusedVariables false

theorem syncDisk_rep (cs : List Value) (d : Disk) (w : World) (h : diskR.at_ w w.heap.size cs d) (hf : Fits d) :
    Calls Try.prog 44 #[.agg cs.toArray] w (RetDisk w (syncDisk d)) := syncDisk_any cs d w h hf
theorem syncDiskS_rep (cs : List Value) (d : Disk) (w : World) (h : diskR.at_ w w.heap.size cs d) (hf : Fits d) :
    Calls Try.prog 41 #[.agg cs.toArray] w (RetDiskAt w (syncDisk d)) := (syncDiskS_any cs d w h hf).mono fun _ _ h => h.at

end Go.Proofs.Ytoaaogacaibedaa

namespace Go.Proofs.Ytoaaogacaibedaa
open Go.RowKit
set_option linter.unusedVariables false

end Go.Proofs.Ytoaaogacaibedaa
