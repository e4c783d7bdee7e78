/- A slice of bytes as data: what comes in, its size. -/
import Derived.Test.YtgdhhhibkhfdlaaRepMore
import Derived.Test.YtgdhhhibkhfdlaaOpen
namespace Go.Proofs.Ytgdhhhibkhfdlaa
open Go.RowKit
set_option linter.unusedVariables false

def byR : Rep (List UInt8) := Rep.bytes 5

theorem byt_opens : Rep.Opens Try.prog 22 byR (fun _ => True) := Rep.Opens.bytes Try.underlying22 Try.underlying5 (by kernel_rfl)

end Go.Proofs.Ytgdhhhibkhfdlaa
