/- A disk that came in as an argument. -/
import Derived.Test.YtoaaogacaibedaaDiskHeld
import Derived.Test.YtoaaogacaibedaaOpen
namespace Go.Proofs.Ytoaaogacaibedaa
open Go.RowKit
set_option linter.unusedVariables false

theorem byt_opens : Rep.Opens Try.prog 22 byR (fun _ => True) := Rep.Opens.bytes Try.underlying22 Try.underlying5 (by kernel_rfl)

end Go.Proofs.Ytoaaogacaibedaa
