/- A disk that came in as an argument. -/
import Derived.Test.YtkpcjnamoejjjaaDiskHeld
import Derived.Test.YtkpcjnamoejjjaaOpen
namespace Go.Proofs.Ytkpcjnamoejjjaa
open Go.RowKit
set_option linter.unusedVariables false

theorem byt_opens : Rep.Opens Try.prog 22 byR (fun _ => True) := Rep.Opens.bytes Try.underlying22 Try.underlying5 (by kernel_rfl)

end Go.Proofs.Ytkpcjnamoejjjaa
