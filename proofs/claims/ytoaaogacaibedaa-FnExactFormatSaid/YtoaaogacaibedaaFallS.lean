/- fallDiskS_any (written by gen_sync.py). -/
import Derived.Test.YtoaaogacaibedaaFall0
namespace Go.Proofs.Ytoaaogacaibedaa
open Go.RowKit Go.Maps
set_option linter.unusedVariables false

end Go.Proofs.Ytoaaogacaibedaa
