/- Contracts of chapter 1: Sum. -/
import Derived.Test.YtlnmlfpkpplgoaaDoorShut
import Derived.Test.YtlnmlfpkpplgoaaDoorCrc
import Derived.Test.YtlnmlfpkpplgoaaDoorText
namespace Go.Proofs.YtlnmlfpkpplgoaaDoor
open Go.RowKit
set_option maxRecDepth 100000

end Go.Proofs.YtlnmlfpkpplgoaaDoor
