/- PutRec of the model. -/
import Derived.Test.YtlnmlfpkpplgoaaDoorPutRecI
namespace Go.Proofs.YtlnmlfpkpplgoaaDoor
open Go.RowKit
set_option maxRecDepth 100000
set_option linter.unusedVariables false

end Go.Proofs.YtlnmlfpkpplgoaaDoor
