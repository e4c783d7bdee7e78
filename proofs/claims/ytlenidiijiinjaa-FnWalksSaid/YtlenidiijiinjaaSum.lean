/- Contracts of chapter 1: Sum. -/
import Derived.Test.YtlenidiijiinjaaShut
import Derived.Test.YtlenidiijiinjaaCrc
import Derived.Test.YtlenidiijiinjaaText
namespace Go.Proofs.Ytlenidiijiinjaa
open Go.RowKit

end Go.Proofs.Ytlenidiijiinjaa
