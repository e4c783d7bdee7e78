/- Contracts of chapter 1: Sum. -/
import Derived.Test.YtlhmdjaplcopoaaShut
import Derived.Test.YtlhmdjaplcopoaaCrc
import Derived.Test.YtlhmdjaplcopoaaText
namespace Go.Proofs.Ytlhmdjaplcopoaa
open Go.RowKit

end Go.Proofs.Ytlhmdjaplcopoaa
