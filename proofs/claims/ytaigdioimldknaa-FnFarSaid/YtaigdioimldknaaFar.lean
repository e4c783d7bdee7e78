/- All that the theorem needs. -/
import Derived.Test.YtaigdioimldknaaFar9
namespace Go.Proofs.Ytaigdioimldknaa
end Go.Proofs.Ytaigdioimldknaa
