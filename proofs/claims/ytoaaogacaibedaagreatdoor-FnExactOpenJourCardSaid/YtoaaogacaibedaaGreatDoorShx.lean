/- All that the theorem needs. -/
import Derived.Test.YtoaaogacaibedaaGreatDoorShx34
namespace Go.Proofs.YtoaaogacaibedaaGreatDoor
end Go.Proofs.YtoaaogacaibedaaGreatDoor
