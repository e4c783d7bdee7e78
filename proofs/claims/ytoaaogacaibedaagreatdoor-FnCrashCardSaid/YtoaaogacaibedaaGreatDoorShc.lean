/- All that the theorem needs. -/
import Derived.Test.YtoaaogacaibedaaGreatDoorShc29
namespace Go.Proofs.YtoaaogacaibedaaGreatDoor
end Go.Proofs.YtoaaogacaibedaaGreatDoor
