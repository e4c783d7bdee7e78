/- All that the theorem needs. -/
import Derived.Test.YthpkdjflndiojaaGreatDoorShj30
namespace Go.Proofs.YthpkdjflndiojaaGreatDoor
end Go.Proofs.YthpkdjflndiojaaGreatDoor
