/- The texts Ofg. -/
import Derived.Test.YtemjmfpcopfdbaaGreatDoorM33
import Derived.Test.YtemjmfpcopfdbaaGreatDoorM06
import Derived.Test.YtemjmfpcopfdbaaGreatDoorM07
import Derived.Test.YtemjmfpcopfdbaaGreatDoorM11
namespace Go.Proofs.YtemjmfpcopfdbaaGreatDoor
open Go.RowKit
end Go.Proofs.YtemjmfpcopfdbaaGreatDoor
