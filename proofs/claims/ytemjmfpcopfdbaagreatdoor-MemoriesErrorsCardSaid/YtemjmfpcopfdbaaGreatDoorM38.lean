/- The texts Kno. -/
import Derived.Test.YtemjmfpcopfdbaaGreatDoorM30
import Derived.Test.YtemjmfpcopfdbaaGreatDoorM37
namespace Go.Proofs.YtemjmfpcopfdbaaGreatDoor
open Go.RowKit
end Go.Proofs.YtemjmfpcopfdbaaGreatDoor
