/- The texts Apb. -/
import Derived.Test.YtemjmfpcopfdbaaGreatDoorM04
import Derived.Test.YtemjmfpcopfdbaaGreatDoorM08
import Derived.Deep.RegionLawGrows
import Derived.Deep.Upon
namespace Go.Proofs.YtemjmfpcopfdbaaGreatDoor
open Go.RowKit
end Go.Proofs.YtemjmfpcopfdbaaGreatDoor
