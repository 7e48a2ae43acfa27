/- The texts Kno. -/
import Derived.Test.YtemjmfpcopfdbaaGreatDoorM19
import Derived.Test.YtemjmfpcopfdbaaGreatDoorM37
namespace Go.Proofs.YtemjmfpcopfdbaaGreatDoor
open Go.RowKit
theorem VStk.dr{w:World}{base:Nat}{v:Value}{l:List Int}(h:VStk w base v l):VStk w.drew base v l:=h.below (Below.drew (Below.refl _ _))
end Go.Proofs.YtemjmfpcopfdbaaGreatDoor
