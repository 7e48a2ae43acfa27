/- The texts Ofg. -/
import Derived.Test.YtemogllidmgbfaaGreatDoorM29
import Derived.Test.YtemogllidmgbfaaGreatDoorM13
import Derived.Test.YtemogllidmgbfaaGreatDoorM22
import Derived.Test.YtemogllidmgbfaaGreatDoorM15
namespace Go.Proofs.YtemogllidmgbfaaGreatDoor
open Go.RowKit

theorem Fr.low {w w' : World} {B g : Nat} {t : TypeId} {cs : List Value} (h : Fr w g t cs) (hb : Below B w w') (hg : g < B) : Fr w' g t cs := by
  unfold Fr at *
  exact (hb.block g hg).trans h
end Go.Proofs.YtemogllidmgbfaaGreatDoor
