/- The texts Ofg. -/
import Derived.Test.YtemogllidmgbfaaGreatDoorM32
import Derived.Test.YtemogllidmgbfaaGreatDoorM16
import Derived.Test.YtemogllidmgbfaaGreatDoorM28
import Derived.Test.YtemogllidmgbfaaGreatDoorM18
namespace Go.Proofs.YtemogllidmgbfaaGreatDoor
open Go.RowKit

theorem Fr.low {w w' : World} {B g : Nat} {t : TypeId} {cs : List Value} (h : Fr w g t cs) (hb : Below B w w') (hg : g < B) : Fr w' g t cs := by
  unfold Fr at *
  exact (hb.block g hg).trans h
end Go.Proofs.YtemogllidmgbfaaGreatDoor
