/- The texts Eq1. -/
import Derived.Test.YtkaedfgmhfefjaaGreatDoorM24
import Derived.Test.YtkaedfgmhfefjaaGreatDoorM27
namespace Go.Proofs.YtkaedfgmhfefjaaGreatDoor
open Go.RowKit
def relL (p : Int → Int → Bool) (l l' : List Int) : Bool := l.length == l'.length && (l.zip l').all fun q => p q.1 q.2
end Go.Proofs.YtkaedfgmhfefjaaGreatDoor
