/- The texts Eq2. -/
import Derived.Test.YtcaikkfcjeojiaaDoorM22
import Derived.Test.YtcaikkfcjeojiaaDoorM04
import Derived.Test.YtcaikkfcjeojiaaDoorM09
import Derived.LoopN
import Derived.Test.YtcaikkfcjeojiaaDoorM05
namespace Go.Proofs.YtcaikkfcjeojiaaDoor
open Go.RowKit

def WwsAt (w : World) (B b p : Nat) (x : List (List Int)) : Prop := ∃ A c, w.cell? ⟨b, p, none⟩ = some (.slice A x.length c) ∧ Wrds w B (.slice A x.length c) x
/-- The slice value v reads as the words of memories. -/
def Wwss (w : World) (B : Nat) (v : Value) (l : List (List (List Int))) : Prop := Arr [] 1 WwsAt w B v l
theorem stays_wws : Stays WwsAt := fun w w' B B' b p x hb hB ⟨A, c, h1, h2⟩ hk => ⟨A, c, (hk ⟨b, p, none⟩ hb).trans h1, Arr.keep stays_wds h2 hB hk⟩
end Go.Proofs.YtcaikkfcjeojiaaDoor
