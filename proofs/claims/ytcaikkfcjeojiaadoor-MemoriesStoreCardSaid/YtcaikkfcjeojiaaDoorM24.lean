/- The texts Ag9. -/
import Derived.Test.YtcaikkfcjeojiaaDoorM23
import Derived.Laws.EntriesVeiled
namespace Go.Proofs.YtcaikkfcjeojiaaDoor
open Go.RowKit

/-- A state of a circuit with memories. -/
structure Stt where
  dff : List Int
  words : List (List (List Int))
  read : List (List Int)
/-- Three slice values read as the parts of a state. -/
structure StR (w : World) (B : Nat) (A0 A1 A2 : Option Addr) (n0 n1 n2 c0 c1 c2 : Nat) (s : Stt) : Prop where
  sd : Ks w B (.slice A0 n0 c0) s.dff
  sw : Wwss w B (.slice A1 n1 c1) s.words
  sr : Wrds w B (.slice A2 n2 c2) s.read
theorem StR.keep {w w' : World} {B B' : Nat} {A0 A1 A2 : Option Addr} {n0 n1 n2 c0 c1 c2 : Nat} {s : Stt} (h : StR w B A0 A1 A2 n0 n1 n2 c0 c1 c2 s) (hB : B ≤ w.heap.size) (hb : BelW w w') (hB' : B ≤ B') : StR w' B' A0 A1 A2 n0 n1 n2 c0 c1 c2 s :=
  ⟨Arr.keep stays_u8 h.sd hB' fun _ hp => Below.cell hb (Nat.lt_of_lt_of_le hp hB), Arr.keep stays_wws h.sw hB' fun _ hp => Below.cell hb (Nat.lt_of_lt_of_le hp hB), Arr.keep stays_wds h.sr hB' fun _ hp => Below.cell hb (Nat.lt_of_lt_of_le hp hB)⟩
end Go.Proofs.YtcaikkfcjeojiaaDoor
