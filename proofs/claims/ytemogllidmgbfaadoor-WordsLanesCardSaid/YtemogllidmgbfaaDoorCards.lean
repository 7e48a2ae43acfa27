/-
  DERIVED. GIVEN WITH THE SEED: THE CARDS: each row of YtemogllidmgbfaaDoorRows.lean that lists a variable, with what it lists TIED to the program's text (the seventh form; the later family's looks); each row that meets fmt, with fmt's text TOLD by the authors' own Lean function (tested against real Go, not proved from fmt's source: count such statements apart). THE CARD IS WHAT COUNTS. Prove the row's statement (the work); the ties are given (YtemogllidmgbfaaDoorTie.lean); close each card by the builder's one call (the guide's Derived/Test/ToyasCard.lean, 'card_holds'). Laid BY PROGRAM, IN A SANDBOX (cutbox-door.mjs). By AI agents, Wed Nov 11 2026. No macro, syntax, notation, axiom, sorry.
-/
import Derived.Test.YtemogllidmgbfaaDoorRows
import GoSem.ClaimSeven
namespace Go.Proofs.YtemogllidmgbfaaDoor
namespace Rows

/-- THE TIED CARD OF 'probecardlaw07.WordsLanes'. -/
def wordsLanesCard : Claim7 := { stood := { row := wordsLanesRow, standIns := [], harness := (true, "dfc4977cd19d42b4d0e70b7a7d65cb0fbf585bf211b003eb2bc4e3bd3039b1dc"), looks := false }, kinds := [], alts := [], laidByText := true, laidKinds := [.data, .data, .wider], laidTests := true, laidLooks := .later }
def WordsLanesCardSaid : Prop := Claim7.holds Tryd.pinned (.plain (OpenSpec.ofChange wordsLanesSpec)) wordsLanesCard

/-- THE TIED CARD OF 'probecardlaw07.WordsTurned'. -/
def wordsTurnedCard : Claim7 := { stood := { row := wordsTurnedRow, standIns := [], harness := (true, "dfc4977cd19d42b4d0e70b7a7d65cb0fbf585bf211b003eb2bc4e3bd3039b1dc"), looks := false }, kinds := [], alts := [], laidByText := true, laidKinds := [.data, .data, .wider], laidTests := true, laidLooks := .later }
def WordsTurnedCardSaid : Prop := Claim7.holds Tryd.pinned (.plain (OpenSpec.ofChange wordsTurnedSpec)) wordsTurnedCard

/-- THE TIED CARD OF 'probecardlaw07.WordsSame'. -/
def wordsSameCard : Claim7 := { stood := { row := wordsSameRow, standIns := [], harness := (true, "dfc4977cd19d42b4d0e70b7a7d65cb0fbf585bf211b003eb2bc4e3bd3039b1dc"), looks := false }, kinds := [], alts := [], laidByText := true, laidKinds := [.data, .data, .wider], laidTests := true, laidLooks := .later }
def WordsSameCardSaid : Prop := Claim7.holds Tryd.pinned (.plain (OpenSpec.ofChange wordsSameSpec)) wordsSameCard

/-- THE SECOND FORM's CARD OF 'probecardlaw07.WordsLanes'. -/
def wordsLanesUptoCard : Claim7 := { stood := { row := wordsLanesUptoRow, standIns := [], harness := (true, "dfc4977cd19d42b4d0e70b7a7d65cb0fbf585bf211b003eb2bc4e3bd3039b1dc"), looks := false }, kinds := [], alts := [], laidByText := true, laidKinds := [.data, .data, .wider], laidTests := true, laidLooks := .later }
def WordsLanesUptoCardSaid : Prop := Claim7.holds Tryd.pinned (.plain (OpenSpec.upto wordsLanesSpec)) wordsLanesUptoCard

/-- THE SECOND FORM's CARD OF 'probecardlaw07.WordsTurned'. -/
def wordsTurnedUptoCard : Claim7 := { stood := { row := wordsTurnedUptoRow, standIns := [], harness := (true, "dfc4977cd19d42b4d0e70b7a7d65cb0fbf585bf211b003eb2bc4e3bd3039b1dc"), looks := false }, kinds := [], alts := [], laidByText := true, laidKinds := [.data, .data, .wider], laidTests := true, laidLooks := .later }
def WordsTurnedUptoCardSaid : Prop := Claim7.holds Tryd.pinned (.plain (OpenSpec.upto wordsTurnedSpec)) wordsTurnedUptoCard

/-- THE SECOND FORM's CARD OF 'probecardlaw07.WordsSame'. -/
def wordsSameUptoCard : Claim7 := { stood := { row := wordsSameUptoRow, standIns := [], harness := (true, "dfc4977cd19d42b4d0e70b7a7d65cb0fbf585bf211b003eb2bc4e3bd3039b1dc"), looks := false }, kinds := [], alts := [], laidByText := true, laidKinds := [.data, .data, .wider], laidTests := true, laidLooks := .later }
def WordsSameUptoCardSaid : Prop := Claim7.holds Tryd.pinned (.plain (OpenSpec.upto wordsSameSpec)) wordsSameUptoCard
end Rows
end Go.Proofs.YtemogllidmgbfaaDoor
