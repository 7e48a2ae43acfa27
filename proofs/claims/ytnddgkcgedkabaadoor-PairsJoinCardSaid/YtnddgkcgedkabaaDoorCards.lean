/-
  DERIVED. GIVEN WITH THE SEED: THE CARDS: each row of YtnddgkcgedkabaaDoorRows.lean that lists a variable, with what it lists TIED to the program's text (the seventh form; the later family's looks); each row that meets fmt, with fmt's text TOLD by the authors' own Lean function (tested against real Go, not proved from fmt's source: count such statements apart). THE CARD IS WHAT COUNTS. Prove the row's statement (the work); the ties are given (YtnddgkcgedkabaaDoorTie.lean); close each card by the builder's one call (the guide's Derived/Test/ToyasCard.lean, 'card_holds'). Laid BY PROGRAM, IN A SANDBOX (cutbox-door.mjs). By AI agents, Wed Nov 11 2026. No macro, syntax, notation, axiom, sorry.
-/
import Derived.Test.YtnddgkcgedkabaaDoorRows
import GoSem.ClaimSeven
namespace Go.Proofs.YtnddgkcgedkabaaDoor
namespace Rows

/-- THE TIED CARD OF 'probecardlaw02.PairsEval'. -/
def pairsEvalCard : Claim7 := { stood := { row := pairsEvalRow, standIns := [], harness := (true, "cc0daa8dd87ea3ae2a2eff31d318b242156ce995962cb7b554c3479c0a4c1b97"), looks := false }, kinds := [], alts := [], laidByText := true, laidKinds := [.data, .data], laidTests := true, laidLooks := .later }
def PairsEvalCardSaid : Prop := Claim7.holds Tryd.pinned (.plain (OpenSpec.ofChange pairsEvalSpec)) pairsEvalCard

/-- THE TIED CARD OF 'probecardlaw02.PairsDiffer'. -/
def pairsDifferCard : Claim7 := { stood := { row := pairsDifferRow, standIns := [], harness := (true, "cc0daa8dd87ea3ae2a2eff31d318b242156ce995962cb7b554c3479c0a4c1b97"), looks := false }, kinds := [], alts := [], laidByText := true, laidKinds := [.data, .data], laidTests := true, laidLooks := .later }
def PairsDifferCardSaid : Prop := Claim7.holds Tryd.pinned (.plain (OpenSpec.ofChange pairsDifferSpec)) pairsDifferCard

/-- THE TIED CARD OF 'probecardlaw02.PairsFive'. -/
def pairsFiveCard : Claim7 := { stood := { row := pairsFiveRow, standIns := [], harness := (true, "cc0daa8dd87ea3ae2a2eff31d318b242156ce995962cb7b554c3479c0a4c1b97"), looks := false }, kinds := [], alts := [], laidByText := true, laidKinds := [.data, .data], laidTests := true, laidLooks := .later }
def PairsFiveCardSaid : Prop := Claim7.holds Tryd.pinned (.plain (OpenSpec.ofChange pairsFiveSpec)) pairsFiveCard

/-- THE TIED CARD OF 'probecardlaw02.PairsMonotone'. -/
def pairsMonotoneCard : Claim7 := { stood := { row := pairsMonotoneRow, standIns := [], harness := (true, "cc0daa8dd87ea3ae2a2eff31d318b242156ce995962cb7b554c3479c0a4c1b97"), looks := false }, kinds := [], alts := [], laidByText := true, laidKinds := [.data, .data], laidTests := true, laidLooks := .later }
def PairsMonotoneCardSaid : Prop := Claim7.holds Tryd.pinned (.plain (OpenSpec.ofChange pairsMonotoneSpec)) pairsMonotoneCard

/-- THE TIED CARD OF 'probecardlaw02.PairsJoin'. -/
def pairsJoinCard : Claim7 := { stood := { row := pairsJoinRow, standIns := [], harness := (true, "cc0daa8dd87ea3ae2a2eff31d318b242156ce995962cb7b554c3479c0a4c1b97"), looks := false }, kinds := [], alts := [], laidByText := true, laidKinds := [.data, .data], laidTests := true, laidLooks := .later }
def PairsJoinCardSaid : Prop := Claim7.holds Tryd.pinned (.plain (OpenSpec.ofChange pairsJoinSpec)) pairsJoinCard

/-- THE TIED CARD OF 'probecardlaw02.PairsOrder'. -/
def pairsOrderCard : Claim7 := { stood := { row := pairsOrderRow, standIns := [], harness := (true, "cc0daa8dd87ea3ae2a2eff31d318b242156ce995962cb7b554c3479c0a4c1b97"), looks := false }, kinds := [], alts := [], laidByText := true, laidKinds := [.data, .data], laidTests := true, laidLooks := .later }
def PairsOrderCardSaid : Prop := Claim7.holds Tryd.pinned (.plain (OpenSpec.ofChange pairsOrderSpec)) pairsOrderCard

/-- THE TIED CARD OF 'probecardlaw02.PairsTexts'. -/
def pairsTextsCard : Claim7 := { stood := { row := pairsTextsRow, standIns := [], harness := (true, "cc0daa8dd87ea3ae2a2eff31d318b242156ce995962cb7b554c3479c0a4c1b97"), looks := false }, kinds := [], alts := [], laidByText := true, laidKinds := [.data, .data], laidTests := true, laidLooks := .later }
def PairsTextsCardSaid : Prop := Claim7.holds Tryd.pinned (.plain (OpenSpec.ofChange pairsTextsSpec)) pairsTextsCard

/-- THE SECOND FORM's CARD OF 'probecardlaw02.PairsEval'. -/
def pairsEvalUptoCard : Claim7 := { stood := { row := pairsEvalUptoRow, standIns := [], harness := (true, "cc0daa8dd87ea3ae2a2eff31d318b242156ce995962cb7b554c3479c0a4c1b97"), looks := false }, kinds := [], alts := [], laidByText := true, laidKinds := [.data, .data], laidTests := true, laidLooks := .later }
def PairsEvalUptoCardSaid : Prop := Claim7.holds Tryd.pinned (.plain (OpenSpec.upto pairsEvalSpec)) pairsEvalUptoCard

/-- THE SECOND FORM's CARD OF 'probecardlaw02.PairsDiffer'. -/
def pairsDifferUptoCard : Claim7 := { stood := { row := pairsDifferUptoRow, standIns := [], harness := (true, "cc0daa8dd87ea3ae2a2eff31d318b242156ce995962cb7b554c3479c0a4c1b97"), looks := false }, kinds := [], alts := [], laidByText := true, laidKinds := [.data, .data], laidTests := true, laidLooks := .later }
def PairsDifferUptoCardSaid : Prop := Claim7.holds Tryd.pinned (.plain (OpenSpec.upto pairsDifferSpec)) pairsDifferUptoCard

/-- THE SECOND FORM's CARD OF 'probecardlaw02.PairsFive'. -/
def pairsFiveUptoCard : Claim7 := { stood := { row := pairsFiveUptoRow, standIns := [], harness := (true, "cc0daa8dd87ea3ae2a2eff31d318b242156ce995962cb7b554c3479c0a4c1b97"), looks := false }, kinds := [], alts := [], laidByText := true, laidKinds := [.data, .data], laidTests := true, laidLooks := .later }
def PairsFiveUptoCardSaid : Prop := Claim7.holds Tryd.pinned (.plain (OpenSpec.upto pairsFiveSpec)) pairsFiveUptoCard

/-- THE SECOND FORM's CARD OF 'probecardlaw02.PairsMonotone'. -/
def pairsMonotoneUptoCard : Claim7 := { stood := { row := pairsMonotoneUptoRow, standIns := [], harness := (true, "cc0daa8dd87ea3ae2a2eff31d318b242156ce995962cb7b554c3479c0a4c1b97"), looks := false }, kinds := [], alts := [], laidByText := true, laidKinds := [.data, .data], laidTests := true, laidLooks := .later }
def PairsMonotoneUptoCardSaid : Prop := Claim7.holds Tryd.pinned (.plain (OpenSpec.upto pairsMonotoneSpec)) pairsMonotoneUptoCard

/-- THE SECOND FORM's CARD OF 'probecardlaw02.PairsJoin'. -/
def pairsJoinUptoCard : Claim7 := { stood := { row := pairsJoinUptoRow, standIns := [], harness := (true, "cc0daa8dd87ea3ae2a2eff31d318b242156ce995962cb7b554c3479c0a4c1b97"), looks := false }, kinds := [], alts := [], laidByText := true, laidKinds := [.data, .data], laidTests := true, laidLooks := .later }
def PairsJoinUptoCardSaid : Prop := Claim7.holds Tryd.pinned (.plain (OpenSpec.upto pairsJoinSpec)) pairsJoinUptoCard

/-- THE SECOND FORM's CARD OF 'probecardlaw02.PairsOrder'. -/
def pairsOrderUptoCard : Claim7 := { stood := { row := pairsOrderUptoRow, standIns := [], harness := (true, "cc0daa8dd87ea3ae2a2eff31d318b242156ce995962cb7b554c3479c0a4c1b97"), looks := false }, kinds := [], alts := [], laidByText := true, laidKinds := [.data, .data], laidTests := true, laidLooks := .later }
def PairsOrderUptoCardSaid : Prop := Claim7.holds Tryd.pinned (.plain (OpenSpec.upto pairsOrderSpec)) pairsOrderUptoCard

/-- THE SECOND FORM's CARD OF 'probecardlaw02.PairsTexts'. -/
def pairsTextsUptoCard : Claim7 := { stood := { row := pairsTextsUptoRow, standIns := [], harness := (true, "cc0daa8dd87ea3ae2a2eff31d318b242156ce995962cb7b554c3479c0a4c1b97"), looks := false }, kinds := [], alts := [], laidByText := true, laidKinds := [.data, .data], laidTests := true, laidLooks := .later }
def PairsTextsUptoCardSaid : Prop := Claim7.holds Tryd.pinned (.plain (OpenSpec.upto pairsTextsSpec)) pairsTextsUptoCard
end Rows
end Go.Proofs.YtnddgkcgedkabaaDoor
