/-
  DERIVED. GIVEN WITH THE SEED: THE CARDS: each row of YtemogllidmgbfaaGreatDoorRows.lean that lists a variable, with what it lists TIED to the program's text (the seventh form; the later family's looks); each row that meets fmt, with fmt's text TOLD by the authors' own Lean function (tested against real Go, not proved from fmt's source: count such statements apart). THE CARD IS WHAT COUNTS. Prove the row's statement (the work); the ties are given (YtemogllidmgbfaaGreatDoorTie.lean); close each card by the builder's one call (the guide's Derived/Test/ToyasCard.lean, 'card_holds'). Laid BY PROGRAM, IN A SANDBOX (cutbox-door.mjs). By AI agents, Wed Nov 11 2026. No macro, syntax, notation, axiom, sorry.
-/
import Derived.Test.YtemogllidmgbfaaGreatDoorRows
import GoSem.ClaimSeven
namespace Go.Proofs.YtemogllidmgbfaaGreatDoor
namespace Rows

/-- THE TIED CARD OF 'probecardlaw07.WordsEval'. -/
def wordsEvalCard : Claim7 := { stood := { row := wordsEvalRow, standIns := [], harness := (true, "cefc95a4ab2b3ca08b405d8b33a133d18d944c43aba1a9a872a3e4cb172389e4"), looks := false }, kinds := [], alts := [], laidByText := true, laidKinds := [.data, .data, .wider], laidTests := true, laidLooks := .later }
def WordsEvalCardSaid : Prop := Claim7.holds Tryz.pinned (.plain (OpenSpec.ofChange wordsEvalSpec)) wordsEvalCard

/-- THE TIED CARD OF 'probecardlaw07.WordsRun'. -/
def wordsRunCard : Claim7 := { stood := { row := wordsRunRow, standIns := [], harness := (true, "cefc95a4ab2b3ca08b405d8b33a133d18d944c43aba1a9a872a3e4cb172389e4"), looks := false }, kinds := [], alts := [], laidByText := true, laidKinds := [.data, .data, .wider], laidTests := true, laidLooks := .later }
def WordsRunCardSaid : Prop := Claim7.holds Tryz.pinned (.plain (OpenSpec.ofChange wordsRunSpec)) wordsRunCard

/-- THE TIED CARD OF 'probecardlaw07.WordsErrors'. -/
def wordsErrorsCard : Claim7 := { stood := { row := wordsErrorsRow, standIns := [], harness := (true, "cefc95a4ab2b3ca08b405d8b33a133d18d944c43aba1a9a872a3e4cb172389e4"), looks := false }, kinds := [], alts := [], laidByText := true, laidKinds := [.data, .data, .wider], laidTests := true, laidLooks := .later }
def WordsErrorsCardSaid : Prop := Claim7.holds Tryz.pinned (.plain (OpenSpec.ofChange wordsErrorsSpec)) wordsErrorsCard

/-- THE TIED CARD OF 'probecardlaw07.WordsPairs'. -/
def wordsPairsCard : Claim7 := { stood := { row := wordsPairsRow, standIns := [], harness := (true, "cefc95a4ab2b3ca08b405d8b33a133d18d944c43aba1a9a872a3e4cb172389e4"), looks := false }, kinds := [], alts := [], laidByText := true, laidKinds := [.data, .data, .wider], laidTests := true, laidLooks := .later }
def WordsPairsCardSaid : Prop := Claim7.holds Tryz.pinned (.plain (OpenSpec.ofChange wordsPairsSpec)) wordsPairsCard

/-- THE SECOND FORM's CARD OF 'probecardlaw07.WordsEval'. -/
def wordsEvalUptoCard : Claim7 := { stood := { row := wordsEvalUptoRow, standIns := [], harness := (true, "cefc95a4ab2b3ca08b405d8b33a133d18d944c43aba1a9a872a3e4cb172389e4"), looks := false }, kinds := [], alts := [], laidByText := true, laidKinds := [.data, .data, .wider], laidTests := true, laidLooks := .later }
def WordsEvalUptoCardSaid : Prop := Claim7.holds Tryz.pinned (.plain (OpenSpec.upto wordsEvalSpec)) wordsEvalUptoCard

/-- THE SECOND FORM's CARD OF 'probecardlaw07.WordsRun'. -/
def wordsRunUptoCard : Claim7 := { stood := { row := wordsRunUptoRow, standIns := [], harness := (true, "cefc95a4ab2b3ca08b405d8b33a133d18d944c43aba1a9a872a3e4cb172389e4"), looks := false }, kinds := [], alts := [], laidByText := true, laidKinds := [.data, .data, .wider], laidTests := true, laidLooks := .later }
def WordsRunUptoCardSaid : Prop := Claim7.holds Tryz.pinned (.plain (OpenSpec.upto wordsRunSpec)) wordsRunUptoCard

/-- THE SECOND FORM's CARD OF 'probecardlaw07.WordsErrors'. -/
def wordsErrorsUptoCard : Claim7 := { stood := { row := wordsErrorsUptoRow, standIns := [], harness := (true, "cefc95a4ab2b3ca08b405d8b33a133d18d944c43aba1a9a872a3e4cb172389e4"), looks := false }, kinds := [], alts := [], laidByText := true, laidKinds := [.data, .data, .wider], laidTests := true, laidLooks := .later }
def WordsErrorsUptoCardSaid : Prop := Claim7.holds Tryz.pinned (.plain (OpenSpec.upto wordsErrorsSpec)) wordsErrorsUptoCard

/-- THE SECOND FORM's CARD OF 'probecardlaw07.WordsPairs'. -/
def wordsPairsUptoCard : Claim7 := { stood := { row := wordsPairsUptoRow, standIns := [], harness := (true, "cefc95a4ab2b3ca08b405d8b33a133d18d944c43aba1a9a872a3e4cb172389e4"), looks := false }, kinds := [], alts := [], laidByText := true, laidKinds := [.data, .data, .wider], laidTests := true, laidLooks := .later }
def WordsPairsUptoCardSaid : Prop := Claim7.holds Tryz.pinned (.plain (OpenSpec.upto wordsPairsSpec)) wordsPairsUptoCard
end Rows
end Go.Proofs.YtemogllidmgbfaaGreatDoor
