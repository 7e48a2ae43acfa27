/-
  DERIVED. GIVEN WITH THE SEED: THE CARDS: each row of YtjdjcaobkmpoeaaDoorRows.lean that lists a variable, with what it lists TIED to the program's text (the seventh form; the later family's looks); each row that meets fmt, with fmt's text TOLD by the authors' own Lean function (tested against real Go, not proved from fmt's source: count such statements apart). THE CARD IS WHAT COUNTS. Prove the row's statement (the work); the ties are given (YtjdjcaobkmpoeaaDoorTie.lean); close each card by the builder's one call (the guide's Derived/Test/ToyasCard.lean, 'card_holds'). Laid BY PROGRAM, IN A SANDBOX (cutbox-door.mjs). By AI agents, Wed Nov 11 2026. No macro, syntax, notation, axiom, sorry.
-/
import Derived.Test.YtjdjcaobkmpoeaaDoorRows
import GoSem.ClaimSeven
namespace Go.Proofs.YtjdjcaobkmpoeaaDoor
namespace Rows

/-- THE TIED CARD OF 'probecardlaw05.ConesErrors'. -/
def conesErrorsCard : Claim7 := { stood := { row := conesErrorsRow, standIns := [], harness := (true, "92f76c134fc73b4e902c109e6a363c7ad7cdf052c800411260ee02ca5f37c568"), looks := false }, kinds := [], alts := [], laidByText := true, laidKinds := [.data], laidTests := true, laidLooks := .later }
def ConesErrorsCardSaid : Prop := Claim7.holds Tryd.pinned (.plain (OpenSpec.ofChange conesErrorsSpec)) conesErrorsCard

/-- THE TIED CARD OF 'probecardlaw05.ConesBlock'. -/
def conesBlockCard : Claim7 := { stood := { row := conesBlockRow, standIns := [], harness := (true, "92f76c134fc73b4e902c109e6a363c7ad7cdf052c800411260ee02ca5f37c568"), looks := false }, kinds := [], alts := [], laidByText := true, laidKinds := [.data], laidTests := true, laidLooks := .later }
def ConesBlockCardSaid : Prop := Claim7.holds Tryd.pinned (.plain (OpenSpec.ofChange conesBlockSpec)) conesBlockCard

/-- THE SECOND FORM's CARD OF 'probecardlaw05.ConesErrors'. -/
def conesErrorsUptoCard : Claim7 := { stood := { row := conesErrorsUptoRow, standIns := [], harness := (true, "92f76c134fc73b4e902c109e6a363c7ad7cdf052c800411260ee02ca5f37c568"), looks := false }, kinds := [], alts := [], laidByText := true, laidKinds := [.data], laidTests := true, laidLooks := .later }
def ConesErrorsUptoCardSaid : Prop := Claim7.holds Tryd.pinned (.plain (OpenSpec.upto conesErrorsSpec)) conesErrorsUptoCard

/-- THE SECOND FORM's CARD OF 'probecardlaw05.ConesBlock'. -/
def conesBlockUptoCard : Claim7 := { stood := { row := conesBlockUptoRow, standIns := [], harness := (true, "92f76c134fc73b4e902c109e6a363c7ad7cdf052c800411260ee02ca5f37c568"), looks := false }, kinds := [], alts := [], laidByText := true, laidKinds := [.data], laidTests := true, laidLooks := .later }
def ConesBlockUptoCardSaid : Prop := Claim7.holds Tryd.pinned (.plain (OpenSpec.upto conesBlockSpec)) conesBlockUptoCard
end Rows
end Go.Proofs.YtjdjcaobkmpoeaaDoor
