/-
  DERIVED. GIVEN WITH THE SEED: THE CARDS: each row of YtemjmfpcopfdbaaGreatDoorRows.lean that lists a variable, with what it lists TIED to the program's text (the seventh form; the later family's looks); each row that meets fmt, with fmt's text TOLD by the authors' own Lean function (tested against real Go, not proved from fmt's source: count such statements apart). THE CARD IS WHAT COUNTS. Prove the row's statement (the work); the ties are given (YtemjmfpcopfdbaaGreatDoorTie.lean); close each card by the builder's one call (the guide's Derived/Test/ToyasCard.lean, 'card_holds'). Laid BY PROGRAM, IN A SANDBOX (cutbox-door.mjs). By AI agents, Wed Nov 11 2026. No macro, syntax, notation, axiom, sorry.
-/
import Derived.Test.YtemjmfpcopfdbaaGreatDoorRows
import GoSem.ClaimSeven
namespace Go.Proofs.YtemjmfpcopfdbaaGreatDoor
namespace Rows

/-- THE TIED CARD OF 'probecardlaw09.MemoriesCycle'. -/
def memoriesCycleCard : Claim7 := { stood := { row := memoriesCycleRow, standIns := [], harness := (true, "afc2aedb9b267f0012dae48fd485b717060f83d59387a6e29def5e445e44ddc6"), looks := false }, kinds := [], alts := [], laidByText := true, laidKinds := [.data, .data], laidTests := true, laidLooks := .later }
def MemoriesCycleCardSaid : Prop := Claim7.holds Tryz.pinned (.plain (OpenSpec.ofChange memoriesCycleSpec)) memoriesCycleCard

/-- THE TIED CARD OF 'probecardlaw09.MemoriesErrors'. -/
def memoriesErrorsCard : Claim7 := { stood := { row := memoriesErrorsRow, standIns := [], harness := (true, "afc2aedb9b267f0012dae48fd485b717060f83d59387a6e29def5e445e44ddc6"), looks := false }, kinds := [], alts := [], laidByText := true, laidKinds := [.data, .data], laidTests := true, laidLooks := .later }
def MemoriesErrorsCardSaid : Prop := Claim7.holds Tryz.pinned (.plain (OpenSpec.ofChange memoriesErrorsSpec)) memoriesErrorsCard

/-- THE TIED CARD OF 'probecardlaw09.MemoriesMonotone'. -/
def memoriesMonotoneCard : Claim7 := { stood := { row := memoriesMonotoneRow, standIns := [], harness := (true, "afc2aedb9b267f0012dae48fd485b717060f83d59387a6e29def5e445e44ddc6"), looks := false }, kinds := [], alts := [], laidByText := true, laidKinds := [.data, .data], laidTests := true, laidLooks := .later }
def MemoriesMonotoneCardSaid : Prop := Claim7.holds Tryz.pinned (.plain (OpenSpec.ofChange memoriesMonotoneSpec)) memoriesMonotoneCard

/-- THE TIED CARD OF 'probecardlaw09.MemoriesPlain'. -/
def memoriesPlainCard : Claim7 := { stood := { row := memoriesPlainRow, standIns := [], harness := (true, "afc2aedb9b267f0012dae48fd485b717060f83d59387a6e29def5e445e44ddc6"), looks := false }, kinds := [], alts := [], laidByText := true, laidKinds := [.data, .data], laidTests := true, laidLooks := .later }
def MemoriesPlainCardSaid : Prop := Claim7.holds Tryz.pinned (.plain (OpenSpec.ofChange memoriesPlainSpec)) memoriesPlainCard

/-- THE SECOND FORM's CARD OF 'probecardlaw09.MemoriesCycle'. -/
def memoriesCycleUptoCard : Claim7 := { stood := { row := memoriesCycleUptoRow, standIns := [], harness := (true, "afc2aedb9b267f0012dae48fd485b717060f83d59387a6e29def5e445e44ddc6"), looks := false }, kinds := [], alts := [], laidByText := true, laidKinds := [.data, .data], laidTests := true, laidLooks := .later }
def MemoriesCycleUptoCardSaid : Prop := Claim7.holds Tryz.pinned (.plain (OpenSpec.upto memoriesCycleSpec)) memoriesCycleUptoCard

/-- THE SECOND FORM's CARD OF 'probecardlaw09.MemoriesErrors'. -/
def memoriesErrorsUptoCard : Claim7 := { stood := { row := memoriesErrorsUptoRow, standIns := [], harness := (true, "afc2aedb9b267f0012dae48fd485b717060f83d59387a6e29def5e445e44ddc6"), looks := false }, kinds := [], alts := [], laidByText := true, laidKinds := [.data, .data], laidTests := true, laidLooks := .later }
def MemoriesErrorsUptoCardSaid : Prop := Claim7.holds Tryz.pinned (.plain (OpenSpec.upto memoriesErrorsSpec)) memoriesErrorsUptoCard

/-- THE SECOND FORM's CARD OF 'probecardlaw09.MemoriesMonotone'. -/
def memoriesMonotoneUptoCard : Claim7 := { stood := { row := memoriesMonotoneUptoRow, standIns := [], harness := (true, "afc2aedb9b267f0012dae48fd485b717060f83d59387a6e29def5e445e44ddc6"), looks := false }, kinds := [], alts := [], laidByText := true, laidKinds := [.data, .data], laidTests := true, laidLooks := .later }
def MemoriesMonotoneUptoCardSaid : Prop := Claim7.holds Tryz.pinned (.plain (OpenSpec.upto memoriesMonotoneSpec)) memoriesMonotoneUptoCard

/-- THE SECOND FORM's CARD OF 'probecardlaw09.MemoriesPlain'. -/
def memoriesPlainUptoCard : Claim7 := { stood := { row := memoriesPlainUptoRow, standIns := [], harness := (true, "afc2aedb9b267f0012dae48fd485b717060f83d59387a6e29def5e445e44ddc6"), looks := false }, kinds := [], alts := [], laidByText := true, laidKinds := [.data, .data], laidTests := true, laidLooks := .later }
def MemoriesPlainUptoCardSaid : Prop := Claim7.holds Tryz.pinned (.plain (OpenSpec.upto memoriesPlainSpec)) memoriesPlainUptoCard
end Rows
end Go.Proofs.YtemjmfpcopfdbaaGreatDoor
