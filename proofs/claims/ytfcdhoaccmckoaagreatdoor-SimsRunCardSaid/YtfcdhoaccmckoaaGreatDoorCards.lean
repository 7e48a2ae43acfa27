/-
  DERIVED. GIVEN WITH THE SEED: THE CARDS: each row of YtfcdhoaccmckoaaGreatDoorRows.lean that lists a variable, with what it lists TIED to the program's text (the seventh form; the later family's looks); each row that meets fmt, with fmt's text TOLD by the authors' own Lean function (tested against real Go, not proved from fmt's source: count such statements apart). THE CARD IS WHAT COUNTS. Prove the row's statement (the work); the ties are given (YtfcdhoaccmckoaaGreatDoorTie.lean); close each card by the builder's one call (the guide's Derived/Test/ToyasCard.lean, 'card_holds'). Laid BY PROGRAM, IN A SANDBOX (cutbox-door.mjs). By AI agents, Wed Nov 11 2026. No macro, syntax, notation, axiom, sorry.
-/
import Derived.Test.YtfcdhoaccmckoaaGreatDoorRows
import GoSem.ClaimSeven
namespace Go.Proofs.YtfcdhoaccmckoaaGreatDoor
namespace Rows

/-- THE TIED CARD OF 'probecardlaw06.SimsRun'. -/
def simsRunCard : Claim7 := { stood := { row := simsRunRow, standIns := [], harness := (true, "7eaef440e40e301c534d163e86ed9f4998ed91203a9b67f805f73b6fc4bfb9b3"), looks := false }, kinds := [], alts := [], laidByText := true, laidKinds := [.data, .data], laidTests := true, laidLooks := .later }
def SimsRunCardSaid : Prop := Claim7.holds Tryz.pinned (.plain (OpenSpec.ofChange simsRunSpec)) simsRunCard

/-- THE SECOND FORM's CARD OF 'probecardlaw06.SimsRun'. -/
def simsRunUptoCard : Claim7 := { stood := { row := simsRunUptoRow, standIns := [], harness := (true, "7eaef440e40e301c534d163e86ed9f4998ed91203a9b67f805f73b6fc4bfb9b3"), looks := false }, kinds := [], alts := [], laidByText := true, laidKinds := [.data, .data], laidTests := true, laidLooks := .later }
def SimsRunUptoCardSaid : Prop := Claim7.holds Tryz.pinned (.plain (OpenSpec.upto simsRunSpec)) simsRunUptoCard
end Rows
end Go.Proofs.YtfcdhoaccmckoaaGreatDoor
