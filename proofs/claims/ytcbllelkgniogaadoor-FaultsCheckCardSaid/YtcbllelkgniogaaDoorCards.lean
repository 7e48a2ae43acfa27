/-
  DERIVED. GIVEN WITH THE SEED: THE CARDS: each row of YtcbllelkgniogaaDoorRows.lean that lists a variable, with what it lists TIED to the program's text (the seventh form; the later family's looks); each row that meets fmt, with fmt's text TOLD by the authors' own Lean function (tested against real Go, not proved from fmt's source: count such statements apart). THE CARD IS WHAT COUNTS. Prove the row's statement (the work); the ties are given (YtcbllelkgniogaaDoorTie.lean); close each card by the builder's one call (the guide's Derived/Test/ToyasCard.lean, 'card_holds'). Laid BY PROGRAM, IN A SANDBOX (cutbox-door.mjs). By AI agents, Wed Nov 11 2026. No macro, syntax, notation, axiom, sorry.
-/
import Derived.Test.YtcbllelkgniogaaDoorRows
import GoSem.ClaimSeven
namespace Go.Proofs.YtcbllelkgniogaaDoor
namespace Rows

/-- THE TIED CARD OF 'probecardlaw12.FaultsCheck'. -/
def faultsCheckCard : Claim7 := { stood := { row := faultsCheckRow, standIns := [], harness := (true, "64052a36dd5acc436ac0c9a369a4c93f1bdb519f49d5e9f3bee149cc1c2889f7"), looks := false }, kinds := [], alts := [], laidByText := true, laidKinds := [.data, .data, .data, .data, .data], laidTests := true, laidLooks := .later }
def FaultsCheckCardSaid : Prop := Claim7.holds Tryd.pinned (.plain (OpenSpec.ofChange faultsCheckSpec)) faultsCheckCard

/-- THE TIED CARD OF 'probecardlaw12.FaultsLines'. -/
def faultsLinesCard : Claim7 := { stood := { row := faultsLinesRow, standIns := [], harness := (true, "64052a36dd5acc436ac0c9a369a4c93f1bdb519f49d5e9f3bee149cc1c2889f7"), looks := false }, kinds := [], alts := [], laidByText := true, laidKinds := [.data, .data, .data, .data, .data], laidTests := true, laidLooks := .later }
def FaultsLinesCardSaid : Prop := Claim7.holds Tryd.pinned (.plain (OpenSpec.ofChange faultsLinesSpec)) faultsLinesCard

/-- THE TIED CARD OF 'probecardlaw12.FaultsOrder'. -/
def faultsOrderCard : Claim7 := { stood := { row := faultsOrderRow, standIns := [], harness := (true, "64052a36dd5acc436ac0c9a369a4c93f1bdb519f49d5e9f3bee149cc1c2889f7"), looks := false }, kinds := [], alts := [], laidByText := true, laidKinds := [.data, .data, .data, .data, .data], laidTests := true, laidLooks := .later }
def FaultsOrderCardSaid : Prop := Claim7.holds Tryd.pinned (.plain (OpenSpec.ofChange faultsOrderSpec)) faultsOrderCard

/-- THE TIED CARD OF 'probecardlaw12.FaultsErrors'. -/
def faultsErrorsCard : Claim7 := { stood := { row := faultsErrorsRow, standIns := [], harness := (true, "64052a36dd5acc436ac0c9a369a4c93f1bdb519f49d5e9f3bee149cc1c2889f7"), looks := false }, kinds := [], alts := [], laidByText := true, laidKinds := [.data, .data, .data, .data, .data], laidTests := true, laidLooks := .later }
def FaultsErrorsCardSaid : Prop := Claim7.holds Tryd.pinned (.plain (OpenSpec.ofChange faultsErrorsSpec)) faultsErrorsCard

/-- THE SECOND FORM's CARD OF 'probecardlaw12.FaultsCheck'. -/
def faultsCheckUptoCard : Claim7 := { stood := { row := faultsCheckUptoRow, standIns := [], harness := (true, "64052a36dd5acc436ac0c9a369a4c93f1bdb519f49d5e9f3bee149cc1c2889f7"), looks := false }, kinds := [], alts := [], laidByText := true, laidKinds := [.data, .data, .data, .data, .data], laidTests := true, laidLooks := .later }
def FaultsCheckUptoCardSaid : Prop := Claim7.holds Tryd.pinned (.plain (OpenSpec.upto faultsCheckSpec)) faultsCheckUptoCard

/-- THE SECOND FORM's CARD OF 'probecardlaw12.FaultsLines'. -/
def faultsLinesUptoCard : Claim7 := { stood := { row := faultsLinesUptoRow, standIns := [], harness := (true, "64052a36dd5acc436ac0c9a369a4c93f1bdb519f49d5e9f3bee149cc1c2889f7"), looks := false }, kinds := [], alts := [], laidByText := true, laidKinds := [.data, .data, .data, .data, .data], laidTests := true, laidLooks := .later }
def FaultsLinesUptoCardSaid : Prop := Claim7.holds Tryd.pinned (.plain (OpenSpec.upto faultsLinesSpec)) faultsLinesUptoCard

/-- THE SECOND FORM's CARD OF 'probecardlaw12.FaultsOrder'. -/
def faultsOrderUptoCard : Claim7 := { stood := { row := faultsOrderUptoRow, standIns := [], harness := (true, "64052a36dd5acc436ac0c9a369a4c93f1bdb519f49d5e9f3bee149cc1c2889f7"), looks := false }, kinds := [], alts := [], laidByText := true, laidKinds := [.data, .data, .data, .data, .data], laidTests := true, laidLooks := .later }
def FaultsOrderUptoCardSaid : Prop := Claim7.holds Tryd.pinned (.plain (OpenSpec.upto faultsOrderSpec)) faultsOrderUptoCard

/-- THE SECOND FORM's CARD OF 'probecardlaw12.FaultsErrors'. -/
def faultsErrorsUptoCard : Claim7 := { stood := { row := faultsErrorsUptoRow, standIns := [], harness := (true, "64052a36dd5acc436ac0c9a369a4c93f1bdb519f49d5e9f3bee149cc1c2889f7"), looks := false }, kinds := [], alts := [], laidByText := true, laidKinds := [.data, .data, .data, .data, .data], laidTests := true, laidLooks := .later }
def FaultsErrorsUptoCardSaid : Prop := Claim7.holds Tryd.pinned (.plain (OpenSpec.upto faultsErrorsSpec)) faultsErrorsUptoCard
end Rows
end Go.Proofs.YtcbllelkgniogaaDoor
