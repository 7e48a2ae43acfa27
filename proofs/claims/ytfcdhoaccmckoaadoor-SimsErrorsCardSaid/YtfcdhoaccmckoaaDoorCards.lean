/-
  DERIVED. GIVEN WITH THE SEED: THE CARDS: each row of YtfcdhoaccmckoaaDoorRows.lean that lists a variable, with what it lists TIED to the program's text (the seventh form; the later family's looks); each row that meets fmt, with fmt's text TOLD by the authors' own Lean function (tested against real Go, not proved from fmt's source: count such statements apart). THE CARD IS WHAT COUNTS. Prove the row's statement (the work); the ties are given (YtfcdhoaccmckoaaDoorTie.lean); close each card by the builder's one call (the guide's Derived/Test/ToyasCard.lean, 'card_holds'). Laid BY PROGRAM, IN A SANDBOX (cutbox-door.mjs). By AI agents, Wed Nov 11 2026. No macro, syntax, notation, axiom, sorry.
-/
import Derived.Test.YtfcdhoaccmckoaaDoorRows
import GoSem.ClaimSeven
namespace Go.Proofs.YtfcdhoaccmckoaaDoor
namespace Rows

/-- THE TIED CARD OF 'probecardlaw06.SimsErrors'. -/
def simsErrorsCard : Claim7 := { stood := { row := simsErrorsRow, standIns := [], harness := (true, "bf3962f861191ee70f25bcfce3bde924d5ac1a1614e63c44e8ee2f9af47651fa"), looks := false }, kinds := [], alts := [], laidByText := true, laidKinds := [.data, .data], laidTests := true, laidLooks := .later }
def SimsErrorsCardSaid : Prop := Claim7.holds Tryd.pinned (.plain (OpenSpec.ofChange simsErrorsSpec)) simsErrorsCard

/-- THE TIED CARD OF 'probecardlaw06.SimsMonotone'. -/
def simsMonotoneCard : Claim7 := { stood := { row := simsMonotoneRow, standIns := [], harness := (true, "bf3962f861191ee70f25bcfce3bde924d5ac1a1614e63c44e8ee2f9af47651fa"), looks := false }, kinds := [], alts := [], laidByText := true, laidKinds := [.data, .data], laidTests := true, laidLooks := .later }
def SimsMonotoneCardSaid : Prop := Claim7.holds Tryd.pinned (.plain (OpenSpec.ofChange simsMonotoneSpec)) simsMonotoneCard

/-- THE TIED CARD OF 'probecardlaw06.SimsUnique'. -/
def simsUniqueCard : Claim7 := { stood := { row := simsUniqueRow, standIns := [], harness := (true, "bf3962f861191ee70f25bcfce3bde924d5ac1a1614e63c44e8ee2f9af47651fa"), looks := false }, kinds := [], alts := [], laidByText := true, laidKinds := [.data, .data], laidTests := true, laidLooks := .later }
def SimsUniqueCardSaid : Prop := Claim7.holds Tryd.pinned (.plain (OpenSpec.ofChange simsUniqueSpec)) simsUniqueCard

/-- THE TIED CARD OF 'probecardlaw06.SimsKnown'. -/
def simsKnownCard : Claim7 := { stood := { row := simsKnownRow, standIns := [], harness := (true, "bf3962f861191ee70f25bcfce3bde924d5ac1a1614e63c44e8ee2f9af47651fa"), looks := false }, kinds := [], alts := [], laidByText := true, laidKinds := [.data, .data], laidTests := true, laidLooks := .later }
def SimsKnownCardSaid : Prop := Claim7.holds Tryd.pinned (.plain (OpenSpec.ofChange simsKnownSpec)) simsKnownCard

/-- THE TIED CARD OF 'probecardlaw06.SimsObserve'. -/
def simsObserveCard : Claim7 := { stood := { row := simsObserveRow, standIns := [], harness := (true, "bf3962f861191ee70f25bcfce3bde924d5ac1a1614e63c44e8ee2f9af47651fa"), looks := false }, kinds := [], alts := [], laidByText := true, laidKinds := [.data, .data], laidTests := true, laidLooks := .later }
def SimsObserveCardSaid : Prop := Claim7.holds Tryd.pinned (.plain (OpenSpec.ofChange simsObserveSpec)) simsObserveCard

/-- THE TIED CARD OF 'probecardlaw06.SimsFanin'. -/
def simsFaninCard : Claim7 := { stood := { row := simsFaninRow, standIns := [], harness := (true, "bf3962f861191ee70f25bcfce3bde924d5ac1a1614e63c44e8ee2f9af47651fa"), looks := false }, kinds := [], alts := [], laidByText := true, laidKinds := [.data, .data], laidTests := true, laidLooks := .later }
def SimsFaninCardSaid : Prop := Claim7.holds Tryd.pinned (.plain (OpenSpec.ofChange simsFaninSpec)) simsFaninCard

/-- THE SECOND FORM's CARD OF 'probecardlaw06.SimsErrors'. -/
def simsErrorsUptoCard : Claim7 := { stood := { row := simsErrorsUptoRow, standIns := [], harness := (true, "bf3962f861191ee70f25bcfce3bde924d5ac1a1614e63c44e8ee2f9af47651fa"), looks := false }, kinds := [], alts := [], laidByText := true, laidKinds := [.data, .data], laidTests := true, laidLooks := .later }
def SimsErrorsUptoCardSaid : Prop := Claim7.holds Tryd.pinned (.plain (OpenSpec.upto simsErrorsSpec)) simsErrorsUptoCard

/-- THE SECOND FORM's CARD OF 'probecardlaw06.SimsMonotone'. -/
def simsMonotoneUptoCard : Claim7 := { stood := { row := simsMonotoneUptoRow, standIns := [], harness := (true, "bf3962f861191ee70f25bcfce3bde924d5ac1a1614e63c44e8ee2f9af47651fa"), looks := false }, kinds := [], alts := [], laidByText := true, laidKinds := [.data, .data], laidTests := true, laidLooks := .later }
def SimsMonotoneUptoCardSaid : Prop := Claim7.holds Tryd.pinned (.plain (OpenSpec.upto simsMonotoneSpec)) simsMonotoneUptoCard

/-- THE SECOND FORM's CARD OF 'probecardlaw06.SimsUnique'. -/
def simsUniqueUptoCard : Claim7 := { stood := { row := simsUniqueUptoRow, standIns := [], harness := (true, "bf3962f861191ee70f25bcfce3bde924d5ac1a1614e63c44e8ee2f9af47651fa"), looks := false }, kinds := [], alts := [], laidByText := true, laidKinds := [.data, .data], laidTests := true, laidLooks := .later }
def SimsUniqueUptoCardSaid : Prop := Claim7.holds Tryd.pinned (.plain (OpenSpec.upto simsUniqueSpec)) simsUniqueUptoCard

/-- THE SECOND FORM's CARD OF 'probecardlaw06.SimsKnown'. -/
def simsKnownUptoCard : Claim7 := { stood := { row := simsKnownUptoRow, standIns := [], harness := (true, "bf3962f861191ee70f25bcfce3bde924d5ac1a1614e63c44e8ee2f9af47651fa"), looks := false }, kinds := [], alts := [], laidByText := true, laidKinds := [.data, .data], laidTests := true, laidLooks := .later }
def SimsKnownUptoCardSaid : Prop := Claim7.holds Tryd.pinned (.plain (OpenSpec.upto simsKnownSpec)) simsKnownUptoCard

/-- THE SECOND FORM's CARD OF 'probecardlaw06.SimsObserve'. -/
def simsObserveUptoCard : Claim7 := { stood := { row := simsObserveUptoRow, standIns := [], harness := (true, "bf3962f861191ee70f25bcfce3bde924d5ac1a1614e63c44e8ee2f9af47651fa"), looks := false }, kinds := [], alts := [], laidByText := true, laidKinds := [.data, .data], laidTests := true, laidLooks := .later }
def SimsObserveUptoCardSaid : Prop := Claim7.holds Tryd.pinned (.plain (OpenSpec.upto simsObserveSpec)) simsObserveUptoCard

/-- THE SECOND FORM's CARD OF 'probecardlaw06.SimsFanin'. -/
def simsFaninUptoCard : Claim7 := { stood := { row := simsFaninUptoRow, standIns := [], harness := (true, "bf3962f861191ee70f25bcfce3bde924d5ac1a1614e63c44e8ee2f9af47651fa"), looks := false }, kinds := [], alts := [], laidByText := true, laidKinds := [.data, .data], laidTests := true, laidLooks := .later }
def SimsFaninUptoCardSaid : Prop := Claim7.holds Tryd.pinned (.plain (OpenSpec.upto simsFaninSpec)) simsFaninUptoCard
end Rows
end Go.Proofs.YtfcdhoaccmckoaaDoor
