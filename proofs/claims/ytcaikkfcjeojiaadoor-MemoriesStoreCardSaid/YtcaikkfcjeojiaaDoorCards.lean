/-
  DERIVED. GIVEN WITH THE SEED: THE CARDS: each row of YtcaikkfcjeojiaaDoorRows.lean that lists a variable, with what it lists TIED to the program's text (the seventh form; the later family's looks); each row that meets fmt, with fmt's text TOLD by the authors' own Lean function (tested against real Go, not proved from fmt's source: count such statements apart). THE CARD IS WHAT COUNTS. Prove the row's statement (the work); the ties are given (YtcaikkfcjeojiaaDoorTie.lean); close each card by the builder's one call (the guide's Derived/Test/ToyasCard.lean, 'card_holds'). Laid BY PROGRAM, IN A SANDBOX (cutbox-door.mjs). By AI agents, Wed Nov 11 2026. No macro, syntax, notation, axiom, sorry.
-/
import Derived.Test.YtcaikkfcjeojiaaDoorRows
import GoSem.ClaimSeven
namespace Go.Proofs.YtcaikkfcjeojiaaDoor
namespace Rows

/-- THE TIED CARD OF 'probecardlaw09.MemoriesStore'. -/
def memoriesStoreCard : Claim7 := { stood := { row := memoriesStoreRow, standIns := [], harness := (true, "9b22f65e4fb1b1575984f40f9a1eefb5e506f82a329a95afcabc19a706acea2d"), looks := false }, kinds := [], alts := [], laidByText := true, laidKinds := [.data], laidTests := true, laidLooks := .later }
def MemoriesStoreCardSaid : Prop := Claim7.holds Tryd.pinned (.plain (OpenSpec.ofChange memoriesStoreSpec)) memoriesStoreCard

/-- THE TIED CARD OF 'probecardlaw09.MemoriesOrder'. -/
def memoriesOrderCard : Claim7 := { stood := { row := memoriesOrderRow, standIns := [], harness := (true, "9b22f65e4fb1b1575984f40f9a1eefb5e506f82a329a95afcabc19a706acea2d"), looks := false }, kinds := [], alts := [], laidByText := true, laidKinds := [.data], laidTests := true, laidLooks := .later }
def MemoriesOrderCardSaid : Prop := Claim7.holds Tryd.pinned (.plain (OpenSpec.ofChange memoriesOrderSpec)) memoriesOrderCard

/-- THE SECOND FORM's CARD OF 'probecardlaw09.MemoriesStore'. -/
def memoriesStoreUptoCard : Claim7 := { stood := { row := memoriesStoreUptoRow, standIns := [], harness := (true, "9b22f65e4fb1b1575984f40f9a1eefb5e506f82a329a95afcabc19a706acea2d"), looks := false }, kinds := [], alts := [], laidByText := true, laidKinds := [.data], laidTests := true, laidLooks := .later }
def MemoriesStoreUptoCardSaid : Prop := Claim7.holds Tryd.pinned (.plain (OpenSpec.upto memoriesStoreSpec)) memoriesStoreUptoCard

/-- THE SECOND FORM's CARD OF 'probecardlaw09.MemoriesOrder'. -/
def memoriesOrderUptoCard : Claim7 := { stood := { row := memoriesOrderUptoRow, standIns := [], harness := (true, "9b22f65e4fb1b1575984f40f9a1eefb5e506f82a329a95afcabc19a706acea2d"), looks := false }, kinds := [], alts := [], laidByText := true, laidKinds := [.data], laidTests := true, laidLooks := .later }
def MemoriesOrderUptoCardSaid : Prop := Claim7.holds Tryd.pinned (.plain (OpenSpec.upto memoriesOrderSpec)) memoriesOrderUptoCard
end Rows
end Go.Proofs.YtcaikkfcjeojiaaDoor
