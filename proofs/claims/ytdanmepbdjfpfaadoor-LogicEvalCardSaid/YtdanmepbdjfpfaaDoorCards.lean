/-
  DERIVED. GIVEN WITH THE SEED: THE CARDS: each row of YtdanmepbdjfpfaaDoorRows.lean that lists a variable, with what it lists TIED to the program's text (the seventh form; the later family's looks); each row that meets fmt, with fmt's text TOLD by the authors' own Lean function (tested against real Go, not proved from fmt's source: count such statements apart). THE CARD IS WHAT COUNTS. Prove the row's statement (the work); the ties are given (YtdanmepbdjfpfaaDoorTie.lean); close each card by the builder's one call (the guide's Derived/Test/ToyasCard.lean, 'card_holds'). Laid BY PROGRAM, IN A SANDBOX (cutbox-door.mjs). By AI agents, Wed Nov 11 2026. No macro, syntax, notation, axiom, sorry.
-/
import Derived.Test.YtdanmepbdjfpfaaDoorRows
import GoSem.ClaimSeven
namespace Go.Proofs.YtdanmepbdjfpfaaDoor
namespace Rows

/-- THE TIED CARD OF 'probecardlaw01.LogicGates'. -/
def logicGatesCard : Claim7 := { stood := { row := logicGatesRow, standIns := [], harness := (true, "96305bd8dd82bdccd716095fda2712554f932ab0e0973bda2aa446c031c1a7c4"), looks := false }, kinds := [], alts := [], laidByText := true, laidKinds := [.data, .data], laidTests := true, laidLooks := .later }
def LogicGatesCardSaid : Prop := Claim7.holds Tryd.pinned (.plain (OpenSpec.ofChange logicGatesSpec)) logicGatesCard

/-- THE TIED CARD OF 'probecardlaw01.LogicBus'. -/
def logicBusCard : Claim7 := { stood := { row := logicBusRow, standIns := [], harness := (true, "96305bd8dd82bdccd716095fda2712554f932ab0e0973bda2aa446c031c1a7c4"), looks := false }, kinds := [], alts := [], laidByText := true, laidKinds := [.data, .data], laidTests := true, laidLooks := .later }
def LogicBusCardSaid : Prop := Claim7.holds Tryd.pinned (.plain (OpenSpec.ofChange logicBusSpec)) logicBusCard

/-- THE TIED CARD OF 'probecardlaw01.LogicEval'. -/
def logicEvalCard : Claim7 := { stood := { row := logicEvalRow, standIns := [], harness := (true, "96305bd8dd82bdccd716095fda2712554f932ab0e0973bda2aa446c031c1a7c4"), looks := false }, kinds := [], alts := [], laidByText := true, laidKinds := [.data, .data], laidTests := true, laidLooks := .later }
def LogicEvalCardSaid : Prop := Claim7.holds Tryd.pinned (.plain (OpenSpec.ofChange logicEvalSpec)) logicEvalCard

/-- THE TIED CARD OF 'probecardlaw01.LogicMonotone'. -/
def logicMonotoneCard : Claim7 := { stood := { row := logicMonotoneRow, standIns := [], harness := (true, "96305bd8dd82bdccd716095fda2712554f932ab0e0973bda2aa446c031c1a7c4"), looks := false }, kinds := [], alts := [], laidByText := true, laidKinds := [.data, .data], laidTests := true, laidLooks := .later }
def LogicMonotoneCardSaid : Prop := Claim7.holds Tryd.pinned (.plain (OpenSpec.ofChange logicMonotoneSpec)) logicMonotoneCard

/-- THE TIED CARD OF 'probecardlaw01.LogicOrder'. -/
def logicOrderCard : Claim7 := { stood := { row := logicOrderRow, standIns := [], harness := (true, "96305bd8dd82bdccd716095fda2712554f932ab0e0973bda2aa446c031c1a7c4"), looks := false }, kinds := [], alts := [], laidByText := true, laidKinds := [.data, .data], laidTests := true, laidLooks := .later }
def LogicOrderCardSaid : Prop := Claim7.holds Tryd.pinned (.plain (OpenSpec.ofChange logicOrderSpec)) logicOrderCard

/-- THE TIED CARD OF 'probecardlaw01.LogicDual'. -/
def logicDualCard : Claim7 := { stood := { row := logicDualRow, standIns := [], harness := (true, "96305bd8dd82bdccd716095fda2712554f932ab0e0973bda2aa446c031c1a7c4"), looks := false }, kinds := [], alts := [], laidByText := true, laidKinds := [.data, .data], laidTests := true, laidLooks := .later }
def LogicDualCardSaid : Prop := Claim7.holds Tryd.pinned (.plain (OpenSpec.ofChange logicDualSpec)) logicDualCard

/-- THE TIED CARD OF 'probecardlaw01.LogicControl'. -/
def logicControlCard : Claim7 := { stood := { row := logicControlRow, standIns := [], harness := (true, "96305bd8dd82bdccd716095fda2712554f932ab0e0973bda2aa446c031c1a7c4"), looks := false }, kinds := [], alts := [], laidByText := true, laidKinds := [.data, .data], laidTests := true, laidLooks := .later }
def LogicControlCardSaid : Prop := Claim7.holds Tryd.pinned (.plain (OpenSpec.ofChange logicControlSpec)) logicControlCard

/-- THE TIED CARD OF 'probecardlaw01.LogicTexts'. -/
def logicTextsCard : Claim7 := { stood := { row := logicTextsRow, standIns := [], harness := (true, "96305bd8dd82bdccd716095fda2712554f932ab0e0973bda2aa446c031c1a7c4"), looks := false }, kinds := [], alts := [], laidByText := true, laidKinds := [.data, .data], laidTests := true, laidLooks := .later }
def LogicTextsCardSaid : Prop := Claim7.holds Tryd.pinned (.plain (OpenSpec.ofChange logicTextsSpec)) logicTextsCard

/-- THE SECOND FORM's CARD OF 'probecardlaw01.LogicGates'. -/
def logicGatesUptoCard : Claim7 := { stood := { row := logicGatesUptoRow, standIns := [], harness := (true, "96305bd8dd82bdccd716095fda2712554f932ab0e0973bda2aa446c031c1a7c4"), looks := false }, kinds := [], alts := [], laidByText := true, laidKinds := [.data, .data], laidTests := true, laidLooks := .later }
def LogicGatesUptoCardSaid : Prop := Claim7.holds Tryd.pinned (.plain (OpenSpec.upto logicGatesSpec)) logicGatesUptoCard

/-- THE SECOND FORM's CARD OF 'probecardlaw01.LogicBus'. -/
def logicBusUptoCard : Claim7 := { stood := { row := logicBusUptoRow, standIns := [], harness := (true, "96305bd8dd82bdccd716095fda2712554f932ab0e0973bda2aa446c031c1a7c4"), looks := false }, kinds := [], alts := [], laidByText := true, laidKinds := [.data, .data], laidTests := true, laidLooks := .later }
def LogicBusUptoCardSaid : Prop := Claim7.holds Tryd.pinned (.plain (OpenSpec.upto logicBusSpec)) logicBusUptoCard

/-- THE SECOND FORM's CARD OF 'probecardlaw01.LogicEval'. -/
def logicEvalUptoCard : Claim7 := { stood := { row := logicEvalUptoRow, standIns := [], harness := (true, "96305bd8dd82bdccd716095fda2712554f932ab0e0973bda2aa446c031c1a7c4"), looks := false }, kinds := [], alts := [], laidByText := true, laidKinds := [.data, .data], laidTests := true, laidLooks := .later }
def LogicEvalUptoCardSaid : Prop := Claim7.holds Tryd.pinned (.plain (OpenSpec.upto logicEvalSpec)) logicEvalUptoCard

/-- THE SECOND FORM's CARD OF 'probecardlaw01.LogicMonotone'. -/
def logicMonotoneUptoCard : Claim7 := { stood := { row := logicMonotoneUptoRow, standIns := [], harness := (true, "96305bd8dd82bdccd716095fda2712554f932ab0e0973bda2aa446c031c1a7c4"), looks := false }, kinds := [], alts := [], laidByText := true, laidKinds := [.data, .data], laidTests := true, laidLooks := .later }
def LogicMonotoneUptoCardSaid : Prop := Claim7.holds Tryd.pinned (.plain (OpenSpec.upto logicMonotoneSpec)) logicMonotoneUptoCard

/-- THE SECOND FORM's CARD OF 'probecardlaw01.LogicOrder'. -/
def logicOrderUptoCard : Claim7 := { stood := { row := logicOrderUptoRow, standIns := [], harness := (true, "96305bd8dd82bdccd716095fda2712554f932ab0e0973bda2aa446c031c1a7c4"), looks := false }, kinds := [], alts := [], laidByText := true, laidKinds := [.data, .data], laidTests := true, laidLooks := .later }
def LogicOrderUptoCardSaid : Prop := Claim7.holds Tryd.pinned (.plain (OpenSpec.upto logicOrderSpec)) logicOrderUptoCard

/-- THE SECOND FORM's CARD OF 'probecardlaw01.LogicDual'. -/
def logicDualUptoCard : Claim7 := { stood := { row := logicDualUptoRow, standIns := [], harness := (true, "96305bd8dd82bdccd716095fda2712554f932ab0e0973bda2aa446c031c1a7c4"), looks := false }, kinds := [], alts := [], laidByText := true, laidKinds := [.data, .data], laidTests := true, laidLooks := .later }
def LogicDualUptoCardSaid : Prop := Claim7.holds Tryd.pinned (.plain (OpenSpec.upto logicDualSpec)) logicDualUptoCard

/-- THE SECOND FORM's CARD OF 'probecardlaw01.LogicControl'. -/
def logicControlUptoCard : Claim7 := { stood := { row := logicControlUptoRow, standIns := [], harness := (true, "96305bd8dd82bdccd716095fda2712554f932ab0e0973bda2aa446c031c1a7c4"), looks := false }, kinds := [], alts := [], laidByText := true, laidKinds := [.data, .data], laidTests := true, laidLooks := .later }
def LogicControlUptoCardSaid : Prop := Claim7.holds Tryd.pinned (.plain (OpenSpec.upto logicControlSpec)) logicControlUptoCard

/-- THE SECOND FORM's CARD OF 'probecardlaw01.LogicTexts'. -/
def logicTextsUptoCard : Claim7 := { stood := { row := logicTextsUptoRow, standIns := [], harness := (true, "96305bd8dd82bdccd716095fda2712554f932ab0e0973bda2aa446c031c1a7c4"), looks := false }, kinds := [], alts := [], laidByText := true, laidKinds := [.data, .data], laidTests := true, laidLooks := .later }
def LogicTextsUptoCardSaid : Prop := Claim7.holds Tryd.pinned (.plain (OpenSpec.upto logicTextsSpec)) logicTextsUptoCard
end Rows
end Go.Proofs.YtdanmepbdjfpfaaDoor
