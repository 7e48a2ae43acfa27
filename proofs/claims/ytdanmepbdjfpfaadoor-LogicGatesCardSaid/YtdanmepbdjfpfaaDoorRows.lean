/-
  NARROWER THAN 'FOR EVERY INPUT', by the rows' own cells (each row's printed sentence says how): LogicGates: laid · LogicBus: laid · LogicEval: laid · LogicMonotone: laid · LogicOrder: laid · LogicDual: laid · LogicControl: laid · LogicTexts: laid.
  DERIVED. THE GIVEN ROWS OF THIS SEAT. 8 by the template 'for every input the law returns true; each argument reads behind the call as it read before'; 0 by the template 'total and deterministic' (their statements: YtdanmepbdjfpfaaDoorTotals.lean).
  GIVEN WITH THE SEED: the statements are not yours to turn. If you find one false, say at which input.
  Laid BY PROGRAM, IN A SANDBOX (cutbox-rows.mjs): the forced cells as the released guide's own fill.sh prints them over the translation b514714f757dccb7… (all of the seat's roots in one cut). By AI agents, Wed Nov 11 2026. No macro, syntax, notation, axiom, sorry.
-/
import Derived.Test.YtdanmepbdjfpfaaDoorChecked
import GoSem.Claim
import GoSem.ClaimJoined
import GoSem.ClaimMapViews
import Derived.JoinedTies
import Derived.KernelRfl
namespace Go.Proofs.YtdanmepbdjfpfaaDoor
/- THE CELL 'sum', in the pinned program and in every row, IS THE sha256 OF THE DUMP (.gsa) THAT YtdanmepbdjfpfaaDoorProg.lean LOADS. Nothing in Lean hashes anything: it is a label: what it is worth is what the hold of that sum in a sandbox is worth. -/
noncomputable def Tryd.pinned : Pinned := { name := "ytdanmepbdjfpfaadoor", sum := "b514714f757dccb7e98d15ab312074388ca0d9158a1e68d6daa48a817d8fb6ac", checked := Tryd.checked }
namespace Rows
def none {H : Type} : Left H := { results := [], args := [] }

/- WHAT THE LISTED PACKAGE-LEVEL VARIABLES READ AS WHEN THE CALL BEGINS. Each datum BY PROGRAM (the guide's laid-datum.mjs) off the statement by which the dump's own 'gosem.cut.vars' lays the variable. In a bare row this is a premise. The card (YtdanmepbdjfpfaaDoorCards.lean) ties it to the program's text. -/
def laid_probecard_logic_spans {H : Type} : DataW H := .agg [.agg [.lit (.int .i64 0), .lit (.int .i64 0)], .agg [.lit (.int .i64 0), .lit (.int .i64 0)], .agg [.lit (.int .i64 0), .lit (.int .i64 0)], .agg [.lit (.int .i64 1), .lit (.int .i64 1)], .agg [.lit (.int .i64 1), .lit (.int .i64 1)], .agg [.lit (.int .i64 2), .lit (.int .i64 16)], .agg [.lit (.int .i64 2), .lit (.int .i64 16)], .agg [.lit (.int .i64 2), .lit (.int .i64 16)], .agg [.lit (.int .i64 2), .lit (.int .i64 16)], .agg [.lit (.int .i64 2), .lit (.int .i64 16)], .agg [.lit (.int .i64 2), .lit (.int .i64 16)], .agg [.lit (.int .i64 3), .lit (.int .i64 3)], .agg [.lit (.int .i64 2), .lit (.int .i64 2)], .agg [.lit (.int .i64 1), .lit (.int .i64 16)], .agg [.lit (.int .i64 1), .lit (.int .i64 1)], .agg [.lit (.int .i64 0), .lit (.int .i64 0)]]
def laid_probecard_logic_characters {H : Type} : DataW H := .agg [.lit (.int .u8 48), .lit (.int .u8 49), .lit (.int .u8 88), .lit (.int .u8 90)]

/-- 'probecardlaw01.LogicGates': WHATEVER THE INPUT: true; the input reads as it did. -/
def logicGatesSpec : ChangeSpec := { name := "logicGates", fn := fun _ => fun
  | [d] => { results := [.lit (.bool true)], args := [d] }
  | _ => none }
def logicGatesRow : OpenClaim := { program := "ytdanmepbdjfpfaadoor", sum := "b514714f757dccb7e98d15ab312074388ca0d9158a1e68d6daa48a817d8fb6ac", func := "probecard/probecardlaw01.LogicGates", spec := "logicGates", unfollowed := true, recurses := true, named := ["probecard/logic.spans", "probecard/logic.characters"], apart := false, laid := [("probecard/logic.spans", laid_probecard_logic_spans), ("probecard/logic.characters", laid_probecard_logic_characters)] }
def LogicGatesSaid : Prop := logicGatesRow.holds Tryd.pinned (OpenSpec.ofChange logicGatesSpec)

/-- ITS FALSE NEIGHBOUR: 'it returns false'. Refute it at one input. -/
def logicGatesWrong : ChangeSpec := { name := "logicGates", fn := fun _ => fun
  | [d] => { results := [.lit (.bool false)], args := [d] }
  | _ => none }
def LogicGatesWrongFalsely : Prop := logicGatesRow.holds Tryd.pinned (OpenSpec.ofChange logicGatesWrong)

/-- 'probecardlaw01.LogicBus': WHATEVER THE INPUT: true; the input reads as it did. -/
def logicBusSpec : ChangeSpec := { name := "logicBus", fn := fun _ => fun
  | [d1, d2] => { results := [.lit (.bool true)], args := [d1, d2] }
  | _ => none }
def logicBusRow : OpenClaim := { program := "ytdanmepbdjfpfaadoor", sum := "b514714f757dccb7e98d15ab312074388ca0d9158a1e68d6daa48a817d8fb6ac", func := "probecard/probecardlaw01.LogicBus", spec := "logicBus", unfollowed := true, recurses := true, named := ["probecard/logic.spans", "probecard/logic.characters"], apart := false, laid := [("probecard/logic.spans", laid_probecard_logic_spans), ("probecard/logic.characters", laid_probecard_logic_characters)] }
def LogicBusSaid : Prop := logicBusRow.holds Tryd.pinned (OpenSpec.ofChange logicBusSpec)

/-- ITS FALSE NEIGHBOUR: 'it returns false'. Refute it at one input. -/
def logicBusWrong : ChangeSpec := { name := "logicBus", fn := fun _ => fun
  | [d1, d2] => { results := [.lit (.bool false)], args := [d1, d2] }
  | _ => none }
def LogicBusWrongFalsely : Prop := logicBusRow.holds Tryd.pinned (OpenSpec.ofChange logicBusWrong)

/-- 'probecardlaw01.LogicEval': WHATEVER THE INPUT: true; the input reads as it did. -/
def logicEvalSpec : ChangeSpec := { name := "logicEval", fn := fun _ => fun
  | [d1, d2] => { results := [.lit (.bool true)], args := [d1, d2] }
  | _ => none }
def logicEvalRow : OpenClaim := { program := "ytdanmepbdjfpfaadoor", sum := "b514714f757dccb7e98d15ab312074388ca0d9158a1e68d6daa48a817d8fb6ac", func := "probecard/probecardlaw01.LogicEval", spec := "logicEval", unfollowed := true, recurses := true, named := ["probecard/logic.spans", "probecard/logic.characters"], apart := false, laid := [("probecard/logic.spans", laid_probecard_logic_spans), ("probecard/logic.characters", laid_probecard_logic_characters)] }
def LogicEvalSaid : Prop := logicEvalRow.holds Tryd.pinned (OpenSpec.ofChange logicEvalSpec)

/-- ITS FALSE NEIGHBOUR: 'it returns false'. Refute it at one input. -/
def logicEvalWrong : ChangeSpec := { name := "logicEval", fn := fun _ => fun
  | [d1, d2] => { results := [.lit (.bool false)], args := [d1, d2] }
  | _ => none }
def LogicEvalWrongFalsely : Prop := logicEvalRow.holds Tryd.pinned (OpenSpec.ofChange logicEvalWrong)

/-- 'probecardlaw01.LogicMonotone': WHATEVER THE INPUT: true; the input reads as it did. -/
def logicMonotoneSpec : ChangeSpec := { name := "logicMonotone", fn := fun _ => fun
  | [d1, d2, d3] => { results := [.lit (.bool true)], args := [d1, d2, d3] }
  | _ => none }
def logicMonotoneRow : OpenClaim := { program := "ytdanmepbdjfpfaadoor", sum := "b514714f757dccb7e98d15ab312074388ca0d9158a1e68d6daa48a817d8fb6ac", func := "probecard/probecardlaw01.LogicMonotone", spec := "logicMonotone", unfollowed := true, recurses := true, named := ["probecard/logic.spans", "probecard/logic.characters"], apart := false, laid := [("probecard/logic.spans", laid_probecard_logic_spans), ("probecard/logic.characters", laid_probecard_logic_characters)] }
def LogicMonotoneSaid : Prop := logicMonotoneRow.holds Tryd.pinned (OpenSpec.ofChange logicMonotoneSpec)

/-- ITS FALSE NEIGHBOUR: 'it returns false'. Refute it at one input. -/
def logicMonotoneWrong : ChangeSpec := { name := "logicMonotone", fn := fun _ => fun
  | [d1, d2, d3] => { results := [.lit (.bool false)], args := [d1, d2, d3] }
  | _ => none }
def LogicMonotoneWrongFalsely : Prop := logicMonotoneRow.holds Tryd.pinned (OpenSpec.ofChange logicMonotoneWrong)

/-- 'probecardlaw01.LogicOrder': WHATEVER THE INPUT: true; the input reads as it did. -/
def logicOrderSpec : ChangeSpec := { name := "logicOrder", fn := fun _ => fun
  | [d] => { results := [.lit (.bool true)], args := [d] }
  | _ => none }
def logicOrderRow : OpenClaim := { program := "ytdanmepbdjfpfaadoor", sum := "b514714f757dccb7e98d15ab312074388ca0d9158a1e68d6daa48a817d8fb6ac", func := "probecard/probecardlaw01.LogicOrder", spec := "logicOrder", unfollowed := true, recurses := true, named := ["probecard/logic.spans", "probecard/logic.characters"], apart := false, laid := [("probecard/logic.spans", laid_probecard_logic_spans), ("probecard/logic.characters", laid_probecard_logic_characters)] }
def LogicOrderSaid : Prop := logicOrderRow.holds Tryd.pinned (OpenSpec.ofChange logicOrderSpec)

/-- ITS FALSE NEIGHBOUR: 'it returns false'. Refute it at one input. -/
def logicOrderWrong : ChangeSpec := { name := "logicOrder", fn := fun _ => fun
  | [d] => { results := [.lit (.bool false)], args := [d] }
  | _ => none }
def LogicOrderWrongFalsely : Prop := logicOrderRow.holds Tryd.pinned (OpenSpec.ofChange logicOrderWrong)

/-- 'probecardlaw01.LogicDual': WHATEVER THE INPUT: true; the input reads as it did. -/
def logicDualSpec : ChangeSpec := { name := "logicDual", fn := fun _ => fun
  | [d1, d2] => { results := [.lit (.bool true)], args := [d1, d2] }
  | _ => none }
def logicDualRow : OpenClaim := { program := "ytdanmepbdjfpfaadoor", sum := "b514714f757dccb7e98d15ab312074388ca0d9158a1e68d6daa48a817d8fb6ac", func := "probecard/probecardlaw01.LogicDual", spec := "logicDual", unfollowed := true, recurses := true, named := ["probecard/logic.spans", "probecard/logic.characters"], apart := false, laid := [("probecard/logic.spans", laid_probecard_logic_spans), ("probecard/logic.characters", laid_probecard_logic_characters)] }
def LogicDualSaid : Prop := logicDualRow.holds Tryd.pinned (OpenSpec.ofChange logicDualSpec)

/-- ITS FALSE NEIGHBOUR: 'it returns false'. Refute it at one input. -/
def logicDualWrong : ChangeSpec := { name := "logicDual", fn := fun _ => fun
  | [d1, d2] => { results := [.lit (.bool false)], args := [d1, d2] }
  | _ => none }
def LogicDualWrongFalsely : Prop := logicDualRow.holds Tryd.pinned (OpenSpec.ofChange logicDualWrong)

/-- 'probecardlaw01.LogicControl': WHATEVER THE INPUT: true; the input reads as it did. -/
def logicControlSpec : ChangeSpec := { name := "logicControl", fn := fun _ => fun
  | [d1, d2, d3] => { results := [.lit (.bool true)], args := [d1, d2, d3] }
  | _ => none }
def logicControlRow : OpenClaim := { program := "ytdanmepbdjfpfaadoor", sum := "b514714f757dccb7e98d15ab312074388ca0d9158a1e68d6daa48a817d8fb6ac", func := "probecard/probecardlaw01.LogicControl", spec := "logicControl", unfollowed := true, recurses := true, named := ["probecard/logic.spans", "probecard/logic.characters"], apart := false, laid := [("probecard/logic.spans", laid_probecard_logic_spans), ("probecard/logic.characters", laid_probecard_logic_characters)] }
def LogicControlSaid : Prop := logicControlRow.holds Tryd.pinned (OpenSpec.ofChange logicControlSpec)

/-- ITS FALSE NEIGHBOUR: 'it returns false'. Refute it at one input. -/
def logicControlWrong : ChangeSpec := { name := "logicControl", fn := fun _ => fun
  | [d1, d2, d3] => { results := [.lit (.bool false)], args := [d1, d2, d3] }
  | _ => none }
def LogicControlWrongFalsely : Prop := logicControlRow.holds Tryd.pinned (OpenSpec.ofChange logicControlWrong)

/-- 'probecardlaw01.LogicTexts': WHATEVER THE INPUT: true; the input reads as it did. -/
def logicTextsSpec : ChangeSpec := { name := "logicTexts", fn := fun _ => fun
  | [d1, d2] => { results := [.lit (.bool true)], args := [d1, d2] }
  | _ => none }
def logicTextsRow : OpenClaim := { program := "ytdanmepbdjfpfaadoor", sum := "b514714f757dccb7e98d15ab312074388ca0d9158a1e68d6daa48a817d8fb6ac", func := "probecard/probecardlaw01.LogicTexts", spec := "logicTexts", unfollowed := true, recurses := true, named := ["probecard/logic.spans", "probecard/logic.characters"], apart := false, laid := [("probecard/logic.spans", laid_probecard_logic_spans), ("probecard/logic.characters", laid_probecard_logic_characters)] }
def LogicTextsSaid : Prop := logicTextsRow.holds Tryd.pinned (OpenSpec.ofChange logicTextsSpec)

/-- ITS FALSE NEIGHBOUR: 'it returns false'. Refute it at one input. -/
def logicTextsWrong : ChangeSpec := { name := "logicTexts", fn := fun _ => fun
  | [d1, d2] => { results := [.lit (.bool false)], args := [d1, d2] }
  | _ => none }
def LogicTextsWrongFalsely : Prop := logicTextsRow.holds Tryd.pinned (OpenSpec.ofChange logicTextsWrong)

/- THE SECOND FORM. 'bulk': how many values and letters a reading holds, each counted each time it is reached (what is shared counts as often as it is met; a slice's spare places count too). A statement '..UptoSaid' is the law's where the arguments, and the package variables that the reading takes, are together of bulk at most 1048576: NARROWER than '..Said'. Prove '..Said' where nothing that the law and all that it calls make is longer than what came in: it says more and counts as full. Else prove '..UptoSaid'. A law counts once. -/
mutual
def uptoBulk {H : Type} : DataW H → Nat
  | .lit (.string bytes) => bytes.length + 1
  | .lit _ => 1
  | .nil => 1
  | .ptr d => uptoBulk d + 1
  | .slice elems spare => uptoBulkAll elems + uptoBulkAll spare + 1
  | .agg parts => uptoBulkAll parts + 1
  | .iface _ d => uptoBulk d + 1
  | .map entries => uptoBulkEntries entries + 1
  | .held _ => 1
def uptoBulkAll {H : Type} : List (DataW H) → Nat
  | [] => 0
  | d :: r => uptoBulk d + uptoBulkAll r
def uptoBulkEntries {H : Type} : List (Lit × DataW H) → Nat
  | [] => 0
  | x :: r => uptoBulkEntry x + uptoBulkEntries r
def uptoBulkEntry {H : Type} : Lit × DataW H → Nat
  | (.string bytes, d) => bytes.length + uptoBulk d + 1
  | (_, d) => uptoBulk d + 1
 end
def uptoSmall : (H : Type) → List (DataW H) → Bool := fun _ ds => decide (uptoBulkAll ds ≤ 1048576)
def OpenSpec.upto (s : _root_.Go.ChangeSpec) : _root_.Go.OpenSpec := { _root_.Go.OpenSpec.ofChange s with cond := some uptoSmall }

/-- 'probecardlaw01.LogicGates', WHERE WHAT IT READS IS OF BULK AT MOST 1048576: true; the input reads as it did. -/
def logicGatesUptoRow : OpenClaim := { program := "ytdanmepbdjfpfaadoor", sum := "b514714f757dccb7e98d15ab312074388ca0d9158a1e68d6daa48a817d8fb6ac", func := "probecard/probecardlaw01.LogicGates", spec := "logicGates", unfollowed := true, recurses := true, named := ["probecard/logic.spans", "probecard/logic.characters"], apart := false, laid := [("probecard/logic.spans", laid_probecard_logic_spans), ("probecard/logic.characters", laid_probecard_logic_characters)], narrowed := true }
def LogicGatesUptoSaid : Prop := logicGatesUptoRow.holds Tryd.pinned (OpenSpec.upto logicGatesSpec)

/-- 'probecardlaw01.LogicBus', WHERE WHAT IT READS IS OF BULK AT MOST 1048576: true; the input reads as it did. -/
def logicBusUptoRow : OpenClaim := { program := "ytdanmepbdjfpfaadoor", sum := "b514714f757dccb7e98d15ab312074388ca0d9158a1e68d6daa48a817d8fb6ac", func := "probecard/probecardlaw01.LogicBus", spec := "logicBus", unfollowed := true, recurses := true, named := ["probecard/logic.spans", "probecard/logic.characters"], apart := false, laid := [("probecard/logic.spans", laid_probecard_logic_spans), ("probecard/logic.characters", laid_probecard_logic_characters)], narrowed := true }
def LogicBusUptoSaid : Prop := logicBusUptoRow.holds Tryd.pinned (OpenSpec.upto logicBusSpec)

/-- 'probecardlaw01.LogicEval', WHERE WHAT IT READS IS OF BULK AT MOST 1048576: true; the input reads as it did. -/
def logicEvalUptoRow : OpenClaim := { program := "ytdanmepbdjfpfaadoor", sum := "b514714f757dccb7e98d15ab312074388ca0d9158a1e68d6daa48a817d8fb6ac", func := "probecard/probecardlaw01.LogicEval", spec := "logicEval", unfollowed := true, recurses := true, named := ["probecard/logic.spans", "probecard/logic.characters"], apart := false, laid := [("probecard/logic.spans", laid_probecard_logic_spans), ("probecard/logic.characters", laid_probecard_logic_characters)], narrowed := true }
def LogicEvalUptoSaid : Prop := logicEvalUptoRow.holds Tryd.pinned (OpenSpec.upto logicEvalSpec)

/-- 'probecardlaw01.LogicMonotone', WHERE WHAT IT READS IS OF BULK AT MOST 1048576: true; the input reads as it did. -/
def logicMonotoneUptoRow : OpenClaim := { program := "ytdanmepbdjfpfaadoor", sum := "b514714f757dccb7e98d15ab312074388ca0d9158a1e68d6daa48a817d8fb6ac", func := "probecard/probecardlaw01.LogicMonotone", spec := "logicMonotone", unfollowed := true, recurses := true, named := ["probecard/logic.spans", "probecard/logic.characters"], apart := false, laid := [("probecard/logic.spans", laid_probecard_logic_spans), ("probecard/logic.characters", laid_probecard_logic_characters)], narrowed := true }
def LogicMonotoneUptoSaid : Prop := logicMonotoneUptoRow.holds Tryd.pinned (OpenSpec.upto logicMonotoneSpec)

/-- 'probecardlaw01.LogicOrder', WHERE WHAT IT READS IS OF BULK AT MOST 1048576: true; the input reads as it did. -/
def logicOrderUptoRow : OpenClaim := { program := "ytdanmepbdjfpfaadoor", sum := "b514714f757dccb7e98d15ab312074388ca0d9158a1e68d6daa48a817d8fb6ac", func := "probecard/probecardlaw01.LogicOrder", spec := "logicOrder", unfollowed := true, recurses := true, named := ["probecard/logic.spans", "probecard/logic.characters"], apart := false, laid := [("probecard/logic.spans", laid_probecard_logic_spans), ("probecard/logic.characters", laid_probecard_logic_characters)], narrowed := true }
def LogicOrderUptoSaid : Prop := logicOrderUptoRow.holds Tryd.pinned (OpenSpec.upto logicOrderSpec)

/-- 'probecardlaw01.LogicDual', WHERE WHAT IT READS IS OF BULK AT MOST 1048576: true; the input reads as it did. -/
def logicDualUptoRow : OpenClaim := { program := "ytdanmepbdjfpfaadoor", sum := "b514714f757dccb7e98d15ab312074388ca0d9158a1e68d6daa48a817d8fb6ac", func := "probecard/probecardlaw01.LogicDual", spec := "logicDual", unfollowed := true, recurses := true, named := ["probecard/logic.spans", "probecard/logic.characters"], apart := false, laid := [("probecard/logic.spans", laid_probecard_logic_spans), ("probecard/logic.characters", laid_probecard_logic_characters)], narrowed := true }
def LogicDualUptoSaid : Prop := logicDualUptoRow.holds Tryd.pinned (OpenSpec.upto logicDualSpec)

/-- 'probecardlaw01.LogicControl', WHERE WHAT IT READS IS OF BULK AT MOST 1048576: true; the input reads as it did. -/
def logicControlUptoRow : OpenClaim := { program := "ytdanmepbdjfpfaadoor", sum := "b514714f757dccb7e98d15ab312074388ca0d9158a1e68d6daa48a817d8fb6ac", func := "probecard/probecardlaw01.LogicControl", spec := "logicControl", unfollowed := true, recurses := true, named := ["probecard/logic.spans", "probecard/logic.characters"], apart := false, laid := [("probecard/logic.spans", laid_probecard_logic_spans), ("probecard/logic.characters", laid_probecard_logic_characters)], narrowed := true }
def LogicControlUptoSaid : Prop := logicControlUptoRow.holds Tryd.pinned (OpenSpec.upto logicControlSpec)

/-- 'probecardlaw01.LogicTexts', WHERE WHAT IT READS IS OF BULK AT MOST 1048576: true; the input reads as it did. -/
def logicTextsUptoRow : OpenClaim := { program := "ytdanmepbdjfpfaadoor", sum := "b514714f757dccb7e98d15ab312074388ca0d9158a1e68d6daa48a817d8fb6ac", func := "probecard/probecardlaw01.LogicTexts", spec := "logicTexts", unfollowed := true, recurses := true, named := ["probecard/logic.spans", "probecard/logic.characters"], apart := false, laid := [("probecard/logic.spans", laid_probecard_logic_spans), ("probecard/logic.characters", laid_probecard_logic_characters)], narrowed := true }
def LogicTextsUptoSaid : Prop := logicTextsUptoRow.holds Tryd.pinned (OpenSpec.upto logicTextsSpec)

end Rows
end Go.Proofs.YtdanmepbdjfpfaaDoor
