/-
  NARROWER THAN 'FOR EVERY INPUT', by the rows' own cells (each row's printed sentence says how): MemoriesCycle: laid · MemoriesErrors: laid · MemoriesMonotone: laid · MemoriesPlain: laid.
  DERIVED. THE GIVEN ROWS OF THIS SEAT. 4 by the template 'for every input the law returns true; each argument reads behind the call as it read before'; 0 by the template 'total and deterministic' (their statements: YtemjmfpcopfdbaaGreatDoorTotals.lean).
  GIVEN WITH THE SEED: the statements are not yours to turn. If you find one false, say at which input.
  Laid BY PROGRAM, IN A SANDBOX (cutbox-rows.mjs): the forced cells as the released guide's own fill.sh prints them over the translation 7c7bdd1308990c39… (all of the seat's roots in one cut). By AI agents, Wed Nov 11 2026. No macro, syntax, notation, axiom, sorry.
-/
import Derived.Test.YtemjmfpcopfdbaaGreatDoorChecked
import GoSem.Claim
import GoSem.ClaimJoined
import GoSem.ClaimMapViews
import Derived.JoinedTies
import Derived.KernelRfl
namespace Go.Proofs.YtemjmfpcopfdbaaGreatDoor
/- THE CELL 'sum', in the pinned program and in every row, IS THE sha256 OF THE DUMP (.gsa) THAT YtemjmfpcopfdbaaGreatDoorProg.lean LOADS. Nothing in Lean hashes anything: it is a label: what it is worth is what the hold of that sum in a sandbox is worth. -/
noncomputable def Tryz.pinned : Pinned := { name := "ytemjmfpcopfdbaagreatdoor", sum := "7c7bdd1308990c3961086b198af4cb07ee7a2dcb0da24d3a6b324754646b595d", checked := Tryz.checked }
namespace Rows
def none {H : Type} : Left H := { results := [], args := [] }

/- WHAT THE LISTED PACKAGE-LEVEL VARIABLES READ AS WHEN THE CALL BEGINS. Each datum BY PROGRAM (the guide's laid-datum.mjs) off the statement by which the dump's own 'gosem.cut.vars' lays the variable. In a bare row this is a premise. The card (YtemjmfpcopfdbaaGreatDoorCards.lean) ties it to the program's text. -/
def laid_probecard_logic_spans {H : Type} : DataW H := .agg [.agg [.lit (.int .i64 0), .lit (.int .i64 0)], .agg [.lit (.int .i64 0), .lit (.int .i64 0)], .agg [.lit (.int .i64 0), .lit (.int .i64 0)], .agg [.lit (.int .i64 1), .lit (.int .i64 1)], .agg [.lit (.int .i64 1), .lit (.int .i64 1)], .agg [.lit (.int .i64 2), .lit (.int .i64 16)], .agg [.lit (.int .i64 2), .lit (.int .i64 16)], .agg [.lit (.int .i64 2), .lit (.int .i64 16)], .agg [.lit (.int .i64 2), .lit (.int .i64 16)], .agg [.lit (.int .i64 2), .lit (.int .i64 16)], .agg [.lit (.int .i64 2), .lit (.int .i64 16)], .agg [.lit (.int .i64 3), .lit (.int .i64 3)], .agg [.lit (.int .i64 2), .lit (.int .i64 2)], .agg [.lit (.int .i64 1), .lit (.int .i64 16)], .agg [.lit (.int .i64 1), .lit (.int .i64 1)], .agg [.lit (.int .i64 0), .lit (.int .i64 0)]]
def laid_probecard_logic_characters {H : Type} : DataW H := .agg [.lit (.int .u8 48), .lit (.int .u8 49), .lit (.int .u8 88), .lit (.int .u8 90)]

/-- 'probecardlaw09.MemoriesCycle': WHATEVER THE INPUT: true; the input reads as it did. -/
def memoriesCycleSpec : ChangeSpec := { name := "memoriesCycle", fn := fun _ => fun
  | [d1, d2] => { results := [.lit (.bool true)], args := [d1, d2] }
  | _ => none }
def memoriesCycleRow : OpenClaim := { program := "ytemjmfpcopfdbaagreatdoor", sum := "7c7bdd1308990c3961086b198af4cb07ee7a2dcb0da24d3a6b324754646b595d", func := "probecard/probecardlaw09.MemoriesCycle", spec := "memoriesCycle", unfollowed := true, recurses := true, named := ["probecard/logic.spans", "probecard/logic.characters"], apart := false, laid := [("probecard/logic.spans", laid_probecard_logic_spans), ("probecard/logic.characters", laid_probecard_logic_characters)] }
def MemoriesCycleSaid : Prop := memoriesCycleRow.holds Tryz.pinned (OpenSpec.ofChange memoriesCycleSpec)

/-- ITS FALSE NEIGHBOUR: 'it returns false'. Refute it at one input. -/
def memoriesCycleWrong : ChangeSpec := { name := "memoriesCycle", fn := fun _ => fun
  | [d1, d2] => { results := [.lit (.bool false)], args := [d1, d2] }
  | _ => none }
def MemoriesCycleWrongFalsely : Prop := memoriesCycleRow.holds Tryz.pinned (OpenSpec.ofChange memoriesCycleWrong)

/-- 'probecardlaw09.MemoriesErrors': WHATEVER THE INPUT: true; the input reads as it did. -/
def memoriesErrorsSpec : ChangeSpec := { name := "memoriesErrors", fn := fun _ => fun
  | [d1, d2, d3] => { results := [.lit (.bool true)], args := [d1, d2, d3] }
  | _ => none }
def memoriesErrorsRow : OpenClaim := { program := "ytemjmfpcopfdbaagreatdoor", sum := "7c7bdd1308990c3961086b198af4cb07ee7a2dcb0da24d3a6b324754646b595d", func := "probecard/probecardlaw09.MemoriesErrors", spec := "memoriesErrors", unfollowed := true, recurses := true, named := ["probecard/logic.characters", "probecard/logic.spans"], apart := false, laid := [("probecard/logic.spans", laid_probecard_logic_spans), ("probecard/logic.characters", laid_probecard_logic_characters)] }
def MemoriesErrorsSaid : Prop := memoriesErrorsRow.holds Tryz.pinned (OpenSpec.ofChange memoriesErrorsSpec)

/-- ITS FALSE NEIGHBOUR: 'it returns false'. Refute it at one input. -/
def memoriesErrorsWrong : ChangeSpec := { name := "memoriesErrors", fn := fun _ => fun
  | [d1, d2, d3] => { results := [.lit (.bool false)], args := [d1, d2, d3] }
  | _ => none }
def MemoriesErrorsWrongFalsely : Prop := memoriesErrorsRow.holds Tryz.pinned (OpenSpec.ofChange memoriesErrorsWrong)

/-- 'probecardlaw09.MemoriesMonotone': WHATEVER THE INPUT: true; the input reads as it did. -/
def memoriesMonotoneSpec : ChangeSpec := { name := "memoriesMonotone", fn := fun _ => fun
  | [d1, d2, d3] => { results := [.lit (.bool true)], args := [d1, d2, d3] }
  | _ => none }
def memoriesMonotoneRow : OpenClaim := { program := "ytemjmfpcopfdbaagreatdoor", sum := "7c7bdd1308990c3961086b198af4cb07ee7a2dcb0da24d3a6b324754646b595d", func := "probecard/probecardlaw09.MemoriesMonotone", spec := "memoriesMonotone", unfollowed := true, recurses := true, named := ["probecard/logic.spans", "probecard/logic.characters"], apart := false, laid := [("probecard/logic.spans", laid_probecard_logic_spans), ("probecard/logic.characters", laid_probecard_logic_characters)] }
def MemoriesMonotoneSaid : Prop := memoriesMonotoneRow.holds Tryz.pinned (OpenSpec.ofChange memoriesMonotoneSpec)

/-- ITS FALSE NEIGHBOUR: 'it returns false'. Refute it at one input. -/
def memoriesMonotoneWrong : ChangeSpec := { name := "memoriesMonotone", fn := fun _ => fun
  | [d1, d2, d3] => { results := [.lit (.bool false)], args := [d1, d2, d3] }
  | _ => none }
def MemoriesMonotoneWrongFalsely : Prop := memoriesMonotoneRow.holds Tryz.pinned (OpenSpec.ofChange memoriesMonotoneWrong)

/-- 'probecardlaw09.MemoriesPlain': WHATEVER THE INPUT: true; the input reads as it did. -/
def memoriesPlainSpec : ChangeSpec := { name := "memoriesPlain", fn := fun _ => fun
  | [d1, d2] => { results := [.lit (.bool true)], args := [d1, d2] }
  | _ => none }
def memoriesPlainRow : OpenClaim := { program := "ytemjmfpcopfdbaagreatdoor", sum := "7c7bdd1308990c3961086b198af4cb07ee7a2dcb0da24d3a6b324754646b595d", func := "probecard/probecardlaw09.MemoriesPlain", spec := "memoriesPlain", unfollowed := true, recurses := true, named := ["probecard/logic.spans", "probecard/logic.characters"], apart := false, laid := [("probecard/logic.spans", laid_probecard_logic_spans), ("probecard/logic.characters", laid_probecard_logic_characters)] }
def MemoriesPlainSaid : Prop := memoriesPlainRow.holds Tryz.pinned (OpenSpec.ofChange memoriesPlainSpec)

/-- ITS FALSE NEIGHBOUR: 'it returns false'. Refute it at one input. -/
def memoriesPlainWrong : ChangeSpec := { name := "memoriesPlain", fn := fun _ => fun
  | [d1, d2] => { results := [.lit (.bool false)], args := [d1, d2] }
  | _ => none }
def MemoriesPlainWrongFalsely : Prop := memoriesPlainRow.holds Tryz.pinned (OpenSpec.ofChange memoriesPlainWrong)

/- THE SECOND FORM. 'bulk': how many values and letters a reading holds, each counted each time it is reached (what is shared counts as often as it is met; a slice's spare places count too). A statement '..UptoSaid' is the law's where the arguments, and the package variables that the reading takes, are together of bulk at most 1048576: NARROWER than '..Said'. Prove '..Said' where nothing that the law and all that it calls make is longer than what came in: it says more and counts as full. Else prove '..UptoSaid'. A law counts once. -/
mutual
def uptoBulk {H : Type} : DataW H → Nat
  | .lit (.string bytes) => bytes.length + 1
  | .lit _ => 1
  | .nil => 1
  | .ptr d => uptoBulk d + 1
  | .slice elems spare => uptoBulkAll elems + uptoBulkAll spare + 1
  | .agg parts => uptoBulkAll parts + 1
  | .iface _ d => uptoBulk d + 1
  | .map entries => uptoBulkEntries entries + 1
  | .held _ => 1
def uptoBulkAll {H : Type} : List (DataW H) → Nat
  | [] => 0
  | d :: r => uptoBulk d + uptoBulkAll r
def uptoBulkEntries {H : Type} : List (Lit × DataW H) → Nat
  | [] => 0
  | x :: r => uptoBulkEntry x + uptoBulkEntries r
def uptoBulkEntry {H : Type} : Lit × DataW H → Nat
  | (.string bytes, d) => bytes.length + uptoBulk d + 1
  | (_, d) => uptoBulk d + 1
 end
def uptoSmall : (H : Type) → List (DataW H) → Bool := fun _ ds => decide (uptoBulkAll ds ≤ 1048576)
def OpenSpec.upto (s : _root_.Go.ChangeSpec) : _root_.Go.OpenSpec := { _root_.Go.OpenSpec.ofChange s with cond := some uptoSmall }

/-- 'probecardlaw09.MemoriesCycle', WHERE WHAT IT READS IS OF BULK AT MOST 1048576: true; the input reads as it did. -/
def memoriesCycleUptoRow : OpenClaim := { program := "ytemjmfpcopfdbaagreatdoor", sum := "7c7bdd1308990c3961086b198af4cb07ee7a2dcb0da24d3a6b324754646b595d", func := "probecard/probecardlaw09.MemoriesCycle", spec := "memoriesCycle", unfollowed := true, recurses := true, named := ["probecard/logic.spans", "probecard/logic.characters"], apart := false, laid := [("probecard/logic.spans", laid_probecard_logic_spans), ("probecard/logic.characters", laid_probecard_logic_characters)], narrowed := true }
def MemoriesCycleUptoSaid : Prop := memoriesCycleUptoRow.holds Tryz.pinned (OpenSpec.upto memoriesCycleSpec)

/-- 'probecardlaw09.MemoriesErrors', WHERE WHAT IT READS IS OF BULK AT MOST 1048576: true; the input reads as it did. -/
def memoriesErrorsUptoRow : OpenClaim := { program := "ytemjmfpcopfdbaagreatdoor", sum := "7c7bdd1308990c3961086b198af4cb07ee7a2dcb0da24d3a6b324754646b595d", func := "probecard/probecardlaw09.MemoriesErrors", spec := "memoriesErrors", unfollowed := true, recurses := true, named := ["probecard/logic.characters", "probecard/logic.spans"], apart := false, laid := [("probecard/logic.spans", laid_probecard_logic_spans), ("probecard/logic.characters", laid_probecard_logic_characters)], narrowed := true }
def MemoriesErrorsUptoSaid : Prop := memoriesErrorsUptoRow.holds Tryz.pinned (OpenSpec.upto memoriesErrorsSpec)

/-- 'probecardlaw09.MemoriesMonotone', WHERE WHAT IT READS IS OF BULK AT MOST 1048576: true; the input reads as it did. -/
def memoriesMonotoneUptoRow : OpenClaim := { program := "ytemjmfpcopfdbaagreatdoor", sum := "7c7bdd1308990c3961086b198af4cb07ee7a2dcb0da24d3a6b324754646b595d", func := "probecard/probecardlaw09.MemoriesMonotone", spec := "memoriesMonotone", unfollowed := true, recurses := true, named := ["probecard/logic.spans", "probecard/logic.characters"], apart := false, laid := [("probecard/logic.spans", laid_probecard_logic_spans), ("probecard/logic.characters", laid_probecard_logic_characters)], narrowed := true }
def MemoriesMonotoneUptoSaid : Prop := memoriesMonotoneUptoRow.holds Tryz.pinned (OpenSpec.upto memoriesMonotoneSpec)

/-- 'probecardlaw09.MemoriesPlain', WHERE WHAT IT READS IS OF BULK AT MOST 1048576: true; the input reads as it did. -/
def memoriesPlainUptoRow : OpenClaim := { program := "ytemjmfpcopfdbaagreatdoor", sum := "7c7bdd1308990c3961086b198af4cb07ee7a2dcb0da24d3a6b324754646b595d", func := "probecard/probecardlaw09.MemoriesPlain", spec := "memoriesPlain", unfollowed := true, recurses := true, named := ["probecard/logic.spans", "probecard/logic.characters"], apart := false, laid := [("probecard/logic.spans", laid_probecard_logic_spans), ("probecard/logic.characters", laid_probecard_logic_characters)], narrowed := true }
def MemoriesPlainUptoSaid : Prop := memoriesPlainUptoRow.holds Tryz.pinned (OpenSpec.upto memoriesPlainSpec)

end Rows
end Go.Proofs.YtemjmfpcopfdbaaGreatDoor
