/-
  NARROWER THAN 'FOR EVERY INPUT', by the rows' own cells (each row's printed sentence says how): ConesErrors: laid · ConesBlock: laid.
  DERIVED. THE GIVEN ROWS OF THIS SEAT. 2 by the template 'for every input the law returns true; each argument reads behind the call as it read before'; 0 by the template 'total and deterministic' (their statements: YtjdjcaobkmpoeaaDoorTotals.lean).
  GIVEN WITH THE SEED: the statements are not yours to turn. If you find one false, say at which input.
  Laid BY PROGRAM, IN A SANDBOX (cutbox-rows.mjs): the forced cells as the released guide's own fill.sh prints them over the translation 15b8c42c4361ea18… (all of the seat's roots in one cut). By AI agents, Wed Nov 11 2026. No macro, syntax, notation, axiom, sorry.
-/
import Derived.Test.YtjdjcaobkmpoeaaDoorChecked
import GoSem.Claim
import GoSem.ClaimJoined
import GoSem.ClaimMapViews
import Derived.JoinedTies
import Derived.KernelRfl
namespace Go.Proofs.YtjdjcaobkmpoeaaDoor
/- THE CELL 'sum', in the pinned program and in every row, IS THE sha256 OF THE DUMP (.gsa) THAT YtjdjcaobkmpoeaaDoorProg.lean LOADS. Nothing in Lean hashes anything: it is a label: what it is worth is what the hold of that sum in a sandbox is worth. -/
noncomputable def Tryd.pinned : Pinned := { name := "ytjdjcaobkmpoeaadoor", sum := "15b8c42c4361ea18fd91461a1139863b1beaa9ba0705787e45d9cf23ac180f02", checked := Tryd.checked }
namespace Rows
def none {H : Type} : Left H := { results := [], args := [] }

/- WHAT THE LISTED PACKAGE-LEVEL VARIABLES READ AS WHEN THE CALL BEGINS. Each datum BY PROGRAM (the guide's laid-datum.mjs) off the statement by which the dump's own 'gosem.cut.vars' lays the variable. In a bare row this is a premise. The card (YtjdjcaobkmpoeaaDoorCards.lean) ties it to the program's text. -/
def laid_probecard_logic_spans {H : Type} : DataW H := .agg [.agg [.lit (.int .i64 0), .lit (.int .i64 0)], .agg [.lit (.int .i64 0), .lit (.int .i64 0)], .agg [.lit (.int .i64 0), .lit (.int .i64 0)], .agg [.lit (.int .i64 1), .lit (.int .i64 1)], .agg [.lit (.int .i64 1), .lit (.int .i64 1)], .agg [.lit (.int .i64 2), .lit (.int .i64 16)], .agg [.lit (.int .i64 2), .lit (.int .i64 16)], .agg [.lit (.int .i64 2), .lit (.int .i64 16)], .agg [.lit (.int .i64 2), .lit (.int .i64 16)], .agg [.lit (.int .i64 2), .lit (.int .i64 16)], .agg [.lit (.int .i64 2), .lit (.int .i64 16)], .agg [.lit (.int .i64 3), .lit (.int .i64 3)], .agg [.lit (.int .i64 2), .lit (.int .i64 2)], .agg [.lit (.int .i64 1), .lit (.int .i64 16)], .agg [.lit (.int .i64 1), .lit (.int .i64 1)], .agg [.lit (.int .i64 0), .lit (.int .i64 0)]]

/-- 'probecardlaw05.ConesErrors': WHATEVER THE INPUT: true; the input reads as it did. -/
def conesErrorsSpec : ChangeSpec := { name := "conesErrors", fn := fun _ => fun
  | [d1, d2] => { results := [.lit (.bool true)], args := [d1, d2] }
  | _ => none }
def conesErrorsRow : OpenClaim := { program := "ytjdjcaobkmpoeaadoor", sum := "15b8c42c4361ea18fd91461a1139863b1beaa9ba0705787e45d9cf23ac180f02", func := "probecard/probecardlaw05.ConesErrors", spec := "conesErrors", unfollowed := true, recurses := true, named := ["probecard/logic.spans"], apart := false, laid := [("probecard/logic.spans", laid_probecard_logic_spans)] }
def ConesErrorsSaid : Prop := conesErrorsRow.holds Tryd.pinned (OpenSpec.ofChange conesErrorsSpec)

/-- ITS FALSE NEIGHBOUR: 'it returns false'. Refute it at one input. -/
def conesErrorsWrong : ChangeSpec := { name := "conesErrors", fn := fun _ => fun
  | [d1, d2] => { results := [.lit (.bool false)], args := [d1, d2] }
  | _ => none }
def ConesErrorsWrongFalsely : Prop := conesErrorsRow.holds Tryd.pinned (OpenSpec.ofChange conesErrorsWrong)

/-- 'probecardlaw05.ConesBlock': WHATEVER THE INPUT: true; the input reads as it did. -/
def conesBlockSpec : ChangeSpec := { name := "conesBlock", fn := fun _ => fun
  | [d1, d2, d3] => { results := [.lit (.bool true)], args := [d1, d2, d3] }
  | _ => none }
def conesBlockRow : OpenClaim := { program := "ytjdjcaobkmpoeaadoor", sum := "15b8c42c4361ea18fd91461a1139863b1beaa9ba0705787e45d9cf23ac180f02", func := "probecard/probecardlaw05.ConesBlock", spec := "conesBlock", unfollowed := true, recurses := true, named := ["probecard/logic.spans"], apart := false, laid := [("probecard/logic.spans", laid_probecard_logic_spans)] }
def ConesBlockSaid : Prop := conesBlockRow.holds Tryd.pinned (OpenSpec.ofChange conesBlockSpec)

/-- ITS FALSE NEIGHBOUR: 'it returns false'. Refute it at one input. -/
def conesBlockWrong : ChangeSpec := { name := "conesBlock", fn := fun _ => fun
  | [d1, d2, d3] => { results := [.lit (.bool false)], args := [d1, d2, d3] }
  | _ => none }
def ConesBlockWrongFalsely : Prop := conesBlockRow.holds Tryd.pinned (OpenSpec.ofChange conesBlockWrong)

/- THE SECOND FORM. 'bulk': how many values and letters a reading holds, each counted each time it is reached (what is shared counts as often as it is met; a slice's spare places count too). A statement '..UptoSaid' is the law's where the arguments, and the package variables that the reading takes, are together of bulk at most 1048576: NARROWER than '..Said'. Prove '..Said' where nothing that the law and all that it calls make is longer than what came in: it says more and counts as full. Else prove '..UptoSaid'. A law counts once. -/
mutual
def uptoBulk {H : Type} : DataW H → Nat
  | .lit (.string bytes) => bytes.length + 1
  | .lit _ => 1
  | .nil => 1
  | .ptr d => uptoBulk d + 1
  | .slice elems spare => uptoBulkAll elems + uptoBulkAll spare + 1
  | .agg parts => uptoBulkAll parts + 1
  | .iface _ d => uptoBulk d + 1
  | .map entries => uptoBulkEntries entries + 1
  | .held _ => 1
def uptoBulkAll {H : Type} : List (DataW H) → Nat
  | [] => 0
  | d :: r => uptoBulk d + uptoBulkAll r
def uptoBulkEntries {H : Type} : List (Lit × DataW H) → Nat
  | [] => 0
  | x :: r => uptoBulkEntry x + uptoBulkEntries r
def uptoBulkEntry {H : Type} : Lit × DataW H → Nat
  | (.string bytes, d) => bytes.length + uptoBulk d + 1
  | (_, d) => uptoBulk d + 1
 end
def uptoSmall : (H : Type) → List (DataW H) → Bool := fun _ ds => decide (uptoBulkAll ds ≤ 1048576)
def OpenSpec.upto (s : _root_.Go.ChangeSpec) : _root_.Go.OpenSpec := { _root_.Go.OpenSpec.ofChange s with cond := some uptoSmall }

/-- 'probecardlaw05.ConesErrors', WHERE WHAT IT READS IS OF BULK AT MOST 1048576: true; the input reads as it did. -/
def conesErrorsUptoRow : OpenClaim := { program := "ytjdjcaobkmpoeaadoor", sum := "15b8c42c4361ea18fd91461a1139863b1beaa9ba0705787e45d9cf23ac180f02", func := "probecard/probecardlaw05.ConesErrors", spec := "conesErrors", unfollowed := true, recurses := true, named := ["probecard/logic.spans"], apart := false, laid := [("probecard/logic.spans", laid_probecard_logic_spans)], narrowed := true }
def ConesErrorsUptoSaid : Prop := conesErrorsUptoRow.holds Tryd.pinned (OpenSpec.upto conesErrorsSpec)

/-- 'probecardlaw05.ConesBlock', WHERE WHAT IT READS IS OF BULK AT MOST 1048576: true; the input reads as it did. -/
def conesBlockUptoRow : OpenClaim := { program := "ytjdjcaobkmpoeaadoor", sum := "15b8c42c4361ea18fd91461a1139863b1beaa9ba0705787e45d9cf23ac180f02", func := "probecard/probecardlaw05.ConesBlock", spec := "conesBlock", unfollowed := true, recurses := true, named := ["probecard/logic.spans"], apart := false, laid := [("probecard/logic.spans", laid_probecard_logic_spans)], narrowed := true }
def ConesBlockUptoSaid : Prop := conesBlockUptoRow.holds Tryd.pinned (OpenSpec.upto conesBlockSpec)

end Rows
end Go.Proofs.YtjdjcaobkmpoeaaDoor
