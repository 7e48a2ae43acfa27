/-
  NARROWER THAN 'FOR EVERY INPUT', by the rows' own cells (each row's printed sentence says how): ConesErrors: laid · ConesSets: laid · ConesDominators: laid · ConesBlock: laid · ConesRegions: laid · ConesMeets: laid · ConesAgain: laid.
  DERIVED. THE GIVEN ROWS OF THIS SEAT. 7 by the template 'for every input the law returns true; each argument reads behind the call as it read before'; 0 by the template 'total and deterministic' (their statements: YtckgnoopjapknaaDoorTotals.lean).
  GIVEN WITH THE SEED: the statements are not yours to turn. If you find one false, say at which input.
  Laid BY PROGRAM, IN A SANDBOX (cutbox-rows.mjs): the forced cells as the released guide's own fill.sh prints them over the translation 1d4df7d0c1dde229… (all of the seat's roots in one cut). By AI agents, Wed Nov 11 2026. No macro, syntax, notation, axiom, sorry.
-/
import Derived.Test.YtckgnoopjapknaaDoorChecked
import GoSem.Claim
import GoSem.ClaimJoined
import GoSem.ClaimMapViews
import Derived.JoinedTies
import Derived.KernelRfl
namespace Go.Proofs.YtckgnoopjapknaaDoor
/- THE CELL 'sum', in the pinned program and in every row, IS THE sha256 OF THE DUMP (.gsa) THAT YtckgnoopjapknaaDoorProg.lean LOADS. Nothing in Lean hashes anything: it is a label: what it is worth is what the hold of that sum in a sandbox is worth. -/
noncomputable def Tryd.pinned : Pinned := { name := "ytckgnoopjapknaadoor", sum := "1d4df7d0c1dde229d11e01f9b31819a2d0738fb7a0deb46c8800fc0704c7d0f3", checked := Tryd.checked }
namespace Rows
def none {H : Type} : Left H := { results := [], args := [] }

/- WHAT THE LISTED PACKAGE-LEVEL VARIABLES READ AS WHEN THE CALL BEGINS. Each datum BY PROGRAM (the guide's laid-datum.mjs) off the statement by which the dump's own 'gosem.cut.vars' lays the variable. In a bare row this is a premise. The card (YtckgnoopjapknaaDoorCards.lean) ties it to the program's text. -/
def laid_probecard_logic_spans {H : Type} : DataW H := .agg [.agg [.lit (.int .i64 0), .lit (.int .i64 0)], .agg [.lit (.int .i64 0), .lit (.int .i64 0)], .agg [.lit (.int .i64 0), .lit (.int .i64 0)], .agg [.lit (.int .i64 1), .lit (.int .i64 1)], .agg [.lit (.int .i64 1), .lit (.int .i64 1)], .agg [.lit (.int .i64 2), .lit (.int .i64 16)], .agg [.lit (.int .i64 2), .lit (.int .i64 16)], .agg [.lit (.int .i64 2), .lit (.int .i64 16)], .agg [.lit (.int .i64 2), .lit (.int .i64 16)], .agg [.lit (.int .i64 2), .lit (.int .i64 16)], .agg [.lit (.int .i64 2), .lit (.int .i64 16)], .agg [.lit (.int .i64 3), .lit (.int .i64 3)], .agg [.lit (.int .i64 2), .lit (.int .i64 2)], .agg [.lit (.int .i64 1), .lit (.int .i64 16)], .agg [.lit (.int .i64 1), .lit (.int .i64 1)], .agg [.lit (.int .i64 0), .lit (.int .i64 0)]]

/-- 'probecardlaw05.ConesErrors': WHATEVER THE INPUT: true; the input reads as it did. -/
def conesErrorsSpec : ChangeSpec := { name := "conesErrors", fn := fun _ => fun
  | [d1, d2] => { results := [.lit (.bool true)], args := [d1, d2] }
  | _ => none }
def conesErrorsRow : OpenClaim := { program := "ytckgnoopjapknaadoor", sum := "1d4df7d0c1dde229d11e01f9b31819a2d0738fb7a0deb46c8800fc0704c7d0f3", func := "probecard/probecardlaw05.ConesErrors", spec := "conesErrors", unfollowed := true, recurses := true, named := ["probecard/logic.spans"], apart := false, laid := [("probecard/logic.spans", laid_probecard_logic_spans)] }
def ConesErrorsSaid : Prop := conesErrorsRow.holds Tryd.pinned (OpenSpec.ofChange conesErrorsSpec)

/-- ITS FALSE NEIGHBOUR: 'it returns false'. Refute it at one input. -/
def conesErrorsWrong : ChangeSpec := { name := "conesErrors", fn := fun _ => fun
  | [d1, d2] => { results := [.lit (.bool false)], args := [d1, d2] }
  | _ => none }
def ConesErrorsWrongFalsely : Prop := conesErrorsRow.holds Tryd.pinned (OpenSpec.ofChange conesErrorsWrong)

/-- 'probecardlaw05.ConesSets': WHATEVER THE INPUT: true; the input reads as it did. -/
def conesSetsSpec : ChangeSpec := { name := "conesSets", fn := fun _ => fun
  | [d1, d2] => { results := [.lit (.bool true)], args := [d1, d2] }
  | _ => none }
def conesSetsRow : OpenClaim := { program := "ytckgnoopjapknaadoor", sum := "1d4df7d0c1dde229d11e01f9b31819a2d0738fb7a0deb46c8800fc0704c7d0f3", func := "probecard/probecardlaw05.ConesSets", spec := "conesSets", unfollowed := true, recurses := true, named := ["probecard/logic.spans"], apart := false, laid := [("probecard/logic.spans", laid_probecard_logic_spans)] }
def ConesSetsSaid : Prop := conesSetsRow.holds Tryd.pinned (OpenSpec.ofChange conesSetsSpec)

/-- ITS FALSE NEIGHBOUR: 'it returns false'. Refute it at one input. -/
def conesSetsWrong : ChangeSpec := { name := "conesSets", fn := fun _ => fun
  | [d1, d2] => { results := [.lit (.bool false)], args := [d1, d2] }
  | _ => none }
def ConesSetsWrongFalsely : Prop := conesSetsRow.holds Tryd.pinned (OpenSpec.ofChange conesSetsWrong)

/-- 'probecardlaw05.ConesDominators': WHATEVER THE INPUT: true; the input reads as it did. -/
def conesDominatorsSpec : ChangeSpec := { name := "conesDominators", fn := fun _ => fun
  | [d1, d2] => { results := [.lit (.bool true)], args := [d1, d2] }
  | _ => none }
def conesDominatorsRow : OpenClaim := { program := "ytckgnoopjapknaadoor", sum := "1d4df7d0c1dde229d11e01f9b31819a2d0738fb7a0deb46c8800fc0704c7d0f3", func := "probecard/probecardlaw05.ConesDominators", spec := "conesDominators", unfollowed := true, recurses := true, named := ["probecard/logic.spans"], apart := false, laid := [("probecard/logic.spans", laid_probecard_logic_spans)] }
def ConesDominatorsSaid : Prop := conesDominatorsRow.holds Tryd.pinned (OpenSpec.ofChange conesDominatorsSpec)

/-- ITS FALSE NEIGHBOUR: 'it returns false'. Refute it at one input. -/
def conesDominatorsWrong : ChangeSpec := { name := "conesDominators", fn := fun _ => fun
  | [d1, d2] => { results := [.lit (.bool false)], args := [d1, d2] }
  | _ => none }
def ConesDominatorsWrongFalsely : Prop := conesDominatorsRow.holds Tryd.pinned (OpenSpec.ofChange conesDominatorsWrong)

/-- 'probecardlaw05.ConesBlock': WHATEVER THE INPUT: true; the input reads as it did. -/
def conesBlockSpec : ChangeSpec := { name := "conesBlock", fn := fun _ => fun
  | [d1, d2, d3] => { results := [.lit (.bool true)], args := [d1, d2, d3] }
  | _ => none }
def conesBlockRow : OpenClaim := { program := "ytckgnoopjapknaadoor", sum := "1d4df7d0c1dde229d11e01f9b31819a2d0738fb7a0deb46c8800fc0704c7d0f3", func := "probecard/probecardlaw05.ConesBlock", spec := "conesBlock", unfollowed := true, recurses := true, named := ["probecard/logic.spans"], apart := false, laid := [("probecard/logic.spans", laid_probecard_logic_spans)] }
def ConesBlockSaid : Prop := conesBlockRow.holds Tryd.pinned (OpenSpec.ofChange conesBlockSpec)

/-- ITS FALSE NEIGHBOUR: 'it returns false'. Refute it at one input. -/
def conesBlockWrong : ChangeSpec := { name := "conesBlock", fn := fun _ => fun
  | [d1, d2, d3] => { results := [.lit (.bool false)], args := [d1, d2, d3] }
  | _ => none }
def ConesBlockWrongFalsely : Prop := conesBlockRow.holds Tryd.pinned (OpenSpec.ofChange conesBlockWrong)

/-- 'probecardlaw05.ConesRegions': WHATEVER THE INPUT: true; the input reads as it did. -/
def conesRegionsSpec : ChangeSpec := { name := "conesRegions", fn := fun _ => fun
  | [d] => { results := [.lit (.bool true)], args := [d] }
  | _ => none }
def conesRegionsRow : OpenClaim := { program := "ytckgnoopjapknaadoor", sum := "1d4df7d0c1dde229d11e01f9b31819a2d0738fb7a0deb46c8800fc0704c7d0f3", func := "probecard/probecardlaw05.ConesRegions", spec := "conesRegions", unfollowed := true, recurses := true, named := ["probecard/logic.spans"], apart := false, laid := [("probecard/logic.spans", laid_probecard_logic_spans)] }
def ConesRegionsSaid : Prop := conesRegionsRow.holds Tryd.pinned (OpenSpec.ofChange conesRegionsSpec)

/-- ITS FALSE NEIGHBOUR: 'it returns false'. Refute it at one input. -/
def conesRegionsWrong : ChangeSpec := { name := "conesRegions", fn := fun _ => fun
  | [d] => { results := [.lit (.bool false)], args := [d] }
  | _ => none }
def ConesRegionsWrongFalsely : Prop := conesRegionsRow.holds Tryd.pinned (OpenSpec.ofChange conesRegionsWrong)

/-- 'probecardlaw05.ConesMeets': WHATEVER THE INPUT: true; the input reads as it did. -/
def conesMeetsSpec : ChangeSpec := { name := "conesMeets", fn := fun _ => fun
  | [d1, d2] => { results := [.lit (.bool true)], args := [d1, d2] }
  | _ => none }
def conesMeetsRow : OpenClaim := { program := "ytckgnoopjapknaadoor", sum := "1d4df7d0c1dde229d11e01f9b31819a2d0738fb7a0deb46c8800fc0704c7d0f3", func := "probecard/probecardlaw05.ConesMeets", spec := "conesMeets", unfollowed := true, recurses := true, named := ["probecard/logic.spans"], apart := false, laid := [("probecard/logic.spans", laid_probecard_logic_spans)] }
def ConesMeetsSaid : Prop := conesMeetsRow.holds Tryd.pinned (OpenSpec.ofChange conesMeetsSpec)

/-- ITS FALSE NEIGHBOUR: 'it returns false'. Refute it at one input. -/
def conesMeetsWrong : ChangeSpec := { name := "conesMeets", fn := fun _ => fun
  | [d1, d2] => { results := [.lit (.bool false)], args := [d1, d2] }
  | _ => none }
def ConesMeetsWrongFalsely : Prop := conesMeetsRow.holds Tryd.pinned (OpenSpec.ofChange conesMeetsWrong)

/-- 'probecardlaw05.ConesAgain': WHATEVER THE INPUT: true; the input reads as it did. -/
def conesAgainSpec : ChangeSpec := { name := "conesAgain", fn := fun _ => fun
  | [d1, d2] => { results := [.lit (.bool true)], args := [d1, d2] }
  | _ => none }
def conesAgainRow : OpenClaim := { program := "ytckgnoopjapknaadoor", sum := "1d4df7d0c1dde229d11e01f9b31819a2d0738fb7a0deb46c8800fc0704c7d0f3", func := "probecard/probecardlaw05.ConesAgain", spec := "conesAgain", unfollowed := true, recurses := true, named := ["probecard/logic.spans"], apart := false, laid := [("probecard/logic.spans", laid_probecard_logic_spans)] }
def ConesAgainSaid : Prop := conesAgainRow.holds Tryd.pinned (OpenSpec.ofChange conesAgainSpec)

/-- ITS FALSE NEIGHBOUR: 'it returns false'. Refute it at one input. -/
def conesAgainWrong : ChangeSpec := { name := "conesAgain", fn := fun _ => fun
  | [d1, d2] => { results := [.lit (.bool false)], args := [d1, d2] }
  | _ => none }
def ConesAgainWrongFalsely : Prop := conesAgainRow.holds Tryd.pinned (OpenSpec.ofChange conesAgainWrong)

/- THE SECOND FORM. 'bulk': how many values and letters a reading holds, each counted each time it is reached (what is shared counts as often as it is met; a slice's spare places count too). A statement '..UptoSaid' is the law's where the arguments, and the package variables that the reading takes, are together of bulk at most 1048576: NARROWER than '..Said'. Prove '..Said' where nothing that the law and all that it calls make is longer than what came in: it says more and counts as full. Else prove '..UptoSaid'. A law counts once. -/
mutual
def uptoBulk {H : Type} : DataW H → Nat
  | .lit (.string bytes) => bytes.length + 1
  | .lit _ => 1
  | .nil => 1
  | .ptr d => uptoBulk d + 1
  | .slice elems spare => uptoBulkAll elems + uptoBulkAll spare + 1
  | .agg parts => uptoBulkAll parts + 1
  | .iface _ d => uptoBulk d + 1
  | .map entries => uptoBulkEntries entries + 1
  | .held _ => 1
def uptoBulkAll {H : Type} : List (DataW H) → Nat
  | [] => 0
  | d :: r => uptoBulk d + uptoBulkAll r
def uptoBulkEntries {H : Type} : List (Lit × DataW H) → Nat
  | [] => 0
  | x :: r => uptoBulkEntry x + uptoBulkEntries r
def uptoBulkEntry {H : Type} : Lit × DataW H → Nat
  | (.string bytes, d) => bytes.length + uptoBulk d + 1
  | (_, d) => uptoBulk d + 1
 end
def uptoSmall : (H : Type) → List (DataW H) → Bool := fun _ ds => decide (uptoBulkAll ds ≤ 1048576)
def OpenSpec.upto (s : _root_.Go.ChangeSpec) : _root_.Go.OpenSpec := { _root_.Go.OpenSpec.ofChange s with cond := some uptoSmall }

/-- 'probecardlaw05.ConesErrors', WHERE WHAT IT READS IS OF BULK AT MOST 1048576: true; the input reads as it did. -/
def conesErrorsUptoRow : OpenClaim := { program := "ytckgnoopjapknaadoor", sum := "1d4df7d0c1dde229d11e01f9b31819a2d0738fb7a0deb46c8800fc0704c7d0f3", func := "probecard/probecardlaw05.ConesErrors", spec := "conesErrors", unfollowed := true, recurses := true, named := ["probecard/logic.spans"], apart := false, laid := [("probecard/logic.spans", laid_probecard_logic_spans)], narrowed := true }
def ConesErrorsUptoSaid : Prop := conesErrorsUptoRow.holds Tryd.pinned (OpenSpec.upto conesErrorsSpec)

/-- 'probecardlaw05.ConesSets', WHERE WHAT IT READS IS OF BULK AT MOST 1048576: true; the input reads as it did. -/
def conesSetsUptoRow : OpenClaim := { program := "ytckgnoopjapknaadoor", sum := "1d4df7d0c1dde229d11e01f9b31819a2d0738fb7a0deb46c8800fc0704c7d0f3", func := "probecard/probecardlaw05.ConesSets", spec := "conesSets", unfollowed := true, recurses := true, named := ["probecard/logic.spans"], apart := false, laid := [("probecard/logic.spans", laid_probecard_logic_spans)], narrowed := true }
def ConesSetsUptoSaid : Prop := conesSetsUptoRow.holds Tryd.pinned (OpenSpec.upto conesSetsSpec)

/-- 'probecardlaw05.ConesDominators', WHERE WHAT IT READS IS OF BULK AT MOST 1048576: true; the input reads as it did. -/
def conesDominatorsUptoRow : OpenClaim := { program := "ytckgnoopjapknaadoor", sum := "1d4df7d0c1dde229d11e01f9b31819a2d0738fb7a0deb46c8800fc0704c7d0f3", func := "probecard/probecardlaw05.ConesDominators", spec := "conesDominators", unfollowed := true, recurses := true, named := ["probecard/logic.spans"], apart := false, laid := [("probecard/logic.spans", laid_probecard_logic_spans)], narrowed := true }
def ConesDominatorsUptoSaid : Prop := conesDominatorsUptoRow.holds Tryd.pinned (OpenSpec.upto conesDominatorsSpec)

/-- 'probecardlaw05.ConesBlock', WHERE WHAT IT READS IS OF BULK AT MOST 1048576: true; the input reads as it did. -/
def conesBlockUptoRow : OpenClaim := { program := "ytckgnoopjapknaadoor", sum := "1d4df7d0c1dde229d11e01f9b31819a2d0738fb7a0deb46c8800fc0704c7d0f3", func := "probecard/probecardlaw05.ConesBlock", spec := "conesBlock", unfollowed := true, recurses := true, named := ["probecard/logic.spans"], apart := false, laid := [("probecard/logic.spans", laid_probecard_logic_spans)], narrowed := true }
def ConesBlockUptoSaid : Prop := conesBlockUptoRow.holds Tryd.pinned (OpenSpec.upto conesBlockSpec)

/-- 'probecardlaw05.ConesRegions', WHERE WHAT IT READS IS OF BULK AT MOST 1048576: true; the input reads as it did. -/
def conesRegionsUptoRow : OpenClaim := { program := "ytckgnoopjapknaadoor", sum := "1d4df7d0c1dde229d11e01f9b31819a2d0738fb7a0deb46c8800fc0704c7d0f3", func := "probecard/probecardlaw05.ConesRegions", spec := "conesRegions", unfollowed := true, recurses := true, named := ["probecard/logic.spans"], apart := false, laid := [("probecard/logic.spans", laid_probecard_logic_spans)], narrowed := true }
def ConesRegionsUptoSaid : Prop := conesRegionsUptoRow.holds Tryd.pinned (OpenSpec.upto conesRegionsSpec)

/-- 'probecardlaw05.ConesMeets', WHERE WHAT IT READS IS OF BULK AT MOST 1048576: true; the input reads as it did. -/
def conesMeetsUptoRow : OpenClaim := { program := "ytckgnoopjapknaadoor", sum := "1d4df7d0c1dde229d11e01f9b31819a2d0738fb7a0deb46c8800fc0704c7d0f3", func := "probecard/probecardlaw05.ConesMeets", spec := "conesMeets", unfollowed := true, recurses := true, named := ["probecard/logic.spans"], apart := false, laid := [("probecard/logic.spans", laid_probecard_logic_spans)], narrowed := true }
def ConesMeetsUptoSaid : Prop := conesMeetsUptoRow.holds Tryd.pinned (OpenSpec.upto conesMeetsSpec)

/-- 'probecardlaw05.ConesAgain', WHERE WHAT IT READS IS OF BULK AT MOST 1048576: true; the input reads as it did. -/
def conesAgainUptoRow : OpenClaim := { program := "ytckgnoopjapknaadoor", sum := "1d4df7d0c1dde229d11e01f9b31819a2d0738fb7a0deb46c8800fc0704c7d0f3", func := "probecard/probecardlaw05.ConesAgain", spec := "conesAgain", unfollowed := true, recurses := true, named := ["probecard/logic.spans"], apart := false, laid := [("probecard/logic.spans", laid_probecard_logic_spans)], narrowed := true }
def ConesAgainUptoSaid : Prop := conesAgainUptoRow.holds Tryd.pinned (OpenSpec.upto conesAgainSpec)

end Rows
end Go.Proofs.YtckgnoopjapknaaDoor
