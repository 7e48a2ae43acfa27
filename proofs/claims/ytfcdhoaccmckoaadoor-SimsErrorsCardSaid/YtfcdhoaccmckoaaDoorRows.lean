/-
  NARROWER THAN 'FOR EVERY INPUT', by the rows' own cells (each row's printed sentence says how): SimsErrors: laid · SimsMonotone: laid · SimsUnique: laid · SimsKnown: laid · SimsObserve: laid · SimsFanin: laid.
  DERIVED. THE GIVEN ROWS OF THIS SEAT. 6 by the template 'for every input the law returns true; each argument reads behind the call as it read before'; 0 by the template 'total and deterministic' (their statements: YtfcdhoaccmckoaaDoorTotals.lean).
  GIVEN WITH THE SEED: the statements are not yours to turn. If you find one false, say at which input.
  Laid BY PROGRAM, IN A SANDBOX (cutbox-rows.mjs): the forced cells as the released guide's own fill.sh prints them over the translation 4eb8a5e9304cc7c9… (all of the seat's roots in one cut). By AI agents, Wed Nov 11 2026. No macro, syntax, notation, axiom, sorry.
-/
import Derived.Test.YtfcdhoaccmckoaaDoorChecked
import GoSem.Claim
import GoSem.ClaimJoined
import GoSem.ClaimMapViews
import Derived.JoinedTies
import Derived.KernelRfl
namespace Go.Proofs.YtfcdhoaccmckoaaDoor
/- THE CELL 'sum', in the pinned program and in every row, IS THE sha256 OF THE DUMP (.gsa) THAT YtfcdhoaccmckoaaDoorProg.lean LOADS. Nothing in Lean hashes anything: it is a label: what it is worth is what the hold of that sum in a sandbox is worth. -/
noncomputable def Tryd.pinned : Pinned := { name := "ytfcdhoaccmckoaadoor", sum := "4eb8a5e9304cc7c96078dad348ad47571dc62c63a09a7dc4f18dd8b761a451be", checked := Tryd.checked }
namespace Rows
def none {H : Type} : Left H := { results := [], args := [] }

/- WHAT THE LISTED PACKAGE-LEVEL VARIABLES READ AS WHEN THE CALL BEGINS. Each datum BY PROGRAM (the guide's laid-datum.mjs) off the statement by which the dump's own 'gosem.cut.vars' lays the variable. In a bare row this is a premise. The card (YtfcdhoaccmckoaaDoorCards.lean) ties it to the program's text. -/
def laid_probecard_logic_spans {H : Type} : DataW H := .agg [.agg [.lit (.int .i64 0), .lit (.int .i64 0)], .agg [.lit (.int .i64 0), .lit (.int .i64 0)], .agg [.lit (.int .i64 0), .lit (.int .i64 0)], .agg [.lit (.int .i64 1), .lit (.int .i64 1)], .agg [.lit (.int .i64 1), .lit (.int .i64 1)], .agg [.lit (.int .i64 2), .lit (.int .i64 16)], .agg [.lit (.int .i64 2), .lit (.int .i64 16)], .agg [.lit (.int .i64 2), .lit (.int .i64 16)], .agg [.lit (.int .i64 2), .lit (.int .i64 16)], .agg [.lit (.int .i64 2), .lit (.int .i64 16)], .agg [.lit (.int .i64 2), .lit (.int .i64 16)], .agg [.lit (.int .i64 3), .lit (.int .i64 3)], .agg [.lit (.int .i64 2), .lit (.int .i64 2)], .agg [.lit (.int .i64 1), .lit (.int .i64 16)], .agg [.lit (.int .i64 1), .lit (.int .i64 1)], .agg [.lit (.int .i64 0), .lit (.int .i64 0)]]
def laid_probecard_logic_characters {H : Type} : DataW H := .agg [.lit (.int .u8 48), .lit (.int .u8 49), .lit (.int .u8 88), .lit (.int .u8 90)]

/-- 'probecardlaw06.SimsErrors': WHATEVER THE INPUT: true; the input reads as it did. -/
def simsErrorsSpec : ChangeSpec := { name := "simsErrors", fn := fun _ => fun
  | [d1, d2] => { results := [.lit (.bool true)], args := [d1, d2] }
  | _ => none }
def simsErrorsRow : OpenClaim := { program := "ytfcdhoaccmckoaadoor", sum := "4eb8a5e9304cc7c96078dad348ad47571dc62c63a09a7dc4f18dd8b761a451be", func := "probecard/probecardlaw06.SimsErrors", spec := "simsErrors", unfollowed := true, recurses := true, named := ["probecard/logic.characters", "probecard/logic.spans"], apart := false, laid := [("probecard/logic.spans", laid_probecard_logic_spans), ("probecard/logic.characters", laid_probecard_logic_characters)] }
def SimsErrorsSaid : Prop := simsErrorsRow.holds Tryd.pinned (OpenSpec.ofChange simsErrorsSpec)

/-- ITS FALSE NEIGHBOUR: 'it returns false'. Refute it at one input. -/
def simsErrorsWrong : ChangeSpec := { name := "simsErrors", fn := fun _ => fun
  | [d1, d2] => { results := [.lit (.bool false)], args := [d1, d2] }
  | _ => none }
def SimsErrorsWrongFalsely : Prop := simsErrorsRow.holds Tryd.pinned (OpenSpec.ofChange simsErrorsWrong)

/-- 'probecardlaw06.SimsMonotone': WHATEVER THE INPUT: true; the input reads as it did. -/
def simsMonotoneSpec : ChangeSpec := { name := "simsMonotone", fn := fun _ => fun
  | [d1, d2, d3] => { results := [.lit (.bool true)], args := [d1, d2, d3] }
  | _ => none }
def simsMonotoneRow : OpenClaim := { program := "ytfcdhoaccmckoaadoor", sum := "4eb8a5e9304cc7c96078dad348ad47571dc62c63a09a7dc4f18dd8b761a451be", func := "probecard/probecardlaw06.SimsMonotone", spec := "simsMonotone", unfollowed := true, recurses := true, named := ["probecard/logic.spans", "probecard/logic.characters"], apart := false, laid := [("probecard/logic.spans", laid_probecard_logic_spans), ("probecard/logic.characters", laid_probecard_logic_characters)] }
def SimsMonotoneSaid : Prop := simsMonotoneRow.holds Tryd.pinned (OpenSpec.ofChange simsMonotoneSpec)

/-- ITS FALSE NEIGHBOUR: 'it returns false'. Refute it at one input. -/
def simsMonotoneWrong : ChangeSpec := { name := "simsMonotone", fn := fun _ => fun
  | [d1, d2, d3] => { results := [.lit (.bool false)], args := [d1, d2, d3] }
  | _ => none }
def SimsMonotoneWrongFalsely : Prop := simsMonotoneRow.holds Tryd.pinned (OpenSpec.ofChange simsMonotoneWrong)

/-- 'probecardlaw06.SimsUnique': WHATEVER THE INPUT: true; the input reads as it did. -/
def simsUniqueSpec : ChangeSpec := { name := "simsUnique", fn := fun _ => fun
  | [d1, d2, d3] => { results := [.lit (.bool true)], args := [d1, d2, d3] }
  | _ => none }
def simsUniqueRow : OpenClaim := { program := "ytfcdhoaccmckoaadoor", sum := "4eb8a5e9304cc7c96078dad348ad47571dc62c63a09a7dc4f18dd8b761a451be", func := "probecard/probecardlaw06.SimsUnique", spec := "simsUnique", unfollowed := true, recurses := true, named := ["probecard/logic.spans", "probecard/logic.characters"], apart := false, laid := [("probecard/logic.spans", laid_probecard_logic_spans), ("probecard/logic.characters", laid_probecard_logic_characters)] }
def SimsUniqueSaid : Prop := simsUniqueRow.holds Tryd.pinned (OpenSpec.ofChange simsUniqueSpec)

/-- ITS FALSE NEIGHBOUR: 'it returns false'. Refute it at one input. -/
def simsUniqueWrong : ChangeSpec := { name := "simsUnique", fn := fun _ => fun
  | [d1, d2, d3] => { results := [.lit (.bool false)], args := [d1, d2, d3] }
  | _ => none }
def SimsUniqueWrongFalsely : Prop := simsUniqueRow.holds Tryd.pinned (OpenSpec.ofChange simsUniqueWrong)

/-- 'probecardlaw06.SimsKnown': WHATEVER THE INPUT: true; the input reads as it did. -/
def simsKnownSpec : ChangeSpec := { name := "simsKnown", fn := fun _ => fun
  | [d1, d2, d3] => { results := [.lit (.bool true)], args := [d1, d2, d3] }
  | _ => none }
def simsKnownRow : OpenClaim := { program := "ytfcdhoaccmckoaadoor", sum := "4eb8a5e9304cc7c96078dad348ad47571dc62c63a09a7dc4f18dd8b761a451be", func := "probecard/probecardlaw06.SimsKnown", spec := "simsKnown", unfollowed := true, recurses := true, named := ["probecard/logic.spans", "probecard/logic.characters"], apart := false, laid := [("probecard/logic.spans", laid_probecard_logic_spans), ("probecard/logic.characters", laid_probecard_logic_characters)] }
def SimsKnownSaid : Prop := simsKnownRow.holds Tryd.pinned (OpenSpec.ofChange simsKnownSpec)

/-- ITS FALSE NEIGHBOUR: 'it returns false'. Refute it at one input. -/
def simsKnownWrong : ChangeSpec := { name := "simsKnown", fn := fun _ => fun
  | [d1, d2, d3] => { results := [.lit (.bool false)], args := [d1, d2, d3] }
  | _ => none }
def SimsKnownWrongFalsely : Prop := simsKnownRow.holds Tryd.pinned (OpenSpec.ofChange simsKnownWrong)

/-- 'probecardlaw06.SimsObserve': WHATEVER THE INPUT: true; the input reads as it did. -/
def simsObserveSpec : ChangeSpec := { name := "simsObserve", fn := fun _ => fun
  | [d1, d2] => { results := [.lit (.bool true)], args := [d1, d2] }
  | _ => none }
def simsObserveRow : OpenClaim := { program := "ytfcdhoaccmckoaadoor", sum := "4eb8a5e9304cc7c96078dad348ad47571dc62c63a09a7dc4f18dd8b761a451be", func := "probecard/probecardlaw06.SimsObserve", spec := "simsObserve", unfollowed := true, recurses := true, named := ["probecard/logic.characters", "probecard/logic.spans"], apart := false, laid := [("probecard/logic.spans", laid_probecard_logic_spans), ("probecard/logic.characters", laid_probecard_logic_characters)] }
def SimsObserveSaid : Prop := simsObserveRow.holds Tryd.pinned (OpenSpec.ofChange simsObserveSpec)

/-- ITS FALSE NEIGHBOUR: 'it returns false'. Refute it at one input. -/
def simsObserveWrong : ChangeSpec := { name := "simsObserve", fn := fun _ => fun
  | [d1, d2] => { results := [.lit (.bool false)], args := [d1, d2] }
  | _ => none }
def SimsObserveWrongFalsely : Prop := simsObserveRow.holds Tryd.pinned (OpenSpec.ofChange simsObserveWrong)

/-- 'probecardlaw06.SimsFanin': WHATEVER THE INPUT: true; the input reads as it did. -/
def simsFaninSpec : ChangeSpec := { name := "simsFanin", fn := fun _ => fun
  | [d1, d2, d3] => { results := [.lit (.bool true)], args := [d1, d2, d3] }
  | _ => none }
def simsFaninRow : OpenClaim := { program := "ytfcdhoaccmckoaadoor", sum := "4eb8a5e9304cc7c96078dad348ad47571dc62c63a09a7dc4f18dd8b761a451be", func := "probecard/probecardlaw06.SimsFanin", spec := "simsFanin", unfollowed := true, recurses := true, named := ["probecard/logic.spans", "probecard/logic.characters"], apart := false, laid := [("probecard/logic.spans", laid_probecard_logic_spans), ("probecard/logic.characters", laid_probecard_logic_characters)] }
def SimsFaninSaid : Prop := simsFaninRow.holds Tryd.pinned (OpenSpec.ofChange simsFaninSpec)

/-- ITS FALSE NEIGHBOUR: 'it returns false'. Refute it at one input. -/
def simsFaninWrong : ChangeSpec := { name := "simsFanin", fn := fun _ => fun
  | [d1, d2, d3] => { results := [.lit (.bool false)], args := [d1, d2, d3] }
  | _ => none }
def SimsFaninWrongFalsely : Prop := simsFaninRow.holds Tryd.pinned (OpenSpec.ofChange simsFaninWrong)

/- THE SECOND FORM. 'bulk': how many values and letters a reading holds, each counted each time it is reached (what is shared counts as often as it is met; a slice's spare places count too). A statement '..UptoSaid' is the law's where the arguments, and the package variables that the reading takes, are together of bulk at most 1048576: NARROWER than '..Said'. Prove '..Said' where nothing that the law and all that it calls make is longer than what came in: it says more and counts as full. Else prove '..UptoSaid'. A law counts once. -/
mutual
def uptoBulk {H : Type} : DataW H → Nat
  | .lit (.string bytes) => bytes.length + 1
  | .lit _ => 1
  | .nil => 1
  | .ptr d => uptoBulk d + 1
  | .slice elems spare => uptoBulkAll elems + uptoBulkAll spare + 1
  | .agg parts => uptoBulkAll parts + 1
  | .iface _ d => uptoBulk d + 1
  | .map entries => uptoBulkEntries entries + 1
  | .held _ => 1
def uptoBulkAll {H : Type} : List (DataW H) → Nat
  | [] => 0
  | d :: r => uptoBulk d + uptoBulkAll r
def uptoBulkEntries {H : Type} : List (Lit × DataW H) → Nat
  | [] => 0
  | x :: r => uptoBulkEntry x + uptoBulkEntries r
def uptoBulkEntry {H : Type} : Lit × DataW H → Nat
  | (.string bytes, d) => bytes.length + uptoBulk d + 1
  | (_, d) => uptoBulk d + 1
 end
def uptoSmall : (H : Type) → List (DataW H) → Bool := fun _ ds => decide (uptoBulkAll ds ≤ 1048576)
def OpenSpec.upto (s : _root_.Go.ChangeSpec) : _root_.Go.OpenSpec := { _root_.Go.OpenSpec.ofChange s with cond := some uptoSmall }

/-- 'probecardlaw06.SimsErrors', WHERE WHAT IT READS IS OF BULK AT MOST 1048576: true; the input reads as it did. -/
def simsErrorsUptoRow : OpenClaim := { program := "ytfcdhoaccmckoaadoor", sum := "4eb8a5e9304cc7c96078dad348ad47571dc62c63a09a7dc4f18dd8b761a451be", func := "probecard/probecardlaw06.SimsErrors", spec := "simsErrors", unfollowed := true, recurses := true, named := ["probecard/logic.characters", "probecard/logic.spans"], apart := false, laid := [("probecard/logic.spans", laid_probecard_logic_spans), ("probecard/logic.characters", laid_probecard_logic_characters)], narrowed := true }
def SimsErrorsUptoSaid : Prop := simsErrorsUptoRow.holds Tryd.pinned (OpenSpec.upto simsErrorsSpec)

/-- 'probecardlaw06.SimsMonotone', WHERE WHAT IT READS IS OF BULK AT MOST 1048576: true; the input reads as it did. -/
def simsMonotoneUptoRow : OpenClaim := { program := "ytfcdhoaccmckoaadoor", sum := "4eb8a5e9304cc7c96078dad348ad47571dc62c63a09a7dc4f18dd8b761a451be", func := "probecard/probecardlaw06.SimsMonotone", spec := "simsMonotone", unfollowed := true, recurses := true, named := ["probecard/logic.spans", "probecard/logic.characters"], apart := false, laid := [("probecard/logic.spans", laid_probecard_logic_spans), ("probecard/logic.characters", laid_probecard_logic_characters)], narrowed := true }
def SimsMonotoneUptoSaid : Prop := simsMonotoneUptoRow.holds Tryd.pinned (OpenSpec.upto simsMonotoneSpec)

/-- 'probecardlaw06.SimsUnique', WHERE WHAT IT READS IS OF BULK AT MOST 1048576: true; the input reads as it did. -/
def simsUniqueUptoRow : OpenClaim := { program := "ytfcdhoaccmckoaadoor", sum := "4eb8a5e9304cc7c96078dad348ad47571dc62c63a09a7dc4f18dd8b761a451be", func := "probecard/probecardlaw06.SimsUnique", spec := "simsUnique", unfollowed := true, recurses := true, named := ["probecard/logic.spans", "probecard/logic.characters"], apart := false, laid := [("probecard/logic.spans", laid_probecard_logic_spans), ("probecard/logic.characters", laid_probecard_logic_characters)], narrowed := true }
def SimsUniqueUptoSaid : Prop := simsUniqueUptoRow.holds Tryd.pinned (OpenSpec.upto simsUniqueSpec)

/-- 'probecardlaw06.SimsKnown', WHERE WHAT IT READS IS OF BULK AT MOST 1048576: true; the input reads as it did. -/
def simsKnownUptoRow : OpenClaim := { program := "ytfcdhoaccmckoaadoor", sum := "4eb8a5e9304cc7c96078dad348ad47571dc62c63a09a7dc4f18dd8b761a451be", func := "probecard/probecardlaw06.SimsKnown", spec := "simsKnown", unfollowed := true, recurses := true, named := ["probecard/logic.spans", "probecard/logic.characters"], apart := false, laid := [("probecard/logic.spans", laid_probecard_logic_spans), ("probecard/logic.characters", laid_probecard_logic_characters)], narrowed := true }
def SimsKnownUptoSaid : Prop := simsKnownUptoRow.holds Tryd.pinned (OpenSpec.upto simsKnownSpec)

/-- 'probecardlaw06.SimsObserve', WHERE WHAT IT READS IS OF BULK AT MOST 1048576: true; the input reads as it did. -/
def simsObserveUptoRow : OpenClaim := { program := "ytfcdhoaccmckoaadoor", sum := "4eb8a5e9304cc7c96078dad348ad47571dc62c63a09a7dc4f18dd8b761a451be", func := "probecard/probecardlaw06.SimsObserve", spec := "simsObserve", unfollowed := true, recurses := true, named := ["probecard/logic.characters", "probecard/logic.spans"], apart := false, laid := [("probecard/logic.spans", laid_probecard_logic_spans), ("probecard/logic.characters", laid_probecard_logic_characters)], narrowed := true }
def SimsObserveUptoSaid : Prop := simsObserveUptoRow.holds Tryd.pinned (OpenSpec.upto simsObserveSpec)

/-- 'probecardlaw06.SimsFanin', WHERE WHAT IT READS IS OF BULK AT MOST 1048576: true; the input reads as it did. -/
def simsFaninUptoRow : OpenClaim := { program := "ytfcdhoaccmckoaadoor", sum := "4eb8a5e9304cc7c96078dad348ad47571dc62c63a09a7dc4f18dd8b761a451be", func := "probecard/probecardlaw06.SimsFanin", spec := "simsFanin", unfollowed := true, recurses := true, named := ["probecard/logic.spans", "probecard/logic.characters"], apart := false, laid := [("probecard/logic.spans", laid_probecard_logic_spans), ("probecard/logic.characters", laid_probecard_logic_characters)], narrowed := true }
def SimsFaninUptoSaid : Prop := simsFaninUptoRow.holds Tryd.pinned (OpenSpec.upto simsFaninSpec)

end Rows
end Go.Proofs.YtfcdhoaccmckoaaDoor
