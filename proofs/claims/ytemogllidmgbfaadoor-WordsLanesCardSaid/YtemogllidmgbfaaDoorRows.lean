/-
  NARROWER THAN 'FOR EVERY INPUT', by the rows' own cells (each row's printed sentence says how): WordsLanes: laid · WordsTurned: laid · WordsSame: laid.
  DERIVED. THE GIVEN ROWS OF THIS SEAT. 3 by the template 'for every input the law returns true; each argument reads behind the call as it read before'; 0 by the template 'total and deterministic' (their statements: YtemogllidmgbfaaDoorTotals.lean).
  GIVEN WITH THE SEED: the statements are not yours to turn. If you find one false, say at which input.
  Laid BY PROGRAM, IN A SANDBOX (cutbox-rows.mjs): the forced cells as the released guide's own fill.sh prints them over the translation 8ab137597a7035a5… (all of the seat's roots in one cut). By AI agents, Wed Nov 11 2026. No macro, syntax, notation, axiom, sorry.
-/
import Derived.Test.YtemogllidmgbfaaDoorChecked
import GoSem.Claim
import GoSem.ClaimJoined
import GoSem.ClaimMapViews
import Derived.JoinedTies
import Derived.KernelRfl
namespace Go.Proofs.YtemogllidmgbfaaDoor
/- THE CELL 'sum', in the pinned program and in every row, IS THE sha256 OF THE DUMP (.gsa) THAT YtemogllidmgbfaaDoorProg.lean LOADS. Nothing in Lean hashes anything: it is a label: what it is worth is what the hold of that sum in a sandbox is worth. -/
noncomputable def Tryd.pinned : Pinned := { name := "ytemogllidmgbfaadoor", sum := "8ab137597a7035a5bab1462883840f3c48f63dbcda3d9769bad0496c4325abab", checked := Tryd.checked }
namespace Rows
def none {H : Type} : Left H := { results := [], args := [] }

/- WHAT THE LISTED PACKAGE-LEVEL VARIABLES READ AS WHEN THE CALL BEGINS. Each datum BY PROGRAM (the guide's laid-datum.mjs) off the statement by which the dump's own 'gosem.cut.vars' lays the variable. In a bare row this is a premise. The card (YtemogllidmgbfaaDoorCards.lean) ties it to the program's text. -/
def laid_probecard_logic_spans {H : Type} : DataW H := .agg [.agg [.lit (.int .i64 0), .lit (.int .i64 0)], .agg [.lit (.int .i64 0), .lit (.int .i64 0)], .agg [.lit (.int .i64 0), .lit (.int .i64 0)], .agg [.lit (.int .i64 1), .lit (.int .i64 1)], .agg [.lit (.int .i64 1), .lit (.int .i64 1)], .agg [.lit (.int .i64 2), .lit (.int .i64 16)], .agg [.lit (.int .i64 2), .lit (.int .i64 16)], .agg [.lit (.int .i64 2), .lit (.int .i64 16)], .agg [.lit (.int .i64 2), .lit (.int .i64 16)], .agg [.lit (.int .i64 2), .lit (.int .i64 16)], .agg [.lit (.int .i64 2), .lit (.int .i64 16)], .agg [.lit (.int .i64 3), .lit (.int .i64 3)], .agg [.lit (.int .i64 2), .lit (.int .i64 2)], .agg [.lit (.int .i64 1), .lit (.int .i64 16)], .agg [.lit (.int .i64 1), .lit (.int .i64 1)], .agg [.lit (.int .i64 0), .lit (.int .i64 0)]]
def laid_probecard_logic_characters {H : Type} : DataW H := .agg [.lit (.int .u8 48), .lit (.int .u8 49), .lit (.int .u8 88), .lit (.int .u8 90)]
def laid_probecard_words_full {H : Type} : DataW H := .agg [.agg [.lit (.int .u64 0), .lit (.int .u64 18446744073709551615)], .agg [.lit (.int .u64 18446744073709551615), .lit (.int .u64 0)], .agg [.lit (.int .u64 0), .lit (.int .u64 0)], .agg [.lit (.int .u64 18446744073709551615), .lit (.int .u64 18446744073709551615)]]

/-- 'probecardlaw07.WordsLanes': WHATEVER THE INPUT: true; the input reads as it did. -/
def wordsLanesSpec : ChangeSpec := { name := "wordsLanes", fn := fun _ => fun
  | [d1, d2, d3] => { results := [.lit (.bool true)], args := [d1, d2, d3] }
  | _ => none }
def wordsLanesRow : OpenClaim := { program := "ytemogllidmgbfaadoor", sum := "8ab137597a7035a5bab1462883840f3c48f63dbcda3d9769bad0496c4325abab", func := "probecard/probecardlaw07.WordsLanes", spec := "wordsLanes", unfollowed := true, recurses := true, named := ["probecard/words.full", "probecard/logic.characters", "probecard/logic.spans"], apart := false, laid := [("probecard/logic.spans", laid_probecard_logic_spans), ("probecard/logic.characters", laid_probecard_logic_characters), ("probecard/words.full", laid_probecard_words_full)] }
def WordsLanesSaid : Prop := wordsLanesRow.holds Tryd.pinned (OpenSpec.ofChange wordsLanesSpec)

/-- ITS FALSE NEIGHBOUR: 'it returns false'. Refute it at one input. -/
def wordsLanesWrong : ChangeSpec := { name := "wordsLanes", fn := fun _ => fun
  | [d1, d2, d3] => { results := [.lit (.bool false)], args := [d1, d2, d3] }
  | _ => none }
def WordsLanesWrongFalsely : Prop := wordsLanesRow.holds Tryd.pinned (OpenSpec.ofChange wordsLanesWrong)

/-- 'probecardlaw07.WordsTurned': WHATEVER THE INPUT: true; the input reads as it did. -/
def wordsTurnedSpec : ChangeSpec := { name := "wordsTurned", fn := fun _ => fun
  | [d1, d2, d3] => { results := [.lit (.bool true)], args := [d1, d2, d3] }
  | _ => none }
def wordsTurnedRow : OpenClaim := { program := "ytemogllidmgbfaadoor", sum := "8ab137597a7035a5bab1462883840f3c48f63dbcda3d9769bad0496c4325abab", func := "probecard/probecardlaw07.WordsTurned", spec := "wordsTurned", unfollowed := true, recurses := true, named := ["probecard/words.full", "probecard/logic.characters", "probecard/logic.spans"], apart := false, laid := [("probecard/logic.spans", laid_probecard_logic_spans), ("probecard/logic.characters", laid_probecard_logic_characters), ("probecard/words.full", laid_probecard_words_full)] }
def WordsTurnedSaid : Prop := wordsTurnedRow.holds Tryd.pinned (OpenSpec.ofChange wordsTurnedSpec)

/-- ITS FALSE NEIGHBOUR: 'it returns false'. Refute it at one input. -/
def wordsTurnedWrong : ChangeSpec := { name := "wordsTurned", fn := fun _ => fun
  | [d1, d2, d3] => { results := [.lit (.bool false)], args := [d1, d2, d3] }
  | _ => none }
def WordsTurnedWrongFalsely : Prop := wordsTurnedRow.holds Tryd.pinned (OpenSpec.ofChange wordsTurnedWrong)

/-- 'probecardlaw07.WordsSame': WHATEVER THE INPUT: true; the input reads as it did. -/
def wordsSameSpec : ChangeSpec := { name := "wordsSame", fn := fun _ => fun
  | [d1, d2] => { results := [.lit (.bool true)], args := [d1, d2] }
  | _ => none }
def wordsSameRow : OpenClaim := { program := "ytemogllidmgbfaadoor", sum := "8ab137597a7035a5bab1462883840f3c48f63dbcda3d9769bad0496c4325abab", func := "probecard/probecardlaw07.WordsSame", spec := "wordsSame", unfollowed := true, recurses := true, named := ["probecard/words.full", "probecard/logic.characters", "probecard/logic.spans"], apart := false, laid := [("probecard/logic.spans", laid_probecard_logic_spans), ("probecard/logic.characters", laid_probecard_logic_characters), ("probecard/words.full", laid_probecard_words_full)] }
def WordsSameSaid : Prop := wordsSameRow.holds Tryd.pinned (OpenSpec.ofChange wordsSameSpec)

/-- ITS FALSE NEIGHBOUR: 'it returns false'. Refute it at one input. -/
def wordsSameWrong : ChangeSpec := { name := "wordsSame", fn := fun _ => fun
  | [d1, d2] => { results := [.lit (.bool false)], args := [d1, d2] }
  | _ => none }
def WordsSameWrongFalsely : Prop := wordsSameRow.holds Tryd.pinned (OpenSpec.ofChange wordsSameWrong)

/- THE SECOND FORM. 'bulk': how many values and letters a reading holds, each counted each time it is reached (what is shared counts as often as it is met; a slice's spare places count too). A statement '..UptoSaid' is the law's where the arguments, and the package variables that the reading takes, are together of bulk at most 1048576: NARROWER than '..Said'. Prove '..Said' where nothing that the law and all that it calls make is longer than what came in: it says more and counts as full. Else prove '..UptoSaid'. A law counts once. -/
mutual
def uptoBulk {H : Type} : DataW H → Nat
  | .lit (.string bytes) => bytes.length + 1
  | .lit _ => 1
  | .nil => 1
  | .ptr d => uptoBulk d + 1
  | .slice elems spare => uptoBulkAll elems + uptoBulkAll spare + 1
  | .agg parts => uptoBulkAll parts + 1
  | .iface _ d => uptoBulk d + 1
  | .map entries => uptoBulkEntries entries + 1
  | .held _ => 1
def uptoBulkAll {H : Type} : List (DataW H) → Nat
  | [] => 0
  | d :: r => uptoBulk d + uptoBulkAll r
def uptoBulkEntries {H : Type} : List (Lit × DataW H) → Nat
  | [] => 0
  | x :: r => uptoBulkEntry x + uptoBulkEntries r
def uptoBulkEntry {H : Type} : Lit × DataW H → Nat
  | (.string bytes, d) => bytes.length + uptoBulk d + 1
  | (_, d) => uptoBulk d + 1
 end
def uptoSmall : (H : Type) → List (DataW H) → Bool := fun _ ds => decide (uptoBulkAll ds ≤ 1048576)
def OpenSpec.upto (s : _root_.Go.ChangeSpec) : _root_.Go.OpenSpec := { _root_.Go.OpenSpec.ofChange s with cond := some uptoSmall }

/-- 'probecardlaw07.WordsLanes', WHERE WHAT IT READS IS OF BULK AT MOST 1048576: true; the input reads as it did. -/
def wordsLanesUptoRow : OpenClaim := { program := "ytemogllidmgbfaadoor", sum := "8ab137597a7035a5bab1462883840f3c48f63dbcda3d9769bad0496c4325abab", func := "probecard/probecardlaw07.WordsLanes", spec := "wordsLanes", unfollowed := true, recurses := true, named := ["probecard/words.full", "probecard/logic.characters", "probecard/logic.spans"], apart := false, laid := [("probecard/logic.spans", laid_probecard_logic_spans), ("probecard/logic.characters", laid_probecard_logic_characters), ("probecard/words.full", laid_probecard_words_full)], narrowed := true }
def WordsLanesUptoSaid : Prop := wordsLanesUptoRow.holds Tryd.pinned (OpenSpec.upto wordsLanesSpec)

/-- 'probecardlaw07.WordsTurned', WHERE WHAT IT READS IS OF BULK AT MOST 1048576: true; the input reads as it did. -/
def wordsTurnedUptoRow : OpenClaim := { program := "ytemogllidmgbfaadoor", sum := "8ab137597a7035a5bab1462883840f3c48f63dbcda3d9769bad0496c4325abab", func := "probecard/probecardlaw07.WordsTurned", spec := "wordsTurned", unfollowed := true, recurses := true, named := ["probecard/words.full", "probecard/logic.characters", "probecard/logic.spans"], apart := false, laid := [("probecard/logic.spans", laid_probecard_logic_spans), ("probecard/logic.characters", laid_probecard_logic_characters), ("probecard/words.full", laid_probecard_words_full)], narrowed := true }
def WordsTurnedUptoSaid : Prop := wordsTurnedUptoRow.holds Tryd.pinned (OpenSpec.upto wordsTurnedSpec)

/-- 'probecardlaw07.WordsSame', WHERE WHAT IT READS IS OF BULK AT MOST 1048576: true; the input reads as it did. -/
def wordsSameUptoRow : OpenClaim := { program := "ytemogllidmgbfaadoor", sum := "8ab137597a7035a5bab1462883840f3c48f63dbcda3d9769bad0496c4325abab", func := "probecard/probecardlaw07.WordsSame", spec := "wordsSame", unfollowed := true, recurses := true, named := ["probecard/words.full", "probecard/logic.characters", "probecard/logic.spans"], apart := false, laid := [("probecard/logic.spans", laid_probecard_logic_spans), ("probecard/logic.characters", laid_probecard_logic_characters), ("probecard/words.full", laid_probecard_words_full)], narrowed := true }
def WordsSameUptoSaid : Prop := wordsSameUptoRow.holds Tryd.pinned (OpenSpec.upto wordsSameSpec)

end Rows
end Go.Proofs.YtemogllidmgbfaaDoor
