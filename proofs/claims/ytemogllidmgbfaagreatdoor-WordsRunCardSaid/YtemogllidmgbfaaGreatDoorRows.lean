/-
  NARROWER THAN 'FOR EVERY INPUT', by the rows' own cells (each row's printed sentence says how): WordsEval: laid · WordsRun: laid · WordsErrors: laid · WordsPairs: laid.
  DERIVED. THE GIVEN ROWS OF THIS SEAT. 4 by the template 'for every input the law returns true; each argument reads behind the call as it read before'; 0 by the template 'total and deterministic' (their statements: YtemogllidmgbfaaGreatDoorTotals.lean).
  GIVEN WITH THE SEED: the statements are not yours to turn. If you find one false, say at which input.
  Laid BY PROGRAM, IN A SANDBOX (cutbox-rows.mjs): the forced cells as the released guide's own fill.sh prints them over the translation cc8341fe1abf1af6… (all of the seat's roots in one cut). By AI agents, Wed Nov 11 2026. No macro, syntax, notation, axiom, sorry.
-/
import Derived.Test.YtemogllidmgbfaaGreatDoorChecked
import GoSem.Claim
import GoSem.ClaimJoined
import GoSem.ClaimMapViews
import Derived.JoinedTies
import Derived.KernelRfl
namespace Go.Proofs.YtemogllidmgbfaaGreatDoor
/- THE CELL 'sum', in the pinned program and in every row, IS THE sha256 OF THE DUMP (.gsa) THAT YtemogllidmgbfaaGreatDoorProg.lean LOADS. Nothing in Lean hashes anything: it is a label: what it is worth is what the hold of that sum in a sandbox is worth. -/
noncomputable def Tryz.pinned : Pinned := { name := "ytemogllidmgbfaagreatdoor", sum := "cc8341fe1abf1af6f94b99b38bc0616615c8d1aaf45daa1f30e9c60689ec1d73", checked := Tryz.checked }
namespace Rows
def none {H : Type} : Left H := { results := [], args := [] }

/- WHAT THE LISTED PACKAGE-LEVEL VARIABLES READ AS WHEN THE CALL BEGINS. Each datum BY PROGRAM (the guide's laid-datum.mjs) off the statement by which the dump's own 'gosem.cut.vars' lays the variable. In a bare row this is a premise. The card (YtemogllidmgbfaaGreatDoorCards.lean) ties it to the program's text. -/
def laid_probecard_logic_spans {H : Type} : DataW H := .agg [.agg [.lit (.int .i64 0), .lit (.int .i64 0)], .agg [.lit (.int .i64 0), .lit (.int .i64 0)], .agg [.lit (.int .i64 0), .lit (.int .i64 0)], .agg [.lit (.int .i64 1), .lit (.int .i64 1)], .agg [.lit (.int .i64 1), .lit (.int .i64 1)], .agg [.lit (.int .i64 2), .lit (.int .i64 16)], .agg [.lit (.int .i64 2), .lit (.int .i64 16)], .agg [.lit (.int .i64 2), .lit (.int .i64 16)], .agg [.lit (.int .i64 2), .lit (.int .i64 16)], .agg [.lit (.int .i64 2), .lit (.int .i64 16)], .agg [.lit (.int .i64 2), .lit (.int .i64 16)], .agg [.lit (.int .i64 3), .lit (.int .i64 3)], .agg [.lit (.int .i64 2), .lit (.int .i64 2)], .agg [.lit (.int .i64 1), .lit (.int .i64 16)], .agg [.lit (.int .i64 1), .lit (.int .i64 1)], .agg [.lit (.int .i64 0), .lit (.int .i64 0)]]
def laid_probecard_logic_characters {H : Type} : DataW H := .agg [.lit (.int .u8 48), .lit (.int .u8 49), .lit (.int .u8 88), .lit (.int .u8 90)]
def laid_probecard_words_full {H : Type} : DataW H := .agg [.agg [.lit (.int .u64 0), .lit (.int .u64 18446744073709551615)], .agg [.lit (.int .u64 18446744073709551615), .lit (.int .u64 0)], .agg [.lit (.int .u64 0), .lit (.int .u64 0)], .agg [.lit (.int .u64 18446744073709551615), .lit (.int .u64 18446744073709551615)]]

/-- 'probecardlaw07.WordsEval': WHATEVER THE INPUT: true; the input reads as it did. -/
def wordsEvalSpec : ChangeSpec := { name := "wordsEval", fn := fun _ => fun
  | [d1, d2] => { results := [.lit (.bool true)], args := [d1, d2] }
  | _ => none }
def wordsEvalRow : OpenClaim := { program := "ytemogllidmgbfaagreatdoor", sum := "cc8341fe1abf1af6f94b99b38bc0616615c8d1aaf45daa1f30e9c60689ec1d73", func := "probecard/probecardlaw07.WordsEval", spec := "wordsEval", unfollowed := true, recurses := true, named := ["probecard/words.full", "probecard/logic.characters", "probecard/logic.spans"], apart := false, laid := [("probecard/logic.spans", laid_probecard_logic_spans), ("probecard/logic.characters", laid_probecard_logic_characters), ("probecard/words.full", laid_probecard_words_full)] }
def WordsEvalSaid : Prop := wordsEvalRow.holds Tryz.pinned (OpenSpec.ofChange wordsEvalSpec)

/-- ITS FALSE NEIGHBOUR: 'it returns false'. Refute it at one input. -/
def wordsEvalWrong : ChangeSpec := { name := "wordsEval", fn := fun _ => fun
  | [d1, d2] => { results := [.lit (.bool false)], args := [d1, d2] }
  | _ => none }
def WordsEvalWrongFalsely : Prop := wordsEvalRow.holds Tryz.pinned (OpenSpec.ofChange wordsEvalWrong)

/-- 'probecardlaw07.WordsRun': WHATEVER THE INPUT: true; the input reads as it did. -/
def wordsRunSpec : ChangeSpec := { name := "wordsRun", fn := fun _ => fun
  | [d1, d2] => { results := [.lit (.bool true)], args := [d1, d2] }
  | _ => none }
def wordsRunRow : OpenClaim := { program := "ytemogllidmgbfaagreatdoor", sum := "cc8341fe1abf1af6f94b99b38bc0616615c8d1aaf45daa1f30e9c60689ec1d73", func := "probecard/probecardlaw07.WordsRun", spec := "wordsRun", unfollowed := true, recurses := true, named := ["probecard/words.full", "probecard/logic.characters", "probecard/logic.spans"], apart := false, laid := [("probecard/logic.spans", laid_probecard_logic_spans), ("probecard/logic.characters", laid_probecard_logic_characters), ("probecard/words.full", laid_probecard_words_full)] }
def WordsRunSaid : Prop := wordsRunRow.holds Tryz.pinned (OpenSpec.ofChange wordsRunSpec)

/-- ITS FALSE NEIGHBOUR: 'it returns false'. Refute it at one input. -/
def wordsRunWrong : ChangeSpec := { name := "wordsRun", fn := fun _ => fun
  | [d1, d2] => { results := [.lit (.bool false)], args := [d1, d2] }
  | _ => none }
def WordsRunWrongFalsely : Prop := wordsRunRow.holds Tryz.pinned (OpenSpec.ofChange wordsRunWrong)

/-- 'probecardlaw07.WordsErrors': WHATEVER THE INPUT: true; the input reads as it did. -/
def wordsErrorsSpec : ChangeSpec := { name := "wordsErrors", fn := fun _ => fun
  | [d1, d2] => { results := [.lit (.bool true)], args := [d1, d2] }
  | _ => none }
def wordsErrorsRow : OpenClaim := { program := "ytemogllidmgbfaagreatdoor", sum := "cc8341fe1abf1af6f94b99b38bc0616615c8d1aaf45daa1f30e9c60689ec1d73", func := "probecard/probecardlaw07.WordsErrors", spec := "wordsErrors", unfollowed := true, recurses := true, named := ["probecard/words.full", "probecard/logic.characters", "probecard/logic.spans"], apart := false, laid := [("probecard/logic.spans", laid_probecard_logic_spans), ("probecard/logic.characters", laid_probecard_logic_characters), ("probecard/words.full", laid_probecard_words_full)] }
def WordsErrorsSaid : Prop := wordsErrorsRow.holds Tryz.pinned (OpenSpec.ofChange wordsErrorsSpec)

/-- ITS FALSE NEIGHBOUR: 'it returns false'. Refute it at one input. -/
def wordsErrorsWrong : ChangeSpec := { name := "wordsErrors", fn := fun _ => fun
  | [d1, d2] => { results := [.lit (.bool false)], args := [d1, d2] }
  | _ => none }
def WordsErrorsWrongFalsely : Prop := wordsErrorsRow.holds Tryz.pinned (OpenSpec.ofChange wordsErrorsWrong)

/-- 'probecardlaw07.WordsPairs': WHATEVER THE INPUT: true; the input reads as it did. -/
def wordsPairsSpec : ChangeSpec := { name := "wordsPairs", fn := fun _ => fun
  | [d1, d2] => { results := [.lit (.bool true)], args := [d1, d2] }
  | _ => none }
def wordsPairsRow : OpenClaim := { program := "ytemogllidmgbfaagreatdoor", sum := "cc8341fe1abf1af6f94b99b38bc0616615c8d1aaf45daa1f30e9c60689ec1d73", func := "probecard/probecardlaw07.WordsPairs", spec := "wordsPairs", unfollowed := true, recurses := true, named := ["probecard/words.full", "probecard/logic.characters", "probecard/logic.spans"], apart := false, laid := [("probecard/logic.spans", laid_probecard_logic_spans), ("probecard/logic.characters", laid_probecard_logic_characters), ("probecard/words.full", laid_probecard_words_full)] }
def WordsPairsSaid : Prop := wordsPairsRow.holds Tryz.pinned (OpenSpec.ofChange wordsPairsSpec)

/-- ITS FALSE NEIGHBOUR: 'it returns false'. Refute it at one input. -/
def wordsPairsWrong : ChangeSpec := { name := "wordsPairs", fn := fun _ => fun
  | [d1, d2] => { results := [.lit (.bool false)], args := [d1, d2] }
  | _ => none }
def WordsPairsWrongFalsely : Prop := wordsPairsRow.holds Tryz.pinned (OpenSpec.ofChange wordsPairsWrong)

/- THE SECOND FORM. 'bulk': how many values and letters a reading holds, each counted each time it is reached (what is shared counts as often as it is met; a slice's spare places count too). A statement '..UptoSaid' is the law's where the arguments, and the package variables that the reading takes, are together of bulk at most 1048576: NARROWER than '..Said'. Prove '..Said' where nothing that the law and all that it calls make is longer than what came in: it says more and counts as full. Else prove '..UptoSaid'. A law counts once. -/
mutual
def uptoBulk {H : Type} : DataW H → Nat
  | .lit (.string bytes) => bytes.length + 1
  | .lit _ => 1
  | .nil => 1
  | .ptr d => uptoBulk d + 1
  | .slice elems spare => uptoBulkAll elems + uptoBulkAll spare + 1
  | .agg parts => uptoBulkAll parts + 1
  | .iface _ d => uptoBulk d + 1
  | .map entries => uptoBulkEntries entries + 1
  | .held _ => 1
def uptoBulkAll {H : Type} : List (DataW H) → Nat
  | [] => 0
  | d :: r => uptoBulk d + uptoBulkAll r
def uptoBulkEntries {H : Type} : List (Lit × DataW H) → Nat
  | [] => 0
  | x :: r => uptoBulkEntry x + uptoBulkEntries r
def uptoBulkEntry {H : Type} : Lit × DataW H → Nat
  | (.string bytes, d) => bytes.length + uptoBulk d + 1
  | (_, d) => uptoBulk d + 1
 end
def uptoSmall : (H : Type) → List (DataW H) → Bool := fun _ ds => decide (uptoBulkAll ds ≤ 1048576)
def OpenSpec.upto (s : _root_.Go.ChangeSpec) : _root_.Go.OpenSpec := { _root_.Go.OpenSpec.ofChange s with cond := some uptoSmall }

/-- 'probecardlaw07.WordsEval', WHERE WHAT IT READS IS OF BULK AT MOST 1048576: true; the input reads as it did. -/
def wordsEvalUptoRow : OpenClaim := { program := "ytemogllidmgbfaagreatdoor", sum := "cc8341fe1abf1af6f94b99b38bc0616615c8d1aaf45daa1f30e9c60689ec1d73", func := "probecard/probecardlaw07.WordsEval", spec := "wordsEval", unfollowed := true, recurses := true, named := ["probecard/words.full", "probecard/logic.characters", "probecard/logic.spans"], apart := false, laid := [("probecard/logic.spans", laid_probecard_logic_spans), ("probecard/logic.characters", laid_probecard_logic_characters), ("probecard/words.full", laid_probecard_words_full)], narrowed := true }
def WordsEvalUptoSaid : Prop := wordsEvalUptoRow.holds Tryz.pinned (OpenSpec.upto wordsEvalSpec)

/-- 'probecardlaw07.WordsRun', WHERE WHAT IT READS IS OF BULK AT MOST 1048576: true; the input reads as it did. -/
def wordsRunUptoRow : OpenClaim := { program := "ytemogllidmgbfaagreatdoor", sum := "cc8341fe1abf1af6f94b99b38bc0616615c8d1aaf45daa1f30e9c60689ec1d73", func := "probecard/probecardlaw07.WordsRun", spec := "wordsRun", unfollowed := true, recurses := true, named := ["probecard/words.full", "probecard/logic.characters", "probecard/logic.spans"], apart := false, laid := [("probecard/logic.spans", laid_probecard_logic_spans), ("probecard/logic.characters", laid_probecard_logic_characters), ("probecard/words.full", laid_probecard_words_full)], narrowed := true }
def WordsRunUptoSaid : Prop := wordsRunUptoRow.holds Tryz.pinned (OpenSpec.upto wordsRunSpec)

/-- 'probecardlaw07.WordsErrors', WHERE WHAT IT READS IS OF BULK AT MOST 1048576: true; the input reads as it did. -/
def wordsErrorsUptoRow : OpenClaim := { program := "ytemogllidmgbfaagreatdoor", sum := "cc8341fe1abf1af6f94b99b38bc0616615c8d1aaf45daa1f30e9c60689ec1d73", func := "probecard/probecardlaw07.WordsErrors", spec := "wordsErrors", unfollowed := true, recurses := true, named := ["probecard/words.full", "probecard/logic.characters", "probecard/logic.spans"], apart := false, laid := [("probecard/logic.spans", laid_probecard_logic_spans), ("probecard/logic.characters", laid_probecard_logic_characters), ("probecard/words.full", laid_probecard_words_full)], narrowed := true }
def WordsErrorsUptoSaid : Prop := wordsErrorsUptoRow.holds Tryz.pinned (OpenSpec.upto wordsErrorsSpec)

/-- 'probecardlaw07.WordsPairs', WHERE WHAT IT READS IS OF BULK AT MOST 1048576: true; the input reads as it did. -/
def wordsPairsUptoRow : OpenClaim := { program := "ytemogllidmgbfaagreatdoor", sum := "cc8341fe1abf1af6f94b99b38bc0616615c8d1aaf45daa1f30e9c60689ec1d73", func := "probecard/probecardlaw07.WordsPairs", spec := "wordsPairs", unfollowed := true, recurses := true, named := ["probecard/words.full", "probecard/logic.characters", "probecard/logic.spans"], apart := false, laid := [("probecard/logic.spans", laid_probecard_logic_spans), ("probecard/logic.characters", laid_probecard_logic_characters), ("probecard/words.full", laid_probecard_words_full)], narrowed := true }
def WordsPairsUptoSaid : Prop := wordsPairsUptoRow.holds Tryz.pinned (OpenSpec.upto wordsPairsSpec)

end Rows
end Go.Proofs.YtemogllidmgbfaaGreatDoor
