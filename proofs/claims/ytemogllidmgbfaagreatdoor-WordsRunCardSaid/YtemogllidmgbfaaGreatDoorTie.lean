/-
  DERIVED. GIVEN WITH THE SEED: THE PROGRAM's TIES (one call each: nine closed facts by the kernel) AND EACH ROW's TIE, after the 31st guide's Derived/Test/Toyas{Tie, Card}.lean. No idea stands in it: it is a product of the set-up. Laid BY PROGRAM, IN A SANDBOX (cutbox-door.mjs). By AI agents, Wed Nov 11 2026. No macro, syntax, notation, axiom, sorry.
-/
import Derived.Test.YtemogllidmgbfaaGreatDoorRows
import Derived.LaidByTextLater
import Derived.SevenTiedAt
import Derived.LaidSub
import Derived.LaidOnce
namespace Go.Proofs.YtemogllidmgbfaaGreatDoor
open Go
set_option maxRecDepth 100000
theorem seatTie1 : Tryz.prog.laidByTextLater [("probecard/logic.spans", Rows.laid_probecard_logic_spans), ("probecard/logic.characters", Rows.laid_probecard_logic_characters), ("probecard/words.full", Rows.laid_probecard_words_full)] [.data, .data, .wider] true :=
  Program.laidByTextLater_by_one 44 8 33 (by kernel_rfl) (by kernel_rfl) (by kernel_rfl) (by kernel_rfl) (by kernel_rfl) (by kernel_rfl) (fun _ _ => by kernel_rfl)
theorem noOwnUnsafe : Tryz.pinned.checked.prog.headLifts.contains "ownunsafe" = false := by kernel_rfl
theorem tie : Tryz.prog.laidByTextLater [("probecard/logic.spans", Rows.laid_probecard_logic_spans), ("probecard/logic.characters", Rows.laid_probecard_logic_characters), ("probecard/words.full", Rows.laid_probecard_words_full)] [.data, .data, .wider] true :=
  Program.laidByTextLater.sub seatTie1 ["probecard/logic.spans", "probecard/logic.characters", "probecard/words.full"] (by kernel_rfl) (by kernel_rfl)
theorem wordsEval_row_tie : Rows.wordsEvalRow.laidByTextAt .later Tryz.pinned [.data, .data, .wider] true :=
  OpenClaim.laidByTextAt_later rfl rfl tie noOwnUnsafe
theorem wordsRun_row_tie : Rows.wordsRunRow.laidByTextAt .later Tryz.pinned [.data, .data, .wider] true :=
  OpenClaim.laidByTextAt_later rfl rfl tie noOwnUnsafe
theorem wordsErrors_row_tie : Rows.wordsErrorsRow.laidByTextAt .later Tryz.pinned [.data, .data, .wider] true :=
  OpenClaim.laidByTextAt_later rfl rfl tie noOwnUnsafe
theorem wordsPairs_row_tie : Rows.wordsPairsRow.laidByTextAt .later Tryz.pinned [.data, .data, .wider] true :=
  OpenClaim.laidByTextAt_later rfl rfl tie noOwnUnsafe
theorem wordsEvalUpto_row_tie : Rows.wordsEvalUptoRow.laidByTextAt .later Tryz.pinned [.data, .data, .wider] true :=
  OpenClaim.laidByTextAt_later rfl rfl tie noOwnUnsafe
theorem wordsRunUpto_row_tie : Rows.wordsRunUptoRow.laidByTextAt .later Tryz.pinned [.data, .data, .wider] true :=
  OpenClaim.laidByTextAt_later rfl rfl tie noOwnUnsafe
theorem wordsErrorsUpto_row_tie : Rows.wordsErrorsUptoRow.laidByTextAt .later Tryz.pinned [.data, .data, .wider] true :=
  OpenClaim.laidByTextAt_later rfl rfl tie noOwnUnsafe
theorem wordsPairsUpto_row_tie : Rows.wordsPairsUptoRow.laidByTextAt .later Tryz.pinned [.data, .data, .wider] true :=
  OpenClaim.laidByTextAt_later rfl rfl tie noOwnUnsafe
end Go.Proofs.YtemogllidmgbfaaGreatDoor
