/- The texts Eqf. -/
import Derived.Test.YtkaedfgmhfefjaaGreatDoorM01
import Derived.Test.YtkaedfgmhfefjaaGreatDoorM08
import Derived.Test.YtkaedfgmhfefjaaGreatDoorM03
import Derived.Test.YtkaedfgmhfefjaaGreatDoorM05
namespace Go.Proofs.YtkaedfgmhfefjaaGreatDoor
open Go.RowKit
theorem allEq_of {α : Type} (d : α) (f : α → α → Bool) : ∀ (l l' : List α), l.length = l'.length → (∀ j, j < l.length → f (l.getD j d) (l'.getD j d) = true) → (l.length == l'.length && (l.zip l').all fun p => f p.1 p.2) = true := by
  intro l l' hl h
  simp only [hl, BEq.rfl, Bool.true_and, List.all_eq_true]
  intro p hp
  obtain ⟨j, hj, rfl⟩ := List.mem_iff_getElem.1 hp
  rw [List.length_zip] at hj
  have := h j (by omega)
  simpa [List.getD_eq_getElem?_getD, List.getElem?_eq_getElem (show j < l.length by omega), List.getElem?_eq_getElem (show j < l'.length by omega)] using this
theorem allEq_not {α : Type} (d : α) (f : α → α → Bool) {l l' : List α} {j : Nat} (hj : j < l.length) (hl : l.length = l'.length) (h : f (l.getD j d) (l'.getD j d) = false) : (l.length == l'.length && (l.zip l').all fun p => f p.1 p.2) = false := by
  cases he : (l.length == l'.length && (l.zip l').all fun p => f p.1 p.2)
  · rfl
  · simp only [Bool.and_eq_true, List.all_eq_true] at he
    have hz : j < (l.zip l').length := by rw [List.length_zip]; omega
    have := he.2 _ (List.getElem_mem hz)
    rw [List.getElem_zip] at this
    rw [List.getD_eq_getElem?_getD, List.getD_eq_getElem?_getD, List.getElem?_eq_getElem hj, List.getElem?_eq_getElem (by omega)] at h
    simp only [Option.getD_some] at h
    rw [h] at this
    cases this
end Go.Proofs.YtkaedfgmhfefjaaGreatDoor
