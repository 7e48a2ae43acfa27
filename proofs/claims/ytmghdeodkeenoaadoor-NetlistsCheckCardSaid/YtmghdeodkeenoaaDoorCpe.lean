/- NetlistsCopy, the plain side: two circuits are one exactly if Same says so; what the law's changes leave. -/
import Derived.Test.YtmghdeodkeenoaaDoorSam
namespace Go.Proofs.YtmghdeodkeenoaaDoor
open Go.RowKit

theorem ndEq_iff (x y : Nd) : ndEq x y = true ↔ x = y := by
  cases x; cases y
  simp only [ndEq, Bool.and_eq_true, beq_iff_eq, decide_eq_true_eq, Nd.mk.injEq]
  constructor
  · rintro ⟨⟨⟨rfl, rfl⟩, rfl⟩, rfl⟩; exact ⟨rfl, rfl, rfl, rfl⟩
  · rintro ⟨rfl, rfl, rfl, rfl⟩; exact ⟨⟨⟨rfl, rfl⟩, rfl⟩, rfl⟩
theorem mmEq_iff (x y : Mm) : mmEq x y = true ↔ x = y := by
  cases x; cases y
  simp only [mmEq, Bool.and_eq_true, beq_iff_eq, decide_eq_true_eq, Mm.mk.injEq]
  constructor
  · rintro ⟨⟨rfl, rfl⟩, rfl⟩; exact ⟨rfl, rfl, rfl⟩
  · rintro ⟨rfl, rfl, rfl⟩; exact ⟨⟨rfl, rfl⟩, rfl⟩
theorem zipAll_iff {α : Type} {f : α → α → Bool} (hf : ∀ x y, f x y = true ↔ x = y) : ∀ l l' : List α, (l.length == l'.length && (l.zip l').all fun p => f p.1 p.2) = true ↔ l = l'
  | [], [] => by simp
  | [], _ :: _ => by simp
  | _ :: _, [] => by simp
  | x :: l, y :: l' => by
    have h := zipAll_iff hf l l'
    simp only [List.length_cons, List.zip_cons_cons, List.all_cons, Bool.and_eq_true, beq_iff_eq, Nat.add_right_cancel_iff, List.cons.injEq] at h ⊢
    rw [← h, hf]
    constructor
    · rintro ⟨h1, h2, h3⟩; exact ⟨h2, h1, h3⟩
    · rintro ⟨h2, h1, h3⟩; exact ⟨h1, h2, h3⟩
theorem ckEq_iff (x y : Ck) : ckEq x y = true ↔ x = y := by
  have h1 := zipAll_iff ndEq_iff x.nodes y.nodes
  have h2 := zipAll_iff mmEq_iff x.mems y.mems
  cases x; cases y
  simp only [ckEq, eqNs, eqMs, Bool.and_eq_true, decide_eq_true_eq, Ck.mk.injEq] at h1 h2 ⊢
  rw [h1, h2]
  constructor
  · rintro ⟨⟨⟨rfl, rfl⟩, rfl⟩, rfl⟩; exact ⟨rfl, rfl, rfl, rfl⟩
  · rintro ⟨rfl, rfl, rfl, rfl⟩; exact ⟨⟨⟨rfl, rfl⟩, rfl⟩, rfl⟩
theorem ckEq_self (x : Ck) : ckEq x x = true := (ckEq_iff x x).2 rfl
theorem ckEq_ne {x y : Ck} (h : x ≠ y) : ckEq x y = false := by
  cases e : ckEq x y
  · rfl
  · exact absurd ((ckEq_iff x y).1 e) h
end Go.Proofs.YtmghdeodkeenoaaDoor
