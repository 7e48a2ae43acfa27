/- NetlistsLists: the plain facts. -/
import Derived.Test.YtjkcpffhokpaaaaDoorLsc
namespace Go.Proofs.YtjkcpffhokpaaaaDoor
open Go.RowKit

def vIdx (n : Nat) (l : List (Int × Int × Int)) : Nat := (l.filter fun q => isIdx n q.1).length
def fsum (l : List (Int × Int × Int)) : Nat → Nat
  | 0 => 0
  | k + 1 => fsum l k + (fan l k).length
theorem isIdx_succ (k : Nat) (x : Int) : isIdx (k + 1) x = (isIdx k x || x == (k : Int)) := by
  rw [Bool.eq_iff_iff]
  simp only [isIdx, Bool.or_eq_true, Bool.and_eq_true, decide_eq_true_eq, beq_iff_eq]
  omega
theorem fsum_nil : ∀ k, fsum [] k = 0
  | 0 => rfl
  | k + 1 => by rw [fsum, fsum_nil k]; rfl
theorem fan_cons (q : Int × Int × Int) (l : List (Int × Int × Int)) (j : Nat) : (fan (q :: l) j).length = (fan l j).length + if q.1 = (j : Int) then 1 else 0 := by
  unfold fan
  rw [List.length_map, List.length_map, List.filter_cons]
  by_cases h : q.1 = (j : Int)
  · rw [if_pos h, if_pos (by simp [h])]; simp
  · rw [if_neg h, if_neg (by simp [h])]; simp
theorem fsum_cons (q : Int × Int × Int) (l : List (Int × Int × Int)) : ∀ k, fsum (q :: l) k = fsum l k + if isIdx k q.1 = true then 1 else 0
  | 0 => by
    have : isIdx 0 q.1 = false := by simp [isIdx]
    rw [this]; rfl
  | k + 1 => by
    rw [fsum, fsum, fsum_cons q l k, fan_cons, isIdx_succ]
    by_cases h : q.1 = (k : Int)
    · have hf : isIdx k q.1 = false := by rw [h]; simp [isIdx]
      rw [hf, h]; simp; omega
    · have hb : (q.1 == (k : Int)) = false := by simp [h]
      rw [hb, Bool.or_false, if_neg h]; omega
theorem vIdx_cons (n : Nat) (q : Int × Int × Int) (l : List (Int × Int × Int)) : vIdx n (q :: l) = vIdx n l + if isIdx n q.1 = true then 1 else 0 := by
  unfold vIdx
  rw [List.filter_cons]
  by_cases h : isIdx n q.1 = true
  · rw [if_pos h, if_pos h]; simp
  · rw [if_neg h, if_neg h]; simp
theorem fsum_all (n : Nat) : ∀ l : List (Int × Int × Int), fsum l n = vIdx n l
  | [] => by rw [fsum_nil]; rfl
  | q :: l => by rw [fsum_cons, vIdx_cons, fsum_all n l]
theorem vIdx_snoc (n : Nat) (l : List (Int × Int × Int)) (x : Int) (y : Int × Int) : vIdx n (l ++ [(x, y)]) = vIdx n l + if isIdx n x = true then 1 else 0 := by
  unfold vIdx
  rw [List.filter_append, List.length_append]
  by_cases h : isIdx n x = true
  · rw [if_pos h]; simp [h]
  · rw [if_neg h]; simp [h]
theorem vIdx_le (n : Nat) (l : List (Int × Int × Int)) : vIdx n l ≤ l.length := List.length_filter_le _ _
theorem fsum_mono (l : List (Int × Int × Int)) (k : Nat) : ∀ d, fsum l k ≤ fsum l (k + d)
  | 0 => Nat.le_refl _
  | d + 1 => Nat.le_trans (fsum_mono l k d) (by rw [← Nat.add_assoc, fsum]; omega)
theorem ofTo_nil (nodes : List Nd) (k : Nat) : ofTo nodes [] k = [] := by
  unfold ofTo
  rw [List.filter_eq_nil_iff.2 (fun i _ => by simp [isK, anyP])]; rfl
theorem ofTo_two (nodes : List Nd) : ∀ k, (ofTo nodes [0, 14] k).length = (ofTo nodes [0] k).length + (ofTo nodes [14] k).length
  | 0 => rfl
  | k + 1 => by
    rw [ofTo_succ, ofTo_succ, ofTo_succ, List.length_append, List.length_append, List.length_append, ofTo_two nodes k]
    generalize (nodes.getD k default).kind = x
    by_cases h0 : x = 0
    · subst h0; simp [isK, anyP]; omega
    · by_cases h1 : x = 14
      · subst h1; simp [isK, anyP]; omega
      · have : ∀ kl : List Int, kl = [0, 14] ∨ kl = [0] ∨ kl = [14] → isK kl x = false := by
          rintro kl (rfl | rfl | rfl) <;> simp [isK, anyP, h0, h1]
        rw [this _ (Or.inl rfl), this _ (Or.inr (Or.inl rfl)), this _ (Or.inr (Or.inr rfl))]; simp
end Go.Proofs.YtjkcpffhokpaaaaDoor
