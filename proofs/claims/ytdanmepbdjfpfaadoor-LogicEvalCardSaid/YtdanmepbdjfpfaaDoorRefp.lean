/- The plain functions of the reference, on integers and lists. -/
import Derived.Test.YtdanmepbdjfpfaaDoorPure
namespace Go.Proofs.YtdanmepbdjfpfaaDoor

/-- how many of a list are x -/
def cnt (x : Int) : List Int → Nat
  | [] => 0
  | v :: l => (if v = x then 1 else 0) + cnt x l
def bitI (b : Bool) : Int := if b = true then 1 else 0
def chc (v : Int) (bus : Bool) : List Int :=
  if v = 0 then [0] else if v = 1 then [1] else if bus = true ∧ v = 3 then [2] else if bus = true then [0, 1, 2] else [0, 1]
/-- a kind's function of ones and zeros and of the inputs themselves -/
def fnK (q : Int) (ones zeros : Nat) (l : List Int) : Int :=
  if q = 1 then 0 else if q = 2 then 1
  else if q = 3 then bitI (l.getD 0 0 == 1) else if q = 4 then bitI (!(l.getD 0 0 == 1))
  else if q = 5 then bitI (zeros == 0) else if q = 6 then bitI (!(zeros == 0))
  else if q = 7 then bitI (decide (0 < ones)) else if q = 8 then bitI (!decide (0 < ones))
  else if q = 9 then bitI (ones % 2 == 1) else if q = 10 then bitI (!(ones % 2 == 1))
  else if q = 11 then (if l.getD 0 0 = 0 then l.getD 1 0 else l.getD 2 0)
  else if q = 12 then (if l.getD 0 0 = 0 then 2 else l.getD 1 0)
  else if q = 13 then (if ones + zeros = 0 then 2 else if 0 < ones ∧ 0 < zeros then 3 else bitI (decide (0 < ones)))
  else bitI (decide (0 < ones))
def fn (q : Int) (l : List Int) : Int := fnK q (cnt 1 l) (cnt 0 l) l
theorem cnt_le (x : Int) (l : List Int) : cnt x l ≤ l.length := by
  induction l with
  | nil => exact Nat.le_refl _
  | cons v l ih => unfold cnt; rw [List.length_cons]; split <;> omega
theorem cnt_snoc (x : Int) (l : List Int) (v : Int) : cnt x (l ++ [v]) = cnt x l + if v = x then 1 else 0 := by
  induction l with
  | nil => simp [cnt]
  | cons a l ih => rw [List.cons_append, cnt, cnt, ih]; omega
theorem cnt_take (x : Int) (l : List Int) (k : Nat) (h : k < l.length) : cnt x (l.take (k + 1)) = cnt x (l.take k) + if l.getD k 0 = x then 1 else 0 := by
  rw [take_succ_getD l k h, cnt_snoc]

end Go.Proofs.YtdanmepbdjfpfaaDoor
