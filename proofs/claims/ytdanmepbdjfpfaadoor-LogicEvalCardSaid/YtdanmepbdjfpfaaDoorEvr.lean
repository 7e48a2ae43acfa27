/- The reference's Allowed and Eval. -/
import Derived.Test.YtdanmepbdjfpfaaDoorApr
namespace Go.Proofs.YtdanmepbdjfpfaaDoor
open Go.RowKit

def allowL (q N : Int) : Bool :=
  if q = 1 ∨ q = 2 then N == 0 else if q = 3 ∨ q = 4 then N == 1 else if q = 11 then N == 3 else if q = 12 then N == 2
  else if q = 13 then decide (1 ≤ N) && decide (N ≤ 16) else decide (5 ≤ q) && decide (q ≤ 10) && decide (2 ≤ N) && decide (N ≤ 16)

set_option maxHeartbeats 1000000 in
theorem allowed_any (q N : Int) (w : World) :
    Calls Tryd.prog 21 #[.int .u8 q, .int .i64 N] w fun e w' => e = .returned (.bool (allowL q N)) ∧ w = w' := by
  by_cases h : q = 1 ∨ q = 2 ∨ q = 3 ∨ q = 4 ∨ q = 11 ∨ q = 12
  · rcases h with rfl | rfl | rfl | rfl | rfl | rfl
    all_goals
      go_enter Tryd.func21, Tryd.ntmps21
      go_wp2_with fail
      go_ret
      exact ⟨by rfl, rfl⟩
  · by_cases h13 : q = 13
    · subst h13
      have e : allowL 13 N = (decide (1 ≤ N) && decide (N ≤ 16)) := rfl
      rw [e]
      clear e h
      cases h1 : decide (1 ≤ N) <;> cases h2 : decide (N ≤ 16)
      all_goals
        go_enter Tryd.func21, Tryd.ntmps21
        go_wp2_with fail
        go_ret
        exact ⟨by rfl, rfl⟩
    · have e : allowL q N = (decide (5 ≤ q) && decide (q ≤ 10) && decide (2 ≤ N) && decide (N ≤ 16)) := by
        unfold allowL
        rw [if_neg (by omega), if_neg (by omega), if_neg (by omega), if_neg (by omega), if_neg h13]
      rw [e]
      have q1 : (q == 1) = false := by simp; omega
      have q2 : (q == 2) = false := by simp; omega
      have q3 : (q == 3) = false := by simp; omega
      have q4 : (q == 4) = false := by simp; omega
      have q11 : (q == 11) = false := by simp; omega
      have q12 : (q == 12) = false := by simp; omega
      have q13 : (q == 13) = false := by simp; omega
      clear e h h13
      cases t1 : decide (5 ≤ q) <;> cases t2 : decide (q ≤ 10) <;> cases h1 : decide (2 ≤ N) <;> cases h2 : decide (N ≤ 16)
      all_goals
        go_enter Tryd.func21, Tryd.ntmps21
        go_wp2_with fail
        go_ret
        exact ⟨by rfl, rfl⟩

theorem allow_span {q N : Int} (h1 : 1 ≤ q) (h : q ≤ 13) (hN : 0 ≤ N) : allowL q N = (decide (lo q ≤ N) && decide (N ≤ hi q)) := by
  rw [Bool.eq_iff_iff]
  have hq : q = 1 ∨ q = 2 ∨ q = 3 ∨ q = 4 ∨ q = 5 ∨ q = 6 ∨ q = 7 ∨ q = 8 ∨ q = 9 ∨ q = 10 ∨ q = 11 ∨ q = 12 ∨ q = 13 := by omega
  rcases hq with rfl | rfl | rfl | rfl | rfl | rfl | rfl | rfl | rfl | rfl | rfl | rfl | rfl
  all_goals
    simp [allowL, lo, hi, spansL]
    try omega
theorem allow_not {q N : Int} (h : q < 1 ∨ 13 < q) : allowL q N = false := by
  unfold allowL
  rw [if_neg (by omega), if_neg (by omega), if_neg (by omega), if_neg (by omega), if_neg (by omega)]
  by_cases h5 : 5 ≤ q
  · rw [decide_eq_false (by omega : ¬ q ≤ 10)]; simp
  · rw [decide_eq_false h5]; simp
/-- what the reference's Eval returns -/
def refL (q : Int) (l : List Int) : Int := if allowL q l.length = true then (if (5 ≤ q ∧ q ≤ 10) ∨ q = 13 then cntL q l else resL q l) else 2
theorem ref_eval (q : Int) (h0 : 0 ≤ q) (l : List Int) : refL q l = evalL q l := by
  unfold refL evalL
  by_cases h : 1 ≤ q ∧ q ≤ 13
  · rw [allow_span h.1 h.2 (by omega)]
    by_cases h1 : (l.length : Int) < lo q ∨ hi q < l.length
    · rw [if_pos h1, if_neg]
      rw [Bool.and_eq_true, decide_eq_true_eq, decide_eq_true_eq]; omega
    · rw [if_neg h1, if_pos (by rw [Bool.and_eq_true, decide_eq_true_eq, decide_eq_true_eq]; omega)]
      have hq : q = 1 ∨ q = 2 ∨ q = 3 ∨ q = 4 ∨ q = 5 ∨ q = 6 ∨ q = 7 ∨ q = 8 ∨ q = 9 ∨ q = 10 ∨ q = 11 ∨ q = 12 ∨ q = 13 := by omega
      rcases hq with rfl | rfl | rfl | rfl | rfl | rfl | rfl | rfl | rfl | rfl | rfl | rfl | rfl <;> rfl
  · rw [allow_not (by omega), if_neg (by decide)]
    split
    · rfl
    · unfold funL
      rw [if_neg (by omega), if_neg (by omega), if_neg (by omega), if_neg (by omega), if_neg (by omega), if_neg (by omega), if_neg (by omega), if_neg (by omega), if_neg (by omega), if_neg (by omega), if_neg (by omega), if_neg (by omega), if_neg (by omega)]
theorem allow_res {q : Int} {n : Nat} (h : allowL q n = true) (hk : ¬ ((5 ≤ q ∧ q ≤ 10) ∨ q = 13)) : ResK q n := by
  by_cases h13 : 1 ≤ q ∧ q ≤ 13
  · have hq : q = 1 ∨ q = 2 ∨ q = 3 ∨ q = 4 ∨ q = 11 ∨ q = 12 := by omega
    unfold ResK
    rcases hq with rfl | rfl | rfl | rfl | rfl | rfl
    all_goals
      simp [allowL] at h
      omega
  · rw [allow_not (by omega)] at h; cases h

set_option maxHeartbeats 1000000 in
theorem ref_any (q : Int) (h0 : 0 ≤ q) (l : List Int) (n c b o : Nat) (A : Option Addr) (hA : 0 < n → A = some ⟨b, o, none⟩) (w : World) (hn : n = l.length) (h7 : allowL q n = true → n ≤ 7) (hp : ∀ v ∈ l, 0 ≤ v)
    (hc : ∀ k, k < n → b < w.heap.size ∧ w.cell? ⟨b, o + k, none⟩ = some (.int .u8 (l.getD k 0))) :
    Calls Tryd.prog 24 #[.int .u8 q, .slice A n c] w fun e w' => e = .returned (.int .u8 (evalL q l)) ∧ Below w.heap.size w w' := by
  rw [← ref_eval q h0 l]
  unfold refL
  rw [← hn]
  cases ha : allowL q n
  · rw [if_neg (by decide)]
    clear h7 hp hc hA hn
    go_enter Tryd.func24, Tryd.ntmps24
    go_wp2_with (go_at_call 21; (with_reducible refine (allowed_any _ _ _).mono ?_); rintro e w' ⟨rfl, rfl⟩)
    go_ret
    exact ⟨rfl, Below.refl _ _⟩
  · rw [if_pos rfl]
    have HAP : Hid (Calls Tryd.prog 13 #[.int .u8 q, .slice A n c] w fun e w' => e = .returned (.int .u8 (if (5 ≤ q ∧ q ≤ 10) ∨ q = 13 then cntL q l else resL q l)) ∧ Below w.heap.size w w') := Lib.hid (by
      by_cases hk : (5 ≤ q ∧ q ≤ 10) ∨ q = 13
      · rw [if_pos hk]
        exact count_apply q (by unfold Counts; omega) l _ n c b o A rfl hA w hn (h7 ha) hp hc
      · rw [if_neg hk]
        exact res_apply q l n c b o A hA w hn (allow_res ha hk) hc)
    obtain ⟨y, HY⟩ := named (if (5 ≤ q ∧ q ≤ 10) ∨ q = 13 then cntL q l else resL q l)
    rw [← HY.out] at HAP
    rw [← HY.out]
    clear h7 hp hc hA hn
    go_enter Tryd.func24, Tryd.ntmps24
    go_wp2_with (first
      | (go_at_call 21; (with_reducible refine (allowed_any _ _ _).mono ?_); rintro e w' ⟨rfl, rfl⟩)
      | (go_at_call 13; (with_reducible refine HAP.out.mono ?_); rintro e w' ⟨rfl, hb⟩))
    go_ret
    exact ⟨rfl, by assumption⟩

end Go.Proofs.YtdanmepbdjfpfaaDoor
