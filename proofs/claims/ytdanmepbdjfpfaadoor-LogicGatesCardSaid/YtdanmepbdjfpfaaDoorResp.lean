/- The plain side of the reference's Results. -/
import Derived.Test.YtdanmepbdjfpfaaDoorAnx
namespace Go.Proofs.YtdanmepbdjfpfaaDoor

def resD (q : Int) : List Int → List Int → List Int
  | [], m => [fn q m]
  | v :: r, m => (chc v false).flatMap fun x => resD q r (m ++ [x])
def resI (q : Int) (v : Int) (r m : List Int) (i : Nat) : List Int := ((chc v false).take i).flatMap fun x => resD q r (m ++ [x])
theorem resI_zero (q v : Int) (r m : List Int) : resI q v r m 0 = [] := rfl
theorem resI_succ (q v : Int) (r m : List Int) (i : Nat) (h : i < (chc v false).length) : resI q v r m (i + 1) = resI q v r m i ++ resD q r (m ++ [(chc v false).getD i 0]) := by
  unfold resI
  rw [take_succ_getD _ i h, List.flatMap_append]; simp
theorem resI_all (q v : Int) (r m : List Int) : resI q v r m (chc v false).length = resD q (v :: r) m := by
  unfold resI
  rw [List.take_length]; rfl
theorem chc_two (v : Int) : (chc v false).length ≤ 2 ∧ 1 ≤ (chc v false).length := by
  by_cases h0 : v = 0
  · subst h0; decide
  · by_cases h1 : v = 1
    · subst h1; decide
    · rw [chc_f h0 h1]; decide
theorem resI_len (q v : Int) (r m : List Int) (B : Nat) (hB : ∀ m, (resD q r m).length ≤ B) (i : Nat) (h : i ≤ (chc v false).length) : (resI q v r m i).length ≤ i * B := by
  induction i with
  | zero => simp [resI_zero]
  | succ i ih =>
    rw [resI_succ q v r m i (by omega), List.length_append, Nat.add_mul, Nat.one_mul]
    have := ih (by omega)
    have := hB (m ++ [(chc v false).getD i 0])
    omega
theorem resD_len (q : Int) (r m : List Int) : (resD q r m).length ≤ 2 ^ r.length := by
  induction r generalizing m with
  | nil => exact Nat.le_refl _
  | cons v r ih =>
    rw [← resI_all]
    refine Nat.le_trans (resI_len q v r m _ ih _ (Nat.le_refl _)) ?_
    rw [List.length_cons, Nat.pow_succ, Nat.mul_comm]
    exact Nat.mul_le_mul_left _ (chc_two v).1
theorem resD_pos (q : Int) (r m : List Int) : 1 ≤ (resD q r m).length := by
  induction r generalizing m with
  | nil => exact Nat.le_refl _
  | cons v r ih =>
    have h := (chc_two v).2
    rw [← resI_all]
    obtain ⟨k, hk⟩ : ∃ k, (chc v false).length = k + 1 := ⟨(chc v false).length - 1, by omega⟩
    rw [hk, resI_succ q v r m k (by omega), List.length_append]
    have := ih (m ++ [(chc v false).getD k 0])
    omega

theorem v_ways (v : Int) : v = 0 ∨ v = 1 ∨ (chc v false = [0, 1] ∧ rd v = 2) := by
  rcases knw_cases v with ⟨h, _⟩ | ⟨h, _⟩ | ⟨h0, h1, _, h⟩
  · exact .inl h
  · exact .inr (.inl h)
  · exact .inr (.inr ⟨chc_f h0 h1, h⟩)
theorem ap_1 : apL (resD 1 [] []) = 0 := by decide
theorem ap_2 : apL (resD 2 [] []) = 1 := by decide
theorem ap_buf (v : Int) : apL (resD 3 [v] []) = rd v := by
  rcases v_ways v with rfl | rfl | ⟨h, e⟩
  · decide
  · decide
  · rw [e]; unfold resD; rw [h]; decide
theorem ap_not (v : Int) : apL (resD 4 [v] []) = nt v := by
  rcases v_ways v with rfl | rfl | ⟨h, e⟩
  · decide
  · decide
  · unfold nt; rw [e]; unfold resD; rw [h]; decide
theorem res_two (q a b : Int) : resD q [a, b] [] = (chc a false).flatMap fun x => (chc b false).flatMap fun y => [fn q [x, y]] := rfl
theorem res_three (q a b c : Int) : resD q [a, b, c] [] = (chc a false).flatMap fun x => (chc b false).flatMap fun y => (chc c false).flatMap fun z => [fn q [x, y, z]] := rfl
theorem ap_tri (a b : Int) : apL (resD 12 [a, b] []) = tr a b := by
  rw [res_two]
  unfold tr
  rcases v_ways a with rfl | rfl | ⟨h, e⟩ <;> rcases v_ways b with rfl | rfl | ⟨h', e'⟩
  all_goals (try rw [h]); (try rw [h']); (try rw [e]); (try rw [e']); decide
theorem ap_mux (a b c : Int) : apL (resD 11 [a, b, c] []) = mx a b c := by
  rw [res_three]
  unfold mx
  rcases v_ways a with rfl | rfl | ⟨h, e⟩ <;> rcases v_ways b with rfl | rfl | ⟨h', e'⟩ <;> rcases v_ways c with rfl | rfl | ⟨h'', e''⟩
  all_goals (try rw [h]); (try rw [h']); (try rw [h'']); (try rw [e]); (try rw [e']); (try rw [e'']); decide

end Go.Proofs.YtdanmepbdjfpfaaDoor
