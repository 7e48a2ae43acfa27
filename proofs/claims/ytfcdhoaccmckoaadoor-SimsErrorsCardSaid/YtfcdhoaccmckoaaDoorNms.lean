/- NetlistsNames: Find, the references IsName and Comb, the law. -/
import Derived.Test.YtfcdhoaccmckoaaDoorLiv
namespace Go.Proofs.YtfcdhoaccmckoaaDoor
open Go.RowKit

/-- r is where s stands first, or -1. -/
def First (l : List ByteArray) (s : ByteArray) (r : Int) : Prop :=
  (r = -1 ∧ ∀ j : Nat, j < l.length → (s.toList == (l.getD j ByteArray.empty).toList) = false) ∨ ∃ k : Nat, k < l.length ∧ r = (k : Int) ∧ (s.toList == (l.getD k ByteArray.empty).toList) = true ∧ ∀ j : Nat, j < k → (s.toList == (l.getD j ByteArray.empty).toList) = false
theorem First.uniq {l : List ByteArray} {s : ByteArray} {r r' : Int} (h : First l s r) (h' : First l s r') : r = r' := by
  rcases h with ⟨rfl, h1⟩ | ⟨k, hk, rfl, h1, h2⟩ <;> rcases h' with ⟨rfl, h1'⟩ | ⟨k', hk', rfl, h1', h2'⟩
  · rfl
  · rw [h1 k' hk'] at h1'; cases h1'
  · rw [h1' k hk] at h1; cases h1
  · rcases Nat.lt_trichotomy k k' with h | h | h
    · rw [h2' k h] at h1; cases h1
    · rw [h]
    · rw [h2 k' h] at h1'; cases h1'
theorem First.ge {l : List ByteArray} {s : ByteArray} {r : Int} (h : First l s r) : -1 ≤ r ∧ r < l.length := by
  rcases h with ⟨rfl, _⟩ | ⟨k, hk, rfl, _⟩ <;> omega

theorem refComb_any (k : Int) (w : World) : Calls Tryd.prog 77 #[.int .u8 k] w fun e w' => e = .returned (.bool (cmb k)) ∧ w = w' := by
  obtain ⟨y, HY⟩ := named (cmb k)
  rw [← HY.out]
  by_cases h1 : 1 ≤ k
  all_goals
    go_enter Tryd.func77, Tryd.ntmps77
    go_wp2
    go_ret
    exact ⟨ret_bool (by rw [HY.out]; first | (simp [cmb, h1]; done) | (simp [cmb, h1]; omega)), rfl⟩

theorem nmb_cases (z : Int) : (nmb z = false ∧ (decide (z ≤ 32) = true ∨ (decide (z ≤ 32) = false ∧ decide (126 < z) = true) ∨ (decide (z ≤ 32) = false ∧ decide (126 < z) = false ∧ (z == 40) = true) ∨ (decide (z ≤ 32) = false ∧ decide (126 < z) = false ∧ (z == 40) = false ∧ (z == 41) = true) ∨
      (decide (z ≤ 32) = false ∧ decide (126 < z) = false ∧ (z == 40) = false ∧ (z == 41) = false ∧ (z == 61) = true) ∨ (decide (z ≤ 32) = false ∧ decide (126 < z) = false ∧ (z == 40) = false ∧ (z == 41) = false ∧ (z == 61) = false ∧ (z == 44) = true) ∨
      (decide (z ≤ 32) = false ∧ decide (126 < z) = false ∧ (z == 40) = false ∧ (z == 41) = false ∧ (z == 61) = false ∧ (z == 44) = false ∧ (z == 35) = true))) ∨
    (nmb z = true ∧ decide (z ≤ 32) = false ∧ decide (126 < z) = false ∧ (z == 40) = false ∧ (z == 41) = false ∧ (z == 61) = false ∧ (z == 44) = false ∧ (z == 35) = false) := by
  by_cases h1 : z ≤ 32
  · refine .inl ⟨?_, .inl (by simp [h1])⟩
    simp [nmb]; omega
  · by_cases h2 : 126 < z
    · refine .inl ⟨?_, .inr (.inl ⟨by simp [h1], by simp [h2]⟩)⟩
      simp [nmb]; omega
    · by_cases h3 : z = 40
      · subst h3; simp [nmb]
      · by_cases h4 : z = 41
        · subst h4; simp [nmb]
        · by_cases h5 : z = 61
          · subst h5; simp [nmb]
          · by_cases h6 : z = 44
            · subst h6; simp [nmb]
            · by_cases h7 : z = 35
              · subst h7; simp [nmb]
              · refine .inr ⟨?_, by simp [h1], by simp [h2], by simp [h3], by simp [h4], by simp [h5], by simp [h6], by simp [h7]⟩
                simp [nmb, h3, h4, h5, h6, h7]; omega

set_option maxHeartbeats 2000000 in
theorem refName_any (s : ByteArray) (hs100 : s.size ≤ 100) (w : World) : Calls Tryd.prog 74 #[.string s] w fun e w' => e = .returned (.bool (nameOk s.data.toList)) ∧ w = w' := by
  obtain ⟨y, HY⟩ := named (nameOk s.data.toList)
  rw [← HY.out]
  have hlen : s.data.toList.length = s.size := by simp
  have HL := Lib.hid hlen
  clear hlen
  go_enter Tryd.func74, Tryd.ntmps74
  go_wp2
  go_loopw [3] (fun i wr => wr = w ∧ ∃ k : Nat, k ≤ s.size ∧ i = .int .i64 k ∧ ∀ j, j < k → nmb ((s.data.toList.getD j 0).toNat : Int) = true) (fun i _ => s.size - (intOf i).toNat)
  case atStart => exact ⟨rfl, 0, Nat.zero_le _, rfl, fun j hj => absurd hj (by omega)⟩
  case round =>
    obtain ⟨rfl, k, hk, rfl, hno⟩ := hrel
    have HNO := Lib.hid hno
    clear hno
    by_cases hlt : k < s.size
    · have hb : (((s[k]'hlt).toNat : Nat) : Int) = ((s.data.toList.getD k 0).toNat : Int) := by
        rw [List.getD_eq_getElem?_getD, List.getElem?_eq_getElem (by simpa using hlt)]; rfl
      have HB := Lib.hid hb
      clear hb
      rcases nmb_cases ((s[k]'hlt).toNat : Int) with ⟨hv, hc⟩ | ⟨hv, q1, q2, q3, q4, q5, q6, q7⟩
      · have HV := Lib.hid hv
        clear hv
        rcases hc with q1 | ⟨q1, q2⟩ | ⟨q1, q2, q3⟩ | ⟨q1, q2, q3, q4⟩ | ⟨q1, q2, q3, q4, q5⟩ | ⟨q1, q2, q3, q4, q5, q6⟩ | ⟨q1, q2, q3, q4, q5, q6, q7⟩
        all_goals
          go_wp2
          go_ret
          exact ⟨ret_bool (by rw [HY.out]; exact (name_no k (by rw [HL.out]; exact hlt) (by rw [← HB.out]; exact HV.out)).symm), rfl⟩
      · have HV := Lib.hid hv
        clear hv
        go_wp2
        go_roundw
        case rel =>
          refine ⟨by trivial, k + 1, by omega, by go_num, fun j hj => ?_⟩
          by_cases hjk : j = k
          · rw [hjk, ← HB.out]; exact HV.out
          · exact HNO.out j (by omega)
        case measure => simp [intOf]; omega
    · have hall : ∀ j, j < s.data.toList.length → nmb ((s.data.toList.getD j 0).toNat : Int) = true := fun j hj => HNO.out j (by rw [HL.out] at hj; omega)
      have HA := Lib.hid hall
      clear hall
      by_cases hp : 0 < s.size
      · by_cases h32 : s.size ≤ 32
        · have hy : y = true := by rw [HY.out]; exact name_yes (by rw [HL.out]; exact hp) (by rw [HL.out]; exact h32) HA.out
          subst hy
          clear HY
          go_wp2
          go_ret
          exact ⟨ret_bool (by first | (simp; done) | (simp; omega)), rfl⟩
        · have hy : y = false := by rw [HY.out]; simp [nameOk, HL.out]; omega
          subst hy
          clear HY
          go_wp2
          go_ret
          exact ⟨ret_bool (by first | (simp; done) | (simp; omega)), rfl⟩
      · have hy : y = false := by rw [HY.out]; simp [nameOk, HL.out]; omega
        subst hy
        clear HY
        go_wp2
        go_ret
        exact ⟨ret_bool (by first | (simp; done) | (simp; omega)), rfl⟩

/-- What the search from behind keeps: r is where s stands first from k on, or -1. -/
def From (l : List ByteArray) (s : ByteArray) (k : Nat) (r : Int) : Prop :=
  (r = -1 ∧ ∀ j : Nat, k ≤ j → j < l.length → (s.toList == (l.getD j ByteArray.empty).toList) = false) ∨ ∃ m : Nat, k ≤ m ∧ m < l.length ∧ r = (m : Int) ∧ (s.toList == (l.getD m ByteArray.empty).toList) = true ∧ ∀ j : Nat, k ≤ j → j < m → (s.toList == (l.getD j ByteArray.empty).toList) = false
theorem From.first {l : List ByteArray} {s : ByteArray} {r : Int} (h : From l s 0 r) : First l s r := by
  rcases h with ⟨h1, h2⟩ | ⟨m, _, h1, h2, h3, h4⟩
  · exact .inl ⟨h1, fun j hj => h2 j (Nat.zero_le _) hj⟩
  · exact .inr ⟨m, h1, h2, h3, fun j hj => h4 j (Nat.zero_le _) hj⟩
theorem From.no {l : List ByteArray} {s : ByteArray} {r : Int} {k : Nat} (h : From l s (k + 1) r) (hk : (s.toList == (l.getD k ByteArray.empty).toList) = false) : From l s k r := by
  rcases h with ⟨h1, h2⟩ | ⟨m, h0, h1, h2, h3, h4⟩
  · refine .inl ⟨h1, fun j hj hl => ?_⟩
    by_cases e : j = k
    · rw [e]; exact hk
    · exact h2 j (by omega) hl
  · refine .inr ⟨m, by omega, h1, h2, h3, fun j hj hm => ?_⟩
    by_cases e : j = k
    · rw [e]; exact hk
    · exact h4 j (by omega) hm
theorem From.yes {l : List ByteArray} {s : ByteArray} {k : Nat} (hl : k < l.length) (hk : (s.toList == (l.getD k ByteArray.empty).toList) = true) : From l s k (k : Int) :=
  .inr ⟨k, Nat.le_refl _, hl, rfl, hk, fun j h1 h2 => by omega⟩

end Go.Proofs.YtfcdhoaccmckoaaDoor

