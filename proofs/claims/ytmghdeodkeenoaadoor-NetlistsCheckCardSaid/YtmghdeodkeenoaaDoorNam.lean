/- The walks of the functions on numbers and strings: Comb, isIndex, isNameByte, IsName. -/
import Derived.Test.YtmghdeodkeenoaaDoorSli
namespace Go.Proofs.YtmghdeodkeenoaaDoor
open Go.RowKit

/-- May a name contain the byte b? -/
def nmb (b : Int) : Bool := !(b == 40 || b == 41 || b == 61 || b == 44 || b == 35) && (decide (33 ≤ b) && decide (b ≤ 126))
/-- Is s a name? -/
def nameOk (s : List UInt8) : Bool := decide (0 < s.length) && decide (s.length ≤ 32) && s.all fun c => nmb (c.toNat : Int)

set_option maxHeartbeats 400000 in
theorem comb_any (k : Int) (w : World) : Calls Tryd.prog 22 #[.int .u8 k] w fun e w' => e = .returned (.bool (cmb k)) ∧ w = w' := by
  obtain ⟨y, HY⟩ := named (cmb k)
  rw [← HY.out]
  by_cases h1 : 1 ≤ k
  all_goals
    go_enter Tryd.func22, Tryd.ntmps22
    go_wp2
    go_ret
    exact ⟨ret_bool (by rw [HY.out]; first | (simp [cmb, h1]; done) | (simp [cmb, h1]; omega)), rfl⟩

set_option maxHeartbeats 400000 in
theorem idx_any (i : Int) (n : Nat) (w : World) : Calls Tryd.prog 50 #[.int .i64 i, .int .i64 n] w fun e w' => e = .returned (.bool (isIdx n i)) ∧ w = w' := by
  obtain ⟨y, HY⟩ := named (isIdx n i)
  rw [← HY.out]
  by_cases h1 : 0 ≤ i
  all_goals
    go_enter Tryd.func50, Tryd.ntmps50
    go_wp2
    go_ret
    exact ⟨ret_bool (by rw [HY.out]; first | (simp [isIdx, h1]; done) | (simp [isIdx, h1]; omega)), rfl⟩

set_option maxHeartbeats 400000 in
theorem nmb_any (b : Int) (w : World) : Calls Tryd.prog 49 #[.int .u8 b] w fun e w' => e = .returned (.bool (nmb b)) ∧ w = w' := by
  obtain ⟨y, HY⟩ := named (nmb b)
  rw [← HY.out]
  by_cases h1 : b = 40
  · subst h1; go_enter Tryd.func49, Tryd.ntmps49
    go_wp2
    go_ret
    exact ⟨ret_bool (by rw [HY.out]; rfl), rfl⟩
  by_cases h2 : b = 41
  · subst h2; go_enter Tryd.func49, Tryd.ntmps49
    go_wp2
    go_ret
    exact ⟨ret_bool (by rw [HY.out]; rfl), rfl⟩
  by_cases h3 : b = 61
  · subst h3; go_enter Tryd.func49, Tryd.ntmps49
    go_wp2
    go_ret
    exact ⟨ret_bool (by rw [HY.out]; rfl), rfl⟩
  by_cases h4 : b = 44
  · subst h4; go_enter Tryd.func49, Tryd.ntmps49
    go_wp2
    go_ret
    exact ⟨ret_bool (by rw [HY.out]; rfl), rfl⟩
  by_cases h5 : b = 35
  · subst h5; go_enter Tryd.func49, Tryd.ntmps49
    go_wp2
    go_ret
    exact ⟨ret_bool (by rw [HY.out]; rfl), rfl⟩
  by_cases h6 : 33 ≤ b
  all_goals
    go_enter Tryd.func49, Tryd.ntmps49
    go_wp2
    go_ret
    exact ⟨ret_bool (by rw [HY.out]; first | (simp [nmb, h1, h2, h3, h4, h5, h6]; done) | (simp [nmb, h1, h2, h3, h4, h5, h6]; omega)), rfl⟩

theorem name_no {s : List UInt8} (k : Nat) (h : k < s.length) (hf : nmb ((s.getD k 0).toNat : Int) = false) : nameOk s = false := by
  unfold nameOk
  have : (s.all fun c => nmb (c.toNat : Int)) = false := by
    rw [List.all_eq_false]
    refine ⟨s[k], List.getElem_mem h, ?_⟩
    rw [List.getD_eq_getElem?_getD, List.getElem?_eq_getElem h] at hf
    simpa using hf
  rw [this, Bool.and_false]
theorem name_yes {s : List UInt8} (h0 : 0 < s.length) (h1 : s.length ≤ 32) (h : ∀ k, k < s.length → nmb ((s.getD k 0).toNat : Int) = true) : nameOk s = true := by
  unfold nameOk
  have : (s.all fun c => nmb (c.toNat : Int)) = true := by
    rw [List.all_eq_true]
    intro c hc
    obtain ⟨k, hk, rfl⟩ := List.mem_iff_getElem.1 hc
    have := h k hk
    rwa [List.getD_eq_getElem?_getD, List.getElem?_eq_getElem hk] at this
  simp [this, h1, h0]

set_option maxHeartbeats 1000000 in
theorem isName_any (s : ByteArray) (w : World) : Calls Tryd.prog 20 #[.string s] w fun e w' => e = .returned (.bool (nameOk s.data.toList)) ∧ w = w' := by
  obtain ⟨y, HY⟩ := named (nameOk s.data.toList)
  rw [← HY.out]
  have hlen : s.data.toList.length = s.size := by simp
  have HL := Lib.hid hlen
  clear hlen
  by_cases he : s.data.toList = []
  · obtain rfl : s = ⟨#[]⟩ := by
      obtain ⟨⟨l⟩⟩ := s
      obtain rfl : l = [] := he
      rfl
    go_enter Tryd.func20, Tryd.ntmps20
    go_wp2
    go_ret
    exact ⟨ret_bool (by rw [HY.out]; rfl), rfl⟩
  · have hpos : 0 < s.size := by rw [← HL.out]; exact List.length_pos_iff.2 he
    have hemp : s.toList.isEmpty = false := by rw [ByteArray.toList_eq]; simpa using he
    have hne : ¬ s.toList = [] := by rw [ByteArray.toList_eq]; exact he
    have HE := Lib.hid he
    clear he
    by_cases h32 : s.size ≤ 32
    · have h32' : decide (32 < (s.size : Int)) = false := by simp; omega
      go_enter Tryd.func20, Tryd.ntmps20
      go_wp2_with fail
      go_loopw [13] (fun i wr => wr = w ∧ ∃ k : Nat, k ≤ s.size ∧ i = .int .i64 k ∧ ∀ j, j < k → nmb ((s.data.toList.getD j 0).toNat : Int) = true) (fun i _ => s.size - (intOf i).toNat)
      case atStart => exact ⟨rfl, 0, Nat.zero_le _, rfl, fun j hj => absurd hj (by omega)⟩
      case round =>
        obtain ⟨rfl, k, hk, rfl, hno⟩ := hrel
        have HNO := Lib.hid hno
        clear hno
        by_cases hlt : k < s.size
        · have hb : (((s[k]'hlt).toNat : Nat) : Int) = ((s.data.toList.getD k 0).toNat : Int) := by
            rw [List.getD_eq_getElem?_getD, List.getElem?_eq_getElem (by simpa using hlt)]; rfl
          have HB := Lib.hid hb
          clear hb
          cases hv : nmb ((s[k]'hlt).toNat : Int)
          · have HV := Lib.hid hv
            clear hv
            go_wp2_with (go_at_call 49; (with_reducible refine (nmb_any _ _).mono ?_); rintro e w' ⟨rfl, rfl⟩; rw [HV.out])
            go_ret
            exact ⟨ret_bool (by rw [HY.out]; exact (name_no k (by rw [HL.out]; exact hlt) (by rw [← HB.out]; exact HV.out)).symm), rfl⟩
          · have HV := Lib.hid hv
            clear hv
            go_wp2_with (go_at_call 49; (with_reducible refine (nmb_any _ _).mono ?_); rintro e w' ⟨rfl, rfl⟩; rw [HV.out])
            go_roundw
            case rel =>
              refine ⟨by trivial, k + 1, by omega, by go_num, fun j hj => ?_⟩
              by_cases hjk : j = k
              · rw [hjk, ← HB.out]; exact HV.out
              · exact HNO.out j (by omega)
            case measure => simp [intOf]; omega
        · go_wp2
          go_ret
          exact ⟨ret_bool (by rw [HY.out]; exact (name_yes (by rw [HL.out]; exact hpos) (by rw [HL.out]; exact h32) (fun j hj => HNO.out j (by rw [HL.out] at hj; omega))).symm), rfl⟩
    · have h32' : decide (32 < (s.size : Int)) = true := by simp; omega
      have hy : nameOk s.data.toList = false := by simp [nameOk, HL.out]; omega
      have HYY := Lib.hid hy
      clear hy
      go_enter Tryd.func20, Tryd.ntmps20
      go_wp2
      go_ret
      exact ⟨ret_bool (by rw [HY.out, HYY.out]), rfl⟩

end Go.Proofs.YtmghdeodkeenoaaDoor
