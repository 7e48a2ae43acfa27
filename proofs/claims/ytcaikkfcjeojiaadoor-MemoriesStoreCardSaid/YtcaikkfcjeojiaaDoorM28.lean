/- The texts Sct. -/
import Derived.Test.YtcaikkfcjeojiaaDoorM27
namespace Go.Proofs.YtcaikkfcjeojiaaDoor
open Go.RowKit

def unk (v : Int) : Bool := !knw v
theorem unk_any (v : Int) (w : World) : Calls Tryd.prog 18 #[.int .u8 v] w fun e w' => e = .returned (.bool (unk v)) ∧ w = w' := by
  have HK := Lib.hid (Lg.known_any v w)
  obtain ⟨k, HKK⟩ := named (knw v)
  unfold unk
  rw [← HKK.out] at HK ⊢
  go_enter Tryd.func18, Tryd.ntmps18
  go_wp2_with (go_at_call 19; (with_reducible refine HK.out.mono ?_); rintro e w' ⟨rfl, rfl⟩)
  go_ret
  exact ⟨rfl, rfl⟩
set_option maxHeartbeats 1000000 in
theorem indexU_any (l : List Int) (s : Value) (w : World) (B : Nat) (hs : Ks w B s l) :
    Calls Tryd.prog 34 #[s, .func (.func 18) #[] #[]] w (IdxP (anyP unk l) w) := by
  obtain ⟨A, b, o, c, rfl, hA, -, hm, hc⟩ := hs.opens
  unfold maxLen at hm
  have HC := Lib.hid hc
  have HAA := Lib.hid hA
  clear hc hA hs
  obtain ⟨n, hn⟩ : ∃ n, n = l.length := ⟨_, rfl⟩
  rw [← hn] at hm
  rw [← hn]
  have HN := Lib.hid hn
  have HAB := Lib.hid unk_any
  clear hn
  go_enter Tryd.func34, Tryd.ntmps34
  go_wp2
  go_loopw [8] (fun i wr => wr = w ∧ ∃ k : Nat, k ≤ n ∧ i = .int .i64 k ∧ ∀ j, j < k → unk (l.getD j 0) = false) (fun i _ => n - (intOf i).toNat)
  case atStart => exact ⟨rfl, 0, Nat.zero_le _, rfl, fun j hj => absurd hj (by omega)⟩
  case round =>
    obtain ⟨rfl, k, hk, rfl, hno⟩ := hrel
    have HNO := Lib.hid hno
    clear hno
    by_cases hlt : k < n
    · obtain rfl := HAA.out (by rw [← HN.out]; omega)
      have hcell := (HC.out k (by rw [← HN.out]; omega)).2
      obtain ⟨y, HX⟩ := named (l.getD k 0)
      rw [← HX.out] at hcell
      have HA1 := Lib.hid (fun w => HAB.out y w)
      cases hv : unk y
      · have HV := Lib.hid hv
        rw [hv] at HA1
        go_wp2_with (go_at_call 18; (with_reducible refine (HA1.out _).mono ?_); rintro e w' ⟨rfl, rfl⟩)
        go_roundw
        case rel =>
          refine ⟨by trivial, k + 1, by omega, by go_num, fun j hj => ?_⟩
          by_cases hjk : j = k
          · rw [hjk, ← HX.out]; exact HV.out
          · exact HNO.out j (by omega)
        case measure => simp [intOf]; omega
      · have HV := Lib.hid hv
        rw [hv] at HA1
        go_wp2_with (go_at_call 18; (with_reducible refine (HA1.out _).mono ?_); rintro e w' ⟨rfl, rfl⟩)
        go_ret
        exact ⟨k, rfl, ⟨fun _ => anyP_yes k (by rw [← HN.out]; omega) (by rw [← HX.out]; exact HV.out), fun _ => by omega⟩, rfl⟩
    · go_wp2
      go_ret
      exact ⟨-1, rfl, ⟨fun h => absurd h (by omega), fun h => by rw [anyP_no (fun j hj => HNO.out j (by rw [← HN.out] at hj; omega))] at h; cases h⟩, rfl⟩
set_option maxHeartbeats 400000 in
theorem containsU_any (l : List Int) (s : Value) (w : World) (B : Nat) (hs : Ks w B s l) :
    Calls Tryd.prog 17 #[s, .func (.func 18) #[] #[]] w fun e w' => e = .returned (.bool (anyP unk l)) ∧ w = w' := by
  obtain ⟨y, HY⟩ := named (anyP unk l)
  rw [← HY.out]
  have HI := Lib.hid (indexU_any l s w B hs)
  clear hs
  rw [← HY.out] at HI
  go_enter Tryd.func17, Tryd.ntmps17
  go_wp2_with (go_at_call 34; (with_reducible refine HI.out.mono ?_); rintro e w' ⟨i, rfl, hi, rfl⟩; have HI2 := Lib.hid hi; clear hi)
  go_ret
  exact ⟨ret_bool (Bool.eq_iff_iff.2 (by simpa using HI2.out)), rfl⟩
end Go.Proofs.YtcaikkfcjeojiaaDoor
