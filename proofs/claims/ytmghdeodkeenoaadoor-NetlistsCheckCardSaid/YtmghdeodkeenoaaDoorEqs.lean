/- The library's Equal at numbers and texts, its EqualFunc at nodes and memories, and Same. -/
import Derived.Test.YtmghdeodkeenoaaDoorInt
import Derived.Test.YtmghdeodkeenoaaDoorSor
namespace Go.Proofs.YtmghdeodkeenoaaDoor
open Go.RowKit

theorem strs_eq_of {l l' : List ByteArray} (hl : l.length = l'.length) (h : ∀ j, j < l.length → l.getD j ByteArray.empty = l'.getD j ByteArray.empty) : l = l' := by
  apply List.ext_getElem hl
  intro j h1 h2
  have := h j h1
  simpa [List.getD_eq_getElem?_getD, List.getElem?_eq_getElem h1, List.getElem?_eq_getElem h2] using this
set_option maxHeartbeats 1000000 in
theorem eqI_any (l l' : List Int) (s s' : Value) (w : World) (B B' : Nat) (h : Is w B s l) (h' : Is w B' s' l') :
    Calls Tryd.prog 61 #[s, s'] w fun e w' => e = .returned (.bool (decide (l = l'))) ∧ ∃ n, w' = w.drewN n := by
  obtain ⟨y, HY⟩ := named (decide (l = l'))
  rw [← HY.out]
  obtain ⟨A, b, o, c, rfl, hA, hcc, hm, hc⟩ := h.opens
  obtain ⟨A', b', o', c', rfl, hA', -, hm', hc'⟩ := h'.opens
  unfold maxLen at hm hm'
  have HC := Lib.hid hc
  have HC' := Lib.hid hc'
  have HAA := Lib.hid hA
  have HAA' := Lib.hid hA'
  clear hc hc' hA hA' h h'
  obtain ⟨n, hn⟩ : ∃ n, n = l.length := ⟨_, rfl⟩
  obtain ⟨n', hn'⟩ : ∃ n', n' = l'.length := ⟨_, rfl⟩
  rw [← hn] at hm hcc
  rw [← hn'] at hm'
  rw [← hn, ← hn']
  have HN := Lib.hid hn
  have HN' := Lib.hid hn'
  clear hn hn'
  by_cases hnn : n = n'
  rotate_left
  · have hv : y = false := by rw [HY.out, decide_eq_false_iff_not]; intro h; exact hnn (by rw [HN.out, HN'.out, h])
    have hb : ((n : Int) != (n' : Int)) = true := by rw [bne_iff_ne]; omega
    have HV := Lib.hid hv
    clear hv hnn
    go_enter Tryd.func61, Tryd.ntmps61
    go_wp2
    go_ret
    exact ⟨ret_bool (by rw [HV.out]), 0, rfl⟩
  subst hnn
  go_enter Tryd.func61, Tryd.ntmps61
  go_wp2
  go_loopw [13] (fun i wr => ∃ k m : Nat, k ≤ n ∧ i = .int .i64 k ∧ wr = w.drewN m ∧ ∀ j, j < k → l.getD j 0 = l'.getD j 0) (fun i _ => n - (intOf i).toNat)
  case atStart => exact ⟨0, 0, Nat.zero_le _, rfl, rfl, fun j hj => absurd hj (by omega)⟩
  case round =>
    obtain ⟨k, m, hk, rfl, rfl, hno⟩ := hrel
    have HNO := Lib.hid hno
    clear hno
    by_cases hlt : k < n
    · obtain rfl := HAA.out (by rw [← HN.out]; omega)
      obtain rfl := HAA'.out (by rw [← HN'.out]; omega)
      have h1 := (HC.out k (by rw [← HN.out]; omega)).2
      have h2 := (HC'.out k (by rw [← HN'.out]; omega)).2
      obtain ⟨x, HX⟩ := named (l.getD k 0)
      obtain ⟨x', HX'⟩ := named (l'.getD k 0)
      rw [← HX.out] at h1
      rw [← HX'.out] at h2
      cases hv : (x != x')
      · have HV := Lib.hid hv
        go_wp2
        go_quiet (fail)
        go_wp2
        go_roundw
        case rel =>
          refine ⟨k + 1, m + nq, by omega, by go_num, by first | rfl | rw [World.drewN_drewN], fun j hj => ?_⟩
          by_cases hjk : j = k
          · rw [hjk, ← HX.out, ← HX'.out]; simpa using HV.out
          · exact HNO.out j (by omega)
        case measure => simp [intOf]; omega
      · have hy1 : y = false := by
          rw [HY.out, decide_eq_false_iff_not]
          intro h
          have : x = x' := by rw [HX.out, HX'.out, h]
          simp [this] at hv
        have HV := Lib.hid hy1
        clear hy1
        go_wp2
        go_quiet (fail)
        go_wp2
        go_ret
        exact ⟨ret_bool (by rw [HV.out]), m + nq, by first | rfl | rw [World.drewN_drewN]⟩
    · have hkn : k = n := by omega
      go_wp2
      go_ret
      exact ⟨ret_bool (by rw [HY.out]; exact (decide_eq_true (list_eq_of (HN.out.symm.trans HN'.out) (fun j hj => HNO.out j (by rw [← HN.out] at hj; omega)))).symm), m, rfl⟩
set_option maxHeartbeats 1000000 in
theorem eqS_any (l l' : List ByteArray) (s s' : Value) (w : World) (B B' : Nat) (h : Ss w B s l) (h' : Ss w B' s' l') :
    Calls Tryd.prog 58 #[s, s'] w fun e w' => e = .returned (.bool (decide (l = l'))) ∧ ∃ n, w' = w.drewN n := by
  obtain ⟨y, HY⟩ := named (decide (l = l'))
  rw [← HY.out]
  obtain ⟨A, b, o, c, rfl, hA, hcc, hm, hc⟩ := h.opens
  obtain ⟨A', b', o', c', rfl, hA', -, hm', hc'⟩ := h'.opens
  unfold maxLen at hm hm'
  have HC := Lib.hid hc
  have HC' := Lib.hid hc'
  have HAA := Lib.hid hA
  have HAA' := Lib.hid hA'
  clear hc hc' hA hA' h h'
  obtain ⟨n, hn⟩ : ∃ n, n = l.length := ⟨_, rfl⟩
  obtain ⟨n', hn'⟩ : ∃ n', n' = l'.length := ⟨_, rfl⟩
  rw [← hn] at hm hcc
  rw [← hn'] at hm'
  rw [← hn, ← hn']
  have HN := Lib.hid hn
  have HN' := Lib.hid hn'
  clear hn hn'
  by_cases hnn : n = n'
  rotate_left
  · have hv : y = false := by rw [HY.out, decide_eq_false_iff_not]; intro h; exact hnn (by rw [HN.out, HN'.out, h])
    have hb : ((n : Int) != (n' : Int)) = true := by rw [bne_iff_ne]; omega
    have HV := Lib.hid hv
    clear hv hnn
    go_enter Tryd.func58, Tryd.ntmps58
    go_wp2
    go_ret
    exact ⟨ret_bool (by rw [HV.out]), 0, rfl⟩
  subst hnn
  go_enter Tryd.func58, Tryd.ntmps58
  go_wp2
  go_loopw [13] (fun i wr => ∃ k m : Nat, k ≤ n ∧ i = .int .i64 k ∧ wr = w.drewN m ∧ ∀ j, j < k → l.getD j ByteArray.empty = l'.getD j ByteArray.empty) (fun i _ => n - (intOf i).toNat)
  case atStart => exact ⟨0, 0, Nat.zero_le _, rfl, rfl, fun j hj => absurd hj (by omega)⟩
  case round =>
    obtain ⟨k, m, hk, rfl, rfl, hno⟩ := hrel
    have HNO := Lib.hid hno
    clear hno
    by_cases hlt : k < n
    · obtain rfl := HAA.out (by rw [← HN.out]; omega)
      obtain rfl := HAA'.out (by rw [← HN'.out]; omega)
      have h1 := (HC.out k (by rw [← HN.out]; omega)).2.1
      have h2 := (HC'.out k (by rw [← HN'.out]; omega)).2.1
      obtain ⟨x, HX⟩ := named (l.getD k ByteArray.empty)
      obtain ⟨x', HX'⟩ := named (l'.getD k ByteArray.empty)
      rw [← HX.out] at h1
      rw [← HX'.out] at h2
      cases hv2 : (x.toList == x'.toList)
      rotate_left
      · have hv : (x.toList != x'.toList) = false := by simp only [bne, hv2]; rfl
        have e : x.toList = x'.toList := by simpa using hv2
        rw [ByteArray.toList_eq, ByteArray.toList_eq] at e
        have HV : Hid (x = x') := Lib.hid (ByteArray.ext (Array.toList_inj.mp e))
        clear e
        go_wp2
        go_quiet (fail)
        go_wp2
        go_roundw
        case rel =>
          refine ⟨k + 1, m + nq, by omega, by go_num, by first | rfl | rw [World.drewN_drewN], fun j hj => ?_⟩
          by_cases hjk : j = k
          · rw [hjk, ← HX.out, ← HX'.out]; exact HV.out
          · exact HNO.out j (by omega)
        case measure => simp [intOf]; omega
      · have hv : (x.toList != x'.toList) = true := by simp only [bne, hv2]; rfl
        have hy1 : y = false := by
          rw [HY.out, decide_eq_false_iff_not]
          intro h
          have : x = x' := by rw [HX.out, HX'.out, h]
          simp [this] at hv2
        have HV := Lib.hid hy1
        clear hy1
        go_wp2
        go_quiet (fail)
        go_wp2
        go_ret
        exact ⟨ret_bool (by rw [HV.out]), m + nq, by first | rfl | rw [World.drewN_drewN]⟩
    · have hkn : k = n := by omega
      go_wp2
      go_ret
      exact ⟨ret_bool (by rw [HY.out]; exact (decide_eq_true (strs_eq_of (HN.out.symm.trans HN'.out) (fun j hj => HNO.out j (by rw [← HN.out] at hj; omega)))).symm), m, rfl⟩
end Go.Proofs.YtmghdeodkeenoaaDoor
