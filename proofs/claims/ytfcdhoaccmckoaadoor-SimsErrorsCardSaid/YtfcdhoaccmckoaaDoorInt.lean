/- The walk of Ints, and of slices.Equal at numbers. -/
import Derived.Test.YtfcdhoaccmckoaaDoorSli
namespace Go.Proofs.YtfcdhoaccmckoaaDoor
open Go.RowKit

def intsR (l l' : List Int) (c : Nat) : Int := if l = l' ∧ c ≤ l.length then 0 else 1
theorem list_eq_of {l l' : List Int} (hl : l.length = l'.length) (h : ∀ j, j < l.length → l.getD j 0 = l'.getD j 0) : l = l' := by
  apply List.ext_getElem hl
  intro j h1 h2
  have := h j h1
  simpa [List.getD_eq_getElem?_getD, List.getElem?_eq_getElem h1, List.getElem?_eq_getElem h2] using this

set_option maxHeartbeats 1000000 in
theorem ints_any (l l' : List Int) (A : Option Addr) (c : Nat) (s' : Value) (w : World) (B B' : Nat) (h : Is w B (.slice A l.length c) l) (h' : Is w B' s' l') :
    Calls Tryd.prog 27 #[.slice A l.length c, s'] w fun e w' => e = .returned (.int .i64 (intsR l l' c)) ∧ ∃ n, w' = w.drewN n := by
  obtain ⟨y, HY⟩ := named (intsR l l' c)
  rw [← HY.out]
  obtain ⟨A1, b, o, c1, e, hA, hcc, hm, hc⟩ := h.opens
  simp only [Value.slice.injEq, true_and] at e
  obtain ⟨rfl, rfl⟩ := e
  obtain ⟨A', b', o', c', rfl, hA', -, hm', hc'⟩ := h'.opens
  unfold maxLen at hm hm'
  have HC := Lib.hid hc
  have HC' := Lib.hid hc'
  have HAA := Lib.hid hA
  have HAA' := Lib.hid hA'
  clear hc hc' hA hA' h h'
  obtain ⟨n, hn⟩ : ∃ n, n = l.length := ⟨_, rfl⟩
  obtain ⟨n', hn'⟩ : ∃ n', n' = l'.length := ⟨_, rfl⟩
  rw [← hn] at hm hcc
  rw [← hn'] at hm'
  rw [← hn, ← hn']
  have HN := Lib.hid hn
  have HN' := Lib.hid hn'
  clear hn hn'
  by_cases hnn : n = n'
  rotate_left
  · have hv : y = 1 := by rw [HY.out, intsR, if_neg (fun h => hnn (by rw [HN.out, HN'.out, h.1]))]
    have hb : ((n : Int) != (n' : Int)) = true := by rw [bne_iff_ne]; omega
    have HV := Lib.hid hv
    clear hv hnn
    go_enter Tryd.func27, Tryd.ntmps27
    go_wp2
    go_ret
    exact ⟨ret_int (by rw [HV.out]), 0, rfl⟩
  subst hnn
  by_cases hcn : n < c
  · have hv : y = 1 := by rw [HY.out, intsR, if_neg (fun h => by have := h.2; rw [← HN.out] at this; omega)]
    have HV := Lib.hid hv
    clear hv
    go_enter Tryd.func27, Tryd.ntmps27
    go_wp2
    go_ret
    exact ⟨ret_int (by rw [HV.out]), 0, rfl⟩
  go_enter Tryd.func27, Tryd.ntmps27
  go_wp2
  go_loopw [5] (fun i wr => ∃ k m : Nat, k ≤ n ∧ i = .int .i64 k ∧ wr = w.drewN m ∧ ∀ j, j < k → l.getD j 0 = l'.getD j 0) (fun i _ => n - (intOf i).toNat)
  case atStart => exact ⟨0, 0, Nat.zero_le _, rfl, rfl, fun j hj => absurd hj (by omega)⟩
  case round =>
    obtain ⟨k, m, hk, rfl, rfl, hno⟩ := hrel
    have HNO := Lib.hid hno
    clear hno
    by_cases hlt : k < n
    · obtain rfl := HAA.out (by rw [← HN.out]; omega)
      obtain rfl := HAA'.out (by rw [← HN'.out]; omega)
      have h1 := (HC.out k (by rw [← HN.out]; omega)).2
      have h2 := (HC'.out k (by rw [← HN'.out]; omega)).2
      obtain ⟨x, HX⟩ := named (l.getD k 0)
      obtain ⟨x', HX'⟩ := named (l'.getD k 0)
      rw [← HX.out] at h1
      rw [← HX'.out] at h2
      cases hv : (x != x')
      · have HV := Lib.hid hv
        go_wp2
        go_quiet (fail)
        go_wp2
        go_roundw
        case rel =>
          refine ⟨k + 1, m + nq, by omega, by go_num, by first | rfl | rw [World.drewN_drewN], fun j hj => ?_⟩
          by_cases hjk : j = k
          · rw [hjk, ← HX.out, ← HX'.out]; simpa using HV.out
          · exact HNO.out j (by omega)
        case measure => simp [intOf]; omega
      · have hy1 : y = 1 := by
          rw [HY.out, intsR, if_neg (fun h => ?_)]
          have e := h.1
          have : x = x' := by rw [HX.out, HX'.out, e]
          simp [this] at hv
        have HV := Lib.hid hy1
        clear hy1
        go_wp2
        go_quiet (fail)
        go_wp2
        go_ret
        exact ⟨ret_int (by rw [HV.out]), m + nq, by first | rfl | rw [World.drewN_drewN]⟩
    · have hkn : k = n := by omega
      go_wp2
      go_ret
      exact ⟨ret_int (by rw [HY.out, intsR, if_pos ⟨list_eq_of (HN.out.symm.trans HN'.out) (fun j hj => HNO.out j (by rw [← HN.out] at hj; omega)), by rw [← HN.out]; omega⟩]), m, rfl⟩

end Go.Proofs.YtfcdhoaccmckoaaDoor

