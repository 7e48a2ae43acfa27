/- NetlistsCopy, the plain side: two circuits are one exactly if Same says so; what the law's changes leave. -/
import Derived.Test.YtfcdhoaccmckoaaGreatDoorLiv
import Derived.Test.YtfcdhoaccmckoaaGreatDoorSor
import Derived.Test.YtfcdhoaccmckoaaGreatDoorChk
import Derived.Test.YtfcdhoaccmckoaaGreatDoorUnq
namespace Go.Proofs.YtfcdhoaccmckoaaGreatDoor
open Go.RowKit

theorem strs_eq_of {l l' : List ByteArray} (hl : l.length = l'.length) (h : ∀ j, j < l.length → l.getD j ByteArray.empty = l'.getD j ByteArray.empty) : l = l' := by
  apply List.ext_getElem hl
  intro j h1 h2
  have := h j h1
  simpa [List.getD_eq_getElem?_getD, List.getElem?_eq_getElem h1, List.getElem?_eq_getElem h2] using this
set_option maxHeartbeats 1000000 in
theorem eqI_any (l l' : List Int) (s s' : Value) (w : World) (B B' : Nat) (h : Is w B s l) (h' : Is w B' s' l') :
    Calls Tryz.prog 35 #[s, s'] w fun e w' => e = .returned (.bool (decide (l = l'))) ∧ ∃ n, w' = w.drewN n := by
  obtain ⟨y, HY⟩ := named (decide (l = l'))
  rw [← HY.out]
  obtain ⟨A, b, o, c, rfl, hA, hcc, hm, hc⟩ := h.opens
  obtain ⟨A', b', o', c', rfl, hA', -, hm', hc'⟩ := h'.opens
  unfold maxLen at hm hm'
  have HC := Lib.hid hc
  have HC' := Lib.hid hc'
  have HAA := Lib.hid hA
  have HAA' := Lib.hid hA'
  clear hc hc' hA hA' h h'
  obtain ⟨n, hn⟩ : ∃ n, n = l.length := ⟨_, rfl⟩
  obtain ⟨n', hn'⟩ : ∃ n', n' = l'.length := ⟨_, rfl⟩
  rw [← hn] at hm hcc
  rw [← hn'] at hm'
  rw [← hn, ← hn']
  have HN := Lib.hid hn
  have HN' := Lib.hid hn'
  clear hn hn'
  by_cases hnn : n = n'
  rotate_left
  · have hv : y = false := by rw [HY.out, decide_eq_false_iff_not]; intro h; exact hnn (by rw [HN.out, HN'.out, h])
    have hb : ((n : Int) != (n' : Int)) = true := by rw [bne_iff_ne]; omega
    have HV := Lib.hid hv
    clear hv hnn
    go_enter Tryz.func35, Tryz.ntmps35
    go_wp2
    go_ret
    exact ⟨ret_bool (by rw [HV.out]), 0, rfl⟩
  subst hnn
  go_enter Tryz.func35, Tryz.ntmps35
  go_wp2
  go_loopw [13] (fun i wr => ∃ k m : Nat, k ≤ n ∧ i = .int .i64 k ∧ wr = w.drewN m ∧ ∀ j, j < k → l.getD j 0 = l'.getD j 0) (fun i _ => n - (intOf i).toNat)
  case atStart => exact ⟨0, 0, Nat.zero_le _, rfl, rfl, fun j hj => absurd hj (by omega)⟩
  case round =>
    obtain ⟨k, m, hk, rfl, rfl, hno⟩ := hrel
    have HNO := Lib.hid hno
    clear hno
    by_cases hlt : k < n
    · obtain rfl := HAA.out (by rw [← HN.out]; omega)
      obtain rfl := HAA'.out (by rw [← HN'.out]; omega)
      have h1 := (HC.out k (by rw [← HN.out]; omega)).2
      have h2 := (HC'.out k (by rw [← HN'.out]; omega)).2
      obtain ⟨x, HX⟩ := named (l.getD k 0)
      obtain ⟨x', HX'⟩ := named (l'.getD k 0)
      rw [← HX.out] at h1
      rw [← HX'.out] at h2
      cases hv : (x != x')
      · have HV := Lib.hid hv
        go_wp2
        go_quiet (fail)
        go_wp2
        go_roundw
        case rel =>
          refine ⟨k + 1, m + nq, by omega, by go_num, by first | rfl | rw [World.drewN_drewN], fun j hj => ?_⟩
          by_cases hjk : j = k
          · rw [hjk, ← HX.out, ← HX'.out]; simpa using HV.out
          · exact HNO.out j (by omega)
        case measure => simp [intOf]; omega
      · have hy1 : y = false := by
          rw [HY.out, decide_eq_false_iff_not]
          intro h
          have : x = x' := by rw [HX.out, HX'.out, h]
          simp [this] at hv
        have HV := Lib.hid hy1
        clear hy1
        go_wp2
        go_quiet (fail)
        go_wp2
        go_ret
        exact ⟨ret_bool (by rw [HV.out]), m + nq, by first | rfl | rw [World.drewN_drewN]⟩
    · have hkn : k = n := by omega
      go_wp2
      go_ret
      exact ⟨ret_bool (by rw [HY.out]; exact (decide_eq_true (list_eq_of (HN.out.symm.trans HN'.out) (fun j hj => HNO.out j (by rw [← HN.out] at hj; omega)))).symm), m, rfl⟩
set_option maxHeartbeats 1000000 in
theorem eqS_any (l l' : List ByteArray) (s s' : Value) (w : World) (B B' : Nat) (h : Ss w B s l) (h' : Ss w B' s' l') :
    Calls Tryz.prog 32 #[s, s'] w fun e w' => e = .returned (.bool (decide (l = l'))) ∧ ∃ n, w' = w.drewN n := by
  obtain ⟨y, HY⟩ := named (decide (l = l'))
  rw [← HY.out]
  obtain ⟨A, b, o, c, rfl, hA, hcc, hm, hc⟩ := h.opens
  obtain ⟨A', b', o', c', rfl, hA', -, hm', hc'⟩ := h'.opens
  unfold maxLen at hm hm'
  have HC := Lib.hid hc
  have HC' := Lib.hid hc'
  have HAA := Lib.hid hA
  have HAA' := Lib.hid hA'
  clear hc hc' hA hA' h h'
  obtain ⟨n, hn⟩ : ∃ n, n = l.length := ⟨_, rfl⟩
  obtain ⟨n', hn'⟩ : ∃ n', n' = l'.length := ⟨_, rfl⟩
  rw [← hn] at hm hcc
  rw [← hn'] at hm'
  rw [← hn, ← hn']
  have HN := Lib.hid hn
  have HN' := Lib.hid hn'
  clear hn hn'
  by_cases hnn : n = n'
  rotate_left
  · have hv : y = false := by rw [HY.out, decide_eq_false_iff_not]; intro h; exact hnn (by rw [HN.out, HN'.out, h])
    have hb : ((n : Int) != (n' : Int)) = true := by rw [bne_iff_ne]; omega
    have HV := Lib.hid hv
    clear hv hnn
    go_enter Tryz.func32, Tryz.ntmps32
    go_wp2
    go_ret
    exact ⟨ret_bool (by rw [HV.out]), 0, rfl⟩
  subst hnn
  go_enter Tryz.func32, Tryz.ntmps32
  go_wp2
  go_loopw [13] (fun i wr => ∃ k m : Nat, k ≤ n ∧ i = .int .i64 k ∧ wr = w.drewN m ∧ ∀ j, j < k → l.getD j ByteArray.empty = l'.getD j ByteArray.empty) (fun i _ => n - (intOf i).toNat)
  case atStart => exact ⟨0, 0, Nat.zero_le _, rfl, rfl, fun j hj => absurd hj (by omega)⟩
  case round =>
    obtain ⟨k, m, hk, rfl, rfl, hno⟩ := hrel
    have HNO := Lib.hid hno
    clear hno
    by_cases hlt : k < n
    · obtain rfl := HAA.out (by rw [← HN.out]; omega)
      obtain rfl := HAA'.out (by rw [← HN'.out]; omega)
      have h1 := (HC.out k (by rw [← HN.out]; omega)).2.1
      have h2 := (HC'.out k (by rw [← HN'.out]; omega)).2.1
      obtain ⟨x, HX⟩ := named (l.getD k ByteArray.empty)
      obtain ⟨x', HX'⟩ := named (l'.getD k ByteArray.empty)
      rw [← HX.out] at h1
      rw [← HX'.out] at h2
      cases hv2 : (x.toList == x'.toList)
      rotate_left
      · have hv : (x.toList != x'.toList) = false := by simp only [bne, hv2]; rfl
        have e : x.toList = x'.toList := by simpa using hv2
        rw [ByteArray.toList_eq, ByteArray.toList_eq] at e
        have HV : Hid (x = x') := Lib.hid (ByteArray.ext (Array.toList_inj.mp e))
        clear e
        go_wp2
        go_quiet (fail)
        go_wp2
        go_roundw
        case rel =>
          refine ⟨k + 1, m + nq, by omega, by go_num, by first | rfl | rw [World.drewN_drewN], fun j hj => ?_⟩
          by_cases hjk : j = k
          · rw [hjk, ← HX.out, ← HX'.out]; exact HV.out
          · exact HNO.out j (by omega)
        case measure => simp [intOf]; omega
      · have hv : (x.toList != x'.toList) = true := by simp only [bne, hv2]; rfl
        have hy1 : y = false := by
          rw [HY.out, decide_eq_false_iff_not]
          intro h
          have : x = x' := by rw [HX.out, HX'.out, h]
          simp [this] at hv2
        have HV := Lib.hid hy1
        clear hy1
        go_wp2
        go_quiet (fail)
        go_wp2
        go_ret
        exact ⟨ret_bool (by rw [HV.out]), m + nq, by first | rfl | rw [World.drewN_drewN]⟩
    · have hkn : k = n := by omega
      go_wp2
      go_ret
      exact ⟨ret_bool (by rw [HY.out]; exact (decide_eq_true (strs_eq_of (HN.out.symm.trans HN'.out) (fun j hj => HNO.out j (by rw [← HN.out] at hj; omega)))).symm), m, rfl⟩
end Go.Proofs.YtfcdhoaccmckoaaGreatDoor

namespace Go.Proofs.YtfcdhoaccmckoaaGreatDoor
open Go.RowKit

def ndEq (x y : Nd) : Bool := x.kind == y.kind && x.mem == y.mem && x.bit == y.bit && decide (x.ins = y.ins)
def mmEq (x y : Mm) : Bool := x.write == y.write && decide (x.addr = y.addr) && decide (x.data = y.data)

set_option maxHeartbeats 1000000 in
theorem sameNode_any (x x' : Nd) (s s' : Value) (w : World) (B B' : Nat) (hB : B ≤ w.heap.size) (hB' : B' ≤ w.heap.size) (h : Is w B s x.ins) (h' : Is w B' s' x'.ins) :
    Calls Tryz.prog 31 #[.agg #[.int .u8 x.kind, s, .int .i64 x.mem, .int .i64 x.bit], .agg #[.int .u8 x'.kind, s', .int .i64 x'.mem, .int .i64 x'.bit]] w
      fun e w' => e = .returned (.bool (ndEq x x')) ∧ Below w.heap.size w w' := by
  obtain ⟨y, HY⟩ := named (ndEq x x')
  rw [← HY.out]
  have hy : ndEq x x' = (x.kind == x'.kind && x.mem == x'.mem && x.bit == x'.bit && decide (x.ins = x'.ins)) := rfl
  have hE : ∀ w1, Below w.heap.size w w1 → Calls Tryz.prog 35 #[s, s'] w1 fun e w' => e = .returned (.bool (decide (x.ins = x'.ins))) ∧ ∃ n, w' = w1.drewN n :=
    fun w1 hb => eqI_any _ _ _ _ w1 B B' (h.below (hb.mono hB)) (h'.below (hb.mono hB'))
  obtain ⟨A, b, o, c, rfl, -, -, -, -⟩ := h.opens
  obtain ⟨A', b', o', c', rfl, -, -, -, -⟩ := h'.opens
  have HE := Lib.hid hE
  clear hE h h'
  generalize decide (x.ins = x'.ins) = di at hy HE
  generalize x.ins.length = n at HE ⊢
  generalize x'.ins.length = n' at HE ⊢
  generalize x.kind = k at hy ⊢
  generalize x'.kind = k' at hy ⊢
  generalize x.mem = m at hy ⊢
  generalize x'.mem = m' at hy ⊢
  generalize x.bit = t at hy ⊢
  generalize x'.bit = t' at hy ⊢
  have HYY := Lib.hid hy
  clear hy
  cases h1 : k == k'
  · have H1 := Lib.hid h1
    go_enter Tryz.func31, Tryz.ntmps31
    go_wp2
    go_ret
    exact ⟨ret_bool (by rw [HY.out, HYY.out, H1.out]; rfl), ((Below.refl _ _).alloc (Nat.le_refl _) _).alloc (by simp) _⟩
  cases h2 : m == m'
  · have H1 := Lib.hid h1
    have H2 := Lib.hid h2
    go_enter Tryz.func31, Tryz.ntmps31
    go_wp2
    go_ret
    exact ⟨ret_bool (by rw [HY.out, HYY.out, H1.out, H2.out]; rfl), ((Below.refl _ _).alloc (Nat.le_refl _) _).alloc (by simp) _⟩
  cases h3 : t == t'
  · have H1 := Lib.hid h1
    have H2 := Lib.hid h2
    have H3 := Lib.hid h3
    go_enter Tryz.func31, Tryz.ntmps31
    go_wp2
    go_ret
    exact ⟨ret_bool (by rw [HY.out, HYY.out, H1.out, H2.out, H3.out]; rfl), ((Below.refl _ _).alloc (Nat.le_refl _) _).alloc (by simp) _⟩
  · have H1 := Lib.hid h1
    have H2 := Lib.hid h2
    have H3 := Lib.hid h3
    go_enter Tryz.func31, Tryz.ntmps31
    go_wp2_with (go_at_call 35; (with_reducible refine (HE.out _ (((Below.refl _ _).alloc (Nat.le_refl _) _).alloc (by simp) _)).mono ?_); rintro e w' ⟨rfl, q, rfl⟩)
    go_ret
    exact ⟨ret_bool (by rw [HY.out, HYY.out, H1.out, H2.out, H3.out]; rfl), below_drewN (((Below.refl _ _).alloc (Nat.le_refl _) _).alloc (by simp) _) _⟩
set_option maxHeartbeats 1000000 in
theorem sameMem_any (x x' : Mm) (s t s' t' : Value) (w : World) (B B' : Nat) (hB : B ≤ w.heap.size) (hB' : B' ≤ w.heap.size) (h : Is w B s x.addr) (hd : Is w B t x.data) (h' : Is w B' s' x'.addr) (hd' : Is w B' t' x'.data) :
    Calls Tryz.prog 34 #[.agg #[s, t, .int .i64 x.write], .agg #[s', t', .int .i64 x'.write]] w
      fun e w' => e = .returned (.bool (mmEq x x')) ∧ Below w.heap.size w w' := by
  obtain ⟨y, HY⟩ := named (mmEq x x')
  rw [← HY.out]
  have hy : mmEq x x' = (x.write == x'.write && decide (x.addr = x'.addr) && decide (x.data = x'.data)) := rfl
  have hE : ∀ w1, Below w.heap.size w w1 → Calls Tryz.prog 35 #[s, s'] w1 fun e w' => e = .returned (.bool (decide (x.addr = x'.addr))) ∧ ∃ n, w' = w1.drewN n :=
    fun w1 hb => eqI_any _ _ _ _ w1 B B' (h.below (hb.mono hB)) (h'.below (hb.mono hB'))
  have hF : ∀ w1, Below w.heap.size w w1 → Calls Tryz.prog 35 #[t, t'] w1 fun e w' => e = .returned (.bool (decide (x.data = x'.data))) ∧ ∃ n, w' = w1.drewN n :=
    fun w1 hb => eqI_any _ _ _ _ w1 B B' (hd.below (hb.mono hB)) (hd'.below (hb.mono hB'))
  obtain ⟨A, b, o, c, rfl, -, -, -, -⟩ := h.opens
  obtain ⟨A', b', o', c', rfl, -, -, -, -⟩ := h'.opens
  obtain ⟨D, p, r, d, rfl, -, -, -, -⟩ := hd.opens
  obtain ⟨D', p', r', d', rfl, -, -, -, -⟩ := hd'.opens
  have HE := Lib.hid hE
  have HF := Lib.hid hF
  clear hE hF h h' hd hd'
  generalize decide (x.addr = x'.addr) = di at hy HE
  generalize decide (x.data = x'.data) = dj at hy HF
  generalize x.addr.length = n at HE ⊢
  generalize x'.addr.length = n' at HE ⊢
  generalize x.data.length = l at HF ⊢
  generalize x'.data.length = l' at HF ⊢
  generalize x.write = k at hy ⊢
  generalize x'.write = k' at hy ⊢
  have HYY := Lib.hid hy
  clear hy
  cases h1 : k == k'
  · have H1 := Lib.hid h1
    go_enter Tryz.func34, Tryz.ntmps34
    go_wp2
    go_ret
    exact ⟨ret_bool (by rw [HY.out, HYY.out, H1.out]; rfl), ((Below.refl _ _).alloc (Nat.le_refl _) _).alloc (by simp) _⟩
  have H1 := Lib.hid h1
  cases di
  · go_enter Tryz.func34, Tryz.ntmps34
    go_wp2_with (go_at_call 35; (with_reducible refine (HE.out _ (((Below.refl _ _).alloc (Nat.le_refl _) _).alloc (by simp) _)).mono ?_); rintro e w' ⟨rfl, q, rfl⟩)
    go_ret
    exact ⟨ret_bool (by rw [HY.out, HYY.out, H1.out]; rfl), below_drewN (((Below.refl _ _).alloc (Nat.le_refl _) _).alloc (by simp) _) _⟩
  · go_enter Tryz.func34, Tryz.ntmps34
    go_wp2_with (go_at_call 35; (with_reducible first | refine (HE.out _ (((Below.refl _ _).alloc (Nat.le_refl _) _).alloc (by simp) _)).mono ?_ | refine (HF.out _ (below_drewN (((Below.refl _ _).alloc (Nat.le_refl _) _).alloc (by simp) _) _)).mono ?_); rintro e w' ⟨rfl, q, rfl⟩)
    go_ret
    exact ⟨ret_bool (by rw [HY.out, HYY.out, H1.out]; rfl), below_drewN (((Below.refl _ _).alloc (Nat.le_refl _) _).alloc (by simp) _) _⟩
end Go.Proofs.YtfcdhoaccmckoaaGreatDoor

namespace Go.Proofs.YtfcdhoaccmckoaaGreatDoor
open Go.RowKit

theorem allEq_of {α : Type} (d : α) (f : α → α → Bool) : ∀ (l l' : List α), l.length = l'.length → (∀ j, j < l.length → f (l.getD j d) (l'.getD j d) = true) → (l.length == l'.length && (l.zip l').all fun p => f p.1 p.2) = true := by
  intro l l' hl h
  simp only [hl, BEq.rfl, Bool.true_and, List.all_eq_true]
  intro p hp
  obtain ⟨j, hj, rfl⟩ := List.mem_iff_getElem.1 hp
  rw [List.length_zip] at hj
  have := h j (by omega)
  simpa [List.getD_eq_getElem?_getD, List.getElem?_eq_getElem (show j < l.length by omega), List.getElem?_eq_getElem (show j < l'.length by omega)] using this
theorem allEq_not {α : Type} (d : α) (f : α → α → Bool) {l l' : List α} {j : Nat} (hj : j < l.length) (hl : l.length = l'.length) (h : f (l.getD j d) (l'.getD j d) = false) : (l.length == l'.length && (l.zip l').all fun p => f p.1 p.2) = false := by
  cases he : (l.length == l'.length && (l.zip l').all fun p => f p.1 p.2)
  · rfl
  · simp only [Bool.and_eq_true, List.all_eq_true] at he
    have hz : j < (l.zip l').length := by rw [List.length_zip]; omega
    have := he.2 _ (List.getElem_mem hz)
    rw [List.getElem_zip] at this
    rw [List.getD_eq_getElem?_getD, List.getD_eq_getElem?_getD, List.getElem?_eq_getElem hj, List.getElem?_eq_getElem (by omega)] at h
    simp only [Option.getD_some] at h
    rw [h] at this
    cases this
def eqNs (l l' : List Nd) : Bool := l.length == l'.length && (l.zip l').all fun p => ndEq p.1 p.2

set_option maxHeartbeats 2000000 in
theorem eqN_any (l l' : List Nd) (s s' : Value) (w : World) (B B' : Nat) (hB : B ≤ w.heap.size) (hB' : B' ≤ w.heap.size) (h : Ns w B s l) (h' : Ns w B' s' l') :
    Calls Tryz.prog 30 #[s, s', .func (.func 31) #[] #[]] w fun e w' => e = .returned (.bool (eqNs l l')) ∧ Below w.heap.size w w' := by
  obtain ⟨y, HY⟩ := named (eqNs l l')
  rw [← HY.out]
  obtain ⟨A, b, o, c, rfl, hA, -, hm, hc⟩ := h
  obtain ⟨A', b', o', c', rfl, hA', -, hm', hc'⟩ := h'
  unfold maxLen at hm hm'
  have HC := Lib.hid hc
  have HC' := Lib.hid hc'
  have HAA := Lib.hid hA
  have HAA' := Lib.hid hA'
  clear hc hc' hA hA'
  obtain ⟨n, hn⟩ : ∃ n, n = l.length := ⟨_, rfl⟩
  obtain ⟨n', hn'⟩ : ∃ n', n' = l'.length := ⟨_, rfl⟩
  rw [← hn] at hm
  rw [← hn'] at hm'
  rw [← hn, ← hn']
  have HN := Lib.hid hn
  have HN' := Lib.hid hn'
  clear hn hn'
  by_cases hnn : n = n'
  rotate_left
  · have hv : y = false := by rw [HY.out]; unfold eqNs; rw [← HN.out, ← HN'.out, beq_eq_false_iff_ne.2 hnn]; rfl
    have hb : ((n : Int) != (n' : Int)) = true := by rw [bne_iff_ne]; omega
    have HV := Lib.hid hv
    clear hv hnn
    go_enter Tryz.func30, Tryz.ntmps30
    go_wp2
    go_ret
    exact ⟨ret_bool (by rw [HV.out]), Below.refl _ _⟩
  subst hnn
  go_enter Tryz.func30, Tryz.ntmps30
  go_wp2
  go_loopw [17] (fun i wr => Below w.heap.size w wr ∧ ∃ k : Nat, k ≤ n ∧ i = .int .i64 k ∧ ∀ j, j < k → ndEq (l.getD j default) (l'.getD j default) = true) (fun i _ => n - (intOf i).toNat)
  case atStart => exact ⟨Below.refl _ _, 0, Nat.zero_le _, rfl, fun j hj => absurd hj (by omega)⟩
  case round =>
    obtain ⟨hbr, k, hk, rfl, hno⟩ := hrel
    have HNO := Lib.hid hno
    clear hno
    by_cases hlt : k < n
    · obtain rfl := HAA.out (by rw [← HN.out]; omega)
      obtain rfl := HAA'.out (by rw [← HN'.out]; omega)
      obtain ⟨hlb, s, h0, h1, h2, h3, h4, -, -⟩ := HC.out k (by rw [← HN.out]; omega)
      obtain ⟨hlb', s', h0', h1', h2', h3', h4', -, -⟩ := HC'.out k (by rw [← HN'.out]; omega)
      have hlb2 : b < w.heap.size := by omega
      have hlb2' : b' < w.heap.size := by omega
      have hcall := fun W1 (hb : Below w.heap.size w W1) => sameNode_any (l.getD k default) (l'.getD k default) s s' W1 B B' (Nat.le_trans hB hb.size) (Nat.le_trans hB' hb.size) (h4.below (hb.mono hB)) (h4'.below (hb.mono hB'))
      obtain ⟨A4, b4, o4, c4, rfl, hh4⟩ := h4
      obtain ⟨A5, b5, o5, c5, rfl, hh5⟩ := h4'
      clear hh4 hh5
      have e0 := (hbr.cell (p := ⟨b, o + k * 4, none⟩) hlb2).trans h0
      have e1 := (hbr.cell (p := ⟨b, o + k * 4 + 1, none⟩) hlb2).trans h1
      have e2 := (hbr.cell (p := ⟨b, o + k * 4 + 2, none⟩) hlb2).trans h2
      have e3 := (hbr.cell (p := ⟨b, o + k * 4 + 3, none⟩) hlb2).trans h3
      have e0' := (hbr.cell (p := ⟨b', o' + k * 4, none⟩) hlb2').trans h0'
      have e1' := (hbr.cell (p := ⟨b', o' + k * 4 + 1, none⟩) hlb2').trans h1'
      have e2' := (hbr.cell (p := ⟨b', o' + k * 4 + 2, none⟩) hlb2').trans h2'
      have e3' := (hbr.cell (p := ⟨b', o' + k * 4 + 3, none⟩) hlb2').trans h3'
      clear h0 h1 h2 h3 h0' h1' h2' h3'
      generalize hx : l.getD k default = x at e0 e1 e2 e3 hcall
      generalize hx' : l'.getD k default = x' at e0' e1' e2' e3' hcall
      have HX := Lib.hid hx
      have HX' := Lib.hid hx'
      clear hx hx'
      obtain ⟨r, HR⟩ := named (ndEq x x')
      rw [← HR.out] at hcall
      generalize x.kind = kd at e0 hcall
      generalize x.mem = mm at e2 hcall
      generalize x.bit = bt at e3 hcall
      generalize x.ins.length = ni at e1 hcall
      generalize x'.kind = kd' at e0' hcall
      generalize x'.mem = mm' at e2' hcall
      generalize x'.bit = bt' at e3' hcall
      generalize x'.ins.length = ni' at e1' hcall
      have hbl := hbr.size
      have lt1 : b < wr.heap.size := by omega
      have lt2 : b' < wr.heap.size := by omega
      have HBR := Lib.hid hbr
      have HCALL := Lib.hid hcall
      clear hcall hbr
      cases r
      · go_wp2_with (go_at_call 31; (with_reducible refine (HCALL.out _ (below_new (below_new HBR.out _) _)).mono ?_); rintro e w1 ⟨rfl, hb⟩; have HB1 := Lib.hid (joinB (below_new (below_new HBR.out _) _) hb); clear hb)
        go_ret
        exact ⟨ret_bool (by rw [HY.out]; exact (allEq_not default ndEq (j := k) (by rw [← HN.out]; omega) (HN.out.symm.trans HN'.out) (by rw [HX.out, HX'.out]; exact HR.out.symm)).symm), HB1.out⟩
      · go_wp2_with (go_at_call 31; (with_reducible refine (HCALL.out _ (below_new (below_new HBR.out _) _)).mono ?_); rintro e w1 ⟨rfl, hb⟩; have HB1 := Lib.hid (joinB (below_new (below_new HBR.out _) _) hb); clear hb)
        go_roundw
        case rel =>
          refine ⟨HB1.out, k + 1, by omega, by go_num, fun j hj => ?_⟩
          by_cases hjk : j = k
          · rw [hjk, HX.out, HX'.out]; exact HR.out.symm
          · exact HNO.out j (by omega)
        case measure => simp [intOf]; omega
    · go_wp2
      go_ret
      exact ⟨ret_bool (by rw [HY.out]; exact (allEq_of default ndEq l l' (HN.out.symm.trans HN'.out) (fun j hj => HNO.out j (by rw [← HN.out] at hj; omega))).symm), hbr⟩
def eqMs (l l' : List Mm) : Bool := l.length == l'.length && (l.zip l').all fun p => mmEq p.1 p.2

set_option maxHeartbeats 2000000 in
theorem eqM_any (l l' : List Mm) (s s' : Value) (w : World) (B B' : Nat) (hB : B ≤ w.heap.size) (hB' : B' ≤ w.heap.size) (h : Ms w B s l) (h' : Ms w B' s' l') :
    Calls Tryz.prog 33 #[s, s', .func (.func 34) #[] #[]] w fun e w' => e = .returned (.bool (eqMs l l')) ∧ Below w.heap.size w w' := by
  obtain ⟨y, HY⟩ := named (eqMs l l')
  rw [← HY.out]
  obtain ⟨A, b, o, c, rfl, hA, -, hm, hc⟩ := h
  obtain ⟨A', b', o', c', rfl, hA', -, hm', hc'⟩ := h'
  unfold maxLen at hm hm'
  have HC := Lib.hid hc
  have HC' := Lib.hid hc'
  have HAA := Lib.hid hA
  have HAA' := Lib.hid hA'
  clear hc hc' hA hA'
  obtain ⟨n, hn⟩ : ∃ n, n = l.length := ⟨_, rfl⟩
  obtain ⟨n', hn'⟩ : ∃ n', n' = l'.length := ⟨_, rfl⟩
  rw [← hn] at hm
  rw [← hn'] at hm'
  rw [← hn, ← hn']
  have HN := Lib.hid hn
  have HN' := Lib.hid hn'
  clear hn hn'
  by_cases hnn : n = n'
  rotate_left
  · have hv : y = false := by rw [HY.out]; unfold eqMs; rw [← HN.out, ← HN'.out, beq_eq_false_iff_ne.2 hnn]; rfl
    have hb : ((n : Int) != (n' : Int)) = true := by rw [bne_iff_ne]; omega
    have HV := Lib.hid hv
    clear hv hnn
    go_enter Tryz.func33, Tryz.ntmps33
    go_wp2
    go_ret
    exact ⟨ret_bool (by rw [HV.out]), Below.refl _ _⟩
  subst hnn
  go_enter Tryz.func33, Tryz.ntmps33
  go_wp2
  go_loopw [17] (fun i wr => Below w.heap.size w wr ∧ ∃ k : Nat, k ≤ n ∧ i = .int .i64 k ∧ ∀ j, j < k → mmEq (l.getD j default) (l'.getD j default) = true) (fun i _ => n - (intOf i).toNat)
  case atStart => exact ⟨Below.refl _ _, 0, Nat.zero_le _, rfl, fun j hj => absurd hj (by omega)⟩
  case round =>
    obtain ⟨hbr, k, hk, rfl, hno⟩ := hrel
    have HNO := Lib.hid hno
    clear hno
    by_cases hlt : k < n
    · obtain rfl := HAA.out (by rw [← HN.out]; omega)
      obtain rfl := HAA'.out (by rw [← HN'.out]; omega)
      obtain ⟨hlb, s, t, h0, h1, h2, h4, h6⟩ := HC.out k (by rw [← HN.out]; omega)
      obtain ⟨hlb', s', t', h0', h1', h2', h4', h6'⟩ := HC'.out k (by rw [← HN'.out]; omega)
      have hlb2 : b < w.heap.size := by omega
      have hlb2' : b' < w.heap.size := by omega
      have hcall := fun W1 (hb : Below w.heap.size w W1) => sameMem_any (l.getD k default) (l'.getD k default) s t s' t' W1 B B' (Nat.le_trans hB hb.size) (Nat.le_trans hB' hb.size) (h4.below (hb.mono hB)) (h6.below (hb.mono hB)) (h4'.below (hb.mono hB')) (h6'.below (hb.mono hB'))
      obtain ⟨A4, b4, o4, c4, rfl, hh4⟩ := h4
      obtain ⟨A5, b5, o5, c5, rfl, hh5⟩ := h4'
      obtain ⟨A6, b6, o6, c6, rfl, hh6⟩ := h6
      obtain ⟨A7, b7, o7, c7, rfl, hh7⟩ := h6'
      clear hh4 hh5 hh6 hh7
      have e0 := (hbr.cell (p := ⟨b, o + k * 3, none⟩) hlb2).trans h0
      have e1 := (hbr.cell (p := ⟨b, o + k * 3 + 1, none⟩) hlb2).trans h1
      have e2 := (hbr.cell (p := ⟨b, o + k * 3 + 2, none⟩) hlb2).trans h2
      have e0' := (hbr.cell (p := ⟨b', o' + k * 3, none⟩) hlb2').trans h0'
      have e1' := (hbr.cell (p := ⟨b', o' + k * 3 + 1, none⟩) hlb2').trans h1'
      have e2' := (hbr.cell (p := ⟨b', o' + k * 3 + 2, none⟩) hlb2').trans h2'
      clear h0 h1 h2 h0' h1' h2'
      generalize hx : l.getD k default = x at e0 e1 e2 hcall
      generalize hx' : l'.getD k default = x' at e0' e1' e2' hcall
      have HX := Lib.hid hx
      have HX' := Lib.hid hx'
      clear hx hx'
      obtain ⟨r, HR⟩ := named (mmEq x x')
      rw [← HR.out] at hcall
      generalize x.write = kd at e2 hcall
      generalize x.addr.length = ni at e0 hcall
      generalize x.data.length = nj at e1 hcall
      generalize x'.write = kd' at e2' hcall
      generalize x'.addr.length = ni' at e0' hcall
      generalize x'.data.length = nj' at e1' hcall
      have hbl := hbr.size
      have lt1 : b < wr.heap.size := by omega
      have lt2 : b' < wr.heap.size := by omega
      have HBR := Lib.hid hbr
      have HCALL := Lib.hid hcall
      clear hcall hbr
      cases r
      · go_wp2_with (go_at_call 34; (with_reducible refine (HCALL.out _ (below_new (below_new HBR.out _) _)).mono ?_); rintro e w1 ⟨rfl, hb⟩; have HB1 := Lib.hid (joinB (below_new (below_new HBR.out _) _) hb); clear hb)
        go_ret
        exact ⟨ret_bool (by rw [HY.out]; exact (allEq_not default mmEq (j := k) (by rw [← HN.out]; omega) (HN.out.symm.trans HN'.out) (by rw [HX.out, HX'.out]; exact HR.out.symm)).symm), HB1.out⟩
      · go_wp2_with (go_at_call 34; (with_reducible refine (HCALL.out _ (below_new (below_new HBR.out _) _)).mono ?_); rintro e w1 ⟨rfl, hb⟩; have HB1 := Lib.hid (joinB (below_new (below_new HBR.out _) _) hb); clear hb)
        go_roundw
        case rel =>
          refine ⟨HB1.out, k + 1, by omega, by go_num, fun j hj => ?_⟩
          by_cases hjk : j = k
          · rw [hjk, HX.out, HX'.out]; exact HR.out.symm
          · exact HNO.out j (by omega)
        case measure => simp [intOf]; omega
    · go_wp2
      go_ret
      exact ⟨ret_bool (by rw [HY.out]; exact (allEq_of default mmEq l l' (HN.out.symm.trans HN'.out) (fun j hj => HNO.out j (by rw [← HN.out] at hj; omega))).symm), hbr⟩
end Go.Proofs.YtfcdhoaccmckoaaGreatDoor

namespace Go.Proofs.YtfcdhoaccmckoaaGreatDoor
open Go.RowKit

def ckEq (x y : Ck) : Bool := eqNs x.nodes y.nodes && decide (x.names = y.names) && eqMs x.mems y.mems && decide (x.outs = y.outs)
set_option maxHeartbeats 2000000 in
theorem same_any (x x' : Ck) (v v' : Value) (w : World) (B B' : Nat) (hB : B ≤ w.heap.size) (hB' : B' ≤ w.heap.size) (h : Cir w B v x) (h' : Cir w B' v' x') :
    Calls Tryz.prog 11 #[v, v'] w fun e w' => e = .returned (.bool (ckEq x x')) ∧ Below w.heap.size w w' := by
  obtain ⟨y, HY⟩ := named (ckEq x x')
  rw [← HY.out]
  have hy : ckEq x x' = (eqNs x.nodes x'.nodes && decide (x.names = x'.names) && eqMs x.mems x'.mems && decide (x.outs = x'.outs)) := rfl
  obtain ⟨v0, v1, v2, v3, rfl, g0, g1, g2, g3⟩ := h
  obtain ⟨u0, u1, u2, u3, rfl, k0, k1, k2, k3⟩ := h'
  have HN := Lib.hid (fun w1 (hb : Below w.heap.size w w1) => eqN_any _ _ _ _ w1 B B' (Nat.le_trans hB hb.size) (Nat.le_trans hB' hb.size) (g0.below (hb.mono hB)) (k0.below (hb.mono hB')))
  have HS := Lib.hid (fun w1 (hb : Below w.heap.size w w1) => eqS_any _ _ _ _ w1 B B' (g1.below (hb.mono hB)) (k1.below (hb.mono hB')))
  have HM := Lib.hid (fun w1 (hb : Below w.heap.size w w1) => eqM_any _ _ _ _ w1 B B' (Nat.le_trans hB hb.size) (Nat.le_trans hB' hb.size) (g2.below (hb.mono hB)) (k2.below (hb.mono hB')))
  have HI := Lib.hid (fun w1 (hb : Below w.heap.size w w1) => eqI_any _ _ _ _ w1 B B' (g3.below (hb.mono hB)) (k3.below (hb.mono hB')))
  obtain ⟨A0, b0, o0, c0, rfl, -⟩ := g0
  obtain ⟨A1, b1, o1, c1, rfl, -⟩ := g1
  obtain ⟨A2, b2, o2, c2, rfl, -⟩ := g2
  obtain ⟨A3, b3, o3, c3, rfl, -⟩ := g3
  obtain ⟨D0, p0, r0, d0, rfl, -⟩ := k0
  obtain ⟨D1, p1, r1, d1, rfl, -⟩ := k1
  obtain ⟨D2, p2, r2, d2, rfl, -⟩ := k2
  obtain ⟨D3, p3, r3, d3, rfl, -⟩ := k3
  generalize eqNs x.nodes x'.nodes = t0 at hy HN
  generalize decide (x.names = x'.names) = t1 at hy HS
  generalize eqMs x.mems x'.mems = t2 at hy HM
  generalize decide (x.outs = x'.outs) = t3 at hy HI
  generalize x.nodes.length = n0 at HN ⊢
  generalize x.names.length = n1 at HS ⊢
  generalize x.mems.length = n2 at HM ⊢
  generalize x.outs.length = n3 at HI ⊢
  generalize x'.nodes.length = m0 at HN ⊢
  generalize x'.names.length = m1 at HS ⊢
  generalize x'.mems.length = m2 at HM ⊢
  generalize x'.outs.length = m3 at HI ⊢
  have HYY := Lib.hid hy
  clear hy
  cases t0
  · go_enter Tryz.func11, Tryz.ntmps11
    go_wp2_with (go_at_call 30; (with_reducible refine (HN.out _ (((Below.refl _ _).alloc (Nat.le_refl _) _).alloc (by simp) _)).mono ?_); rintro e w1 ⟨rfl, hb⟩; have HB1 := Lib.hid (joinB (((Below.refl _ _).alloc (Nat.le_refl _) _).alloc (by simp) _) hb); obtain ⟨hc, hf⟩ := bcell hb; clear hb)
    go_ret
    exact ⟨ret_bool (by rw [HY.out, HYY.out]; rfl), HB1.out⟩
  cases t1
  · go_enter Tryz.func11, Tryz.ntmps11
    go_wp2_with (first
      | (go_at_call 30; (with_reducible refine (HN.out _ (((Below.refl _ _).alloc (Nat.le_refl _) _).alloc (by simp) _)).mono ?_); rintro e w1 ⟨rfl, hb⟩; have HB1 := Lib.hid (joinB (((Below.refl _ _).alloc (Nat.le_refl _) _).alloc (by simp) _) hb); obtain ⟨hc, hf⟩ := bcell hb; clear hb)
      | (go_at_call 32; (with_reducible refine (HS.out _ HB1.out).mono ?_); rintro e w2 ⟨rfl, q, rfl⟩))
    go_ret
    exact ⟨ret_bool (by rw [HY.out, HYY.out]; rfl), below_drewN HB1.out _⟩
  cases t2
  · go_enter Tryz.func11, Tryz.ntmps11
    go_wp2_with (first
      | (go_at_call 30; (with_reducible refine (HN.out _ (((Below.refl _ _).alloc (Nat.le_refl _) _).alloc (by simp) _)).mono ?_); rintro e w1 ⟨rfl, hb⟩; have HB1 := Lib.hid (joinB (((Below.refl _ _).alloc (Nat.le_refl _) _).alloc (by simp) _) hb); obtain ⟨hc, hf⟩ := bcell hb; clear hb)
      | (go_at_call 32; (with_reducible refine (HS.out _ HB1.out).mono ?_); rintro e w2 ⟨rfl, q, rfl⟩)
      | (go_at_call 33; (with_reducible refine (HM.out _ (below_drewN HB1.out _)).mono ?_); rintro e w3 ⟨rfl, hb⟩; have HB3 := Lib.hid (joinB (below_drewN HB1.out _) hb); obtain ⟨hc3, hf3⟩ := bcell hb; clear hb))
    go_ret
    exact ⟨ret_bool (by rw [HY.out, HYY.out]; rfl), HB3.out⟩
  · go_enter Tryz.func11, Tryz.ntmps11
    go_wp2_with (first
      | (go_at_call 30; (with_reducible refine (HN.out _ (((Below.refl _ _).alloc (Nat.le_refl _) _).alloc (by simp) _)).mono ?_); rintro e w1 ⟨rfl, hb⟩; have HB1 := Lib.hid (joinB (((Below.refl _ _).alloc (Nat.le_refl _) _).alloc (by simp) _) hb); obtain ⟨hc, hf⟩ := bcell hb; have HBW := Lib.hid hb; clear hb)
      | (go_at_call 32; (with_reducible refine (HS.out _ HB1.out).mono ?_); rintro e w2 ⟨rfl, q, rfl⟩)
      | (go_at_call 33; (with_reducible refine (HM.out _ (below_drewN HB1.out _)).mono ?_); rintro e w3 ⟨rfl, hb⟩; have HB3 := Lib.hid (joinB (below_drewN HB1.out _) hb); clear hc hf; obtain ⟨hc3, hf3⟩ := bcell (joinB (below_drewN HBW.out _) hb); clear hb)
      | (go_at_call 35; (with_reducible refine (HI.out _ HB3.out).mono ?_); rintro e w4 ⟨rfl, q4, rfl⟩))
    go_ret
    exact ⟨ret_bool (by rw [HY.out, HYY.out]; rfl), below_drewN HB3.out _⟩
end Go.Proofs.YtfcdhoaccmckoaaGreatDoor

namespace Go.Proofs.YtfcdhoaccmckoaaGreatDoor
open Go.RowKit

theorem ndEq_iff (x y : Nd) : ndEq x y = true ↔ x = y := by
  cases x; cases y
  simp only [ndEq, Bool.and_eq_true, beq_iff_eq, decide_eq_true_eq, Nd.mk.injEq]
  constructor
  · rintro ⟨⟨⟨rfl, rfl⟩, rfl⟩, rfl⟩; exact ⟨rfl, rfl, rfl, rfl⟩
  · rintro ⟨rfl, rfl, rfl, rfl⟩; exact ⟨⟨⟨rfl, rfl⟩, rfl⟩, rfl⟩
theorem mmEq_iff (x y : Mm) : mmEq x y = true ↔ x = y := by
  cases x; cases y
  simp only [mmEq, Bool.and_eq_true, beq_iff_eq, decide_eq_true_eq, Mm.mk.injEq]
  constructor
  · rintro ⟨⟨rfl, rfl⟩, rfl⟩; exact ⟨rfl, rfl, rfl⟩
  · rintro ⟨rfl, rfl, rfl⟩; exact ⟨⟨rfl, rfl⟩, rfl⟩
theorem zipAll_iff {α : Type} {f : α → α → Bool} (hf : ∀ x y, f x y = true ↔ x = y) : ∀ l l' : List α, (l.length == l'.length && (l.zip l').all fun p => f p.1 p.2) = true ↔ l = l'
  | [], [] => by simp
  | [], _ :: _ => by simp
  | _ :: _, [] => by simp
  | x :: l, y :: l' => by
    have h := zipAll_iff hf l l'
    simp only [List.length_cons, List.zip_cons_cons, List.all_cons, Bool.and_eq_true, beq_iff_eq, Nat.add_right_cancel_iff, List.cons.injEq] at h ⊢
    rw [← h, hf]
    constructor
    · rintro ⟨h1, h2, h3⟩; exact ⟨h2, h1, h3⟩
    · rintro ⟨h2, h1, h3⟩; exact ⟨h1, h2, h3⟩
theorem ckEq_iff (x y : Ck) : ckEq x y = true ↔ x = y := by
  have h1 := zipAll_iff ndEq_iff x.nodes y.nodes
  have h2 := zipAll_iff mmEq_iff x.mems y.mems
  cases x; cases y
  simp only [ckEq, eqNs, eqMs, Bool.and_eq_true, decide_eq_true_eq, Ck.mk.injEq] at h1 h2 ⊢
  rw [h1, h2]
  constructor
  · rintro ⟨⟨⟨rfl, rfl⟩, rfl⟩, rfl⟩; exact ⟨rfl, rfl, rfl, rfl⟩
  · rintro ⟨rfl, rfl, rfl, rfl⟩; exact ⟨⟨⟨rfl, rfl⟩, rfl⟩, rfl⟩
theorem ckEq_self (x : Ck) : ckEq x x = true := (ckEq_iff x x).2 rfl
theorem ckEq_ne {x y : Ck} (h : x ≠ y) : ckEq x y = false := by
  cases e : ckEq x y
  · rfl
  · exact absurd ((ckEq_iff x y).1 e) h
end Go.Proofs.YtfcdhoaccmckoaaGreatDoor
