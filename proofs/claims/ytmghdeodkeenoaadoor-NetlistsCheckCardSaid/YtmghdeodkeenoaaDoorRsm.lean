/- The reference's same of two circuits. -/
import Derived.Test.YtmghdeodkeenoaaDoorCpe
import Derived.Test.YtmghdeodkeenoaaDoorOwn
import Derived.Test.YtmghdeodkeenoaaDoorFrk
import Derived.Deep.DeepCutAuto
import Derived.Deep.CutBlock
import Derived.Deep.RegionHeld3
namespace Go.Proofs.YtmghdeodkeenoaaDoor
open Go.RowKit

theorem beh_drewN {P : Program} {f : FuncId} {args : Array Value} {w0 : World} {x : Beh w0} {v : Value} (h : Calls P f args x.x fun e w' => e = .returned v ∧ ∃ n, w' = x.x.drewN n) :
    Calls P f args x.x fun e w' => e = .returned v ∧ ∃ y : Beh w0, w' = y.x := h.mono fun _ _ ⟨he, n, hw⟩ => ⟨he, ⟨x.x.drewN n, below_drewN x.below n⟩, hw⟩
theorem is_cut {w : World} {B c : Nat} {A : Option Addr} {l : List Int} (h : Is w B (.slice A l.length c) l) : Is w B (.slice A l.length l.length) l := by
  obtain ⟨A1, b, o, c1, e, hA, -, hm, hc⟩ := h
  simp only [Value.slice.injEq, true_and] at e
  obtain ⟨rfl, rfl⟩ := e
  exact ⟨_, b, o, _, rfl, hA, Nat.le_refl _, hm, hc⟩
/-- Ints at a slice cut to its length. -/
theorem ints_cut {l l' : List Int} {A : Option Addr} {c n : Nat} {s' : Value} {w : World} {B B' : Nat} {z : Int} (hn : n = l.length) (h : Is w B (.slice A n c) l) (h' : Is w B' s' l') (hz : z = if l = l' then 0 else 1) :
    Calls Tryd.prog 25 #[.slice A n n, s'] w fun e w' => e = .returned (.int .i64 z) ∧ ∃ n, w' = w.drewN n := by
  subst hn
  refine (ints_any l l' A l.length s' w B B' (is_cut h) h').mono fun e w' ⟨h1, h2⟩ => ⟨?_, h2⟩
  rw [h1, hz]
  unfold intsR
  by_cases e : l = l'
  · rw [if_pos ⟨e, Nat.le_refl _⟩, if_pos e]
  · rw [if_neg (fun h => e h.1), if_neg e]
theorem eq_nodes {l l' : List Nd} (h : l.length = l'.length) (hj : ∀ j, j < l.length → l.getD j default = l'.getD j default) : l = l' := by
  apply List.ext_getElem h
  intro j h1 h2
  have := hj j h1
  simpa [List.getD_eq_getElem?_getD, List.getElem?_eq_getElem h1, List.getElem?_eq_getElem h2] using this
theorem eq_strs {l l' : List ByteArray} (h : l.length = l'.length) (hj : ∀ j, j < l.length → l.getD j ByteArray.empty = l'.getD j ByteArray.empty) : l = l' := by
  apply List.ext_getElem h
  intro j h1 h2
  have := hj j h1
  simpa [List.getD_eq_getElem?_getD, List.getElem?_eq_getElem h1, List.getElem?_eq_getElem h2] using this
theorem eq_mems {l l' : List Mm} (h : l.length = l'.length) (hj : ∀ j, j < l.length → l.getD j default = l'.getD j default) : l = l' := by
  apply List.ext_getElem h
  intro j h1 h2
  have := hj j h1
  simpa [List.getD_eq_getElem?_getD, List.getElem?_eq_getElem h1, List.getElem?_eq_getElem h2] using this

theorem ck_eq {x x' : Ck} (h1 : x.nodes = x'.nodes) (h2 : x.names = x'.names) (h3 : x.mems = x'.mems) (h4 : x.outs = x'.outs) : x = x' := by
  cases x; cases x'
  simp only [Ck.mk.injEq] at h1 h2 h3 h4 ⊢
  exact ⟨h1, h2, h3, h4⟩

set_option maxRecDepth 100000 in
set_option maxHeartbeats 8000000 in
theorem rsame_any (x x' : Ck) (v v' : Value) (w : World) (B B' : Nat) (hB : B ≤ w.heap.size) (hB' : B' ≤ w.heap.size) (h : Cir w B v x) (h' : Cir w B' v' x') :
    Calls Tryd.prog 18 #[v, v'] w fun e w' => e = .returned (.bool (ckEq x x')) ∧ Below w.heap.size w w' := by
  obtain ⟨y, HY⟩ := named (ckEq x x')
  rw [← HY.out]
  obtain ⟨v0, v1, v2, v3, rfl, g0, g1, g2, g3⟩ := h
  obtain ⟨u0, u1, u2, u3, rfl, k0, k1, k2, k3⟩ := h'
  obtain ⟨A0, b0, o0, c0, rfl, hA0, -, hm0, hc0⟩ := g0
  obtain ⟨A1, b1, o1, c1, rfl, hA1, -, hm1, hc1⟩ := g1
  obtain ⟨A2, b2, o2, c2, rfl, hA2, -, hm2, hc2⟩ := g2
  obtain ⟨D0, p0, r0, d0, rfl, hD0, -, hq0, hd0⟩ := k0
  obtain ⟨D1, p1, r1, d1, rfl, hD1, -, hq1, hd1⟩ := k1
  obtain ⟨D2, p2, r2, d2, rfl, hD2, -, hq2, hd2⟩ := k2
  obtain ⟨A3, c3, rfl, hle3⟩ : ∃ A3 c3, v3 = .slice A3 x.outs.length c3 ∧ x.outs.length ≤ c3 := by obtain ⟨A, b, o, c, e, -, h, -⟩ := id g3; exact ⟨A, c, e, h⟩
  obtain ⟨D3, d3, rfl⟩ : ∃ D3 d3, u3 = .slice D3 x'.outs.length d3 := by obtain ⟨A, b, o, c, e, -⟩ := id k3; exact ⟨A, c, e⟩
  have hm3 := Arr.len g3
  have hq3 := Arr.len k3
  unfold maxLen at hm0 hm1 hm2 hm3 hq0 hq1 hq2 hq3
  have ZhA0 := Lib.hid hA0
  have ZhA1 := Lib.hid hA1
  have ZhA2 := Lib.hid hA2
  have Zhc0 := Lib.hid hc0
  have Zhc1 := Lib.hid hc1
  have Zhc2 := Lib.hid hc2
  have ZhD0 := Lib.hid hD0
  have ZhD1 := Lib.hid hD1
  have ZhD2 := Lib.hid hD2
  have Zhd0 := Lib.hid hd0
  have Zhd1 := Lib.hid hd1
  have Zhd2 := Lib.hid hd2
  have HG3 := Lib.hid g3
  have HK3 := Lib.hid k3
  clear hA0 hA1 hA2 hc0 hc1 hc2 hD0 hD1 hD2 hd0 hd1 hd2 g3 k3
  obtain ⟨n0, hn0⟩ : ∃ n, n = x.nodes.length := ⟨_, rfl⟩
  obtain ⟨m0, hmm0⟩ : ∃ n, n = x'.nodes.length := ⟨_, rfl⟩
  rw [← hn0] at hm0
  rw [← hmm0] at hq0
  have HN0 := Lib.hid hn0
  have HM0 := Lib.hid hmm0
  obtain ⟨n1, hn1⟩ : ∃ n, n = x.names.length := ⟨_, rfl⟩
  obtain ⟨m1, hmm1⟩ : ∃ n, n = x'.names.length := ⟨_, rfl⟩
  rw [← hn1] at hm1
  rw [← hmm1] at hq1
  have HN1 := Lib.hid hn1
  have HM1 := Lib.hid hmm1
  obtain ⟨n2, hn2⟩ : ∃ n, n = x.mems.length := ⟨_, rfl⟩
  obtain ⟨m2, hmm2⟩ : ∃ n, n = x'.mems.length := ⟨_, rfl⟩
  rw [← hn2] at hm2
  rw [← hmm2] at hq2
  have HN2 := Lib.hid hn2
  have HM2 := Lib.hid hmm2
  obtain ⟨n3, hn3⟩ : ∃ n, n = x.outs.length := ⟨_, rfl⟩
  obtain ⟨m3, hmm3⟩ : ∃ n, n = x'.outs.length := ⟨_, rfl⟩
  rw [← hn3] at hm3 HG3 hle3
  rw [← hmm3] at hq3 HK3
  have HN3 := Lib.hid hn3
  have HM3 := Lib.hid hmm3
  rw [← hn0, ← hn1, ← hn2, ← hn3, ← hmm0, ← hmm1, ← hmm2, ← hmm3]
  clear hn0 hn1 hn2 hn3 hmm0 hmm1 hmm2 hmm3
  obtain ⟨W1, HW1⟩ := named ((w.alloc (.cells #[.slice A0 n0 c0, .slice A1 n1 c1, .slice A2 n2 c2, .slice A3 n3 c3] 27)).alloc (.cells #[.slice D0 m0 d0, .slice D1 m1 d1, .slice D2 m2 d2, .slice D3 m3 d3] 27))
  have hb1 : Below w.heap.size w W1 := by rw [HW1.out]; exact below_new (below_new (Below.refl _ _) _) _
  have hfa : Fr W1 w.heap.size 27 [.slice A0 n0 c0, .slice A1 n1 c1, .slice A2 n2 c2, .slice A3 n3 c3] := by rw [HW1.out]; exact Fr.alloc (Fr.made _ _ _ rfl) _
  have hfb : Fr W1 (w.heap.size + 1) 27 [.slice D0 m0 d0, .slice D1 m1 d1, .slice D2 m2 d2, .slice D3 m3 d3] := by rw [HW1.out]; exact Fr.made _ _ _ (by simp)
  have HFA := Lib.hid hfa
  have HFB := Lib.hid hfb
  have HB1 := Lib.hid hb1
  have hli3 : (n3 : Int) ≤ (c3 : Int) := by omega
  have hla := hfa.lt
  have hlb := hfb.lt
  have HE3 : Hid (∀ z W, (z = if x.outs = x'.outs then 0 else 1) → Below W1.heap.size W1 W → Calls Tryd.prog 25 #[.slice A3 n3 n3, .slice D3 m3 d3] W fun e w' => e = .returned (.int .i64 z) ∧ ∃ n, w' = W.drewN n) := Lib.hid fun z W hz hb => ints_cut HN3.out ((HG3.out.below (hb1.mono hB)).below (Below.mono hb (Nat.le_trans hB hb1.size))) ((HK3.out.below (hb1.mono hB')).below (Below.mono hb (Nat.le_trans hB' hb1.size))) hz
  have HCA : Hid (∀ W, BelW W1 W → W.cell? ⟨w.heap.size, 0, none⟩ = some (.slice A0 n0 c0) ∧ W.cell? ⟨w.heap.size, 1, none⟩ = some (.slice A1 n1 c1) ∧ W.cell? ⟨w.heap.size, 2, none⟩ = some (.slice A2 n2 c2) ∧ W.cell? ⟨w.heap.size, 3, none⟩ = some (.slice A3 n3 c3)) := Lib.hid fun W hb => ⟨(hfa.below hb).cell 0, (hfa.below hb).cell 1, (hfa.below hb).cell 2, (hfa.below hb).cell 3⟩
  have HCB : Hid (∀ W, BelW W1 W → W.cell? ⟨w.heap.size + 1, 0, none⟩ = some (.slice D0 m0 d0) ∧ W.cell? ⟨w.heap.size + 1, 1, none⟩ = some (.slice D1 m1 d1) ∧ W.cell? ⟨w.heap.size + 1, 2, none⟩ = some (.slice D2 m2 d2) ∧ W.cell? ⟨w.heap.size + 1, 3, none⟩ = some (.slice D3 m3 d3)) := Lib.hid fun W hb => ⟨(hfb.below hb).cell 0, (hfb.below hb).cell 1, (hfb.below hb).cell 2, (hfb.below hb).cell 3⟩
  have HND : Hid (∀ k, k < n0 → b0 < W1.heap.size ∧ A0 = some ⟨b0, o0, none⟩ ∧ ∀ W, BelW W1 W → NdAt W W1.heap.size b0 (o0 + k * 4) (x.nodes.getD k default)) := Lib.hid fun k hk => by
    have hk' : k < x.nodes.length := by rw [← HN0.out]; exact hk
    obtain ⟨t1, t2⟩ := Zhc0.out k hk'
    have := hb1.size
    exact ⟨by omega, ZhA0.out (by omega), fun W hb => stays_nd _ _ _ _ _ _ _ t1 (Nat.le_trans hB hb1.size) t2 fun q hq => ((Below.mono hb (Nat.le_trans hB hb1.size)).cell hq).trans ((hb1.mono hB).cell hq)⟩
  have HNE : Hid (∀ k, k < m0 → p0 < W1.heap.size ∧ D0 = some ⟨p0, r0, none⟩ ∧ ∀ W, BelW W1 W → NdAt W W1.heap.size p0 (r0 + k * 4) (x'.nodes.getD k default)) := Lib.hid fun k hk => by
    have hk' : k < x'.nodes.length := by rw [← HM0.out]; exact hk
    obtain ⟨t1, t2⟩ := Zhd0.out k hk'
    have := hb1.size
    exact ⟨by omega, ZhD0.out (by omega), fun W hb => stays_nd _ _ _ _ _ _ _ t1 (Nat.le_trans hB' hb1.size) t2 fun q hq => ((Below.mono hb (Nat.le_trans hB' hb1.size)).cell hq).trans ((hb1.mono hB').cell hq)⟩
  have HSD : Hid (∀ k, k < n1 → b1 < W1.heap.size ∧ A1 = some ⟨b1, o1, none⟩ ∧ ∀ W, BelW W1 W → StrAt W W1.heap.size b1 (o1 + k) (x.names.getD k ByteArray.empty)) := Lib.hid fun k hk => by
    have hk' : k < x.names.length := by rw [← HN1.out]; exact hk
    obtain ⟨t1, t2⟩ := Zhc1.out k hk'
    rw [Nat.mul_one] at t2
    have := hb1.size
    exact ⟨by omega, ZhA1.out (by omega), fun W hb => stays_str _ _ _ _ _ _ _ t1 (Nat.le_trans hB hb1.size) t2 fun q hq => ((Below.mono hb (Nat.le_trans hB hb1.size)).cell hq).trans ((hb1.mono hB).cell hq)⟩
  have HSE : Hid (∀ k, k < m1 → p1 < W1.heap.size ∧ D1 = some ⟨p1, r1, none⟩ ∧ ∀ W, BelW W1 W → StrAt W W1.heap.size p1 (r1 + k) (x'.names.getD k ByteArray.empty)) := Lib.hid fun k hk => by
    have hk' : k < x'.names.length := by rw [← HM1.out]; exact hk
    obtain ⟨t1, t2⟩ := Zhd1.out k hk'
    rw [Nat.mul_one] at t2
    have := hb1.size
    exact ⟨by omega, ZhD1.out (by omega), fun W hb => stays_str _ _ _ _ _ _ _ t1 (Nat.le_trans hB' hb1.size) t2 fun q hq => ((Below.mono hb (Nat.le_trans hB' hb1.size)).cell hq).trans ((hb1.mono hB').cell hq)⟩
  have HMD : Hid (∀ k, k < n2 → b2 < W1.heap.size ∧ A2 = some ⟨b2, o2, none⟩ ∧ ∀ W, BelW W1 W → MmAt W W1.heap.size b2 (o2 + k * 3) (x.mems.getD k default)) := Lib.hid fun k hk => by
    have hk' : k < x.mems.length := by rw [← HN2.out]; exact hk
    obtain ⟨t1, t2⟩ := Zhc2.out k hk'
    have := hb1.size
    exact ⟨by omega, ZhA2.out (by omega), fun W hb => stays_mm _ _ _ _ _ _ _ t1 (Nat.le_trans hB hb1.size) t2 fun q hq => ((Below.mono hb (Nat.le_trans hB hb1.size)).cell hq).trans ((hb1.mono hB).cell hq)⟩
  have HME : Hid (∀ k, k < m2 → p2 < W1.heap.size ∧ D2 = some ⟨p2, r2, none⟩ ∧ ∀ W, BelW W1 W → MmAt W W1.heap.size p2 (r2 + k * 3) (x'.mems.getD k default)) := Lib.hid fun k hk => by
    have hk' : k < x'.mems.length := by rw [← HM2.out]; exact hk
    obtain ⟨t1, t2⟩ := Zhd2.out k hk'
    have := hb1.size
    exact ⟨by omega, ZhD2.out (by omega), fun W hb => stays_mm _ _ _ _ _ _ _ t1 (Nat.le_trans hB' hb1.size) t2 fun q hq => ((Below.mono hb (Nat.le_trans hB' hb1.size)).cell hq).trans ((hb1.mono hB').cell hq)⟩
  clear ZhA0 ZhA1 ZhA2 Zhc0 Zhc1 Zhc2 ZhD0 ZhD1 ZhD2 Zhd0 Zhd1 Zhd2 HG3 HK3 hfa hfb hb1 hB hB'
  by_cases e0 : n0 = m0
  rotate_left
  · have hy : y = false := by rw [HY.out]; exact ckEq_ne (fun h => e0 (by rw [HN0.out, HM0.out, h]))
    have f0 : ((n0 : Int) != (m0 : Int)) = true := by rw [bne_iff_ne]; omega
    have HYF := Lib.hid hy
    clear hy e0
    go_enter Tryd.func18, Tryd.ntmps18
    go_upto_region 1 with (fail)
    rw [← HW1.out]
    have ca0 : ∀ xx : Beh W1, xx.x.cell? ⟨w.heap.size, 0, none⟩ = some (.slice A0 n0 c0) := fun xx => (HCA.out _ xx.below).1
    have ca1 : ∀ xx : Beh W1, xx.x.cell? ⟨w.heap.size, 1, none⟩ = some (.slice A1 n1 c1) := fun xx => (HCA.out _ xx.below).2.1
    have ca2 : ∀ xx : Beh W1, xx.x.cell? ⟨w.heap.size, 2, none⟩ = some (.slice A2 n2 c2) := fun xx => (HCA.out _ xx.below).2.2.1
    have ca3 : ∀ xx : Beh W1, xx.x.cell? ⟨w.heap.size, 3, none⟩ = some (.slice A3 n3 c3) := fun xx => (HCA.out _ xx.below).2.2.2
    have cb0 : ∀ xx : Beh W1, xx.x.cell? ⟨w.heap.size + 1, 0, none⟩ = some (.slice D0 m0 d0) := fun xx => (HCB.out _ xx.below).1
    have cb1 : ∀ xx : Beh W1, xx.x.cell? ⟨w.heap.size + 1, 1, none⟩ = some (.slice D1 m1 d1) := fun xx => (HCB.out _ xx.below).2.1
    have cb2 : ∀ xx : Beh W1, xx.x.cell? ⟨w.heap.size + 1, 2, none⟩ = some (.slice D2 m2 d2) := fun xx => (HCB.out _ xx.below).2.2.1
    have cb3 : ∀ xx : Beh W1, xx.x.cell? ⟨w.heap.size + 1, 3, none⟩ = some (.slice D3 m3 d3) := fun xx => (HCB.out _ xx.below).2.2.2
    refine region_class (w0 := W1) (Below.refl _ _) (by kernel_rfl) (by kernel_rfl) ?_
    repeat (first
      | go_big_quiet_skip
      | (go_big_quiet_want; go_big_quiet_op; first
        | go_big_quiet_on
        | (apply Exists.intro
           refine ⟨fun xx => ?_, ?_⟩
           focus first
            | fail
           go_big_quiet_on)))
    refine wpQuiet_nil ?_
    rintro w9 ⟨⟨wz, hz⟩, rfl⟩
    go_wp2
    go_ret
    exact ⟨ret_bool (by rw [HYF.out]), joinB HB1.out hz⟩
  subst e0
  by_cases e1 : n1 = m1
  rotate_left
  · have hy : y = false := by rw [HY.out]; exact ckEq_ne (fun h => e1 (by rw [HN1.out, HM1.out, h]))
    have f1 : ((n1 : Int) != (m1 : Int)) = true := by rw [bne_iff_ne]; omega
    have HYF := Lib.hid hy
    clear hy e1
    go_enter Tryd.func18, Tryd.ntmps18
    go_upto_region 1 with (fail)
    rw [← HW1.out]
    have ca0 : ∀ xx : Beh W1, xx.x.cell? ⟨w.heap.size, 0, none⟩ = some (.slice A0 n0 c0) := fun xx => (HCA.out _ xx.below).1
    have ca1 : ∀ xx : Beh W1, xx.x.cell? ⟨w.heap.size, 1, none⟩ = some (.slice A1 n1 c1) := fun xx => (HCA.out _ xx.below).2.1
    have ca2 : ∀ xx : Beh W1, xx.x.cell? ⟨w.heap.size, 2, none⟩ = some (.slice A2 n2 c2) := fun xx => (HCA.out _ xx.below).2.2.1
    have ca3 : ∀ xx : Beh W1, xx.x.cell? ⟨w.heap.size, 3, none⟩ = some (.slice A3 n3 c3) := fun xx => (HCA.out _ xx.below).2.2.2
    have cb0 : ∀ xx : Beh W1, xx.x.cell? ⟨w.heap.size + 1, 0, none⟩ = some (.slice D0 n0 d0) := fun xx => (HCB.out _ xx.below).1
    have cb1 : ∀ xx : Beh W1, xx.x.cell? ⟨w.heap.size + 1, 1, none⟩ = some (.slice D1 m1 d1) := fun xx => (HCB.out _ xx.below).2.1
    have cb2 : ∀ xx : Beh W1, xx.x.cell? ⟨w.heap.size + 1, 2, none⟩ = some (.slice D2 m2 d2) := fun xx => (HCB.out _ xx.below).2.2.1
    have cb3 : ∀ xx : Beh W1, xx.x.cell? ⟨w.heap.size + 1, 3, none⟩ = some (.slice D3 m3 d3) := fun xx => (HCB.out _ xx.below).2.2.2
    refine region_class (w0 := W1) (Below.refl _ _) (by kernel_rfl) (by kernel_rfl) ?_
    repeat (first
      | go_big_quiet_skip
      | (go_big_quiet_want; go_big_quiet_op; first
        | go_big_quiet_on
        | (apply Exists.intro
           refine ⟨fun xx => ?_, ?_⟩
           focus first
            | fail
           go_big_quiet_on)))
    refine wpQuiet_nil ?_
    rintro w9 ⟨⟨wz, hz⟩, rfl⟩
    go_wp2
    go_ret
    exact ⟨ret_bool (by rw [HYF.out]), joinB HB1.out hz⟩
  subst e1
  by_cases e2 : n2 = m2
  rotate_left
  · have hy : y = false := by rw [HY.out]; exact ckEq_ne (fun h => e2 (by rw [HN2.out, HM2.out, h]))
    have f2 : ((n2 : Int) != (m2 : Int)) = true := by rw [bne_iff_ne]; omega
    have HYF := Lib.hid hy
    clear hy e2
    go_enter Tryd.func18, Tryd.ntmps18
    go_upto_region 1 with (fail)
    rw [← HW1.out]
    have ca0 : ∀ xx : Beh W1, xx.x.cell? ⟨w.heap.size, 0, none⟩ = some (.slice A0 n0 c0) := fun xx => (HCA.out _ xx.below).1
    have ca1 : ∀ xx : Beh W1, xx.x.cell? ⟨w.heap.size, 1, none⟩ = some (.slice A1 n1 c1) := fun xx => (HCA.out _ xx.below).2.1
    have ca2 : ∀ xx : Beh W1, xx.x.cell? ⟨w.heap.size, 2, none⟩ = some (.slice A2 n2 c2) := fun xx => (HCA.out _ xx.below).2.2.1
    have ca3 : ∀ xx : Beh W1, xx.x.cell? ⟨w.heap.size, 3, none⟩ = some (.slice A3 n3 c3) := fun xx => (HCA.out _ xx.below).2.2.2
    have cb0 : ∀ xx : Beh W1, xx.x.cell? ⟨w.heap.size + 1, 0, none⟩ = some (.slice D0 n0 d0) := fun xx => (HCB.out _ xx.below).1
    have cb1 : ∀ xx : Beh W1, xx.x.cell? ⟨w.heap.size + 1, 1, none⟩ = some (.slice D1 n1 d1) := fun xx => (HCB.out _ xx.below).2.1
    have cb2 : ∀ xx : Beh W1, xx.x.cell? ⟨w.heap.size + 1, 2, none⟩ = some (.slice D2 m2 d2) := fun xx => (HCB.out _ xx.below).2.2.1
    have cb3 : ∀ xx : Beh W1, xx.x.cell? ⟨w.heap.size + 1, 3, none⟩ = some (.slice D3 m3 d3) := fun xx => (HCB.out _ xx.below).2.2.2
    refine region_class (w0 := W1) (Below.refl _ _) (by kernel_rfl) (by kernel_rfl) ?_
    repeat (first
      | go_big_quiet_skip
      | (go_big_quiet_want; go_big_quiet_op; first
        | go_big_quiet_on
        | (apply Exists.intro
           refine ⟨fun xx => ?_, ?_⟩
           focus first
            | fail
           go_big_quiet_on)))
    refine wpQuiet_nil ?_
    rintro w9 ⟨⟨wz, hz⟩, rfl⟩
    go_wp2
    go_ret
    exact ⟨ret_bool (by rw [HYF.out]), joinB HB1.out hz⟩
  subst e2
  by_cases e3 : x.outs = x'.outs
  rotate_left
  · have hy : y = false := by rw [HY.out]; exact ckEq_ne (fun h => e3 (by rw [h]))
    have HYF := Lib.hid hy
    have HZ3 : Hid ((1 : Int) = if x.outs = x'.outs then 0 else 1) := Lib.hid (by rw [if_neg e3])
    clear hy e3
    go_enter Tryd.func18, Tryd.ntmps18
    go_upto_region 1 with (fail)
    rw [← HW1.out]
    have ca0 : ∀ xx : Beh W1, xx.x.cell? ⟨w.heap.size, 0, none⟩ = some (.slice A0 n0 c0) := fun xx => (HCA.out _ xx.below).1
    have ca1 : ∀ xx : Beh W1, xx.x.cell? ⟨w.heap.size, 1, none⟩ = some (.slice A1 n1 c1) := fun xx => (HCA.out _ xx.below).2.1
    have ca2 : ∀ xx : Beh W1, xx.x.cell? ⟨w.heap.size, 2, none⟩ = some (.slice A2 n2 c2) := fun xx => (HCA.out _ xx.below).2.2.1
    have ca3 : ∀ xx : Beh W1, xx.x.cell? ⟨w.heap.size, 3, none⟩ = some (.slice A3 n3 c3) := fun xx => (HCA.out _ xx.below).2.2.2
    have cb0 : ∀ xx : Beh W1, xx.x.cell? ⟨w.heap.size + 1, 0, none⟩ = some (.slice D0 n0 d0) := fun xx => (HCB.out _ xx.below).1
    have cb1 : ∀ xx : Beh W1, xx.x.cell? ⟨w.heap.size + 1, 1, none⟩ = some (.slice D1 n1 d1) := fun xx => (HCB.out _ xx.below).2.1
    have cb2 : ∀ xx : Beh W1, xx.x.cell? ⟨w.heap.size + 1, 2, none⟩ = some (.slice D2 n2 d2) := fun xx => (HCB.out _ xx.below).2.2.1
    have cb3 : ∀ xx : Beh W1, xx.x.cell? ⟨w.heap.size + 1, 3, none⟩ = some (.slice D3 m3 d3) := fun xx => (HCB.out _ xx.below).2.2.2
    refine region_class (w0 := W1) (Below.refl _ _) (by kernel_rfl) (by kernel_rfl) ?_
    repeat (first
      | go_big_quiet_skip
      | (go_big_quiet_want; go_big_quiet_op; first
        | go_big_quiet_on
        | (apply Exists.intro
           refine ⟨fun xx => ?_, ?_⟩
           focus first
            | (go_at_call 25; with_reducible exact beh_drewN (HE3.out _ _ HZ3.out xx.below))
           go_big_quiet_on)))
    refine wpQuiet_nil ?_
    rintro w9 ⟨⟨wz, hz⟩, rfl⟩
    go_wp2
    go_ret
    exact ⟨ret_bool (by rw [HYF.out]), joinB HB1.out hz⟩
  have HE := Lib.hid e3
  have HZ3 : Hid ((0 : Int) = if x.outs = x'.outs then 0 else 1) := Lib.hid (by rw [if_pos e3])
  clear e3
  go_enter Tryd.func18, Tryd.ntmps18
  go_upto_region 1 with (fail)
  rw [← HW1.out]
  have ca0 : ∀ xx : Beh W1, xx.x.cell? ⟨w.heap.size, 0, none⟩ = some (.slice A0 n0 c0) := fun xx => (HCA.out _ xx.below).1
  have ca1 : ∀ xx : Beh W1, xx.x.cell? ⟨w.heap.size, 1, none⟩ = some (.slice A1 n1 c1) := fun xx => (HCA.out _ xx.below).2.1
  have ca2 : ∀ xx : Beh W1, xx.x.cell? ⟨w.heap.size, 2, none⟩ = some (.slice A2 n2 c2) := fun xx => (HCA.out _ xx.below).2.2.1
  have ca3 : ∀ xx : Beh W1, xx.x.cell? ⟨w.heap.size, 3, none⟩ = some (.slice A3 n3 c3) := fun xx => (HCA.out _ xx.below).2.2.2
  have cb0 : ∀ xx : Beh W1, xx.x.cell? ⟨w.heap.size + 1, 0, none⟩ = some (.slice D0 n0 d0) := fun xx => (HCB.out _ xx.below).1
  have cb1 : ∀ xx : Beh W1, xx.x.cell? ⟨w.heap.size + 1, 1, none⟩ = some (.slice D1 n1 d1) := fun xx => (HCB.out _ xx.below).2.1
  have cb2 : ∀ xx : Beh W1, xx.x.cell? ⟨w.heap.size + 1, 2, none⟩ = some (.slice D2 n2 d2) := fun xx => (HCB.out _ xx.below).2.2.1
  have cb3 : ∀ xx : Beh W1, xx.x.cell? ⟨w.heap.size + 1, 3, none⟩ = some (.slice D3 m3 d3) := fun xx => (HCB.out _ xx.below).2.2.2
  refine region_class (w0 := W1) (Below.refl _ _) (by kernel_rfl) (by kernel_rfl) ?_
  repeat (first
    | go_big_quiet_skip
    | (go_big_quiet_want; go_big_quiet_op; first
      | go_big_quiet_on
      | (apply Exists.intro
         refine ⟨fun xx => ?_, ?_⟩
         focus first
          | (go_at_call 25; with_reducible exact beh_drewN (HE3.out _ _ HZ3.out xx.below))
         go_big_quiet_on)))
  refine wpQuiet_nil ?_
  rintro w9 ⟨⟨wz, hz⟩, rfl⟩
  clear ca0 ca1 ca2 ca3 cb0 cb1 cb2 cb3
  have HZB := Lib.hid (show BelW W1 _ from hz)
  go_wp2
  go_loopw [5] (fun i wr => BelW W1 wr ∧ ∃ k : Nat, k ≤ n0 ∧ i = .int .i64 k ∧ ∀ j, j < k → x.nodes.getD j default = x'.nodes.getD j default) (fun i _ => n0 - (intOf i).toNat)
  case atStart => exact ⟨HZB.out, 0, Nat.zero_le _, rfl, fun j hj => absurd hj (by omega)⟩
  case round =>
    obtain ⟨hbr, k, hk, rfl, hno⟩ := hrel
    have HNO := Lib.hid hno
    have HBR := Lib.hid hbr
    obtain ⟨ca0, ca1, ca2, ca3⟩ := HCA.out _ hbr
    obtain ⟨cb0, cb1, cb2, cb3⟩ := HCB.out _ hbr
    by_cases hlt : k < n0
    · obtain ⟨hl1, rfl, hx1⟩ := HND.out k hlt
      obtain ⟨hl2, rfl, hx2⟩ := HNE.out k hlt
      obtain ⟨s, -, -, -, -, hi1, hk0, hk1⟩ := hx1 _ hbr
      obtain ⟨t, -, -, -, -, hi2, hk2, hk3⟩ := hx2 _ hbr
      clear hi1 hi2 hk0 hk1 hk2 hk3 s t
      obtain ⟨s, e0, e1, e2, e3, hi1, -, -⟩ := hx1 W1 (Below.refl _ _)
      obtain ⟨t, f0, f1, f2, f3, hi2, -, -⟩ := hx2 W1 (Below.refl _ _)
      obtain ⟨A4, c4, rfl, hle4⟩ : ∃ A4 c4, s = .slice A4 (x.nodes.getD k default).ins.length c4 ∧ (x.nodes.getD k default).ins.length ≤ c4 := by obtain ⟨A, b, o, c, e, -, h, -⟩ := id hi1; exact ⟨A, c, e, h⟩
      obtain ⟨D4, d4, rfl⟩ : ∃ A4 c4, t = .slice A4 (x'.nodes.getD k default).ins.length c4 := by obtain ⟨A, b, o, c, e, -⟩ := id hi2; exact ⟨A, c, e⟩
      have hq1 := Arr.len hi1
      have hq2 := Arr.len hi2
      unfold maxLen at hq1 hq2
      have HI4 : Hid (∀ n z W, n = (x.nodes.getD k default).ins.length → (z = if (x.nodes.getD k default).ins = (x'.nodes.getD k default).ins then 0 else 1) → Below W1.heap.size W1 W → Calls Tryd.prog 25 #[.slice A4 n n, .slice D4 (x'.nodes.getD k default).ins.length d4] W fun e w' => e = .returned (.int .i64 z) ∧ ∃ n, w' = W.drewN n) := Lib.hid fun n z W hn hz hb => by subst hn; exact ints_cut rfl (hi1.below hb) (hi2.below hb) hz
      have HEQ : Hid (∀ a b : Nd, a = x.nodes.getD k default → b = x'.nodes.getD k default → (x.nodes.getD k default = x'.nodes.getD k default ↔ a.kind = b.kind ∧ a.mem = b.mem ∧ a.bit = b.bit ∧ a.ins = b.ins)) := Lib.hid fun a b ha hb => by
        subst ha hb
        generalize x.nodes.getD k default = a
        generalize x'.nodes.getD k default = b
        cases a; cases b
        simp only [Nd.mk.injEq]
        constructor
        · rintro ⟨h1, h2, h3, h4⟩; exact ⟨h1, h3, h4, h2⟩
        · rintro ⟨h1, h3, h4, h2⟩; exact ⟨h1, h2, h3, h4⟩
      have HNEQ : Hid (x.nodes.getD k default ≠ x'.nodes.getD k default → y = false) := Lib.hid fun hne => by rw [HY.out]; exact ckEq_ne (fun h => hne (by rw [h]))
      obtain ⟨a, HA⟩ := named (x.nodes.getD k default)
      obtain ⟨a', HA'⟩ := named (x'.nodes.getD k default)
      have heq := HEQ.out a a' HA.out HA'.out
      rw [← HA.out, ← HA'.out] at heq
      rw [← HA.out, ← HA'.out] at HNEQ HI4
      rw [← HA.out] at e0 e1 e2 e3 hq1 hle4
      rw [← HA'.out] at f0 f1 f2 f3 hq2
      have HEQ' := Lib.hid heq
      obtain ⟨kd, Hkd⟩ := named (a.kind)
      obtain ⟨kd', Hkd'⟩ := named (a'.kind)
      obtain ⟨md, Hmd⟩ := named (a.mem)
      obtain ⟨md', Hmd'⟩ := named (a'.mem)
      obtain ⟨bd, Hbd⟩ := named (a.bit)
      obtain ⟨bd', Hbd'⟩ := named (a'.bit)
      obtain ⟨ni, Hni⟩ := named (a.ins.length)
      obtain ⟨ni', Hni'⟩ := named (a'.ins.length)
      rw [← Hkd.out] at e0; rw [← Hmd.out] at e2; rw [← Hbd.out] at e3; rw [← Hni.out] at e1 hq1 hle4
      rw [← Hkd'.out] at f0; rw [← Hmd'.out] at f2; rw [← Hbd'.out] at f3; rw [← Hni'.out] at f1 hq2 HI4
      clear hi1 hi2 hx1 hx2 HEQ heq hno
      have hce0 : ∀ w', BelW W1 w' → BelW W1 w' ∧ w'.cell? ⟨w.heap.size, 0, none⟩ = some (.slice (some ⟨b0, o0, none⟩) n0 c0) ∧ w'.cell? ⟨w.heap.size + 1, 0, none⟩ = some (.slice (some ⟨p0, r0, none⟩) n0 d0) ∧ w'.cell? ⟨b0, o0 + k * 4, none⟩ = some (.int .u8 kd) ∧ w'.cell? ⟨b0, o0 + k * 4 + 1, none⟩ = some (.slice A4 ni c4) ∧ w'.cell? ⟨b0, o0 + k * 4 + 2, none⟩ = some (.int .i64 md) ∧ w'.cell? ⟨b0, o0 + k * 4 + 3, none⟩ = some (.int .i64 bd) ∧ w'.cell? ⟨p0, r0 + k * 4, none⟩ = some (.int .u8 kd') ∧ w'.cell? ⟨p0, r0 + k * 4 + 1, none⟩ = some (.slice D4 ni' d4) ∧ w'.cell? ⟨p0, r0 + k * 4 + 2, none⟩ = some (.int .i64 md') ∧ w'.cell? ⟨p0, r0 + k * 4 + 3, none⟩ = some (.int .i64 bd') := fun w' h => ⟨h, (HCA.out _ h).1, (HCB.out _ h).1, (Below.cell (p := ⟨b0, _, none⟩) h hl1).trans e0, (Below.cell (p := ⟨b0, _, none⟩) h hl1).trans e1, (Below.cell (p := ⟨b0, _, none⟩) h hl1).trans e2, (Below.cell (p := ⟨b0, _, none⟩) h hl1).trans e3, (Below.cell (p := ⟨p0, _, none⟩) h hl2).trans f0, (Below.cell (p := ⟨p0, _, none⟩) h hl2).trans f1, (Below.cell (p := ⟨p0, _, none⟩) h hl2).trans f2, (Below.cell (p := ⟨p0, _, none⟩) h hl2).trans f3⟩
      have HCE := Lib.hid hce0
      have hwz := Below.size hbr
      clear hce0 e0 e1 e2 e3 f0 f1 f2 f3 hbr
      go_upto_region 6 with (fail)
      clear ca0 ca1 ca2 ca3 cb0 cb1 cb2 cb3
      go_cut [6, 7] (fun v6 v7 wx => ∃ pa pb : Nat, v6 = .pointer (some ⟨pa, 0, none⟩) ∧ v7 = .pointer (some ⟨pb, 0, none⟩) ∧ BelW wr wx ∧ Fr wx pa 49 [.int .u8 kd, .slice A4 ni c4, .int .i64 md, .int .i64 bd] ∧ Fr wx pb 49 [.int .u8 kd', .slice D4 ni' d4, .int .i64 md', .int .i64 bd'])
      case first =>
        have HS0 := Lib.hid (HCE.out _ (BelW.drew HBR.out))
        refine AnyX.start (S := fun w' => BelW W1 w' ∧ w'.cell? ⟨w.heap.size, 0, none⟩ = some (.slice (some ⟨b0, o0, none⟩) n0 c0) ∧ w'.cell? ⟨w.heap.size + 1, 0, none⟩ = some (.slice (some ⟨p0, r0, none⟩) n0 d0) ∧ w'.cell? ⟨b0, o0 + k * 4, none⟩ = some (.int .u8 kd) ∧ w'.cell? ⟨b0, o0 + k * 4 + 1, none⟩ = some (.slice A4 ni c4) ∧ w'.cell? ⟨b0, o0 + k * 4 + 2, none⟩ = some (.int .i64 md) ∧ w'.cell? ⟨b0, o0 + k * 4 + 3, none⟩ = some (.int .i64 bd) ∧ w'.cell? ⟨p0, r0 + k * 4, none⟩ = some (.int .u8 kd') ∧ w'.cell? ⟨p0, r0 + k * 4 + 1, none⟩ = some (.slice D4 ni' d4) ∧ w'.cell? ⟨p0, r0 + k * 4 + 2, none⟩ = some (.int .i64 md') ∧ w'.cell? ⟨p0, r0 + k * 4 + 3, none⟩ = some (.int .i64 bd')) (t := 13) (by kernel_rfl) ?_
        refine AnyX.take (i := 0) (oi := ⟨some 59, _, _, _, _, _⟩) (v := .pointer (some ⟨w.heap.size, 0, none⟩)) rfl rfl (by kernel_rfl) (by kernel_rfl) (by kernel_rfl) (by kernel_rfl) (fun _ _ _ h => h) (Or.inl ⟨by rfl, ?_⟩) HS0.out ?_
        · intro w' hSw
          obtain ⟨-, z0, z1, z2, z3, z4, z5, z6, z7, z8, z9⟩ := hSw
          first | (go_simp; done) | (go_simp; with_reducible rfl)
        simp only [Act.put, List.setIfInBounds_toArray, List.set_cons_zero, List.set_cons_succ]
        refine AnyX.take (i := 1) (oi := ⟨some 60, _, _, _, _, _⟩) (v := .slice (some ⟨b0, o0, none⟩) n0 c0) rfl rfl (by kernel_rfl) (by kernel_rfl) (by kernel_rfl) (by kernel_rfl) (fun _ _ _ h => h) (Or.inl ⟨by rfl, ?_⟩) HS0.out ?_
        · intro w' hSw
          obtain ⟨-, z0, z1, z2, z3, z4, z5, z6, z7, z8, z9⟩ := hSw
          first | (go_simp; done) | (go_simp; with_reducible rfl)
        simp only [Act.put, List.setIfInBounds_toArray, List.set_cons_zero, List.set_cons_succ]
        refine AnyX.take (i := 2) (oi := ⟨some 61, _, _, _, _, _⟩) (v := .int .i64 (k : Int)) rfl rfl (by kernel_rfl) (by kernel_rfl) (by kernel_rfl) (by kernel_rfl) (fun _ _ _ h => h) (Or.inl ⟨by rfl, ?_⟩) HS0.out ?_
        · intro w' hSw
          obtain ⟨-, z0, z1, z2, z3, z4, z5, z6, z7, z8, z9⟩ := hSw
          first | (go_simp; done) | (go_simp; with_reducible rfl)
        simp only [Act.put, List.setIfInBounds_toArray, List.set_cons_zero, List.set_cons_succ]
        refine AnyX.take (i := 3) (oi := ⟨some 62, _, _, _, _, _⟩) (v := .pointer (some ⟨b0, o0 + k * 4, none⟩)) rfl rfl (by kernel_rfl) (by kernel_rfl) (by kernel_rfl) (by kernel_rfl) (fun _ _ _ h => h) (Or.inl ⟨by rfl, ?_⟩) HS0.out ?_
        · intro w' hSw
          obtain ⟨-, z0, z1, z2, z3, z4, z5, z6, z7, z8, z9⟩ := hSw
          first | (go_simp; done) | (go_simp; with_reducible rfl)
        simp only [Act.put, List.setIfInBounds_toArray, List.set_cons_zero, List.set_cons_succ]
        refine AnyX.take (i := 4) (oi := ⟨some 63, _, _, _, _, _⟩) (v := .agg #[.int .u8 kd, .slice A4 ni c4, .int .i64 md, .int .i64 bd]) rfl rfl (by kernel_rfl) (by kernel_rfl) (by kernel_rfl) (by kernel_rfl) (fun _ _ _ h => h) (Or.inl ⟨by rfl, ?_⟩) HS0.out ?_
        · intro w' hSw
          obtain ⟨-, z0, z1, z2, z3, z4, z5, z6, z7, z8, z9⟩ := hSw
          first | (go_simp; done) | (go_simp; with_reducible rfl)
        simp only [Act.put, List.setIfInBounds_toArray, List.set_cons_zero, List.set_cons_succ]
        refine AnyX.take (i := 5) (oi := ⟨some 64, _, _, _, _, _⟩) (v := .pointer (some ⟨w.heap.size + 1, 0, none⟩)) rfl rfl (by kernel_rfl) (by kernel_rfl) (by kernel_rfl) (by kernel_rfl) (fun _ _ _ h => h) (Or.inl ⟨by rfl, ?_⟩) HS0.out ?_
        · intro w' hSw
          obtain ⟨-, z0, z1, z2, z3, z4, z5, z6, z7, z8, z9⟩ := hSw
          first | (go_simp; done) | (go_simp; with_reducible rfl)
        simp only [Act.put, List.setIfInBounds_toArray, List.set_cons_zero, List.set_cons_succ]
        refine AnyX.take (i := 6) (oi := ⟨some 65, _, _, _, _, _⟩) (v := .slice (some ⟨p0, r0, none⟩) n0 d0) rfl rfl (by kernel_rfl) (by kernel_rfl) (by kernel_rfl) (by kernel_rfl) (fun _ _ _ h => h) (Or.inl ⟨by rfl, ?_⟩) HS0.out ?_
        · intro w' hSw
          obtain ⟨-, z0, z1, z2, z3, z4, z5, z6, z7, z8, z9⟩ := hSw
          first | (go_simp; done) | (go_simp; with_reducible rfl)
        simp only [Act.put, List.setIfInBounds_toArray, List.set_cons_zero, List.set_cons_succ]
        refine AnyX.take (i := 7) (oi := ⟨some 66, _, _, _, _, _⟩) (v := .int .i64 (k : Int)) rfl rfl (by kernel_rfl) (by kernel_rfl) (by kernel_rfl) (by kernel_rfl) (fun _ _ _ h => h) (Or.inl ⟨by rfl, ?_⟩) HS0.out ?_
        · intro w' hSw
          obtain ⟨-, z0, z1, z2, z3, z4, z5, z6, z7, z8, z9⟩ := hSw
          first | (go_simp; done) | (go_simp; with_reducible rfl)
        simp only [Act.put, List.setIfInBounds_toArray, List.set_cons_zero, List.set_cons_succ]
        refine AnyX.take (i := 8) (oi := ⟨some 67, _, _, _, _, _⟩) (v := .pointer (some ⟨p0, r0 + k * 4, none⟩)) rfl rfl (by kernel_rfl) (by kernel_rfl) (by kernel_rfl) (by kernel_rfl) (fun _ _ _ h => h) (Or.inl ⟨by rfl, ?_⟩) HS0.out ?_
        · intro w' hSw
          obtain ⟨-, z0, z1, z2, z3, z4, z5, z6, z7, z8, z9⟩ := hSw
          first | (go_simp; done) | (go_simp; with_reducible rfl)
        simp only [Act.put, List.setIfInBounds_toArray, List.set_cons_zero, List.set_cons_succ]
        refine AnyX.take (i := 9) (oi := ⟨some 68, _, _, _, _, _⟩) (v := .agg #[.int .u8 kd', .slice D4 ni' d4, .int .i64 md', .int .i64 bd']) rfl rfl (by kernel_rfl) (by kernel_rfl) (by kernel_rfl) (by kernel_rfl) (fun _ _ _ h => h) (Or.inl ⟨by rfl, ?_⟩) HS0.out ?_
        · intro w' hSw
          obtain ⟨-, z0, z1, z2, z3, z4, z5, z6, z7, z8, z9⟩ := hSw
          first | (go_simp; done) | (go_simp; with_reducible rfl)
        simp only [Act.put, List.setIfInBounds_toArray, List.set_cons_zero, List.set_cons_succ]
        clear HS0
        refine AnyX.fork (i := 10) (j := 11) (oi := ⟨some 6, _, _, _, _, _⟩) (oj := ⟨some 7, _, _, _, _, _⟩) (by kernel_rfl) rfl rfl (fun K' hK => ?_) (fun K' hK => ?_)
        · have HK := Lib.hid hK
          clear hK
          go_simp
          refine HK.out _ _ (fun _ => HCE.out _ (by repeat (first | exact HBR.out | refine BelW.drew ?_ | refine BelW.alloc ?_ _))) ?_
          clear HK
          (try simp only [Act.put, List.setIfInBounds_toArray, List.set_cons_zero, List.set_cons_succ])
          refine AnyX.one (i := 11) (o := ⟨some 7, _, _, _, _, _⟩) (by kernel_rfl) rfl (fun K' hK => ?_)
          have HK := Lib.hid hK
          clear hK
          go_simp
          refine HK.out _ _ (fun _ => HCE.out _ (by repeat (first | exact HBR.out | refine BelW.drew ?_ | refine BelW.alloc ?_ _))) ?_
          clear HK
          (try simp only [Act.put, List.setIfInBounds_toArray, List.set_cons_zero, List.set_cons_succ])
          refine AnyX.one (i := 12) (o := ⟨none, _, _, _, _, _⟩) (by kernel_rfl) rfl (fun K' hK => ?_)
          have HK := Lib.hid hK
          clear hK
          go_simp
          refine HK.out _ _ (fun _ => HCE.out _ (by repeat (first | exact HBR.out | refine BelW.drew ?_ | refine BelW.alloc ?_ _))) ?_
          clear HK
          (try simp only [Act.put, List.setIfInBounds_toArray, List.set_cons_zero, List.set_cons_succ])
          refine AnyX.one (i := 13) (o := ⟨none, _, _, _, _, _⟩) (by kernel_rfl) rfl (fun K' hK => ?_)
          have HK := Lib.hid hK
          clear hK
          go_simp
          refine HK.out _ _ (fun h => absurd rfl h) ?_
          clear HK
          (try simp only [Act.put, List.setIfInBounds_toArray, List.set_cons_zero, List.set_cons_succ])
          refine AnyX.done (by kernel_rfl) ?_ _
          go_wp2
          go_meet
          exact ⟨wr.heap.size, wr.heap.size + 1, rfl, rfl, (by repeat (first | exact Below.refl _ _ | refine BelW.drew ?_ | refine BelW.alloc ?_ _)), Fr.drew (Fr.alloc (Fr.made wr _ _ rfl) _), Fr.drew (Fr.made _ _ _ (by simp))⟩
        · have HK := Lib.hid hK
          clear hK
          go_simp
          refine HK.out _ _ (fun _ => HCE.out _ (by repeat (first | exact HBR.out | refine BelW.drew ?_ | refine BelW.alloc ?_ _))) ?_
          clear HK
          (try simp only [Act.put, List.setIfInBounds_toArray, List.set_cons_zero, List.set_cons_succ])
          refine AnyX.one (i := 10) (o := ⟨some 6, _, _, _, _, _⟩) (by kernel_rfl) rfl (fun K' hK => ?_)
          have HK := Lib.hid hK
          clear hK
          go_simp
          refine HK.out _ _ (fun _ => HCE.out _ (by repeat (first | exact HBR.out | refine BelW.drew ?_ | refine BelW.alloc ?_ _))) ?_
          clear HK
          (try simp only [Act.put, List.setIfInBounds_toArray, List.set_cons_zero, List.set_cons_succ])
          refine AnyX.one (i := 12) (o := ⟨none, _, _, _, _, _⟩) (by kernel_rfl) rfl (fun K' hK => ?_)
          have HK := Lib.hid hK
          clear hK
          go_simp
          refine HK.out _ _ (fun _ => HCE.out _ (by repeat (first | exact HBR.out | refine BelW.drew ?_ | refine BelW.alloc ?_ _))) ?_
          clear HK
          (try simp only [Act.put, List.setIfInBounds_toArray, List.set_cons_zero, List.set_cons_succ])
          refine AnyX.one (i := 13) (o := ⟨none, _, _, _, _, _⟩) (by kernel_rfl) rfl (fun K' hK => ?_)
          have HK := Lib.hid hK
          clear hK
          go_simp
          refine HK.out _ _ (fun h => absurd rfl h) ?_
          clear HK
          (try simp only [Act.put, List.setIfInBounds_toArray, List.set_cons_zero, List.set_cons_succ])
          refine AnyX.done (by kernel_rfl) ?_ _
          go_wp2
          go_meet
          exact ⟨wr.heap.size + 1, wr.heap.size, rfl, rfl, (by repeat (first | exact Below.refl _ _ | refine BelW.drew ?_ | refine BelW.alloc ?_ _)), Fr.drew (Fr.made _ _ _ (by simp)), Fr.drew (Fr.alloc (Fr.made wr _ _ rfl) _)⟩
      case rest =>
        obtain ⟨pa, pb, rfl, rfl, hbc, hfa, hfb⟩ := hcut
        go_upto_region 7 with (fail)
        have HBC := Lib.hid (show Below W1.heap.size W1 wc from BelW.trans HBR.out hbc)
        have ga0 : ∀ xx : Beh wc, xx.x.cell? ⟨pa, 0, none⟩ = some (.int .u8 kd) := fun xx => (hfa.below xx.below).cell 0
        have gb0 : ∀ xx : Beh wc, xx.x.cell? ⟨pb, 0, none⟩ = some (.int .u8 kd') := fun xx => (hfb.below xx.below).cell 0
        have ga1 : ∀ xx : Beh wc, xx.x.cell? ⟨pa, 1, none⟩ = some (.slice A4 ni c4) := fun xx => (hfa.below xx.below).cell 1
        have gb1 : ∀ xx : Beh wc, xx.x.cell? ⟨pb, 1, none⟩ = some (.slice D4 ni' d4) := fun xx => (hfb.below xx.below).cell 1
        have ga2 : ∀ xx : Beh wc, xx.x.cell? ⟨pa, 2, none⟩ = some (.int .i64 md) := fun xx => (hfa.below xx.below).cell 2
        have gb2 : ∀ xx : Beh wc, xx.x.cell? ⟨pb, 2, none⟩ = some (.int .i64 md') := fun xx => (hfb.below xx.below).cell 2
        have ga3 : ∀ xx : Beh wc, xx.x.cell? ⟨pa, 3, none⟩ = some (.int .i64 bd) := fun xx => (hfa.below xx.below).cell 3
        have gb3 : ∀ xx : Beh wc, xx.x.cell? ⟨pb, 3, none⟩ = some (.int .i64 bd') := fun xx => (hfb.below xx.below).cell 3
        have hli4 : (ni : Int) ≤ (c4 : Int) := by omega
        clear hbc hfa hfb
        have Hnin : Hid (ni = a.ins.length) := Hni
        cases t0 : (kd != kd')
        rotate_left
        · have hy : y = false := HNEQ.out (fun h => by have := (HEQ'.out.1 h).1; rw [← Hkd.out, ← Hkd'.out] at this; simp [this] at t0)
          have HYF := Lib.hid hy
          clear hy HEQ' HNO
          refine region_class (w0 := wc) (Below.refl _ _) (by kernel_rfl) (by kernel_rfl) ?_
          repeat (first
            | go_big_quiet_skip
            | (go_big_quiet_want; go_big_quiet_op; first
              | go_big_quiet_on
              | (apply Exists.intro
                 refine ⟨fun xx => ?_, ?_⟩
                 focus first
                  | fail
                 go_big_quiet_on)))
          refine wpQuiet_nil ?_
          rintro w9 ⟨⟨wz, hz2⟩, rfl⟩
          go_wp2
          go_ret
          exact ⟨ret_bool (by rw [HYF.out]), joinB HB1.out (joinB HBC.out hz2)⟩
        cases t1 : (md != md')
        rotate_left
        · have hy : y = false := HNEQ.out (fun h => by have := (HEQ'.out.1 h).2.1; rw [← Hmd.out, ← Hmd'.out] at this; simp [this] at t1)
          have HYF := Lib.hid hy
          clear hy HEQ' HNO
          refine region_class (w0 := wc) (Below.refl _ _) (by kernel_rfl) (by kernel_rfl) ?_
          repeat (first
            | go_big_quiet_skip
            | (go_big_quiet_want; go_big_quiet_op; first
              | go_big_quiet_on
              | (apply Exists.intro
                 refine ⟨fun xx => ?_, ?_⟩
                 focus first
                  | fail
                 go_big_quiet_on)))
          refine wpQuiet_nil ?_
          rintro w9 ⟨⟨wz, hz2⟩, rfl⟩
          go_wp2
          go_ret
          exact ⟨ret_bool (by rw [HYF.out]), joinB HB1.out (joinB HBC.out hz2)⟩
        cases t2 : (bd != bd')
        rotate_left
        · have hy : y = false := HNEQ.out (fun h => by have := (HEQ'.out.1 h).2.2.1; rw [← Hbd.out, ← Hbd'.out] at this; simp [this] at t2)
          have HYF := Lib.hid hy
          clear hy HEQ' HNO
          refine region_class (w0 := wc) (Below.refl _ _) (by kernel_rfl) (by kernel_rfl) ?_
          repeat (first
            | go_big_quiet_skip
            | (go_big_quiet_want; go_big_quiet_op; first
              | go_big_quiet_on
              | (apply Exists.intro
                 refine ⟨fun xx => ?_, ?_⟩
                 focus first
                  | fail
                 go_big_quiet_on)))
          refine wpQuiet_nil ?_
          rintro w9 ⟨⟨wz, hz2⟩, rfl⟩
          go_wp2
          go_ret
          exact ⟨ret_bool (by rw [HYF.out]), joinB HB1.out (joinB HBC.out hz2)⟩
        by_cases t3 : a.ins = a'.ins
        rotate_left
        · have hy : y = false := HNEQ.out (fun h => t3 (HEQ'.out.1 h).2.2.2)
          have HZ4 : Hid ((1 : Int) = if a.ins = a'.ins then 0 else 1) := Lib.hid (by rw [if_neg t3])
          have HYF := Lib.hid hy
          clear hy HEQ' HNO t3
          refine region_class (w0 := wc) (Below.refl _ _) (by kernel_rfl) (by kernel_rfl) ?_
          repeat (first
            | go_big_quiet_skip
            | (go_big_quiet_want; go_big_quiet_op; first
              | go_big_quiet_on
              | (apply Exists.intro
                 refine ⟨fun xx => ?_, ?_⟩
                 focus first
                  | (go_at_call 25; with_reducible exact beh_drewN (HI4.out _ _ _ Hnin.out HZ4.out (joinB HBC.out xx.below)))
                 go_big_quiet_on)))
          refine wpQuiet_nil ?_
          rintro w9 ⟨⟨wz, hz2⟩, rfl⟩
          go_wp2
          go_ret
          exact ⟨ret_bool (by rw [HYF.out]), joinB HB1.out (joinB HBC.out hz2)⟩
        have HZ4 : Hid ((0 : Int) = if a.ins = a'.ins then 0 else 1) := Lib.hid (by rw [if_pos t3])
        have HAA : Hid (a = a') := Lib.hid (HEQ'.out.2 ⟨by rw [← Hkd.out, ← Hkd'.out]; simpa using t0, by rw [← Hmd.out, ← Hmd'.out]; simpa using t1, by rw [← Hbd.out, ← Hbd'.out]; simpa using t2, t3⟩)
        clear t3 HEQ'
        refine region_class (w0 := wc) (Below.refl _ _) (by kernel_rfl) (by kernel_rfl) ?_
        repeat (first
          | go_big_quiet_skip
          | (go_big_quiet_want; go_big_quiet_op; first
            | go_big_quiet_on
            | (apply Exists.intro
               refine ⟨fun xx => ?_, ?_⟩
               focus first
                | (go_at_call 25; with_reducible exact beh_drewN (HI4.out _ _ _ Hnin.out HZ4.out (joinB HBC.out xx.below)))
               go_big_quiet_on)))
        refine wpQuiet_nil ?_
        rintro w9 ⟨⟨wz, hz2⟩, rfl⟩
        have HBZ := Lib.hid (show BelW W1 _ from joinB HBC.out hz2)
        clear ga0 ga1 ga2 ga3 gb0 gb1 gb2 gb3 hz2
        go_wp2
        go_roundw
        case rel =>
          refine ⟨HBZ.out, k + 1, by omega, by go_num, fun j hj => ?_⟩
          by_cases hjk : j = k
          · rw [hjk, ← HA.out, ← HA'.out]; exact HAA.out
          · exact HNO.out j (by omega)
        case measure => simp [intOf]; omega
    · obtain rfl : n0 = k := by omega
      have HEN : Hid (x.nodes = x'.nodes) := Lib.hid (eq_nodes (HN0.out.symm.trans HM0.out) (fun j hj => HNO.out j (by rw [← HN0.out] at hj; exact hj)))
      clear HNO hno hbr
      go_wp2
      clear ca0 ca1 ca2 ca3 cb0 cb1 cb2 cb3
      go_loopw [8] (fun i wr => BelW W1 wr ∧ ∃ k : Nat, k ≤ n1 ∧ i = .int .i64 k ∧ ∀ j, j < k → x.names.getD j ByteArray.empty = x'.names.getD j ByteArray.empty) (fun i _ => n1 - (intOf i).toNat)
      case atStart => exact ⟨HBR.out, 0, Nat.zero_le _, rfl, fun j hj => absurd hj (by omega)⟩
      case round =>
        clear HBR hk
        obtain ⟨hbr, k, hk, rfl, hno⟩ := hrel
        have HNO := Lib.hid hno
        have HBR := Lib.hid hbr
        obtain ⟨-, ca1, -, -⟩ := HCA.out _ hbr
        obtain ⟨-, cb1, -, -⟩ := HCB.out _ hbr
        by_cases hlt : k < n1
        · obtain ⟨hl1, rfl, hx1⟩ := HSD.out k hlt
          obtain ⟨hl2, rfl, hx2⟩ := HSE.out k hlt
          have h1 := (hx1 _ hbr).1
          have h2 := (hx2 _ hbr).1
          obtain ⟨s, HS⟩ := named (x.names.getD k ByteArray.empty)
          obtain ⟨s', HS'⟩ := named (x'.names.getD k ByteArray.empty)
          rw [← HS.out] at h1
          rw [← HS'.out] at h2
          clear hx1 hx2 hno hbr
          cases hv2 : (s.toList == s'.toList)
          rotate_left
          · have hv : (s.toList != s'.toList) = false := by simp only [bne, hv2]; rfl
            have e : s.toList = s'.toList := by simpa using hv2
            rw [ByteArray.toList_eq, ByteArray.toList_eq] at e
            have HV : Hid (s = s') := Lib.hid (ByteArray.ext (Array.toList_inj.mp e))
            clear e
            go_wp2
            go_quiet (fail)
            go_wp2
            go_roundw
            case rel =>
              refine ⟨below_drewN HBR.out _, k + 1, by omega, by go_num, fun j hj => ?_⟩
              by_cases hjk : j = k
              · rw [hjk, ← HS.out, ← HS'.out]; exact HV.out
              · exact HNO.out j (by omega)
            case measure => simp [intOf]; omega
          · have hv : (s.toList != s'.toList) = true := by simp only [bne, hv2]; rfl
            have hy : y = false := by
              rw [HY.out]; refine ckEq_ne (fun h => ?_)
              have : s = s' := by rw [HS.out, HS'.out, h]
              rw [this] at hv2; simp at hv2
            have HYF := Lib.hid hy
            clear hy
            go_wp2
            go_quiet (fail)
            go_wp2
            go_ret
            exact ⟨ret_bool (by rw [HYF.out]), joinB HB1.out (below_drewN HBR.out _)⟩
        · obtain rfl : n1 = k := by omega
          have HES : Hid (x.names = x'.names) := Lib.hid (eq_strs (HN1.out.symm.trans HM1.out) (fun j hj => HNO.out j (by rw [← HN1.out] at hj; exact hj)))
          clear HNO hno hbr
          go_wp2
          clear ca1 cb1
          go_loopw [9] (fun i wr => BelW W1 wr ∧ ∃ k : Nat, k ≤ n2 ∧ i = .int .i64 k ∧ ∀ j, j < k → x.mems.getD j default = x'.mems.getD j default) (fun i _ => n2 - (intOf i).toNat)
          case atStart => exact ⟨HBR.out, 0, Nat.zero_le _, rfl, fun j hj => absurd hj (by omega)⟩
          case round =>
            clear HBR hk
            obtain ⟨hbr, k, hk, rfl, hno⟩ := hrel
            have HNO := Lib.hid hno
            have HBR := Lib.hid hbr
            obtain ⟨-, -, ca2, -⟩ := HCA.out _ hbr
            obtain ⟨-, -, cb2, -⟩ := HCB.out _ hbr
            by_cases hlt : k < n2
            · obtain ⟨hl1, rfl, hx1⟩ := HMD.out k hlt
              obtain ⟨hl2, rfl, hx2⟩ := HME.out k hlt
              obtain ⟨s, t, e0, e1, e2, hi1, hj1⟩ := hx1 W1 (Below.refl _ _)
              obtain ⟨s', t', f0, f1, f2, hi2, hj2⟩ := hx2 W1 (Below.refl _ _)
              obtain ⟨A4, c4, rfl, hle4⟩ : ∃ A4 c4, s = .slice A4 (x.mems.getD k default).addr.length c4 ∧ (x.mems.getD k default).addr.length ≤ c4 := by obtain ⟨A, b, o, c, e, -, h, -⟩ := id hi1; exact ⟨A, c, e, h⟩
              obtain ⟨A5, c5, rfl, hle5⟩ : ∃ A4 c4, t = .slice A4 (x.mems.getD k default).data.length c4 ∧ (x.mems.getD k default).data.length ≤ c4 := by obtain ⟨A, b, o, c, e, -, h, -⟩ := id hj1; exact ⟨A, c, e, h⟩
              obtain ⟨D4, d4, rfl, hld4⟩ : ∃ A4 c4, s' = .slice A4 (x'.mems.getD k default).addr.length c4 ∧ (x'.mems.getD k default).addr.length ≤ c4 := by obtain ⟨A, b, o, c, e, -, h, -⟩ := id hi2; exact ⟨A, c, e, h⟩
              obtain ⟨D5, d5, rfl, hld5⟩ : ∃ A4 c4, t' = .slice A4 (x'.mems.getD k default).data.length c4 ∧ (x'.mems.getD k default).data.length ≤ c4 := by obtain ⟨A, b, o, c, e, -, h, -⟩ := id hj2; exact ⟨A, c, e, h⟩
              have hq1 := Arr.len hi1
              have hq2 := Arr.len hj1
              have hq3 := Arr.len hi2
              have hq4 := Arr.len hj2
              unfold maxLen at hq1 hq2 hq3 hq4
              have HI4 : Hid (∀ n z W, n = (x.mems.getD k default).addr.length → (z = if (x.mems.getD k default).addr = (x'.mems.getD k default).addr then 0 else 1) → Below W1.heap.size W1 W → Calls Tryd.prog 25 #[.slice A4 n n, .slice D4 (x'.mems.getD k default).addr.length d4] W fun e w' => e = .returned (.int .i64 z) ∧ ∃ n, w' = W.drewN n) := Lib.hid fun n z W hn hz hb => by subst hn; exact ints_cut rfl (hi1.below hb) (hi2.below hb) hz
              have HI5 : Hid (∀ n z W, n = (x.mems.getD k default).data.length → (z = if (x.mems.getD k default).data = (x'.mems.getD k default).data then 0 else 1) → Below W1.heap.size W1 W → Calls Tryd.prog 25 #[.slice A5 n n, .slice D5 (x'.mems.getD k default).data.length d5] W fun e w' => e = .returned (.int .i64 z) ∧ ∃ n, w' = W.drewN n) := Lib.hid fun n z W hn hz hb => by subst hn; exact ints_cut rfl (hj1.below hb) (hj2.below hb) hz
              have HEQ : Hid (∀ a b : Mm, a = x.mems.getD k default → b = x'.mems.getD k default → (x.mems.getD k default = x'.mems.getD k default ↔ a.write = b.write ∧ a.addr = b.addr ∧ a.data = b.data)) := Lib.hid fun a b ha hb => by
                subst ha hb
                generalize x.mems.getD k default = a
                generalize x'.mems.getD k default = b
                cases a; cases b
                simp only [Mm.mk.injEq]
                constructor
                · rintro ⟨h1, h2, h3⟩; exact ⟨h3, h1, h2⟩
                · rintro ⟨h3, h1, h2⟩; exact ⟨h1, h2, h3⟩
              have HNEQ : Hid (x.mems.getD k default ≠ x'.mems.getD k default → y = false) := Lib.hid fun hne => by rw [HY.out]; exact ckEq_ne (fun h => hne (by rw [h]))
              obtain ⟨a, HA⟩ := named (x.mems.getD k default)
              obtain ⟨a', HA'⟩ := named (x'.mems.getD k default)
              have heq := HEQ.out a a' HA.out HA'.out
              rw [← HA.out, ← HA'.out] at heq
              rw [← HA.out, ← HA'.out] at HNEQ HI4 HI5
              rw [← HA.out] at e0 e1 e2 hq1 hq2 hle4 hle5
              rw [← HA'.out] at f0 f1 f2 hq3 hq4
              have HEQ' := Lib.hid heq
              obtain ⟨kd, Hkd⟩ := named (a.write)
              obtain ⟨kd', Hkd'⟩ := named (a'.write)
              obtain ⟨ni, Hni⟩ := named (a.addr.length)
              obtain ⟨ni', Hni'⟩ := named (a'.addr.length)
              obtain ⟨nj, Hnj⟩ := named (a.data.length)
              obtain ⟨nj', Hnj'⟩ := named (a'.data.length)
              rw [← Hni.out] at e0 hq1 hle4; rw [← Hnj.out] at e1 hq2 hle5; rw [← Hkd.out] at e2
              rw [← Hni'.out] at f0 hq3 HI4; rw [← Hnj'.out] at f1 hq4 HI5; rw [← Hkd'.out] at f2
              clear hi1 hi2 hj1 hj2 hx1 hx2 HEQ heq hno
              have hce0 : ∀ w', BelW W1 w' → BelW W1 w' ∧ w'.cell? ⟨w.heap.size, 2, none⟩ = some (.slice (some ⟨b2, o2, none⟩) n2 c2) ∧ w'.cell? ⟨w.heap.size + 1, 2, none⟩ = some (.slice (some ⟨p2, r2, none⟩) n2 d2) ∧ w'.cell? ⟨b2, o2 + k * 3, none⟩ = some (.slice A4 ni c4) ∧ w'.cell? ⟨b2, o2 + k * 3 + 1, none⟩ = some (.slice A5 nj c5) ∧ w'.cell? ⟨b2, o2 + k * 3 + 2, none⟩ = some (.int .i64 kd) ∧ w'.cell? ⟨p2, r2 + k * 3, none⟩ = some (.slice D4 ni' d4) ∧ w'.cell? ⟨p2, r2 + k * 3 + 1, none⟩ = some (.slice D5 nj' d5) ∧ w'.cell? ⟨p2, r2 + k * 3 + 2, none⟩ = some (.int .i64 kd') := fun w' h => ⟨h, (HCA.out _ h).2.2.1, (HCB.out _ h).2.2.1, (Below.cell (p := ⟨b2, _, none⟩) h hl1).trans e0, (Below.cell (p := ⟨b2, _, none⟩) h hl1).trans e1, (Below.cell (p := ⟨b2, _, none⟩) h hl1).trans e2, (Below.cell (p := ⟨p2, _, none⟩) h hl2).trans f0, (Below.cell (p := ⟨p2, _, none⟩) h hl2).trans f1, (Below.cell (p := ⟨p2, _, none⟩) h hl2).trans f2⟩
              have HCE := Lib.hid hce0
              have hwz := Below.size hbr
              clear hce0 e0 e1 e2 f0 f1 f2 hbr
              go_upto_region 17 with (fail)
              clear ca2 cb2
              go_cut [10, 11] (fun v6 v7 wx => ∃ pa pb : Nat, v6 = .pointer (some ⟨pa, 0, none⟩) ∧ v7 = .pointer (some ⟨pb, 0, none⟩) ∧ BelW wr wx ∧ Fr wx pa 70 [.slice A4 ni c4, .slice A5 nj c5, .int .i64 kd] ∧ Fr wx pb 70 [.slice D4 ni' d4, .slice D5 nj' d5, .int .i64 kd'])
              case first =>
                have HS0 := Lib.hid (HCE.out _ (BelW.drew HBR.out))
                refine AnyX.start (S := fun w' => BelW W1 w' ∧ w'.cell? ⟨w.heap.size, 2, none⟩ = some (.slice (some ⟨b2, o2, none⟩) n2 c2) ∧ w'.cell? ⟨w.heap.size + 1, 2, none⟩ = some (.slice (some ⟨p2, r2, none⟩) n2 d2) ∧ w'.cell? ⟨b2, o2 + k * 3, none⟩ = some (.slice A4 ni c4) ∧ w'.cell? ⟨b2, o2 + k * 3 + 1, none⟩ = some (.slice A5 nj c5) ∧ w'.cell? ⟨b2, o2 + k * 3 + 2, none⟩ = some (.int .i64 kd) ∧ w'.cell? ⟨p2, r2 + k * 3, none⟩ = some (.slice D4 ni' d4) ∧ w'.cell? ⟨p2, r2 + k * 3 + 1, none⟩ = some (.slice D5 nj' d5) ∧ w'.cell? ⟨p2, r2 + k * 3 + 2, none⟩ = some (.int .i64 kd')) (t := 13) (by kernel_rfl) ?_
                refine AnyX.take (i := 0) (oi := ⟨some 128, _, _, _, _, _⟩) (v := .pointer (some ⟨w.heap.size, 2, none⟩)) rfl rfl (by kernel_rfl) (by kernel_rfl) (by kernel_rfl) (by kernel_rfl) (fun _ _ _ h => h) (Or.inl ⟨by rfl, ?_⟩) HS0.out ?_
                · intro w' hSw
                  obtain ⟨-, z0, z1, z2, z3, z4, z5, z6, z7⟩ := hSw
                  first | (go_simp; done) | (go_simp; with_reducible rfl)
                simp only [Act.put, List.setIfInBounds_toArray, List.set_cons_zero, List.set_cons_succ]
                refine AnyX.take (i := 1) (oi := ⟨some 129, _, _, _, _, _⟩) (v := .slice (some ⟨b2, o2, none⟩) n2 c2) rfl rfl (by kernel_rfl) (by kernel_rfl) (by kernel_rfl) (by kernel_rfl) (fun _ _ _ h => h) (Or.inl ⟨by rfl, ?_⟩) HS0.out ?_
                · intro w' hSw
                  obtain ⟨-, z0, z1, z2, z3, z4, z5, z6, z7⟩ := hSw
                  first | (go_simp; done) | (go_simp; with_reducible rfl)
                simp only [Act.put, List.setIfInBounds_toArray, List.set_cons_zero, List.set_cons_succ]
                refine AnyX.take (i := 2) (oi := ⟨some 130, _, _, _, _, _⟩) (v := .int .i64 (k : Int)) rfl rfl (by kernel_rfl) (by kernel_rfl) (by kernel_rfl) (by kernel_rfl) (fun _ _ _ h => h) (Or.inl ⟨by rfl, ?_⟩) HS0.out ?_
                · intro w' hSw
                  obtain ⟨-, z0, z1, z2, z3, z4, z5, z6, z7⟩ := hSw
                  first | (go_simp; done) | (go_simp; with_reducible rfl)
                simp only [Act.put, List.setIfInBounds_toArray, List.set_cons_zero, List.set_cons_succ]
                refine AnyX.take (i := 3) (oi := ⟨some 131, _, _, _, _, _⟩) (v := .pointer (some ⟨b2, o2 + k * 3, none⟩)) rfl rfl (by kernel_rfl) (by kernel_rfl) (by kernel_rfl) (by kernel_rfl) (fun _ _ _ h => h) (Or.inl ⟨by rfl, ?_⟩) HS0.out ?_
                · intro w' hSw
                  obtain ⟨-, z0, z1, z2, z3, z4, z5, z6, z7⟩ := hSw
                  first | (go_simp; done) | (go_simp; with_reducible rfl)
                simp only [Act.put, List.setIfInBounds_toArray, List.set_cons_zero, List.set_cons_succ]
                refine AnyX.take (i := 4) (oi := ⟨some 132, _, _, _, _, _⟩) (v := .agg #[.slice A4 ni c4, .slice A5 nj c5, .int .i64 kd]) rfl rfl (by kernel_rfl) (by kernel_rfl) (by kernel_rfl) (by kernel_rfl) (fun _ _ _ h => h) (Or.inl ⟨by rfl, ?_⟩) HS0.out ?_
                · intro w' hSw
                  obtain ⟨-, z0, z1, z2, z3, z4, z5, z6, z7⟩ := hSw
                  first | (go_simp; done) | (go_simp; with_reducible rfl)
                simp only [Act.put, List.setIfInBounds_toArray, List.set_cons_zero, List.set_cons_succ]
                refine AnyX.take (i := 5) (oi := ⟨some 133, _, _, _, _, _⟩) (v := .pointer (some ⟨w.heap.size + 1, 2, none⟩)) rfl rfl (by kernel_rfl) (by kernel_rfl) (by kernel_rfl) (by kernel_rfl) (fun _ _ _ h => h) (Or.inl ⟨by rfl, ?_⟩) HS0.out ?_
                · intro w' hSw
                  obtain ⟨-, z0, z1, z2, z3, z4, z5, z6, z7⟩ := hSw
                  first | (go_simp; done) | (go_simp; with_reducible rfl)
                simp only [Act.put, List.setIfInBounds_toArray, List.set_cons_zero, List.set_cons_succ]
                refine AnyX.take (i := 6) (oi := ⟨some 134, _, _, _, _, _⟩) (v := .slice (some ⟨p2, r2, none⟩) n2 d2) rfl rfl (by kernel_rfl) (by kernel_rfl) (by kernel_rfl) (by kernel_rfl) (fun _ _ _ h => h) (Or.inl ⟨by rfl, ?_⟩) HS0.out ?_
                · intro w' hSw
                  obtain ⟨-, z0, z1, z2, z3, z4, z5, z6, z7⟩ := hSw
                  first | (go_simp; done) | (go_simp; with_reducible rfl)
                simp only [Act.put, List.setIfInBounds_toArray, List.set_cons_zero, List.set_cons_succ]
                refine AnyX.take (i := 7) (oi := ⟨some 135, _, _, _, _, _⟩) (v := .int .i64 (k : Int)) rfl rfl (by kernel_rfl) (by kernel_rfl) (by kernel_rfl) (by kernel_rfl) (fun _ _ _ h => h) (Or.inl ⟨by rfl, ?_⟩) HS0.out ?_
                · intro w' hSw
                  obtain ⟨-, z0, z1, z2, z3, z4, z5, z6, z7⟩ := hSw
                  first | (go_simp; done) | (go_simp; with_reducible rfl)
                simp only [Act.put, List.setIfInBounds_toArray, List.set_cons_zero, List.set_cons_succ]
                refine AnyX.take (i := 8) (oi := ⟨some 136, _, _, _, _, _⟩) (v := .pointer (some ⟨p2, r2 + k * 3, none⟩)) rfl rfl (by kernel_rfl) (by kernel_rfl) (by kernel_rfl) (by kernel_rfl) (fun _ _ _ h => h) (Or.inl ⟨by rfl, ?_⟩) HS0.out ?_
                · intro w' hSw
                  obtain ⟨-, z0, z1, z2, z3, z4, z5, z6, z7⟩ := hSw
                  first | (go_simp; done) | (go_simp; with_reducible rfl)
                simp only [Act.put, List.setIfInBounds_toArray, List.set_cons_zero, List.set_cons_succ]
                refine AnyX.take (i := 9) (oi := ⟨some 137, _, _, _, _, _⟩) (v := .agg #[.slice D4 ni' d4, .slice D5 nj' d5, .int .i64 kd']) rfl rfl (by kernel_rfl) (by kernel_rfl) (by kernel_rfl) (by kernel_rfl) (fun _ _ _ h => h) (Or.inl ⟨by rfl, ?_⟩) HS0.out ?_
                · intro w' hSw
                  obtain ⟨-, z0, z1, z2, z3, z4, z5, z6, z7⟩ := hSw
                  first | (go_simp; done) | (go_simp; with_reducible rfl)
                simp only [Act.put, List.setIfInBounds_toArray, List.set_cons_zero, List.set_cons_succ]
                clear HS0
                refine AnyX.fork (i := 10) (j := 11) (oi := ⟨some 10, _, _, _, _, _⟩) (oj := ⟨some 11, _, _, _, _, _⟩) (by kernel_rfl) rfl rfl (fun K' hK => ?_) (fun K' hK => ?_)
                · have HK := Lib.hid hK
                  clear hK
                  go_simp
                  refine HK.out _ _ (fun _ => HCE.out _ (by repeat (first | exact HBR.out | refine BelW.drew ?_ | refine BelW.alloc ?_ _))) ?_
                  clear HK
                  (try simp only [Act.put, List.setIfInBounds_toArray, List.set_cons_zero, List.set_cons_succ])
                  refine AnyX.one (i := 11) (o := ⟨some 11, _, _, _, _, _⟩) (by kernel_rfl) rfl (fun K' hK => ?_)
                  have HK := Lib.hid hK
                  clear hK
                  go_simp
                  refine HK.out _ _ (fun _ => HCE.out _ (by repeat (first | exact HBR.out | refine BelW.drew ?_ | refine BelW.alloc ?_ _))) ?_
                  clear HK
                  (try simp only [Act.put, List.setIfInBounds_toArray, List.set_cons_zero, List.set_cons_succ])
                  refine AnyX.one (i := 12) (o := ⟨none, _, _, _, _, _⟩) (by kernel_rfl) rfl (fun K' hK => ?_)
                  have HK := Lib.hid hK
                  clear hK
                  go_simp
                  refine HK.out _ _ (fun _ => HCE.out _ (by repeat (first | exact HBR.out | refine BelW.drew ?_ | refine BelW.alloc ?_ _))) ?_
                  clear HK
                  (try simp only [Act.put, List.setIfInBounds_toArray, List.set_cons_zero, List.set_cons_succ])
                  refine AnyX.one (i := 13) (o := ⟨none, _, _, _, _, _⟩) (by kernel_rfl) rfl (fun K' hK => ?_)
                  have HK := Lib.hid hK
                  clear hK
                  go_simp
                  refine HK.out _ _ (fun h => absurd rfl h) ?_
                  clear HK
                  (try simp only [Act.put, List.setIfInBounds_toArray, List.set_cons_zero, List.set_cons_succ])
                  refine AnyX.done (by kernel_rfl) ?_ _
                  go_wp2
                  go_meet
                  exact ⟨wr.heap.size, wr.heap.size + 1, rfl, rfl, (by repeat (first | exact Below.refl _ _ | refine BelW.drew ?_ | refine BelW.alloc ?_ _)), Fr.drew (Fr.alloc (Fr.made wr _ _ rfl) _), Fr.drew (Fr.made _ _ _ (by simp))⟩
                · have HK := Lib.hid hK
                  clear hK
                  go_simp
                  refine HK.out _ _ (fun _ => HCE.out _ (by repeat (first | exact HBR.out | refine BelW.drew ?_ | refine BelW.alloc ?_ _))) ?_
                  clear HK
                  (try simp only [Act.put, List.setIfInBounds_toArray, List.set_cons_zero, List.set_cons_succ])
                  refine AnyX.one (i := 10) (o := ⟨some 10, _, _, _, _, _⟩) (by kernel_rfl) rfl (fun K' hK => ?_)
                  have HK := Lib.hid hK
                  clear hK
                  go_simp
                  refine HK.out _ _ (fun _ => HCE.out _ (by repeat (first | exact HBR.out | refine BelW.drew ?_ | refine BelW.alloc ?_ _))) ?_
                  clear HK
                  (try simp only [Act.put, List.setIfInBounds_toArray, List.set_cons_zero, List.set_cons_succ])
                  refine AnyX.one (i := 12) (o := ⟨none, _, _, _, _, _⟩) (by kernel_rfl) rfl (fun K' hK => ?_)
                  have HK := Lib.hid hK
                  clear hK
                  go_simp
                  refine HK.out _ _ (fun _ => HCE.out _ (by repeat (first | exact HBR.out | refine BelW.drew ?_ | refine BelW.alloc ?_ _))) ?_
                  clear HK
                  (try simp only [Act.put, List.setIfInBounds_toArray, List.set_cons_zero, List.set_cons_succ])
                  refine AnyX.one (i := 13) (o := ⟨none, _, _, _, _, _⟩) (by kernel_rfl) rfl (fun K' hK => ?_)
                  have HK := Lib.hid hK
                  clear hK
                  go_simp
                  refine HK.out _ _ (fun h => absurd rfl h) ?_
                  clear HK
                  (try simp only [Act.put, List.setIfInBounds_toArray, List.set_cons_zero, List.set_cons_succ])
                  refine AnyX.done (by kernel_rfl) ?_ _
                  go_wp2
                  go_meet
                  exact ⟨wr.heap.size + 1, wr.heap.size, rfl, rfl, (by repeat (first | exact Below.refl _ _ | refine BelW.drew ?_ | refine BelW.alloc ?_ _)), Fr.drew (Fr.made _ _ _ (by simp)), Fr.drew (Fr.alloc (Fr.made wr _ _ rfl) _)⟩
              case rest =>
                obtain ⟨pa, pb, rfl, rfl, hbc, hfa, hfb⟩ := hcut
                go_upto_region 18 with (fail)
                have HBC := Lib.hid (show Below W1.heap.size W1 wc from BelW.trans HBR.out hbc)
                have ga0 : ∀ xx : Beh wc, xx.x.cell? ⟨pa, 0, none⟩ = some (.slice A4 ni c4) := fun xx => (hfa.below xx.below).cell 0
                have gb0 : ∀ xx : Beh wc, xx.x.cell? ⟨pb, 0, none⟩ = some (.slice D4 ni' d4) := fun xx => (hfb.below xx.below).cell 0
                have ga1 : ∀ xx : Beh wc, xx.x.cell? ⟨pa, 1, none⟩ = some (.slice A5 nj c5) := fun xx => (hfa.below xx.below).cell 1
                have gb1 : ∀ xx : Beh wc, xx.x.cell? ⟨pb, 1, none⟩ = some (.slice D5 nj' d5) := fun xx => (hfb.below xx.below).cell 1
                have ga2 : ∀ xx : Beh wc, xx.x.cell? ⟨pa, 2, none⟩ = some (.int .i64 kd) := fun xx => (hfa.below xx.below).cell 2
                have gb2 : ∀ xx : Beh wc, xx.x.cell? ⟨pb, 2, none⟩ = some (.int .i64 kd') := fun xx => (hfb.below xx.below).cell 2
                have hli4 : (ni : Int) ≤ (c4 : Int) := by omega
                have hli5 : (nj : Int) ≤ (c5 : Int) := by omega
                clear hbc hfa hfb
                cases t0 : (kd != kd')
                rotate_left
                · have hy : y = false := HNEQ.out (fun h => by have := (HEQ'.out.1 h).1; rw [← Hkd.out, ← Hkd'.out] at this; simp [this] at t0)
                  have HYF := Lib.hid hy
                  clear hy HEQ' HNO
                  refine region_class (w0 := wc) (Below.refl _ _) (by kernel_rfl) (by kernel_rfl) ?_
                  repeat (first
                    | go_big_quiet_skip
                    | (go_big_quiet_want; go_big_quiet_op; first
                      | go_big_quiet_on
                      | (apply Exists.intro
                         refine ⟨fun xx => ?_, ?_⟩
                         focus first
                          | fail
                         go_big_quiet_on)))
                  refine wpQuiet_nil ?_
                  rintro w9 ⟨⟨wz, hz2⟩, rfl⟩
                  go_wp2
                  go_ret
                  exact ⟨ret_bool (by rw [HYF.out]), joinB HB1.out (joinB HBC.out hz2)⟩
                by_cases t1 : a.addr = a'.addr
                rotate_left
                · have hy : y = false := HNEQ.out (fun h => t1 (HEQ'.out.1 h).2.1)
                  have HZ4 : Hid ((1 : Int) = if a.addr = a'.addr then 0 else 1) := Lib.hid (by rw [if_neg t1])
                  have HYF := Lib.hid hy
                  clear hy HEQ' HNO t1
                  refine region_class (w0 := wc) (Below.refl _ _) (by kernel_rfl) (by kernel_rfl) ?_
                  repeat (first
                    | go_big_quiet_skip
                    | (go_big_quiet_want; go_big_quiet_op; first
                      | go_big_quiet_on
                      | (apply Exists.intro
                         refine ⟨fun xx => ?_, ?_⟩
                         focus first
                          | (go_at_call_of 25 A4; with_reducible exact beh_drewN (HI4.out _ _ _ Hni.out HZ4.out (joinB HBC.out xx.below)))
                         go_big_quiet_on)))
                  refine wpQuiet_nil ?_
                  rintro w9 ⟨⟨wz, hz2⟩, rfl⟩
                  go_wp2
                  go_ret
                  exact ⟨ret_bool (by rw [HYF.out]), joinB HB1.out (joinB HBC.out hz2)⟩
                have HZ4 : Hid ((0 : Int) = if a.addr = a'.addr then 0 else 1) := Lib.hid (by rw [if_pos t1])
                have Tt1 := Lib.hid t1
                clear t1
                by_cases t2 : a.data = a'.data
                rotate_left
                · have hy : y = false := HNEQ.out (fun h => t2 (HEQ'.out.1 h).2.2)
                  have HZ5 : Hid ((1 : Int) = if a.data = a'.data then 0 else 1) := Lib.hid (by rw [if_neg t2])
                  have HYF := Lib.hid hy
                  clear hy HEQ' HNO t2
                  refine region_class (w0 := wc) (Below.refl _ _) (by kernel_rfl) (by kernel_rfl) ?_
                  repeat (first
                    | go_big_quiet_skip
                    | (go_big_quiet_want; go_big_quiet_op; first
                      | go_big_quiet_on
                      | (apply Exists.intro
                         refine ⟨fun xx => ?_, ?_⟩
                         focus first
                          | (go_at_call_of 25 A4; with_reducible exact beh_drewN (HI4.out _ _ _ Hni.out HZ4.out (joinB HBC.out xx.below)))
                          | (go_at_call_of 25 A5; with_reducible exact beh_drewN (HI5.out _ _ _ Hnj.out HZ5.out (joinB HBC.out xx.below)))
                         go_big_quiet_on)))
                  refine wpQuiet_nil ?_
                  rintro w9 ⟨⟨wz, hz2⟩, rfl⟩
                  go_wp2
                  go_ret
                  exact ⟨ret_bool (by rw [HYF.out]), joinB HB1.out (joinB HBC.out hz2)⟩
                have HZ5 : Hid ((0 : Int) = if a.data = a'.data then 0 else 1) := Lib.hid (by rw [if_pos t2])
                have Tt2 := Lib.hid t2
                clear t2
                have HAA : Hid (a = a') := Lib.hid (HEQ'.out.2 ⟨by rw [← Hkd.out, ← Hkd'.out]; simpa using t0, Tt1.out, Tt2.out⟩)
                clear HEQ'
                refine region_class (w0 := wc) (Below.refl _ _) (by kernel_rfl) (by kernel_rfl) ?_
                repeat (first
                  | go_big_quiet_skip
                  | (go_big_quiet_want; go_big_quiet_op; first
                    | go_big_quiet_on
                    | (apply Exists.intro
                       refine ⟨fun xx => ?_, ?_⟩
                       focus first
                        | (go_at_call_of 25 A4; with_reducible exact beh_drewN (HI4.out _ _ _ Hni.out HZ4.out (joinB HBC.out xx.below)))
                        | (go_at_call_of 25 A5; with_reducible exact beh_drewN (HI5.out _ _ _ Hnj.out HZ5.out (joinB HBC.out xx.below)))
                       go_big_quiet_on)))
                refine wpQuiet_nil ?_
                rintro w9 ⟨⟨wz, hz2⟩, rfl⟩
                have HBZ := Lib.hid (show BelW W1 _ from joinB HBC.out hz2)
                clear ga0 ga1 ga2 gb0 gb1 gb2 hz2
                go_wp2
                go_roundw
                case rel =>
                  refine ⟨HBZ.out, k + 1, by omega, by go_num, fun j hj => ?_⟩
                  by_cases hjk : j = k
                  · rw [hjk, ← HA.out, ← HA'.out]; exact HAA.out
                  · exact HNO.out j (by omega)
                case measure => simp [intOf]; omega
            · obtain rfl : n2 = k := by omega
              have hem : x.mems = x'.mems := eq_mems (HN2.out.symm.trans HM2.out) (fun j hj => HNO.out j (by rw [← HN2.out] at hj; exact hj))
              have hy : y = true := by rw [HY.out]; exact (ckEq_iff _ _).2 (ck_eq HEN.out HES.out hem HE.out)
              have HYF := Lib.hid hy
              clear hy hem HNO hno
              go_wp2
              go_ret
              exact ⟨ret_bool (by rw [HYF.out]), joinB HB1.out HBR.out⟩
end Go.Proofs.YtmghdeodkeenoaaDoor
