/- SimsErrors: the law's walk. -/
import Derived.Test.YtfcdhoaccmckoaaDoorBlk
import Derived.Test.YtfcdhoaccmckoaaDoorFew
import Derived.Test.YtfcdhoaccmckoaaDoorSml
import Derived.Test.YtfcdhoaccmckoaaDoorSmu
import Derived.Test.YtfcdhoaccmckoaaDoorRso
namespace Go.Proofs.YtfcdhoaccmckoaaDoor
open Go.RowKit

/-- What the law asks of the pattern of Blank. -/
noncomputable def blkE (c : Ck) : Int := if chkErr c ≠ 0 then chkErr c else if c.mems.length ≠ 0 then 7 else 0
theorem ckE_blank (c : Ck) : ckE c (List.replicate (ofTo c.nodes [0] c.nodes.length).length 2) (List.replicate (ofTo c.nodes [14] c.nodes.length).length 2) = blkE c := by
  unfold blkE
  by_cases h : chkErr c = 0
  · rw [if_neg (by rw [h]; decide)]
    by_cases hm : c.mems.length = 0
    · have h2 : ∀ m : Nat, anyP abv (List.replicate m 2) = false := fun m => abv_none fun y hy => by
        obtain ⟨-, rfl⟩ := List.mem_replicate.1 hy
        exact ⟨by decide, by decide⟩
      rw [ckE_val h hm (by simp) (by simp), h2, h2, if_neg (by decide), if_neg (by rw [hm]; decide)]
    · rw [ckE_mem h hm, if_pos hm]
  · rw [ckE_bad h, if_pos h]

set_option maxRecDepth 100000 in
set_option maxHeartbeats 8000000 in
theorem serr_law (a : Ck) (v : Value) (pin pst : List Int) (Ai As : Option Addr) (ni ns ci cs : Nat) (w : World) (hT : Lg.Tabs w) (hc : Cir w w.heap.size v a) (hz : Bearz a) (ki : Ks w w.heap.size (.slice Ai ni ci) pin) (ks : Ks w w.heap.size (.slice As ns cs) pst) (vi : ∀ y ∈ pin, 0 ≤ y ∧ y ≤ 255) (vs : ∀ y ∈ pst, 0 ≤ y ∧ y ≤ 255) (zi : ni ≤ 140737488355328) (zs : ns ≤ 140737488355328) :
    Calls Tryd.prog 3 #[v, .agg #[.slice Ai ni ci, .slice As ns cs]] w fun e w' => e = .returned (.bool true) ∧ Below w.heap.size w w' := by
  obtain ⟨v0, v1, v2, v3, rfl, hns, hss, hms, hos⟩ := id hc
  obtain ⟨A0, b0, o0, c0, rfl, -, -, hm0, -⟩ := id hns
  obtain ⟨A1, b1, o1, c1, rfl, -⟩ := id hss
  obtain ⟨A2, b2, o2, c2, rfl, -⟩ := id hms
  obtain ⟨A3, b3, o3, c3, rfl, -⟩ := id hos
  obtain ⟨Ai', bi, oi, ci', e, -, -, -, -⟩ := ki.opens
  simp only [Value.slice.injEq] at e
  obtain ⟨rfl, hni, rfl⟩ := e
  obtain ⟨As', bs, os, cs', e, -, -, -, -⟩ := ks.opens
  simp only [Value.slice.injEq] at e
  obtain ⟨rfl, hns', rfl⟩ := e
  clear hns hss hms hos
  obtain ⟨W1, HW1⟩ := named ((w.alloc (.cells #[.slice A0 a.nodes.length c0, .slice A1 a.names.length c1, .slice A2 a.mems.length c2, .slice A3 a.outs.length c3] 27)).alloc (.cells #[.slice Ai ni ci, .slice As ns cs] 30))
  have hb1 : Below w.heap.size w W1 := by rw [HW1.out]; exact below_new (below_new (Below.refl _ _) _) _
  have hfa : Fr W1 w.heap.size 27 [.slice A0 a.nodes.length c0, .slice A1 a.names.length c1, .slice A2 a.mems.length c2, .slice A3 a.outs.length c3] := by rw [HW1.out]; exact Fr.alloc (Fr.made _ _ _ rfl) _
  have hfp : Fr W1 (w.heap.size + 1) 30 [.slice Ai ni ci, .slice As ns cs] := by rw [HW1.out]; exact Fr.made _ _ _ (by simp)
  have hca : ∀ W, BelW W1 W → Cir W W.heap.size (.agg #[.slice A0 a.nodes.length c0, .slice A1 a.names.length c1, .slice A2 a.mems.length c2, .slice A3 a.outs.length c3]) a := fun W hb => (hc.below (joinB hb1 hb)).more (Nat.le_trans hb1.size (Below.size hb))
  have hki : ∀ W, BelW W1 W → Ks W W.heap.size (.slice Ai pin.length ci) pin := fun W hb => by rw [← hni]; exact Arr.keep stays_u8 ki (joinB hb1 hb).size fun _ hp => (joinB hb1 hb).cell hp
  have hks : ∀ W, BelW W1 W → Ks W W.heap.size (.slice As pst.length cs) pst := fun W hb => by rw [← hns']; exact Arr.keep stays_u8 ks (joinB hb1 hb).size fun _ hp => (joinB hb1 hb).cell hp
  have hta : ∀ W, BelW W1 W → Lg.Tabs W := fun W hb => hT.below (joinB hb1 hb)
  have hFW : ∀ W, BelW W1 W → Calls Tryd.prog 9 #[.agg #[.slice A0 a.nodes.length c0, .slice A1 a.names.length c1, .slice A2 a.mems.length c2, .slice A3 a.outs.length c3], .agg #[.slice Ai ni ci, .slice As ns cs]] W fun e w' => (∃ b, e = .returned (.bool b) ∧ (b = true → FewS a ni ns)) ∧ BelW W w' :=
    fun W hb => few_any a _ Ai As ni ns ci cs W W.heap.size (Nat.le_refl _) (hca W hb) zi zs (Nat.le_trans hz.o (by decide)) (Nat.le_trans hz.n (by decide))
  have hLV : ∀ W, BelW W1 W → Calls Tryd.prog 10 #[] W fun e w' => e = .returned (.bool true) ∧ BelW W w' := fun W hb => lives6_any W (hta W hb)
  have hRK : FewS a ni ns → ∀ W, BelW W1 W → Calls Tryd.prog 11 #[.agg #[.slice A0 a.nodes.length c0, .slice A1 a.names.length c1, .slice A2 a.mems.length c2, .slice A3 a.outs.length c3], .agg #[.slice Ai ni ci, .slice As ns cs]] W fun e w' => e = .returned (.int .i64 (ckE a pin pst)) ∧ BelW W w' := fun hs W hb => by
    have := rck6_any a pin pst A0 A1 A2 A3 Ai As c0 c1 c2 c3 ci cs W W.heap.size (Nat.le_refl _) (hca W hb) (hki W hb) (hks W hb) (Nat.le_trans hs.1 (by decide))
    rw [← hni, ← hns'] at this; exact this
  have hSK : FewS a ni ns → ∀ W, BelW W1 W → Calls Tryd.prog 13 #[.agg #[.slice A0 a.nodes.length c0, .slice A1 a.names.length c1, .slice A2 a.mems.length c2, .slice A3 a.outs.length c3], .agg #[.slice Ai ni ci, .slice As ns cs]] W fun e w' => e = .returned (.int .i64 (ckE a pin pst)) ∧ BelW W w' := fun hs W hb => by
    have := scheck_any a pin pst A0 A1 A2 A3 Ai As c0 c1 c2 c3 ci cs W W.heap.size (Nat.le_refl _) (tabs_lg (hta W hb)) (hca W hb) (hki W hb) (hks W hb) (Nat.le_trans hs.1 (by decide))
    rw [← hni, ← hns'] at this; exact this
  have hRU : FewS a ni ns → ∀ W, BelW W1 W → Calls Tryd.prog 12 #[.agg #[.slice A0 a.nodes.length c0, .slice A1 a.names.length c1, .slice A2 a.mems.length c2, .slice A3 a.outs.length c3], .agg #[.slice Ai ni ci, .slice As ns cs]] W (RunE (ckE a pin pst) W) := fun hs W hb => by
    have := run_e a pin pst A0 A1 A2 A3 Ai As c0 c1 c2 c3 ci cs W W.heap.size (Nat.le_refl _) (hta W hb) (hca W hb) (hki W hb) (hks W hb) (Nat.le_trans hs.1 (by decide)) (Nat.le_trans hs.2.2.2.1 (by decide)) (fun y hy => (vi y hy).1) (fun y hy => (vs y hy).1)
    rw [← hni, ← hns'] at this; exact this
  have hBK : FewS a ni ns → ∀ W, BelW W1 W → Calls Tryd.prog 14 #[.agg #[.slice A0 a.nodes.length c0, .slice A1 a.names.length c1, .slice A2 a.mems.length c2, .slice A3 a.outs.length c3]] W (BlkPost (ofTo a.nodes [0] a.nodes.length).length (ofTo a.nodes [14] a.nodes.length).length W) := fun hs W hb => blank_any a A0 A1 A2 A3 c0 c1 c2 c3 W W.heap.size (Nat.le_refl _) (hca W hb) (Nat.le_trans hs.1 (by decide))
  have hRC : ∀ W, BelW W1 W → Calls Tryd.prog 15 #[.agg #[.slice A0 a.nodes.length c0, .slice A1 a.names.length c1, .slice A2 a.mems.length c2, .slice A3 a.outs.length c3]] W fun e w' => e = .returned (.int .i64 (chkErr a)) ∧ BelW W w' := fun W hb => (rchk_any a _ W W.heap.size (Nat.le_refl _) (hca W hb)).mono fun e w' ⟨h1, h2⟩ => ⟨h1, h2⟩
  have hCN : FewS a ni ns → ∀ kd W, BelW W1 W → Calls Tryd.prog 16 #[.agg #[.slice A0 a.nodes.length c0, .slice A1 a.names.length c1, .slice A2 a.mems.length c2, .slice A3 a.outs.length c3], .int .u8 kd] W fun e w' => e = .returned (.int .i64 ((ofTo a.nodes [kd] a.nodes.length).length : Int)) ∧ BelW W w' := fun hs kd W hb => count_any a kd _ W W.heap.size (Nat.le_refl _) (hca W hb) (Nat.le_trans hs.1 (by decide))
  have hBC : FewS a ni ns → ∀ W g h, BelW W1 W → VRow W g (List.replicate (ofTo a.nodes [0] a.nodes.length).length 2) → VRow W h (List.replicate (ofTo a.nodes [14] a.nodes.length).length 2) → Calls Tryd.prog 13 #[.agg #[.slice A0 a.nodes.length c0, .slice A1 a.names.length c1, .slice A2 a.mems.length c2, .slice A3 a.outs.length c3], .agg #[.slice (some ⟨g, 0, none⟩) (ofTo a.nodes [0] a.nodes.length).length (ofTo a.nodes [0] a.nodes.length).length, .slice (some ⟨h, 0, none⟩) (ofTo a.nodes [14] a.nodes.length).length (ofTo a.nodes [14] a.nodes.length).length]] W fun e w' => e = .returned (.int .i64 (blkE a)) ∧ BelW W w' := fun hs W g h hb h1 h2 => by
    have k1 := h1.ks
    have k2 := h2.ks
    have := scheck_any a _ _ A0 A1 A2 A3 _ _ c0 c1 c2 c3 _ _ W W.heap.size (Nat.le_refl _) (tabs_lg (hta W hb)) (hca W hb) k1 k2 (Nat.le_trans hs.1 (by decide))
    rw [ckE_blank, List.length_replicate, List.length_replicate] at this; exact this
  have HM5 : Hid (chkErr a = 0 → a.mems.length = 0 → (ofTo a.nodes [15] a.nodes.length).length = 0) := Lib.hid fun h1 h2 => by rw [no_mem h1 h2]; rfl
  have HL0 : Hid (FewS a ni ns → (ofTo a.nodes [0] a.nodes.length).length ≤ 24 ∧ (ofTo a.nodes [14] a.nodes.length).length ≤ 24 ∧ (ofTo a.nodes [15] a.nodes.length).length ≤ 24 ∧ a.mems.length ≤ 18) := Lib.hid fun h => by
    have h0 := ofTo_len a.nodes [0] a.nodes.length
    have h1 := ofTo_len a.nodes [14] a.nodes.length
    have h2 := ofTo_len a.nodes [15] a.nodes.length
    have h3 := h.1
    exact ⟨by omega, by omega, by omega, h.2.2.1⟩
  have HBE : Hid (blkE a = if chkErr a ≠ 0 then chkErr a else if a.mems.length ≠ 0 then 7 else 0) := Lib.hid rfl
  have hC0 : FewS a ni ns → ∀ W, BelW W1 W → Calls Tryd.prog 16 #[.agg #[.slice A0 a.nodes.length c0, .slice A1 a.names.length c1, .slice A2 a.mems.length c2, .slice A3 a.outs.length c3], .int .u8 0] W fun e w' => e = .returned (.int .i64 ((ofTo a.nodes [0] a.nodes.length).length : Int)) ∧ BelW W w' := fun hs => hCN hs 0
  have hC4 : FewS a ni ns → ∀ W, BelW W1 W → Calls Tryd.prog 16 #[.agg #[.slice A0 a.nodes.length c0, .slice A1 a.names.length c1, .slice A2 a.mems.length c2, .slice A3 a.outs.length c3], .int .u8 14] W fun e w' => e = .returned (.int .i64 ((ofTo a.nodes [14] a.nodes.length).length : Int)) ∧ BelW W w' := fun hs => hCN hs 14
  have hC5 : FewS a ni ns → ∀ W, BelW W1 W → Calls Tryd.prog 16 #[.agg #[.slice A0 a.nodes.length c0, .slice A1 a.names.length c1, .slice A2 a.mems.length c2, .slice A3 a.outs.length c3], .int .u8 15] W fun e w' => e = .returned (.int .i64 ((ofTo a.nodes [15] a.nodes.length).length : Int)) ∧ BelW W w' := fun hs => hCN hs 15
  obtain ⟨mi, HMI⟩ := named (ofTo a.nodes [0] a.nodes.length).length
  rw [← HMI.out] at hBK hBC hC0 HL0
  obtain ⟨ms, HMS⟩ := named (ofTo a.nodes [14] a.nodes.length).length
  rw [← HMS.out] at hBK hBC hC4 HL0
  obtain ⟨m5, HMM⟩ := named (ofTo a.nodes [15] a.nodes.length).length
  rw [← HMM.out] at HM5 hC5 HL0
  obtain ⟨SM, HSM⟩ := named (FewS a ni ns)
  rw [← HSM.out] at hFW hRK hSK hRU hBK hC0 hC4 hC5 hBC HL0
  obtain ⟨y, HY⟩ := named (ckE a pin pst)
  rw [← HY.out] at hRK hSK hRU
  obtain ⟨z, HZ⟩ := named (chkErr a)
  rw [← HZ.out] at hRC HM5 HBE
  obtain ⟨r, HR⟩ := named (blkE a)
  rw [← HR.out] at hBC HBE
  clear hT hc hz ki ks vi vs hca hki hks hta hCN HMI HMS HMM HSM HY HZ HR hm0 zi zs hni hns'
  generalize a.nodes.length = n at hfa hFW hRK hSK hRU hBK hC0 hC4 hC5 hBC hRC HW1 ⊢
  generalize a.names.length = n1 at hfa hFW hRK hSK hRU hBK hC0 hC4 hC5 hBC hRC HW1 ⊢
  generalize a.mems.length = n2 at hfa hFW hRK hSK hRU hBK hC0 hC4 hC5 hBC hRC HW1 HM5 HBE HL0 ⊢
  generalize a.outs.length = n3 at hfa hFW hRK hSK hRU hBK hC0 hC4 hC5 hBC hRC HW1 ⊢
  have HCA : Hid (∀ W, BelW W1 W → W.cell? ⟨w.heap.size, 0, none⟩ = some (.slice A0 n c0) ∧ W.cell? ⟨w.heap.size, 1, none⟩ = some (.slice A1 n1 c1) ∧ W.cell? ⟨w.heap.size, 2, none⟩ = some (.slice A2 n2 c2) ∧ W.cell? ⟨w.heap.size, 3, none⟩ = some (.slice A3 n3 c3) ∧ W.cell? ⟨w.heap.size + 1, 0, none⟩ = some (.slice Ai ni ci) ∧ W.cell? ⟨w.heap.size + 1, 1, none⟩ = some (.slice As ns cs)) :=
    Lib.hid fun W hb => ⟨(hfa.below hb).cell 0, (hfa.below hb).cell 1, (hfa.below hb).cell 2, (hfa.below hb).cell 3, (hfp.below hb).cell 0, (hfp.below hb).cell 1⟩
  have HFW := Lib.hid hFW
  have HLV := Lib.hid hLV
  have HRK := Lib.hid hRK
  have HSK := Lib.hid hSK
  have HRU := Lib.hid hRU
  have HBK := Lib.hid hBK
  have HC0 := Lib.hid hC0
  have HC4 := Lib.hid hC4
  have HC5 := Lib.hid hC5
  have HBC := Lib.hid hBC
  have HRC := Lib.hid hRC
  have HB1 := Lib.hid hb1
  have hs0 : BelW W1 W1 := Below.refl _ _
  clear hfa hfp hb1 hFW hLV hRK hSK hRU hBK hC0 hC4 hC5 hBC hRC
  go_enter Tryd.func3, Tryd.ntmps3
  go_upto_region 1 with (fail)
  rw [← HW1.out]
  obtain ⟨x0, x1, x2, x3, y0, y1⟩ := HCA.out W1 hs0
  go_upto_region 3 with (first
    | (go_at_call 9; (with_reducible refine (HFW.out _ hs0).mono ?_); rintro e w1 ⟨⟨bb, rfl, hs⟩, hb⟩; have HSM := Lib.hid hs; have hs1 : BelW W1 w1 := hb; clear hs hb x0 x1 x2 x3 y0 y1; cases bb)
    | (go_at_call 10; (with_reducible refine (HLV.out _ hs1).mono ?_); rintro e w9 ⟨rfl, hb⟩; have HB9 := Lib.hid (joinB hs1 hb); clear hb))
  · go_ret
    exact ⟨rfl, joinB HB1.out HB9.out⟩
  have hsm : SM := HSM.out (by simp)
  have HSS := Lib.hid hsm
  obtain ⟨lmi, lms, lm5, ln2⟩ := HL0.out hsm
  clear hsm HSM HL0
  obtain ⟨x0, x1, x2, x3, y0, y1⟩ := HCA.out w1 hs1
  go_upto_region 5 with (first
    | (go_at_call 11; (with_reducible refine (HRK.out HSS.out _ hs1).mono ?_); rintro e w2 ⟨rfl, hb⟩; have hs2 : BelW W1 w2 := joinB hs1 hb; clear hb x0 x1 x2 x3 y0 y1; obtain ⟨x0, x1, x2, x3, y0, y1⟩ := HCA.out w2 hs2)
    | (go_at_call 12; (with_reducible refine (HRU.out HSS.out _ hs2).mono ?_); rintro e w3 ⟨⟨D, dm, dc, E, em, ec, G, gm, gc, rfl, hrz⟩, hb⟩; have hs3 : BelW W1 w3 := joinB hs2 hb; have HRZ := Lib.hid hrz; clear hrz hb x0 x1 x2 x3 y0 y1))
  obtain ⟨V3, HV3⟩ := named (w3.alloc (.cells #[.slice D dm dc, .slice E em ec] 36))
  have hn3 : BelW w3 V3 := by rw [HV3.out]; exact below_new (Below.refl _ _) _
  have hfr : Fr V3 w3.heap.size 36 [.slice D dm dc, .slice E em ec] := by rw [HV3.out]; exact Fr.made _ _ _ rfl
  have hs4 : BelW W1 V3 := joinB hs3 hn3
  obtain ⟨qr, HQR⟩ := named w3.heap.size
  rw [← HQR.out] at hfr
  rw [← HV3.out, ← HQR.out]
  have HFR : Hid (∀ W, BelW V3 W → W.cell? ⟨qr, 0, none⟩ = some (.slice D dm dc) ∧ W.cell? ⟨qr, 1, none⟩ = some (.slice E em ec)) := Lib.hid fun W hb => ⟨(hfr.below hb).cell 0, (hfr.below hb).cell 1⟩
  clear hfr hn3 hs0 hs1 hs2 hs3 HV3 HQR
  obtain ⟨x0, x1, x2, x3, y0, y1⟩ := HCA.out V3 hs4
  have t1 : (y != y) = false := by simp
  have HZD : Hid (y = 0 ∨ (y ≠ 0 ∧ dm = 0 ∧ em = 0 ∧ gm = 0)) := Lib.hid (by
    by_cases h : y = 0
    · exact .inl h
    · exact .inr ⟨h, HRZ.out h⟩)
  rcases HZD.out with h0 | ⟨h0, rfl, rfl, rfl⟩
  · subst h0
    clear HZD HRZ
    go_upto_region 7 with (go_at_call 13; (with_reducible refine (HSK.out HSS.out _ hs4).mono ?_); rintro e w5 ⟨rfl, hb⟩; have hs5 : BelW W1 w5 := joinB hs4 hb; obtain ⟨z0, z1⟩ := HFR.out _ hb; clear hb x0 x1 x2 x3 y0 y1)
    clear z0 z1
    obtain ⟨x0, x1, x2, x3, y0, y1⟩ := HCA.out w5 hs5
    go_upto_region 8 with (go_at_call 14; (with_reducible refine (HBK.out HSS.out _ hs5).mono ?_); rintro e w6 ⟨gb, hb', rfl, r1, r2, hb⟩; have hs6 : BelW W1 w6 := joinB hs5 hb; have HVI := Lib.hid r1; have HVS := Lib.hid r2; clear r1 r2 hb x0 x1 x2 x3 y0 y1)
    obtain ⟨V5, HV5⟩ := named (w6.alloc (.cells #[.slice (some ⟨gb, 0, none⟩) mi mi, .slice (some ⟨hb', 0, none⟩) ms ms] 30))
    have hn5 : BelW w6 V5 := by rw [HV5.out]; exact below_new (Below.refl _ _) _
    have hfb : Fr V5 w6.heap.size 30 [.slice (some ⟨gb, 0, none⟩) mi mi, .slice (some ⟨hb', 0, none⟩) ms ms] := by rw [HV5.out]; exact Fr.made _ _ _ rfl
    have hs7 : BelW W1 V5 := joinB hs6 hn5
    obtain ⟨qb, HQB⟩ := named w6.heap.size
    rw [← HQB.out] at hfb
    rw [← HV5.out, ← HQB.out]
    have HVR : Hid (∀ W, BelW V5 W → VRow W gb (List.replicate mi 2) ∧ VRow W hb' (List.replicate ms 2)) := Lib.hid fun W h => ⟨(HVI.out.below hn5).below h, (HVS.out.below hn5).below h⟩
    have HK5 : Hid (∀ W, BelW V5 W → BelW V5 W ∧ W.cell? ⟨w.heap.size, 0, none⟩ = some (.slice A0 n c0) ∧ W.cell? ⟨w.heap.size, 1, none⟩ = some (.slice A1 n1 c1) ∧ W.cell? ⟨w.heap.size, 2, none⟩ = some (.slice A2 n2 c2) ∧ W.cell? ⟨w.heap.size, 3, none⟩ = some (.slice A3 n3 c3) ∧ W.cell? ⟨qb, 0, none⟩ = some (.slice (some ⟨gb, 0, none⟩) mi mi) ∧ W.cell? ⟨qb, 1, none⟩ = some (.slice (some ⟨hb', 0, none⟩) ms ms)) := Lib.hid fun W h => by
      obtain ⟨a0, a1, a2, a3, -, -⟩ := HCA.out W (joinB hs7 h)
      exact ⟨h, a0, a1, a2, a3, (hfb.below h).cell 0, (hfb.below h).cell 1⟩
    have HS7 := Lib.hid hs7
    have hq0 : BelW V5 V5 := Below.refl _ _
    clear hn5 hfb hs4 hs5 hs6 hs7 HVI HVS HV5 HQB
    obtain ⟨-, x0, x1, x2, x3, b0', b1'⟩ := HK5.out V5 hq0
    go_wp2
    go_loop [10] (fun i => ∃ k : Nat, k ≤ mi ∧ i = .int .i64 k) (fun i => mi - (intOf i).toNat)
    case atStart => exact ⟨0, Nat.zero_le _, rfl⟩
    case round =>
      obtain ⟨k, hk, rfl⟩ := hrel
      by_cases hlt : k < mi
      · have f1 : V5.cell? ⟨gb, k, none⟩ = some (.int .u8 2) := by
          have := (HVR.out V5 hq0).1.cell (j := k) (by rw [List.length_replicate]; exact hlt)
          rw [this]; unfold lat; rw [Int.toNat_natCast]; simp [hlt, List.getD_eq_getElem?_getD]
        go_wp2
        go_round
        case rel => exact ⟨k + 1, by omega, by go_num⟩
        case measure => simp [intOf]; omega
      · obtain rfl : mi = k := by omega
        go_wp2
        go_loop [11] (fun i => ∃ k : Nat, k ≤ ms ∧ i = .int .i64 k) (fun i => ms - (intOf i).toNat)
        case atStart => exact ⟨0, Nat.zero_le _, rfl⟩
        case round =>
          obtain ⟨k, hk, rfl⟩ := hrel
          by_cases hlt : k < ms
          · have f1 : V5.cell? ⟨hb', k, none⟩ = some (.int .u8 2) := by
              have := (HVR.out V5 hq0).2.cell (j := k) (by rw [List.length_replicate]; exact hlt)
              rw [this]; unfold lat; rw [Int.toNat_natCast]; simp [hlt, List.getD_eq_getElem?_getD]
            go_wp2
            go_round
            case rel => exact ⟨k + 1, by omega, by go_num⟩
            case measure => simp [intOf]; omega
          · obtain rfl : ms = k := by omega
            go_upto_region 19 with (go_at_call 15; (with_reducible refine (HRC.out _ HS7.out).mono ?_); rintro e w7 ⟨rfl, hb⟩; have hs7 : BelW V5 w7 := hb; clear hb x0 x1 x2 x3 b0' b1')
            have hz3 : (z ≠ 0 ∧ r = z) ∨ (z = 0 ∧ n2 ≠ 0 ∧ r = 7) ∨ (z = 0 ∧ n2 = 0 ∧ m5 = 0 ∧ r = 0) := by
              by_cases h1 : z = 0
              · by_cases h2 : n2 = 0
                · exact .inr (.inr ⟨h1, h2, HM5.out h1 h2, by rw [HBE.out, if_neg (by rw [h1]; decide), if_neg (by rw [h2]; decide)]⟩)
                · exact .inr (.inl ⟨h1, h2, by rw [HBE.out, if_neg (by rw [h1]; decide), if_pos h2]⟩)
              · exact .inl ⟨h1, by rw [HBE.out, if_pos h1]⟩
            clear HBE HM5
            rcases hz3 with ⟨hz1, rfl⟩ | ⟨rfl, hz2, rfl⟩ | ⟨rfl, rfl, rfl, rfl⟩
            · have q8 : (r == 0) = false := by simpa using hz1
              have q9 : (r == r) = true := by simp
              clear hz1
              go_quiet (fail)
              go_upto_region 21 with (fail)
              have HC0' : Hid (∀ W, BelW V5 W → Calls Tryd.prog 16 #[.agg #[.slice A0 n c0, .slice A1 n1 c1, .slice A2 n2 c2, .slice A3 n3 c3], .int .u8 0] W fun e w' => e = .returned (.int .i64 (mi : Int)) ∧ BelW W w') := Lib.hid fun W h => HC0.out HSS.out W (joinB HS7.out h)
              have HC4' : Hid (∀ W, BelW V5 W → Calls Tryd.prog 16 #[.agg #[.slice A0 n c0, .slice A1 n1 c1, .slice A2 n2 c2, .slice A3 n3 c3], .int .u8 14] W fun e w' => e = .returned (.int .i64 (ms : Int)) ∧ BelW W w') := Lib.hid fun W h => HC4.out HSS.out W (joinB HS7.out h)
              have HBC' : Hid (∀ W, BelW V5 W → Calls Tryd.prog 13 #[.agg #[.slice A0 n c0, .slice A1 n1 c1, .slice A2 n2 c2, .slice A3 n3 c3], .agg #[.slice (some ⟨gb, 0, none⟩) mi mi, .slice (some ⟨hb', 0, none⟩) ms ms]] W fun e w' => e = .returned (.int .i64 r) ∧ BelW W w') := Lib.hid fun W h => HBC.out HSS.out W gb hb' (joinB HS7.out h) (HVR.out W h).1 (HVR.out W h).2
              have HLV' : Hid (∀ W, BelW V5 W → Calls Tryd.prog 10 #[] W fun e w' => e = .returned (.bool true) ∧ BelW W w') := Lib.hid fun W h => HLV.out W (joinB HS7.out h)
              have hsx : ∀ k, BelW V5 (w7.drewN k) := fun k => below_drewN hs7 k
              go_region_held3 (fun w' => BelW V5 w' ∧ w'.cell? ⟨w.heap.size, 0, none⟩ = some (.slice A0 n c0) ∧ w'.cell? ⟨w.heap.size, 1, none⟩ = some (.slice A1 n1 c1) ∧ w'.cell? ⟨w.heap.size, 2, none⟩ = some (.slice A2 n2 c2) ∧ w'.cell? ⟨w.heap.size, 3, none⟩ = some (.slice A3 n3 c3) ∧ w'.cell? ⟨qb, 0, none⟩ = some (.slice (some ⟨gb, 0, none⟩) mi mi) ∧ w'.cell? ⟨qb, 1, none⟩ = some (.slice (some ⟨hb', 0, none⟩) ms ms))
                ((refine HK5.out _ ?_; first | (with_reducible assumption) | (refine BelW.drew ?_; with_reducible assumption) | (exact hsx _) | (exact BelW.drew (hsx _))))
                (first
                  | (go_at_call 16; (with_reducible refine Calls.mono (HC0'.out _ ?_) ?_); · (first | (with_reducible assumption) | (refine BelW.drew ?_; with_reducible assumption) | (exact hsx _) | (exact BelW.drew (hsx _)))
                     rintro e wa ⟨rfl, hba⟩
                     have hsa : BelW V5 wa := (by refine BelW.next ?_ hba; first | (with_reducible assumption) | (refine BelW.drew ?_; with_reducible assumption) | (exact hsx _) | (exact BelW.drew (hsx _))))
                  | (go_at_call 16; (with_reducible refine Calls.mono (HC4'.out _ ?_) ?_); · (first | (with_reducible assumption) | (refine BelW.drew ?_; with_reducible assumption) | (exact hsx _) | (exact BelW.drew (hsx _)))
                     rintro e wc ⟨rfl, hbc⟩
                     have hsc : BelW V5 wc := (by refine BelW.next ?_ hbc; first | (with_reducible assumption) | (refine BelW.drew ?_; with_reducible assumption) | (exact hsx _) | (exact BelW.drew (hsx _))))
                  | (go_at_call 13; (with_reducible refine Calls.mono (HBC'.out _ ?_) ?_); · (first | (with_reducible assumption) | (refine BelW.drew ?_; with_reducible assumption) | (exact hsx _) | (exact BelW.drew (hsx _)))
                     rintro e wd ⟨rfl, hbd⟩
                     have hsd : BelW V5 wd := (by refine BelW.next ?_ hbd; first | (with_reducible assumption) | (refine BelW.drew ?_; with_reducible assumption) | (exact hsx _) | (exact BelW.drew (hsx _))))
                  | (go_at_call 10; (with_reducible refine Calls.mono (HLV'.out _ ?_) ?_); · (first | (with_reducible assumption) | (refine BelW.drew ?_; with_reducible assumption) | (exact hsx _) | (exact BelW.drew (hsx _)))
                     rintro e wf ⟨rfl, hbf⟩
                     have hsf : BelW V5 wf := (by refine BelW.next ?_ hbf; first | (with_reducible assumption) | (refine BelW.drew ?_; with_reducible assumption) | (exact hsx _) | (exact BelW.drew (hsx _)))))
              go_wp2
              go_ret
              exact ⟨rfl, joinB HB1.out (joinB HS7.out hsf)⟩
            · have hw : IntKind.i64.wrap ((m5 : Int) + (n2 : Int)) = ((m5 + n2 : Nat) : Int) := by rw [IntKind.wrap_i64]; omega
              obtain ⟨sm, HSUM⟩ := named (m5 + n2)
              rw [← HSUM.out] at hw
              have hsm0 : 0 < sm := by rw [HSUM.out]; omega
              clear hz2 HSUM
              have HC5' : Hid (∀ W, BelW V5 W → Calls Tryd.prog 16 #[.agg #[.slice A0 n c0, .slice A1 n1 c1, .slice A2 n2 c2, .slice A3 n3 c3], .int .u8 15] W fun e w' => e = .returned (.int .i64 (m5 : Int)) ∧ BelW W w') := Lib.hid fun W h => HC5.out HSS.out W (joinB HS7.out h)
              go_region_held3 (fun w' => BelW V5 w' ∧ w'.cell? ⟨w.heap.size, 0, none⟩ = some (.slice A0 n c0) ∧ w'.cell? ⟨w.heap.size, 1, none⟩ = some (.slice A1 n1 c1) ∧ w'.cell? ⟨w.heap.size, 2, none⟩ = some (.slice A2 n2 c2) ∧ w'.cell? ⟨w.heap.size, 3, none⟩ = some (.slice A3 n3 c3) ∧ w'.cell? ⟨qb, 0, none⟩ = some (.slice (some ⟨gb, 0, none⟩) mi mi) ∧ w'.cell? ⟨qb, 1, none⟩ = some (.slice (some ⟨hb', 0, none⟩) ms ms))
                ((refine HK5.out _ ?_; first | (with_reducible assumption) | (refine BelW.drew ?_; with_reducible assumption)))
                ((go_at_call 16; (with_reducible refine Calls.mono (HC5'.out _ ?_) ?_); · (first | (with_reducible assumption) | (refine BelW.drew ?_; with_reducible assumption))
                  rintro e w8 ⟨rfl, hb8⟩
                  have hs8 : BelW V5 w8 := (by refine BelW.next ?_ hb8; first | (with_reducible assumption) | (refine BelW.drew ?_; with_reducible assumption))))
              go_upto_region 21 with (fail)
              have HC0' : Hid (∀ W, BelW V5 W → Calls Tryd.prog 16 #[.agg #[.slice A0 n c0, .slice A1 n1 c1, .slice A2 n2 c2, .slice A3 n3 c3], .int .u8 0] W fun e w' => e = .returned (.int .i64 (mi : Int)) ∧ BelW W w') := Lib.hid fun W h => HC0.out HSS.out W (joinB HS7.out h)
              have HC4' : Hid (∀ W, BelW V5 W → Calls Tryd.prog 16 #[.agg #[.slice A0 n c0, .slice A1 n1 c1, .slice A2 n2 c2, .slice A3 n3 c3], .int .u8 14] W fun e w' => e = .returned (.int .i64 (ms : Int)) ∧ BelW W w') := Lib.hid fun W h => HC4.out HSS.out W (joinB HS7.out h)
              have HBC' : Hid (∀ W, BelW V5 W → Calls Tryd.prog 13 #[.agg #[.slice A0 n c0, .slice A1 n1 c1, .slice A2 n2 c2, .slice A3 n3 c3], .agg #[.slice (some ⟨gb, 0, none⟩) mi mi, .slice (some ⟨hb', 0, none⟩) ms ms]] W fun e w' => e = .returned (.int .i64 7) ∧ BelW W w') := Lib.hid fun W h => HBC.out HSS.out W gb hb' (joinB HS7.out h) (HVR.out W h).1 (HVR.out W h).2
              have HLV' : Hid (∀ W, BelW V5 W → Calls Tryd.prog 10 #[] W fun e w' => e = .returned (.bool true) ∧ BelW W w') := Lib.hid fun W h => HLV.out W (joinB HS7.out h)
              have hsx : BelW V5 w8 := hs8
              go_region_held3 (fun w' => BelW V5 w' ∧ w'.cell? ⟨w.heap.size, 0, none⟩ = some (.slice A0 n c0) ∧ w'.cell? ⟨w.heap.size, 1, none⟩ = some (.slice A1 n1 c1) ∧ w'.cell? ⟨w.heap.size, 2, none⟩ = some (.slice A2 n2 c2) ∧ w'.cell? ⟨w.heap.size, 3, none⟩ = some (.slice A3 n3 c3) ∧ w'.cell? ⟨qb, 0, none⟩ = some (.slice (some ⟨gb, 0, none⟩) mi mi) ∧ w'.cell? ⟨qb, 1, none⟩ = some (.slice (some ⟨hb', 0, none⟩) ms ms))
                ((refine HK5.out _ ?_; first | (with_reducible assumption) | (refine BelW.drew ?_; with_reducible assumption)))
                (first
                  | (go_at_call 16; (with_reducible refine Calls.mono (HC0'.out _ ?_) ?_); · (first | (with_reducible assumption) | (refine BelW.drew ?_; with_reducible assumption))
                     rintro e wa ⟨rfl, hba⟩
                     have hsa : BelW V5 wa := (by refine BelW.next ?_ hba; first | (with_reducible assumption) | (refine BelW.drew ?_; with_reducible assumption)))
                  | (go_at_call 16; (with_reducible refine Calls.mono (HC4'.out _ ?_) ?_); · (first | (with_reducible assumption) | (refine BelW.drew ?_; with_reducible assumption))
                     rintro e wc ⟨rfl, hbc⟩
                     have hsc : BelW V5 wc := (by refine BelW.next ?_ hbc; first | (with_reducible assumption) | (refine BelW.drew ?_; with_reducible assumption)))
                  | (go_at_call 13; (with_reducible refine Calls.mono (HBC'.out _ ?_) ?_); · (first | (with_reducible assumption) | (refine BelW.drew ?_; with_reducible assumption))
                     rintro e wd ⟨rfl, hbd⟩
                     have hsd : BelW V5 wd := (by refine BelW.next ?_ hbd; first | (with_reducible assumption) | (refine BelW.drew ?_; with_reducible assumption)))
                  | (go_at_call 10; (with_reducible refine Calls.mono (HLV'.out _ ?_) ?_); · (first | (with_reducible assumption) | (refine BelW.drew ?_; with_reducible assumption))
                     rintro e wf ⟨rfl, hbf⟩
                     have hsf : BelW V5 wf := (by refine BelW.next ?_ hbf; first | (with_reducible assumption) | (refine BelW.drew ?_; with_reducible assumption))))
              go_wp2
              go_ret
              exact ⟨rfl, joinB HB1.out (joinB HS7.out hsf)⟩
            · have hw : IntKind.i64.wrap (((0 : Nat) : Int) + ((0 : Nat) : Int)) = 0 := by decide
              have HC5' : Hid (∀ W, BelW V5 W → Calls Tryd.prog 16 #[.agg #[.slice A0 n c0, .slice A1 n1 c1, .slice A2 0 c2, .slice A3 n3 c3], .int .u8 15] W fun e w' => e = .returned (.int .i64 ((0 : Nat) : Int)) ∧ BelW W w') := Lib.hid fun W h => HC5.out HSS.out W (joinB HS7.out h)
              go_region_held3 (fun w' => BelW V5 w' ∧ w'.cell? ⟨w.heap.size, 0, none⟩ = some (.slice A0 n c0) ∧ w'.cell? ⟨w.heap.size, 1, none⟩ = some (.slice A1 n1 c1) ∧ w'.cell? ⟨w.heap.size, 2, none⟩ = some (.slice A2 0 c2) ∧ w'.cell? ⟨w.heap.size, 3, none⟩ = some (.slice A3 n3 c3) ∧ w'.cell? ⟨qb, 0, none⟩ = some (.slice (some ⟨gb, 0, none⟩) mi mi) ∧ w'.cell? ⟨qb, 1, none⟩ = some (.slice (some ⟨hb', 0, none⟩) ms ms))
                ((refine HK5.out _ ?_; first | (with_reducible assumption) | (refine BelW.drew ?_; with_reducible assumption)))
                ((go_at_call 16; (with_reducible refine Calls.mono (HC5'.out _ ?_) ?_); · (first | (with_reducible assumption) | (refine BelW.drew ?_; with_reducible assumption))
                  rintro e w8 ⟨rfl, hb8⟩
                  have hs8 : BelW V5 w8 := (by refine BelW.next ?_ hb8; first | (with_reducible assumption) | (refine BelW.drew ?_; with_reducible assumption))))
              go_upto_region 21 with (fail)
              have HC0' : Hid (∀ W, BelW V5 W → Calls Tryd.prog 16 #[.agg #[.slice A0 n c0, .slice A1 n1 c1, .slice A2 0 c2, .slice A3 n3 c3], .int .u8 0] W fun e w' => e = .returned (.int .i64 (mi : Int)) ∧ BelW W w') := Lib.hid fun W h => HC0.out HSS.out W (joinB HS7.out h)
              have HC4' : Hid (∀ W, BelW V5 W → Calls Tryd.prog 16 #[.agg #[.slice A0 n c0, .slice A1 n1 c1, .slice A2 0 c2, .slice A3 n3 c3], .int .u8 14] W fun e w' => e = .returned (.int .i64 (ms : Int)) ∧ BelW W w') := Lib.hid fun W h => HC4.out HSS.out W (joinB HS7.out h)
              have HBC' : Hid (∀ W, BelW V5 W → Calls Tryd.prog 13 #[.agg #[.slice A0 n c0, .slice A1 n1 c1, .slice A2 0 c2, .slice A3 n3 c3], .agg #[.slice (some ⟨gb, 0, none⟩) mi mi, .slice (some ⟨hb', 0, none⟩) ms ms]] W fun e w' => e = .returned (.int .i64 0) ∧ BelW W w') := Lib.hid fun W h => HBC.out HSS.out W gb hb' (joinB HS7.out h) (HVR.out W h).1 (HVR.out W h).2
              have HLV' : Hid (∀ W, BelW V5 W → Calls Tryd.prog 10 #[] W fun e w' => e = .returned (.bool true) ∧ BelW W w') := Lib.hid fun W h => HLV.out W (joinB HS7.out h)
              have hsx : BelW V5 w8 := hs8
              go_region_held3 (fun w' => BelW V5 w' ∧ w'.cell? ⟨w.heap.size, 0, none⟩ = some (.slice A0 n c0) ∧ w'.cell? ⟨w.heap.size, 1, none⟩ = some (.slice A1 n1 c1) ∧ w'.cell? ⟨w.heap.size, 2, none⟩ = some (.slice A2 0 c2) ∧ w'.cell? ⟨w.heap.size, 3, none⟩ = some (.slice A3 n3 c3) ∧ w'.cell? ⟨qb, 0, none⟩ = some (.slice (some ⟨gb, 0, none⟩) mi mi) ∧ w'.cell? ⟨qb, 1, none⟩ = some (.slice (some ⟨hb', 0, none⟩) ms ms))
                ((refine HK5.out _ ?_; first | (with_reducible assumption) | (refine BelW.drew ?_; with_reducible assumption)))
                (first
                  | (go_at_call 16; (with_reducible refine Calls.mono (HC0'.out _ ?_) ?_); · (first | (with_reducible assumption) | (refine BelW.drew ?_; with_reducible assumption))
                     rintro e wa ⟨rfl, hba⟩
                     have hsa : BelW V5 wa := (by refine BelW.next ?_ hba; first | (with_reducible assumption) | (refine BelW.drew ?_; with_reducible assumption)))
                  | (go_at_call 16; (with_reducible refine Calls.mono (HC4'.out _ ?_) ?_); · (first | (with_reducible assumption) | (refine BelW.drew ?_; with_reducible assumption))
                     rintro e wc ⟨rfl, hbc⟩
                     have hsc : BelW V5 wc := (by refine BelW.next ?_ hbc; first | (with_reducible assumption) | (refine BelW.drew ?_; with_reducible assumption)))
                  | (go_at_call 13; (with_reducible refine Calls.mono (HBC'.out _ ?_) ?_); · (first | (with_reducible assumption) | (refine BelW.drew ?_; with_reducible assumption))
                     rintro e wd ⟨rfl, hbd⟩
                     have hsd : BelW V5 wd := (by refine BelW.next ?_ hbd; first | (with_reducible assumption) | (refine BelW.drew ?_; with_reducible assumption)))
                  | (go_at_call 10; (with_reducible refine Calls.mono (HLV'.out _ ?_) ?_); · (first | (with_reducible assumption) | (refine BelW.drew ?_; with_reducible assumption))
                     rintro e wf ⟨rfl, hbf⟩
                     have hsf : BelW V5 wf := (by refine BelW.next ?_ hbf; first | (with_reducible assumption) | (refine BelW.drew ?_; with_reducible assumption))))
              go_wp2
              go_ret
              exact ⟨rfl, joinB HB1.out (joinB HS7.out hsf)⟩
  · have q0 : (y == 0) = false := by simpa using h0
    have q1 : (y != 0) = true := by simpa using h0
    clear h0
    clear HZD HRZ
    go_upto_region 7 with (go_at_call 13; (with_reducible refine (HSK.out HSS.out _ hs4).mono ?_); rintro e w5 ⟨rfl, hb⟩; have hs5 : BelW W1 w5 := joinB hs4 hb; obtain ⟨z0, z1⟩ := HFR.out _ hb; clear hb x0 x1 x2 x3 y0 y1)
    clear z0 z1
    obtain ⟨x0, x1, x2, x3, y0, y1⟩ := HCA.out w5 hs5
    go_upto_region 8 with (go_at_call 14; (with_reducible refine (HBK.out HSS.out _ hs5).mono ?_); rintro e w6 ⟨gb, hb', rfl, r1, r2, hb⟩; have hs6 : BelW W1 w6 := joinB hs5 hb; have HVI := Lib.hid r1; have HVS := Lib.hid r2; clear r1 r2 hb x0 x1 x2 x3 y0 y1)
    obtain ⟨V5, HV5⟩ := named (w6.alloc (.cells #[.slice (some ⟨gb, 0, none⟩) mi mi, .slice (some ⟨hb', 0, none⟩) ms ms] 30))
    have hn5 : BelW w6 V5 := by rw [HV5.out]; exact below_new (Below.refl _ _) _
    have hfb : Fr V5 w6.heap.size 30 [.slice (some ⟨gb, 0, none⟩) mi mi, .slice (some ⟨hb', 0, none⟩) ms ms] := by rw [HV5.out]; exact Fr.made _ _ _ rfl
    have hs7 : BelW W1 V5 := joinB hs6 hn5
    obtain ⟨qb, HQB⟩ := named w6.heap.size
    rw [← HQB.out] at hfb
    rw [← HV5.out, ← HQB.out]
    have HVR : Hid (∀ W, BelW V5 W → VRow W gb (List.replicate mi 2) ∧ VRow W hb' (List.replicate ms 2)) := Lib.hid fun W h => ⟨(HVI.out.below hn5).below h, (HVS.out.below hn5).below h⟩
    have HK5 : Hid (∀ W, BelW V5 W → BelW V5 W ∧ W.cell? ⟨w.heap.size, 0, none⟩ = some (.slice A0 n c0) ∧ W.cell? ⟨w.heap.size, 1, none⟩ = some (.slice A1 n1 c1) ∧ W.cell? ⟨w.heap.size, 2, none⟩ = some (.slice A2 n2 c2) ∧ W.cell? ⟨w.heap.size, 3, none⟩ = some (.slice A3 n3 c3) ∧ W.cell? ⟨qb, 0, none⟩ = some (.slice (some ⟨gb, 0, none⟩) mi mi) ∧ W.cell? ⟨qb, 1, none⟩ = some (.slice (some ⟨hb', 0, none⟩) ms ms)) := Lib.hid fun W h => by
      obtain ⟨a0, a1, a2, a3, -, -⟩ := HCA.out W (joinB hs7 h)
      exact ⟨h, a0, a1, a2, a3, (hfb.below h).cell 0, (hfb.below h).cell 1⟩
    have HS7 := Lib.hid hs7
    have hq0 : BelW V5 V5 := Below.refl _ _
    clear hn5 hfb hs4 hs5 hs6 hs7 HVI HVS HV5 HQB
    obtain ⟨-, x0, x1, x2, x3, b0', b1'⟩ := HK5.out V5 hq0
    go_wp2
    go_loop [10] (fun i => ∃ k : Nat, k ≤ mi ∧ i = .int .i64 k) (fun i => mi - (intOf i).toNat)
    case atStart => exact ⟨0, Nat.zero_le _, rfl⟩
    case round =>
      obtain ⟨k, hk, rfl⟩ := hrel
      by_cases hlt : k < mi
      · have f1 : V5.cell? ⟨gb, k, none⟩ = some (.int .u8 2) := by
          have := (HVR.out V5 hq0).1.cell (j := k) (by rw [List.length_replicate]; exact hlt)
          rw [this]; unfold lat; rw [Int.toNat_natCast]; simp [hlt, List.getD_eq_getElem?_getD]
        go_wp2
        go_round
        case rel => exact ⟨k + 1, by omega, by go_num⟩
        case measure => simp [intOf]; omega
      · obtain rfl : mi = k := by omega
        go_wp2
        go_loop [11] (fun i => ∃ k : Nat, k ≤ ms ∧ i = .int .i64 k) (fun i => ms - (intOf i).toNat)
        case atStart => exact ⟨0, Nat.zero_le _, rfl⟩
        case round =>
          obtain ⟨k, hk, rfl⟩ := hrel
          by_cases hlt : k < ms
          · have f1 : V5.cell? ⟨hb', k, none⟩ = some (.int .u8 2) := by
              have := (HVR.out V5 hq0).2.cell (j := k) (by rw [List.length_replicate]; exact hlt)
              rw [this]; unfold lat; rw [Int.toNat_natCast]; simp [hlt, List.getD_eq_getElem?_getD]
            go_wp2
            go_round
            case rel => exact ⟨k + 1, by omega, by go_num⟩
            case measure => simp [intOf]; omega
          · obtain rfl : ms = k := by omega
            go_upto_region 19 with (go_at_call 15; (with_reducible refine (HRC.out _ HS7.out).mono ?_); rintro e w7 ⟨rfl, hb⟩; have hs7 : BelW V5 w7 := hb; clear hb x0 x1 x2 x3 b0' b1')
            have hz3 : (z ≠ 0 ∧ r = z) ∨ (z = 0 ∧ n2 ≠ 0 ∧ r = 7) ∨ (z = 0 ∧ n2 = 0 ∧ m5 = 0 ∧ r = 0) := by
              by_cases h1 : z = 0
              · by_cases h2 : n2 = 0
                · exact .inr (.inr ⟨h1, h2, HM5.out h1 h2, by rw [HBE.out, if_neg (by rw [h1]; decide), if_neg (by rw [h2]; decide)]⟩)
                · exact .inr (.inl ⟨h1, h2, by rw [HBE.out, if_neg (by rw [h1]; decide), if_pos h2]⟩)
              · exact .inl ⟨h1, by rw [HBE.out, if_pos h1]⟩
            clear HBE HM5
            rcases hz3 with ⟨hz1, rfl⟩ | ⟨rfl, hz2, rfl⟩ | ⟨rfl, rfl, rfl, rfl⟩
            · have q8 : (r == 0) = false := by simpa using hz1
              have q9 : (r == r) = true := by simp
              clear hz1
              go_quiet (fail)
              go_upto_region 21 with (fail)
              have HC0' : Hid (∀ W, BelW V5 W → Calls Tryd.prog 16 #[.agg #[.slice A0 n c0, .slice A1 n1 c1, .slice A2 n2 c2, .slice A3 n3 c3], .int .u8 0] W fun e w' => e = .returned (.int .i64 (mi : Int)) ∧ BelW W w') := Lib.hid fun W h => HC0.out HSS.out W (joinB HS7.out h)
              have HC4' : Hid (∀ W, BelW V5 W → Calls Tryd.prog 16 #[.agg #[.slice A0 n c0, .slice A1 n1 c1, .slice A2 n2 c2, .slice A3 n3 c3], .int .u8 14] W fun e w' => e = .returned (.int .i64 (ms : Int)) ∧ BelW W w') := Lib.hid fun W h => HC4.out HSS.out W (joinB HS7.out h)
              have HBC' : Hid (∀ W, BelW V5 W → Calls Tryd.prog 13 #[.agg #[.slice A0 n c0, .slice A1 n1 c1, .slice A2 n2 c2, .slice A3 n3 c3], .agg #[.slice (some ⟨gb, 0, none⟩) mi mi, .slice (some ⟨hb', 0, none⟩) ms ms]] W fun e w' => e = .returned (.int .i64 r) ∧ BelW W w') := Lib.hid fun W h => HBC.out HSS.out W gb hb' (joinB HS7.out h) (HVR.out W h).1 (HVR.out W h).2
              have HLV' : Hid (∀ W, BelW V5 W → Calls Tryd.prog 10 #[] W fun e w' => e = .returned (.bool true) ∧ BelW W w') := Lib.hid fun W h => HLV.out W (joinB HS7.out h)
              have hsx : ∀ k, BelW V5 (w7.drewN k) := fun k => below_drewN hs7 k
              go_region_held3 (fun w' => BelW V5 w' ∧ w'.cell? ⟨w.heap.size, 0, none⟩ = some (.slice A0 n c0) ∧ w'.cell? ⟨w.heap.size, 1, none⟩ = some (.slice A1 n1 c1) ∧ w'.cell? ⟨w.heap.size, 2, none⟩ = some (.slice A2 n2 c2) ∧ w'.cell? ⟨w.heap.size, 3, none⟩ = some (.slice A3 n3 c3) ∧ w'.cell? ⟨qb, 0, none⟩ = some (.slice (some ⟨gb, 0, none⟩) mi mi) ∧ w'.cell? ⟨qb, 1, none⟩ = some (.slice (some ⟨hb', 0, none⟩) ms ms))
                ((refine HK5.out _ ?_; first | (with_reducible assumption) | (refine BelW.drew ?_; with_reducible assumption) | (exact hsx _) | (exact BelW.drew (hsx _))))
                (first
                  | (go_at_call 16; (with_reducible refine Calls.mono (HC0'.out _ ?_) ?_); · (first | (with_reducible assumption) | (refine BelW.drew ?_; with_reducible assumption) | (exact hsx _) | (exact BelW.drew (hsx _)))
                     rintro e wa ⟨rfl, hba⟩
                     have hsa : BelW V5 wa := (by refine BelW.next ?_ hba; first | (with_reducible assumption) | (refine BelW.drew ?_; with_reducible assumption) | (exact hsx _) | (exact BelW.drew (hsx _))))
                  | (go_at_call 16; (with_reducible refine Calls.mono (HC4'.out _ ?_) ?_); · (first | (with_reducible assumption) | (refine BelW.drew ?_; with_reducible assumption) | (exact hsx _) | (exact BelW.drew (hsx _)))
                     rintro e wc ⟨rfl, hbc⟩
                     have hsc : BelW V5 wc := (by refine BelW.next ?_ hbc; first | (with_reducible assumption) | (refine BelW.drew ?_; with_reducible assumption) | (exact hsx _) | (exact BelW.drew (hsx _))))
                  | (go_at_call 13; (with_reducible refine Calls.mono (HBC'.out _ ?_) ?_); · (first | (with_reducible assumption) | (refine BelW.drew ?_; with_reducible assumption) | (exact hsx _) | (exact BelW.drew (hsx _)))
                     rintro e wd ⟨rfl, hbd⟩
                     have hsd : BelW V5 wd := (by refine BelW.next ?_ hbd; first | (with_reducible assumption) | (refine BelW.drew ?_; with_reducible assumption) | (exact hsx _) | (exact BelW.drew (hsx _))))
                  | (go_at_call 10; (with_reducible refine Calls.mono (HLV'.out _ ?_) ?_); · (first | (with_reducible assumption) | (refine BelW.drew ?_; with_reducible assumption) | (exact hsx _) | (exact BelW.drew (hsx _)))
                     rintro e wf ⟨rfl, hbf⟩
                     have hsf : BelW V5 wf := (by refine BelW.next ?_ hbf; first | (with_reducible assumption) | (refine BelW.drew ?_; with_reducible assumption) | (exact hsx _) | (exact BelW.drew (hsx _)))))
              go_wp2
              go_ret
              exact ⟨rfl, joinB HB1.out (joinB HS7.out hsf)⟩
            · have hw : IntKind.i64.wrap ((m5 : Int) + (n2 : Int)) = ((m5 + n2 : Nat) : Int) := by rw [IntKind.wrap_i64]; omega
              obtain ⟨sm, HSUM⟩ := named (m5 + n2)
              rw [← HSUM.out] at hw
              have hsm0 : 0 < sm := by rw [HSUM.out]; omega
              clear hz2 HSUM
              have HC5' : Hid (∀ W, BelW V5 W → Calls Tryd.prog 16 #[.agg #[.slice A0 n c0, .slice A1 n1 c1, .slice A2 n2 c2, .slice A3 n3 c3], .int .u8 15] W fun e w' => e = .returned (.int .i64 (m5 : Int)) ∧ BelW W w') := Lib.hid fun W h => HC5.out HSS.out W (joinB HS7.out h)
              go_region_held3 (fun w' => BelW V5 w' ∧ w'.cell? ⟨w.heap.size, 0, none⟩ = some (.slice A0 n c0) ∧ w'.cell? ⟨w.heap.size, 1, none⟩ = some (.slice A1 n1 c1) ∧ w'.cell? ⟨w.heap.size, 2, none⟩ = some (.slice A2 n2 c2) ∧ w'.cell? ⟨w.heap.size, 3, none⟩ = some (.slice A3 n3 c3) ∧ w'.cell? ⟨qb, 0, none⟩ = some (.slice (some ⟨gb, 0, none⟩) mi mi) ∧ w'.cell? ⟨qb, 1, none⟩ = some (.slice (some ⟨hb', 0, none⟩) ms ms))
                ((refine HK5.out _ ?_; first | (with_reducible assumption) | (refine BelW.drew ?_; with_reducible assumption)))
                ((go_at_call 16; (with_reducible refine Calls.mono (HC5'.out _ ?_) ?_); · (first | (with_reducible assumption) | (refine BelW.drew ?_; with_reducible assumption))
                  rintro e w8 ⟨rfl, hb8⟩
                  have hs8 : BelW V5 w8 := (by refine BelW.next ?_ hb8; first | (with_reducible assumption) | (refine BelW.drew ?_; with_reducible assumption))))
              go_upto_region 21 with (fail)
              have HC0' : Hid (∀ W, BelW V5 W → Calls Tryd.prog 16 #[.agg #[.slice A0 n c0, .slice A1 n1 c1, .slice A2 n2 c2, .slice A3 n3 c3], .int .u8 0] W fun e w' => e = .returned (.int .i64 (mi : Int)) ∧ BelW W w') := Lib.hid fun W h => HC0.out HSS.out W (joinB HS7.out h)
              have HC4' : Hid (∀ W, BelW V5 W → Calls Tryd.prog 16 #[.agg #[.slice A0 n c0, .slice A1 n1 c1, .slice A2 n2 c2, .slice A3 n3 c3], .int .u8 14] W fun e w' => e = .returned (.int .i64 (ms : Int)) ∧ BelW W w') := Lib.hid fun W h => HC4.out HSS.out W (joinB HS7.out h)
              have HBC' : Hid (∀ W, BelW V5 W → Calls Tryd.prog 13 #[.agg #[.slice A0 n c0, .slice A1 n1 c1, .slice A2 n2 c2, .slice A3 n3 c3], .agg #[.slice (some ⟨gb, 0, none⟩) mi mi, .slice (some ⟨hb', 0, none⟩) ms ms]] W fun e w' => e = .returned (.int .i64 7) ∧ BelW W w') := Lib.hid fun W h => HBC.out HSS.out W gb hb' (joinB HS7.out h) (HVR.out W h).1 (HVR.out W h).2
              have HLV' : Hid (∀ W, BelW V5 W → Calls Tryd.prog 10 #[] W fun e w' => e = .returned (.bool true) ∧ BelW W w') := Lib.hid fun W h => HLV.out W (joinB HS7.out h)
              have hsx : BelW V5 w8 := hs8
              go_region_held3 (fun w' => BelW V5 w' ∧ w'.cell? ⟨w.heap.size, 0, none⟩ = some (.slice A0 n c0) ∧ w'.cell? ⟨w.heap.size, 1, none⟩ = some (.slice A1 n1 c1) ∧ w'.cell? ⟨w.heap.size, 2, none⟩ = some (.slice A2 n2 c2) ∧ w'.cell? ⟨w.heap.size, 3, none⟩ = some (.slice A3 n3 c3) ∧ w'.cell? ⟨qb, 0, none⟩ = some (.slice (some ⟨gb, 0, none⟩) mi mi) ∧ w'.cell? ⟨qb, 1, none⟩ = some (.slice (some ⟨hb', 0, none⟩) ms ms))
                ((refine HK5.out _ ?_; first | (with_reducible assumption) | (refine BelW.drew ?_; with_reducible assumption)))
                (first
                  | (go_at_call 16; (with_reducible refine Calls.mono (HC0'.out _ ?_) ?_); · (first | (with_reducible assumption) | (refine BelW.drew ?_; with_reducible assumption))
                     rintro e wa ⟨rfl, hba⟩
                     have hsa : BelW V5 wa := (by refine BelW.next ?_ hba; first | (with_reducible assumption) | (refine BelW.drew ?_; with_reducible assumption)))
                  | (go_at_call 16; (with_reducible refine Calls.mono (HC4'.out _ ?_) ?_); · (first | (with_reducible assumption) | (refine BelW.drew ?_; with_reducible assumption))
                     rintro e wc ⟨rfl, hbc⟩
                     have hsc : BelW V5 wc := (by refine BelW.next ?_ hbc; first | (with_reducible assumption) | (refine BelW.drew ?_; with_reducible assumption)))
                  | (go_at_call 13; (with_reducible refine Calls.mono (HBC'.out _ ?_) ?_); · (first | (with_reducible assumption) | (refine BelW.drew ?_; with_reducible assumption))
                     rintro e wd ⟨rfl, hbd⟩
                     have hsd : BelW V5 wd := (by refine BelW.next ?_ hbd; first | (with_reducible assumption) | (refine BelW.drew ?_; with_reducible assumption)))
                  | (go_at_call 10; (with_reducible refine Calls.mono (HLV'.out _ ?_) ?_); · (first | (with_reducible assumption) | (refine BelW.drew ?_; with_reducible assumption))
                     rintro e wf ⟨rfl, hbf⟩
                     have hsf : BelW V5 wf := (by refine BelW.next ?_ hbf; first | (with_reducible assumption) | (refine BelW.drew ?_; with_reducible assumption))))
              go_wp2
              go_ret
              exact ⟨rfl, joinB HB1.out (joinB HS7.out hsf)⟩
            · have hw : IntKind.i64.wrap (((0 : Nat) : Int) + ((0 : Nat) : Int)) = 0 := by decide
              have HC5' : Hid (∀ W, BelW V5 W → Calls Tryd.prog 16 #[.agg #[.slice A0 n c0, .slice A1 n1 c1, .slice A2 0 c2, .slice A3 n3 c3], .int .u8 15] W fun e w' => e = .returned (.int .i64 ((0 : Nat) : Int)) ∧ BelW W w') := Lib.hid fun W h => HC5.out HSS.out W (joinB HS7.out h)
              go_region_held3 (fun w' => BelW V5 w' ∧ w'.cell? ⟨w.heap.size, 0, none⟩ = some (.slice A0 n c0) ∧ w'.cell? ⟨w.heap.size, 1, none⟩ = some (.slice A1 n1 c1) ∧ w'.cell? ⟨w.heap.size, 2, none⟩ = some (.slice A2 0 c2) ∧ w'.cell? ⟨w.heap.size, 3, none⟩ = some (.slice A3 n3 c3) ∧ w'.cell? ⟨qb, 0, none⟩ = some (.slice (some ⟨gb, 0, none⟩) mi mi) ∧ w'.cell? ⟨qb, 1, none⟩ = some (.slice (some ⟨hb', 0, none⟩) ms ms))
                ((refine HK5.out _ ?_; first | (with_reducible assumption) | (refine BelW.drew ?_; with_reducible assumption)))
                ((go_at_call 16; (with_reducible refine Calls.mono (HC5'.out _ ?_) ?_); · (first | (with_reducible assumption) | (refine BelW.drew ?_; with_reducible assumption))
                  rintro e w8 ⟨rfl, hb8⟩
                  have hs8 : BelW V5 w8 := (by refine BelW.next ?_ hb8; first | (with_reducible assumption) | (refine BelW.drew ?_; with_reducible assumption))))
              go_upto_region 21 with (fail)
              have HC0' : Hid (∀ W, BelW V5 W → Calls Tryd.prog 16 #[.agg #[.slice A0 n c0, .slice A1 n1 c1, .slice A2 0 c2, .slice A3 n3 c3], .int .u8 0] W fun e w' => e = .returned (.int .i64 (mi : Int)) ∧ BelW W w') := Lib.hid fun W h => HC0.out HSS.out W (joinB HS7.out h)
              have HC4' : Hid (∀ W, BelW V5 W → Calls Tryd.prog 16 #[.agg #[.slice A0 n c0, .slice A1 n1 c1, .slice A2 0 c2, .slice A3 n3 c3], .int .u8 14] W fun e w' => e = .returned (.int .i64 (ms : Int)) ∧ BelW W w') := Lib.hid fun W h => HC4.out HSS.out W (joinB HS7.out h)
              have HBC' : Hid (∀ W, BelW V5 W → Calls Tryd.prog 13 #[.agg #[.slice A0 n c0, .slice A1 n1 c1, .slice A2 0 c2, .slice A3 n3 c3], .agg #[.slice (some ⟨gb, 0, none⟩) mi mi, .slice (some ⟨hb', 0, none⟩) ms ms]] W fun e w' => e = .returned (.int .i64 0) ∧ BelW W w') := Lib.hid fun W h => HBC.out HSS.out W gb hb' (joinB HS7.out h) (HVR.out W h).1 (HVR.out W h).2
              have HLV' : Hid (∀ W, BelW V5 W → Calls Tryd.prog 10 #[] W fun e w' => e = .returned (.bool true) ∧ BelW W w') := Lib.hid fun W h => HLV.out W (joinB HS7.out h)
              have hsx : BelW V5 w8 := hs8
              go_region_held3 (fun w' => BelW V5 w' ∧ w'.cell? ⟨w.heap.size, 0, none⟩ = some (.slice A0 n c0) ∧ w'.cell? ⟨w.heap.size, 1, none⟩ = some (.slice A1 n1 c1) ∧ w'.cell? ⟨w.heap.size, 2, none⟩ = some (.slice A2 0 c2) ∧ w'.cell? ⟨w.heap.size, 3, none⟩ = some (.slice A3 n3 c3) ∧ w'.cell? ⟨qb, 0, none⟩ = some (.slice (some ⟨gb, 0, none⟩) mi mi) ∧ w'.cell? ⟨qb, 1, none⟩ = some (.slice (some ⟨hb', 0, none⟩) ms ms))
                ((refine HK5.out _ ?_; first | (with_reducible assumption) | (refine BelW.drew ?_; with_reducible assumption)))
                (first
                  | (go_at_call 16; (with_reducible refine Calls.mono (HC0'.out _ ?_) ?_); · (first | (with_reducible assumption) | (refine BelW.drew ?_; with_reducible assumption))
                     rintro e wa ⟨rfl, hba⟩
                     have hsa : BelW V5 wa := (by refine BelW.next ?_ hba; first | (with_reducible assumption) | (refine BelW.drew ?_; with_reducible assumption)))
                  | (go_at_call 16; (with_reducible refine Calls.mono (HC4'.out _ ?_) ?_); · (first | (with_reducible assumption) | (refine BelW.drew ?_; with_reducible assumption))
                     rintro e wc ⟨rfl, hbc⟩
                     have hsc : BelW V5 wc := (by refine BelW.next ?_ hbc; first | (with_reducible assumption) | (refine BelW.drew ?_; with_reducible assumption)))
                  | (go_at_call 13; (with_reducible refine Calls.mono (HBC'.out _ ?_) ?_); · (first | (with_reducible assumption) | (refine BelW.drew ?_; with_reducible assumption))
                     rintro e wd ⟨rfl, hbd⟩
                     have hsd : BelW V5 wd := (by refine BelW.next ?_ hbd; first | (with_reducible assumption) | (refine BelW.drew ?_; with_reducible assumption)))
                  | (go_at_call 10; (with_reducible refine Calls.mono (HLV'.out _ ?_) ?_); · (first | (with_reducible assumption) | (refine BelW.drew ?_; with_reducible assumption))
                     rintro e wf ⟨rfl, hbf⟩
                     have hsf : BelW V5 wf := (by refine BelW.next ?_ hbf; first | (with_reducible assumption) | (refine BelW.drew ?_; with_reducible assumption))))
              go_wp2
              go_ret
              exact ⟨rfl, joinB HB1.out (joinB HS7.out hsf)⟩
end Go.Proofs.YtfcdhoaccmckoaaDoor
