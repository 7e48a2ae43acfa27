/- SimsKnown: the law's walk. -/
import Derived.Test.YtbkfpaklmepglaaDoorKnp
import Derived.Test.YtbkfpaklmepglaaDoorCs
import Derived.Test.YtbkfpaklmepglaaDoorKno
import Derived.Test.YtbkfpaklmepglaaDoorSml
import Derived.StillTailTactics
namespace Go.Proofs.YtbkfpaklmepglaaDoor
open Go.RowKit

set_option maxRecDepth 100000 in
set_option maxHeartbeats 16000000 in
theorem known_law (x : Cx) (hx : Cok x) (sG sA : Value) (lqi lqs : List Int) (Aqi Aqs : Option Addr) (mqi mqs cqi cqs : Nat) (lbi lbs : List Int) (Abi Abs : Option Addr) (mbi mbs cbi cbs : Nat) (w : World) (hT : Lg.Tabs w) (hG : Gs w w.heap.size sG x.gates) (hA : Ks w w.heap.size sA x.outs)
    (kqi : Ks w w.heap.size (.slice Aqi mqi cqi) lqi) (kqs : Ks w w.heap.size (.slice Aqs mqs cqs) lqs) (vqi : ∀ y ∈ lqi, 0 ≤ y ∧ y ≤ 255) (vqs : ∀ y ∈ lqs, 0 ≤ y ∧ y ≤ 255) (kbi : Ks w w.heap.size (.slice Abi mbi cbi) lbi) (kbs : Ks w w.heap.size (.slice Abs mbs cbs) lbs) (vbi : ∀ y ∈ lbi, 0 ≤ y ∧ y ≤ 255) (vbs : ∀ y ∈ lbs, 0 ≤ y ∧ y ≤ 255) (hbi : 1 + mbi ≤ 140737488355328) (hbs : 1 + mbs ≤ 140737488355328) :
    Calls Tryd.prog 6 #[.agg #[.int .u8 x.inN, .int .u8 x.dffs, .int .u8 x.d0, .int .u8 x.d1, .bool x.bus, .bool x.mem, .int .u8 x.p0, .int .u8 x.p1, .int .u8 x.p2, .int .u8 x.p3, sG, sA], .agg #[.slice Aqi mqi cqi, .slice Aqs mqs cqs], .agg #[.slice Abi mbi cbi, .slice Abs mbs cbs]] w fun e w' => e = .returned (.bool true) ∧ Below w.heap.size w w' := by
  obtain ⟨c, HC⟩ := named (ofC { x with mem := false })
  obtain ⟨n, HN⟩ := named c.nodes.length
  obtain ⟨W1, HW1⟩ := named (((w.alloc (.cells #[.int .u8 x.inN, .int .u8 x.dffs, .int .u8 x.d0, .int .u8 x.d1, .bool x.bus, .bool false, .int .u8 x.p0, .int .u8 x.p1, .int .u8 x.p2, .int .u8 x.p3, sG, sA] 49)).alloc (.cells #[.slice Aqi mqi cqi, .slice Aqs mqs cqs] 51)).alloc (.cells #[.slice Abi mbi cbi, .slice Abs mbs cbs] 51))
  have hb1 : BelW w W1 := by rw [HW1.out]; exact below_new (below_new (below_new (Below.refl _ _) _) _) _
  have hf0 : Fr W1 (w.heap.size) 49 (#[.int .u8 x.inN, .int .u8 x.dffs, .int .u8 x.d0, .int .u8 x.d1, .bool x.bus, .bool false, .int .u8 x.p0, .int .u8 x.p1, .int .u8 x.p2, .int .u8 x.p3, sG, sA]).toList := by rw [HW1.out]; exact Fr.alloc (Fr.alloc (Fr.made _ _ _ (by simp)) _) _
  have hf1 : Fr W1 (w.heap.size + 1) 51 (#[.slice Aqi mqi cqi, .slice Aqs mqs cqs]).toList := by rw [HW1.out]; exact Fr.alloc (Fr.made _ _ _ (by simp)) _
  have hf2 : Fr W1 (w.heap.size + 1 + 1) 51 (#[.slice Abi mbi cbi, .slice Abs mbs cbs]).toList := by rw [HW1.out]; exact Fr.made _ _ _ (by simp)
  have HOF := Lib.hid (ofc_s x hx sG sA w W1 hb1 hG hA HC.out HN.out)
  have HXX := Lib.hid hx
  have HT1 := Lib.hid (hT.below hb1)
  have HB1 := Lib.hid hb1
  have HKP : Hid (∀ {v l W}, BelW W1 W → Ks w w.heap.size v l → Ks W W.heap.size v l) := Lib.hid fun h hk => Arr.keep stays_u8 hk (joinB HB1.out h).size fun _ hp => (joinB HB1.out h).cell hp
  have HKqi := Lib.hid kqi
  have HKqs := Lib.hid kqs
  have HVq := Lib.hid (And.intro vqi vqs)
  have HKbi := Lib.hid kbi
  have HKbs := Lib.hid kbs
  have HVb := Lib.hid (And.intro vbi vbs)
  have HF0 := Lib.hid hf0
  have HF1 := Lib.hid hf1
  have HF2 := Lib.hid hf2
  clear hT hG hA hx hb1 kqi kqs vqi vqs kbi kbs vbi vbs hf0 hf1 hf2
  go_enter Tryd.func6, Tryd.ntmps6
  go_upto_region 2 with (fail)
  rw [← HW1.out]
  have x0 := HF0.out.cell 0
  have x1 := HF0.out.cell 1
  have x2 := HF0.out.cell 2
  have x3 := HF0.out.cell 3
  have x4 := HF0.out.cell 4
  have x5 := HF0.out.cell 5
  have x6 := HF0.out.cell 6
  have x7 := HF0.out.cell 7
  have x8 := HF0.out.cell 8
  have x9 := HF0.out.cell 9
  have x10 := HF0.out.cell 10
  have x11 := HF0.out.cell 11
  go_upto_region 3 with (go_at_call 17; (with_reducible refine HOF.out.mono ?_); rintro e w2 ⟨⟨A0, A1, A2, A3, n1, n3, c0, c1, c2, c3, rfl, hc, hn1, hn3⟩, hb⟩; have HCC := Lib.hid hc; have HB2 := Lib.hid hb; have HN1 := Lib.hid hn1; have HN3 := Lib.hid hn3; clear hc hb hn1 hn3)
  clear x0 x1 x2 x3 x4 x5 x6 x7 x8 x9 x10 x11
  obtain ⟨V2, HV2⟩ := named (w2.alloc (.cells #[.slice A0 n c0, .slice A1 n1 c1, .slice A2 0 c2, .slice A3 n3 c3] 27))
  have hn2 : BelW w2 V2 := by rw [HV2.out]; exact below_new (Below.refl _ _) _
  have hfc2 : Fr V2 w2.heap.size 27 (#[.slice A0 n c0, .slice A1 n1 c1, .slice A2 0 c2, .slice A3 n3 c3]).toList := by rw [HV2.out]; exact Fr.made _ _ _ rfl
  have hb2 : BelW W1 V2 := joinB HB2.out hn2
  obtain ⟨qc, HQC⟩ := named w2.heap.size
  rw [← HQC.out] at hfc2
  rw [← HV2.out, ← HQC.out]
  have hcs2 : Cs c n n1 n3 A0 A1 A2 A3 c0 c1 c2 c3 qc V2 := ⟨HT1.out.below hb2, (HCC.out.below hn2).more (Below.size hn2), hfc2⟩
  have HCS := Lib.hid (fun W (h : BelW V2 W) => hcs2.next h)
  have HCE := Lib.hid (fun W (h : BelW V2 W) => (hcs2.next h).cells)
  have HB2V := Lib.hid hb2
  obtain ⟨ni, HNI⟩ := named (ofTo c.nodes [0] n).length
  obtain ⟨ns, HNS⟩ := named (ofTo c.nodes [14] n).length
  obtain ⟨L, hst⟩ := cst_of x HXX.out HC.out HN.out HN1.out HN3.out HNI.out HNS.out
  have HST := Lib.hid hst
  have hfew : n < 20 := hst.few
  have hniB : ni ≤ n := hst.niB
  have hnsB : ns ≤ n := hst.nsB
  have hpos : 0 < n := by rw [HN.out]; exact ofC_inputs x HC.out
  have HFX : Hid (∀ W, BelW V2 W → Fr W (w.heap.size) 49 (#[.int .u8 x.inN, .int .u8 x.dffs, .int .u8 x.d0, .int .u8 x.d1, .bool x.bus, .bool false, .int .u8 x.p0, .int .u8 x.p1, .int .u8 x.p2, .int .u8 x.p3, sG, sA]).toList ∧ Fr W (w.heap.size + 1) 51 (#[.slice Aqi mqi cqi, .slice Aqs mqs cqs]).toList ∧ Fr W (w.heap.size + 1 + 1) 51 (#[.slice Abi mbi cbi, .slice Abs mbs cbs]).toList) := Lib.hid fun W h => ⟨HF0.out.below (joinB HB2V.out h), HF1.out.below (joinB HB2V.out h), HF2.out.below (joinB HB2V.out h)⟩
  clear hn2 hfc2 hb2 hcs2 hst HV2 HQC HCC HB2 HW1
  obtain ⟨pin, HPIN⟩ := named (takL lqi 4 ni)
  obtain ⟨pst, HPST⟩ := named (takL lqs 3 ns)
  obtain ⟨m0, HM0⟩ := named (takL (0 :: lbi) 2 ni)
  obtain ⟨s0, HS0⟩ := named (takL (0 :: lbs) 2 ns)
  have HLP : Hid (pin.length = ni) := Lib.hid (by rw [HPIN.out, takL_len])
  have HLS : Hid (pst.length = ns) := Lib.hid (by rw [HPST.out, takL_len])
  have HLM : Hid (m0.length = ni) := Lib.hid (by rw [HM0.out, takL_len])
  have HLT : Hid (s0.length = ns) := Lib.hid (by rw [HS0.out, takL_len])
  have HVP : Hid (∀ y ∈ pin, 0 ≤ y ∧ y ≤ 3) := Lib.hid (by rw [HPIN.out]; exact takL_in4 HVq.out.1 _)
  have HVS : Hid (∀ y ∈ pst, 0 ≤ y ∧ y ≤ 3) := Lib.hid (by rw [HPST.out]; exact takL_in3 HVq.out.2 _)
  have HVT : Hid (∀ y ∈ pst, 0 ≤ y ∧ y ≤ 2) := Lib.hid (by rw [HPST.out]; exact takL_two HVq.out.2 _)
  have h0c : ∀ l : List Int, (∀ y ∈ l, 0 ≤ y ∧ y ≤ 255) → ∀ y ∈ (0 :: l), 0 ≤ y ∧ y ≤ 255 := fun l h y hy => by
    rcases List.mem_cons.1 hy with rfl | h'
    · decide
    · exact h y h'
  have HKM : Hid (∀ y ∈ m0, k01 y) := Lib.hid (by rw [HM0.out]; exact takL_k (h0c _ HVb.out.1) (by simp) _)
  have HKT : Hid (∀ y ∈ s0, k01 y) := Lib.hid (by rw [HS0.out]; exact takL_k (h0c _ HVb.out.2) (by simp) _)
  clear h0c
  have hpq := (HCS.out V2 (Below.refl _ _)).pOf HST.out (HKP.out HB2V.out HKqi.out) (HKP.out HB2V.out HKqs.out) HVq.out.1 HVq.out.2
  rw [← HPIN.out, ← HPST.out] at hpq
  have HPQ := Lib.hid hpq
  clear hpq
  obtain ⟨x0, x1, x2, x3⟩ := HCE.out V2 (Below.refl _ _)
  have y0 := (HFX.out V2 (Below.refl _ _)).2.1.cell 0
  have y1 := (HFX.out V2 (Below.refl _ _)).2.1.cell 1
  go_upto_region 4 with (go_at_call 18; (with_reducible refine HPQ.out.mono ?_); rintro e w3 ⟨BI, dI, BS, dS, rfl, r1, r2, r3, hb⟩; have HP1 := Lib.hid r1; have HP2 := Lib.hid r2; have HP3 := Lib.hid r3; have HB3 : Hid (BelW V2 w3) := Lib.hid hb; clear r1 r2 r3 hb)
  clear x0 x1 x2 x3 y0 y1
  obtain ⟨V3, HV3⟩ := named (w3.alloc (.cells #[.slice BI ni dI, .slice BS ns dS] 30))
  have hn3 : BelW w3 V3 := by rw [HV3.out]; exact below_new (Below.refl _ _) _
  have hb3 : BelW V2 V3 := joinB HB3.out hn3
  obtain ⟨qp, HQP⟩ := named w3.heap.size
  have hmp : MV V2 qp ni ns dI dS BI BS pin pst V3 := ⟨hb3, by rw [HV3.out, HQP.out]; exact Fr.made _ _ _ rfl, HP1.out.below hn3, HP2.out.below hn3, HP3.out, fun a h => by have := (World.ownsRow.lt HP1.out a h).2; rw [HQP.out]; omega, fun a h => by have := (World.ownsRow.lt HP2.out a h).2; rw [HQP.out]; omega, HLP.out, HLS.out⟩
  have hqp3 : qp < V3.heap.size := hmp.box.lt
  have hqp2 : V2.heap.size ≤ qp := by rw [HQP.out]; exact Below.size HB3.out
  rw [← HV3.out, ← HQP.out]
  have HMP := Lib.hid hmp
  have HB23 := Lib.hid hb3
  have hpk := pKno_at c lbi lbs A0 A1 A2 A3 Abi Abs n n1 0 n3 ni ns c0 c1 c2 c3 mbi mbs cbi cbs V3 HST.out.len HST.out.hi HST.out.hs (HCS.out V3 hb3).cir (HKP.out (joinB HB2V.out hb3) HKbi.out) (HKP.out (joinB HB2V.out hb3) HKbs.out) (by omega) HVb.out.1 HVb.out.2 hbi hbs
  rw [← HM0.out, ← HS0.out] at hpk
  have HPK := Lib.hid hpk
  obtain ⟨x0, x1, x2, x3⟩ := HCE.out V3 hb3
  have y0 := (HFX.out V3 hb3).2.2.cell 0
  have y1 := (HFX.out V3 hb3).2.2.cell 1
  clear hn3 hb3 hmp hpk hbi hbs HV3 HQP
  go_upto_region 5 with (go_at_call 22; (with_reducible refine HPK.out.mono ?_); rintro e w4 ⟨EI, fI, ES, fS, rfl, r1, r2, r3, hb⟩; have HE1 := Lib.hid r1; have HE2 := Lib.hid r2; have HE3 := Lib.hid r3; have HB4 : Hid (BelW V3 w4) := Lib.hid hb; clear r1 r2 r3 hb)
  clear x0 x1 x2 x3 y0 y1
  obtain ⟨V4, HV4⟩ := named (w4.alloc (.cells #[.slice EI ni fI, .slice ES ns fS] 30))
  have hn4 : BelW w4 V4 := by rw [HV4.out]; exact below_new (Below.refl _ _) _
  obtain ⟨q4, HQ4⟩ := named w4.heap.size
  have hmv : MV V3 q4 ni ns fI fS EI ES m0 s0 V4 := ⟨joinB HB4.out hn4, by rw [HV4.out, HQ4.out]; exact Fr.made _ _ _ rfl, HE1.out.below hn4, HE2.out.below hn4, HE3.out, fun a h => by have := (World.ownsRow.lt HE1.out a h).2; rw [HQ4.out]; omega, fun a h => by have := (World.ownsRow.lt HE2.out a h).2; rw [HQ4.out]; omega, HLM.out, HLT.out⟩
  have hq43 : V3.heap.size ≤ q4 := by rw [HQ4.out]; exact Below.size HB4.out
  rw [← HV4.out, ← HQ4.out]
  have HMV := Lib.hid hmv
  have HKNO := Lib.hid (fun (a : Int) (w : World) => Lg.known_any a w)
  clear hn4 hmv HV4 HQ4
  go_wp2
  go_loopw [10] (fun i wr => ∃ k : Nat, k ≤ ni ∧ i = .int .i64 k ∧ MV V3 q4 ni ns fI fS EI ES (kmrg pin m0 k) s0 wr) (fun i _ => ni - (intOf i).toNat)
  case atStart => exact ⟨0, Nat.zero_le _, rfl, by rw [kmrg_zero]; exact HMV.out⟩
  case round =>
    clear HMV
    obtain ⟨k, hk, rfl, hmv⟩ := hrel
    have HMV := Lib.hid hmv
    have hmp := HMP.out.next hmv.bel
    have y0 := hmp.box.cell 0
    have z0 := hmv.box.cell 0
    by_cases hlt : k < ni
    · obtain ⟨gp, rfl⟩ := VStk.formK hmp.rI HLP.out hlt
      have hvx := VStk.cellK hmp.rI HLP.out hlt
      obtain ⟨pv, HPV⟩ := named (pin.getD k 0)
      rw [← HPV.out] at hvx
      have HK1 := Lib.hid (fun w => HKNO.out pv w)
      have hml : (kmrg pin m0 k).length = ni := by rw [kmrg_len, HLM.out]
      obtain ⟨ge, rfl⟩ := VStk.formK HMV.out.rI hml hlt
      have hve := VStk.cellK HMV.out.rI hml hlt
      have hvf := VStk.frozenK HMV.out.rI hml k
      obtain ⟨ev, HEV⟩ := named ((kmrg pin m0 k).getD k 0)
      rw [← HEV.out] at hve
      have HNX := Lib.hid (HMV.out.setI k pv)
      clear hmv hmp hml
      cases hkv : knw pv
      · rw [hkv] at HK1
        have HKQ : Hid (kmrg pin m0 (k + 1) = kmrg pin m0 k) := Lib.hid (kmrg_keep (by rw [← HPV.out]; exact hkv))
        go_wp2_with (go_at_call 23; (with_reducible refine (HK1.out _).mono ?_); rintro e w' ⟨rfl, rfl⟩)
        go_roundw
        case rel => exact ⟨k + 1, by omega, by go_num, by rw [HKQ.out]; exact HMV.out⟩
        case measure => simp [intOf]; omega
      · rw [hkv] at HK1
        have HKQ : Hid (kmrg pin m0 (k + 1) = (kmrg pin m0 k).set k pv) := Lib.hid (by rw [HPV.out]; exact kmrg_put (by rw [HLM.out]; exact hlt) (by rw [← HPV.out]; exact hkv))
        go_upto_region 9 with (go_at_call 23; (with_reducible refine (HK1.out _).mono ?_); rintro e w' ⟨rfl, rfl⟩)
        go_still_tail 9, (by kernel_rfl)
        go_wp2
        go_roundw
        case rel => exact ⟨k + 1, by omega, by go_num, by rw [HKQ.out]; exact HNX.out.next (Below.drew (Below.refl _ _))⟩
        case measure => simp [intOf]; omega
    · obtain rfl : ni = k := by omega
      clear hmv hmp
      go_wp2
      clear z0 y0
      obtain ⟨V5, rfl⟩ : ∃ V0 : World, V0 = wr := ⟨_, rfl⟩
      obtain ⟨mI, HMI⟩ := named (kmrg pin m0 ni)
      rw [← HMI.out] at HMV
      have HMW := HMV
      clear HMV
      go_loopw [11] (fun i wr => ∃ k : Nat, k ≤ ns ∧ i = .int .i64 k ∧ MV V3 q4 ni ns fI fS EI ES mI (kmrg pst s0 k) wr) (fun i _ => ns - (intOf i).toNat)
      case atStart => exact ⟨0, Nat.zero_le _, rfl, by rw [kmrg_zero]; exact HMW.out⟩
      case round =>
        clear HMW
        obtain ⟨k, hk, rfl, hmv⟩ := hrel
        have HMV := Lib.hid hmv
        have hmp := HMP.out.next hmv.bel
        have y0 := hmp.box.cell 1
        have z0 := hmv.box.cell 1
        by_cases hlt : k < ns
        · obtain ⟨gp, rfl⟩ := VStk.formK hmp.rS HLS.out hlt
          have hvx := VStk.cellK hmp.rS HLS.out hlt
          obtain ⟨pv, HPV⟩ := named (pst.getD k 0)
          rw [← HPV.out] at hvx
          have HK1 := Lib.hid (fun w => HKNO.out pv w)
          have hml : (kmrg pst s0 k).length = ns := by rw [kmrg_len, HLT.out]
          obtain ⟨ge, rfl⟩ := VStk.formK HMV.out.rS hml hlt
          have hve := VStk.cellK HMV.out.rS hml hlt
          have hvf := VStk.frozenK HMV.out.rS hml k
          obtain ⟨ev, HEV⟩ := named ((kmrg pst s0 k).getD k 0)
          rw [← HEV.out] at hve
          have HNX := Lib.hid (HMV.out.setS k pv)
          clear hmv hmp hml
          cases hkv : knw pv
          · rw [hkv] at HK1
            have HKQ : Hid (kmrg pst s0 (k + 1) = kmrg pst s0 k) := Lib.hid (kmrg_keep (by rw [← HPV.out]; exact hkv))
            go_wp2_with (go_at_call 23; (with_reducible refine (HK1.out _).mono ?_); rintro e w' ⟨rfl, rfl⟩)
            go_roundw
            case rel => exact ⟨k + 1, by omega, by go_num, by rw [HKQ.out]; exact HMV.out⟩
            case measure => simp [intOf]; omega
          · rw [hkv] at HK1
            have HKQ : Hid (kmrg pst s0 (k + 1) = (kmrg pst s0 k).set k pv) := Lib.hid (by rw [HPV.out]; exact kmrg_put (by rw [HLT.out]; exact hlt) (by rw [← HPV.out]; exact hkv))
            go_upto_region 14 with (go_at_call 23; (with_reducible refine (HK1.out _).mono ?_); rintro e w' ⟨rfl, rfl⟩)
            go_still_tail 9, (by kernel_rfl)
            go_wp2
            go_roundw
            case rel => exact ⟨k + 1, by omega, by go_num, by rw [HKQ.out]; exact HNX.out.next (Below.drew (Below.refl _ _))⟩
            case measure => simp [intOf]; omega
        · obtain rfl : ns = k := by omega
          clear hmv hmp
          go_wp2
          clear z0 y0
          obtain ⟨V6, rfl⟩ : ∃ V0 : World, V0 = wr := ⟨_, rfl⟩
          obtain ⟨mS, HMS⟩ := named (kmrg pst s0 ns)
          rw [← HMS.out] at HMV
          -- the first pattern is read in place: both patterns over V2
          have hmf : MV V2 q4 ni ns fI fS EI ES mI mS V6 := HMV.out.down HB23.out
          have hmp6 : MV V2 qp ni ns dI dS BI BS pin pst V6 := HMP.out.next HMV.out.bel
          have hfar : ∀ a, (Value.slice BI ni dI).ownBlock = some a → V2.heap.size ≤ a ∧ a ≠ q4 ∧ (∀ b, (Value.slice EI ni fI).ownBlock = some b → b ≠ a) ∧ (∀ b, (Value.slice ES ns fS).ownBlock = some b → b ≠ a) := fun a ha => by
            have h1 := World.ownsRow.lt HMP.out.rI a ha
            refine ⟨h1.1, by omega, fun b hb => ?_, fun b hb => ?_⟩
            · have := (World.ownsRow.lt HMV.out.rI b hb).1; omega
            · have := (World.ownsRow.lt HMV.out.rS b hb).1; omega
          have HFAR := Lib.hid hfar
          have HMF6 := Lib.hid hmf
          have HMP6 := Lib.hid hmp6
          clear hmf hmp6 hfar HMV
          go_loopw [12] (fun i wr => ∃ k : Nat, k ≤ ni ∧ i = .int .i64 k ∧ MV V2 q4 ni ns fI fS EI ES mI mS wr ∧ MV V2 qp ni ns dI dS BI BS (rdTo pin k) pst wr) (fun i _ => ni - (intOf i).toNat)
          case atStart => exact ⟨0, Nat.zero_le _, rfl, HMF6.out, by rw [rdTo_zero]; exact HMP6.out⟩
          case round =>
            clear HMF6 HMP6
            obtain ⟨k, hk, rfl, hmf, hmp⟩ := hrel
            have HMF := Lib.hid hmf
            have HMQ := Lib.hid hmp
            have y0 := hmp.box.cell 0
            by_cases hlt : k < ni
            · have hml : (rdTo pin k).length = ni := by rw [rdTo_len, HLP.out]
              obtain ⟨gp, rfl⟩ := VStk.formK hmp.rI hml hlt
              have hvx := VStk.cellK hmp.rI hml hlt
              have hvf := VStk.frozenK hmp.rI hml k
              have hgk : (rdTo pin k).getD k 0 = pin.getD k 0 := by rw [rdTo_get (by rw [HLP.out]; exact hlt), if_neg (by omega)]
              rw [hgk] at hvx
              obtain ⟨pv, HPV⟩ := named (pin.getD k 0)
              rw [← HPV.out] at hvx
              obtain ⟨rv, HRV⟩ := named (rd pv)
              have HRQ : Hid (rdTo pin (k + 1) = (rdTo pin k).set k rv) := Lib.hid (by rw [HRV.out, HPV.out]; exact rdTo_put (by rw [HLP.out]; exact hlt))
              have HNX := Lib.hid (HMQ.out.setI k rv)
              have hfa := HFAR.out gp rfl
              have HNF := Lib.hid (HMF.out.far (a := ⟨gp, k, none⟩) hfa.1 (fun e => hfa.2.1 e) hfa.2.2.1 hfa.2.2.2 (.int .u8 rv))
              have HRD : Hid (∀ w : World, Calls Tryd.prog 24 #[.int .u8 pv] w fun e w' => e = .returned (.int .u8 rv) ∧ w = w') := Lib.hid fun w => by rw [HRV.out]; exact Lg.read_any pv w
              clear hmf hmp hml hgk hfa
              go_upto_region 18 with (fail)
              go_still_tail 10, (by kernel_rfl)
              still_call ((HRD.out _).mono fun _ _ h => ⟨h.1, h.2.symm⟩)
              repeat still_step
              refine wpStill_nil ?_
              go_wp2
              go_roundw
              case rel => exact ⟨k + 1, by omega, by go_num, HNF.out.next (Below.drew (Below.refl _ _)), by rw [HRQ.out]; exact HNX.out.next (Below.drew (Below.refl _ _))⟩
              case measure => simp [intOf]; omega
            · obtain rfl : ni = k := by omega
              clear hmf hmp
              go_upto_region 19 with (fail)
              clear y0
              obtain ⟨V7, rfl⟩ : ∃ V0 : World, V0 = wr := ⟨_, rfl⟩
              obtain ⟨pr, HPR⟩ := named (rdTo pin ni)
              rw [← HPR.out] at HMQ
              have hlpr : pr.length = ni := by rw [HPR.out, rdTo_len, HLP.out]
              have hvpr : ∀ y ∈ pr, 0 ≤ y ∧ y ≤ 3 := by rw [HPR.out]; exact rdTo_in _ HVP.out
              have hkmI : ∀ y ∈ mI, k01 y := by rw [HMI.out]; exact kmrg_k _ HKM.out
              have hkmS : ∀ y ∈ mS, k01 y := by rw [HMS.out]; exact kmrg_k _ HKT.out
              have hin : ∀ l : List Int, (∀ y ∈ l, k01 y) → ∀ y ∈ l, 0 ≤ y ∧ y ≤ 3 := fun l h y hy => by
                rcases h y hy with e | e <;> omega
              have HKI := Lib.hid (And.intro hkmI hkmS)
              have HVM := Lib.hid (And.intro (hin _ hkmI) (hin _ hkmS))
              have HLPR := Lib.hid hlpr
              have HVPR := Lib.hid hvpr
              have hb27 : BelW V2 V7 := HMF.out.bel
              have HRA := Lib.hid ((HCS.out V7 hb27).run HST.out HMQ.out.rI.ks HMQ.out.rS.ks hlpr HLS.out hvpr HVS.out)
              have y0 := HMQ.out.box.cell 0
              have y1 := HMQ.out.box.cell 1
              obtain ⟨x0, x1, x2, x3⟩ := HCE.out V7 hb27
              have HB27 := Lib.hid hb27
              clear hlpr hvpr hkmI hkmS hin hb27
              go_upto_region 20 with (go_at_call 12; (with_reducible refine HRA.out.mono ?_); rintro e w8 ⟨na, g1, h1, k1, hn, hl, rfl, -, -, r3, hb⟩; have HNA := Lib.hid hn; have HLA := Lib.hid hl; have HVA := Lib.hid r3; have HB8 : Hid (BelW V7 w8) := Lib.hid hb; clear hn hl r3 hb)
              clear x0 x1 x2 x3 y0 y1
              obtain ⟨V8, HV8⟩ := named (w8.alloc (.cells #[.slice (some ⟨g1, 0, none⟩) n3 n3, .slice (some ⟨h1, 0, none⟩) ns ns] 36))
              have hn8 : BelW w8 V8 := by rw [HV8.out]; exact below_new (Below.refl _ _) _
              obtain ⟨q8, HQ8⟩ := named w8.heap.size
              rw [← HV8.out, ← HQ8.out]
              have HB78 : Hid (BelW V7 V8) := Lib.hid (joinB HB8.out hn8)
              have HVA8 := Lib.hid (HVA.out.below hn8)
              have HB28 : Hid (BelW V2 V8) := Lib.hid (joinB HB27.out HB78.out)
              have hmf8 := HMF.out.next HB78.out
              have HRB := Lib.hid ((HCS.out V8 HB28.out).run HST.out hmf8.rI.ks hmf8.rS.ks hmf8.lenI hmf8.lenS HVM.out.1 HVM.out.2)
              have y0 := hmf8.box.cell 0
              have y1 := hmf8.box.cell 1
              obtain ⟨x0, x1, x2, x3⟩ := HCE.out V8 HB28.out
              clear hn8 hmf8 HV8 HQ8
              go_upto_region 21 with (go_at_call 12; (with_reducible refine HRB.out.mono ?_); rintro e w9 ⟨nb, g2, h2, k2, hn, hl, rfl, -, -, r3, hb⟩; have HNB := Lib.hid hn; have HLB := Lib.hid hl; have HVB := Lib.hid r3; have HB9 : Hid (BelW V8 w9) := Lib.hid hb; clear hn hl r3 hb)
              clear x0 x1 x2 x3 y0 y1
              obtain ⟨V9, HV9⟩ := named (w9.alloc (.cells #[.slice (some ⟨g2, 0, none⟩) n3 n3, .slice (some ⟨h2, 0, none⟩) ns ns] 36))
              have hn9 : BelW w9 V9 := by rw [HV9.out]; exact below_new (Below.refl _ _) _
              obtain ⟨q9, HQ9⟩ := named w9.heap.size
              rw [← HV9.out, ← HQ9.out]
              have HB89 : Hid (BelW V8 V9) := Lib.hid (joinB HB9.out hn9)
              have HVA9 := Lib.hid (HVA8.out.below HB89.out)
              have HVB9 := Lib.hid (HVB.out.below hn9)
              have HB29 : Hid (BelW V2 V9) := Lib.hid (joinB HB28.out HB89.out)
              have HKD := Lib.hid ((HCS.out V2 (Below.refl _ _)).kinds HST.out.len)
              have HMON : Hid (∀ i : Nat, i < n → blw (lat na i) (lat nb i) = true) := Lib.hid (mono_nets HST.out.vld HST.out.len (by rw [HLPR.out, HMF.out.lenI]) (by rw [HLS.out, HMF.out.lenS])
                (fun j hj => by
                  rw [HLPR.out] at hj
                  have := krd_le (l := pin) (m := m0) (i := j) (by rw [HLP.out]; exact hj) (by rw [HLP.out, HLM.out])
                  rw [HLP.out, ← HPR.out, ← HMI.out] at this
                  exact this)
                (fun j hj => by
                  rw [HLS.out] at hj
                  have := kst_le (l := pst) (m := s0) (i := j) (by rw [HLS.out]; exact hj) (by rw [HLS.out, HLT.out]) HVT.out
                  rw [HLS.out, ← HMS.out] at this
                  exact this) HNA.out HNB.out)
              have HKNB : Hid ((ofTo c.nodes [12] n).length = 0 → ∀ i : Nat, i < n → knw (lat nb i) = true) := Lib.hid fun ht i hi =>
                knw_iff.2 (net_known HST.out.vld HST.out.h2 HKD.out (by rw [HST.out.hi, HMF.out.lenI]) (by rw [HST.out.hs, HMF.out.lenS]) HNB.out HKI.out.1 HKI.out.2 ht i hi)
              have HBIN : Hid (∀ i : Nat, 0 ≤ lat nb i ∧ lat nb i ≤ 3) := Lib.hid fun i => lat_in (net_in HNB.out HVM.out.1 HVM.out.2) _
              obtain ⟨tn, HTN⟩ := named (ofTo c.nodes [12] n).length
              rw [← HTN.out] at HKNB
              have HCNT : Hid (∀ W, BelW V9 W → Calls Tryd.prog 16 #[.agg #[.slice A0 n c0, .slice A1 n1 c1, .slice A2 0 c2, .slice A3 n3 c3], .int .u8 12] W fun e w' => e = .returned (.int .i64 (tn : Int)) ∧ BelW W w') := Lib.hid fun W h => by
                have := count_any c 12 _ W W.heap.size (Nat.le_refl _) (HCS.out W (joinB HB29.out h)).cir (by rw [HST.out.len]; omega)
                rw [HST.out.len, ← HTN.out] at this
                exact this
              have HLV := Lib.hid (fun W (h : BelW V9 W) => lives6_any W (HCS.out W (joinB HB29.out h)).tabs)
              have HFIN : Hid (∀ W, BelW V9 W → Below w.heap.size w W) := Lib.hid fun W h => joinB HB1.out (joinB HB2V.out (joinB HB29.out h))
              obtain ⟨x0, -, -, -⟩ := HCE.out V9 HB29.out
              clear hn9 HV9 HQ9
              go_upto_region 23 with (fail)
              clear x0
              go_wp2
              go_loopw [19] (fun i wr => BelW V9 wr ∧ ∃ j : Nat, j ≤ n ∧ i = .int .i64 j) (fun i _ => n - (intOf i).toNat)
              case atStart => exact ⟨Below.refl _ _, 0, Nat.zero_le _, rfl⟩
              case round =>
                obtain ⟨hbz, j, hj, rfl⟩ := hrel
                have HBZ9 : Hid (BelW V9 wr) := Lib.hid hbz
                by_cases hlj : j < n
                · have f1 : wr.cell? ⟨k1, j, none⟩ = some (.int .u8 (lat na j)) := (HVA9.out.below hbz).cell (by rw [HLA.out]; exact hlj)
                  have f2 : wr.cell? ⟨k2, j, none⟩ = some (.int .u8 (lat nb j)) := (HVB9.out.below hbz).cell (by rw [HLB.out]; exact hlj)
                  obtain ⟨x0, x1, x2, x3⟩ := HCE.out wr (joinB HB29.out hbz)
                  have hmo := HMON.out j hlj
                  have hkb := fun h => HKNB.out h j hlj
                  have hbi := HBIN.out j
                  obtain ⟨va, HVAJ⟩ := named (lat na (j : Int))
                  obtain ⟨vb, HVBJ⟩ := named (lat nb (j : Int))
                  rw [← HVAJ.out] at f1 hmo
                  rw [← HVBJ.out] at f2 hmo hkb hbi
                  have hab : knw va = true → vb = va := fun h => blw_known hmo (knw_iff.1 h) hbi
                  have HAB := Lib.hid hab
                  have HKB := Lib.hid hkb
                  have g1 : ∀ xx : Beh wr, xx.x.cell? ⟨k1, j, none⟩ = some (.int .u8 va) := fun xx => beh_cell (cell_lt f1) f1 xx
                  have g2 : ∀ xx : Beh wr, xx.x.cell? ⟨k2, j, none⟩ = some (.int .u8 vb) := fun xx => beh_cell (cell_lt f2) f2 xx
                  have g3 : ∀ xx : Beh wr, xx.x.cell? ⟨qc, 0, none⟩ = some (.slice A0 n c0) := fun xx => beh_cell (cell_lt x0) x0 xx
                  have g4 : ∀ xx : Beh wr, xx.x.cell? ⟨qc, 1, none⟩ = some (.slice A1 n1 c1) := fun xx => beh_cell (cell_lt x1) x1 xx
                  have g5 : ∀ xx : Beh wr, xx.x.cell? ⟨qc, 2, none⟩ = some (.slice A2 0 c2) := fun xx => beh_cell (cell_lt x2) x2 xx
                  have g6 : ∀ xx : Beh wr, xx.x.cell? ⟨qc, 3, none⟩ = some (.slice A3 n3 c3) := fun xx => beh_cell (cell_lt x3) x3 xx
                  have HQK : Hid (∀ (a : Int) (xx : Beh wr), Calls Tryd.prog 23 #[.int .u8 a] xx.x fun e w' => e = .returned (.bool (knw a)) ∧ xx.x = w') := Lib.hid fun a xx => HKNO.out a xx.x
                  have HQC : Hid (∀ xx : Beh wr, Calls Tryd.prog 16 #[.agg #[.slice A0 n c0, .slice A1 n1 c1, .slice A2 0 c2, .slice A3 n3 c3], .int .u8 12] xx.x fun e w' => e = .returned (.int .i64 (tn : Int)) ∧ Below wr.heap.size wr w') := Lib.hid fun xx => (HCNT.out xx.x (joinB HBZ9.out xx.below)).mono fun e w' ⟨h1, h2⟩ => ⟨h1, joinB xx.below h2⟩
                  clear hbz hmo hkb hbi hab x0 x1 x2 x3 f1 f2
                  have hcs : ∃ (ka kb tz ne : Bool), Hid (knw va = ka) ∧ Hid (knw vb = kb) ∧ ((tn : Int) == 0) = tz ∧ (vb != va) = ne ∧ (ka = true → ne = false) ∧ (tz = true → kb = true) := ⟨_, _, _, _, Lib.hid rfl, Lib.hid rfl, rfl, rfl, fun h => by rw [HAB.out h]; simp, fun h => HKB.out (by simpa using h)⟩
                  obtain ⟨ka, kb, tz, ne, HKA, HKBB, htz, hne, himp1, himp2⟩ := hcs
                  have HQA : Hid (∀ xx : Beh wr, Calls Tryd.prog 23 #[.int .u8 va] xx.x fun e w' => e = .returned (.bool ka) ∧ xx.x = w') := Lib.hid fun xx => by have := HQK.out va xx; rw [HKA.out] at this; exact this
                  have HQB : Hid (∀ xx : Beh wr, Calls Tryd.prog 23 #[.int .u8 vb] xx.x fun e w' => e = .returned (.bool kb) ∧ xx.x = w') := Lib.hid fun xx => by have := HQK.out vb xx; rw [HKBB.out] at this; exact this
                  go_upto_region 26 with (fail)
                  have hcases : (ka = true ∧ ne = false ∧ tz = true ∧ kb = true) ∨ (ka = true ∧ ne = false ∧ tz = false) ∨ (ka = false ∧ tz = true ∧ kb = true) ∨ (ka = false ∧ tz = false) := by
                    cases ka <;> cases tz <;> simp_all
                  clear himp1 himp2
                  rcases hcases with ⟨rfl, rfl, rfl, rfl⟩ | ⟨rfl, rfl, rfl⟩ | ⟨rfl, rfl, rfl⟩ | ⟨rfl, rfl⟩
                  all_goals
                    refine region_class (w0 := wr) (Below.refl _ _) (by kernel_rfl) (by kernel_rfl) ?_
                    repeat (first
                      | go_big_quiet_skip
                      | (go_big_quiet_want; go_big_quiet_op; first
                        | go_big_quiet_on
                        | (apply Exists.intro
                           refine ⟨fun xx => ?_, ?_⟩
                           focus first
                            | (go_at_call 23; with_reducible exact beh_same (HQA.out xx))
                            | (go_at_call 23; with_reducible exact beh_same (HQB.out xx))
                            | (go_at_call 16; with_reducible exact beh_of (HQC.out xx))
                           go_big_quiet_on)))
                    refine wpQuiet_nil ?_
                    rintro wz ⟨⟨wz', hz⟩, rfl⟩
                    go_wp2
                    go_roundw
                    case rel => exact ⟨joinB HBZ9.out hz, j + 1, by omega, by go_num⟩
                    case measure => simp [intOf]; omega
                · obtain rfl : n = j := by omega
                  clear hbz
                  go_wp2_with (go_at_call 10; (with_reducible refine (HLV.out _ HBZ9.out).mono ?_); rintro e w12 ⟨rfl, hb⟩; have HBZ := Lib.hid hb; clear hb)
                  go_ret
                  exact ⟨rfl, joinB (HFIN.out _ HBZ9.out) HBZ.out⟩
end Go.Proofs.YtbkfpaklmepglaaDoor
