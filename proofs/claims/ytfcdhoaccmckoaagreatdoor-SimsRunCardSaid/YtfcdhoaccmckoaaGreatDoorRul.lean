/- SimsRun: the law's walk. -/
import Derived.Test.YtfcdhoaccmckoaaGreatDoorUnp
import Derived.Test.YtfcdhoaccmckoaaGreatDoorCs
import Derived.Test.YtfcdhoaccmckoaaGreatDoorSml
import Derived.Test.YtfcdhoaccmckoaaGreatDoorNtz
import Derived.Test.YtfcdhoaccmckoaaGreatDoorRob
import Derived.Test.YtfcdhoaccmckoaaGreatDoorCpe
import Derived.StillTailTactics
namespace Go.Proofs.YtfcdhoaccmckoaaGreatDoor
open Go.RowKit

set_option maxRecDepth 100000 in
set_option maxHeartbeats 16000000 in
theorem srun_law (x : Cx) (hx : Cok x) (sG sA : Value) (lqi lqs : List Int) (Aqi Aqs : Option Addr) (mqi mqs cqi cqs : Nat) (w : World) (hT : Lg.Tabs w) (hG : Gs w w.heap.size sG x.gates) (hA : Ks w w.heap.size sA x.outs)
    (kqi : Ks w w.heap.size (.slice Aqi mqi cqi) lqi) (kqs : Ks w w.heap.size (.slice Aqs mqs cqs) lqs) (vqi : ∀ y ∈ lqi, 0 ≤ y ∧ y ≤ 255) (vqs : ∀ y ∈ lqs, 0 ≤ y ∧ y ≤ 255) :
    Calls Tryz.prog 3 #[.agg #[.int .u8 x.inN, .int .u8 x.dffs, .int .u8 x.d0, .int .u8 x.d1, .bool x.bus, .bool x.mem, .int .u8 x.p0, .int .u8 x.p1, .int .u8 x.p2, .int .u8 x.p3, sG, sA], .agg #[.slice Aqi mqi cqi, .slice Aqs mqs cqs]] w fun e w' => e = .returned (.bool true) ∧ Below w.heap.size w w' := by
  obtain ⟨c, HC⟩ := named (ofC { x with mem := false })
  obtain ⟨n, HN⟩ := named c.nodes.length
  obtain ⟨W1, HW1⟩ := named ((w.alloc (.cells #[.int .u8 x.inN, .int .u8 x.dffs, .int .u8 x.d0, .int .u8 x.d1, .bool x.bus, .bool false, .int .u8 x.p0, .int .u8 x.p1, .int .u8 x.p2, .int .u8 x.p3, sG, sA] 27)).alloc (.cells #[.slice Aqi mqi cqi, .slice Aqs mqs cqs] 29))
  have hb1 : BelW w W1 := by rw [HW1.out]; exact below_new (below_new (Below.refl _ _) _) _
  have hf0 : Fr W1 (w.heap.size) 27 (#[.int .u8 x.inN, .int .u8 x.dffs, .int .u8 x.d0, .int .u8 x.d1, .bool x.bus, .bool false, .int .u8 x.p0, .int .u8 x.p1, .int .u8 x.p2, .int .u8 x.p3, sG, sA]).toList := by rw [HW1.out]; exact Fr.alloc (Fr.made _ _ _ (by simp)) _
  have hf1 : Fr W1 (w.heap.size + 1) 29 (#[.slice Aqi mqi cqi, .slice Aqs mqs cqs]).toList := by rw [HW1.out]; exact Fr.made _ _ _ (by simp)
  have HOF := Lib.hid (ofc_s x hx sG sA w W1 hb1 hG hA HC.out HN.out)
  have HXX := Lib.hid hx
  have HGA := Lib.hid (And.intro hG hA)
  have HT1 := Lib.hid (hT.below hb1)
  have HB1 := Lib.hid hb1
  have HKP : Hid (∀ {v l W}, BelW W1 W → Ks w w.heap.size v l → Ks W W.heap.size v l) := Lib.hid fun h hk => Arr.keep stays_u8 hk (joinB HB1.out h).size fun _ hp => (joinB HB1.out h).cell hp
  have HKqi := Lib.hid kqi
  have HKqs := Lib.hid kqs
  have HVq := Lib.hid (And.intro vqi vqs)
  have HF0 := Lib.hid hf0
  have HF1 := Lib.hid hf1
  clear hT hG hA hx hb1 kqi kqs vqi vqs hf0 hf1
  go_enter Tryz.func3, Tryz.ntmps3
  go_upto_region 2 with (fail)
  rw [← HW1.out]
  have x0 := HF0.out.cell 0
  have x1 := HF0.out.cell 1
  have x2 := HF0.out.cell 2
  have x3 := HF0.out.cell 3
  have x4 := HF0.out.cell 4
  have x5 := HF0.out.cell 5
  have x6 := HF0.out.cell 6
  have x7 := HF0.out.cell 7
  have x8 := HF0.out.cell 8
  have x9 := HF0.out.cell 9
  have x10 := HF0.out.cell 10
  have x11 := HF0.out.cell 11
  go_upto_region 3 with (go_at_call 4; (with_reducible refine HOF.out.mono ?_); rintro e w2 ⟨⟨A0, A1, A2, A3, n1, n3, c0, c1, c2, c3, rfl, hc, hn1, hn3⟩, hb⟩; have HCC := Lib.hid hc; have HB2 := Lib.hid hb; have HN1 := Lib.hid hn1; have HN3 := Lib.hid hn3; clear hc hb hn1 hn3)
  clear x0 x1 x2 x3 x4 x5 x6 x7 x8 x9 x10 x11
  obtain ⟨V2, HV2⟩ := named (w2.alloc (.cells #[.slice A0 n c0, .slice A1 n1 c1, .slice A2 0 c2, .slice A3 n3 c3] 35))
  have hn2 : BelW w2 V2 := by rw [HV2.out]; exact below_new (Below.refl _ _) _
  have hfc2 : Fr V2 w2.heap.size 35 (#[.slice A0 n c0, .slice A1 n1 c1, .slice A2 0 c2, .slice A3 n3 c3]).toList := by rw [HV2.out]; exact Fr.made _ _ _ rfl
  have hb2 : BelW W1 V2 := joinB HB2.out hn2
  obtain ⟨qc, HQC⟩ := named w2.heap.size
  rw [← HQC.out] at hfc2
  rw [← HV2.out, ← HQC.out]
  have hcs2 : Cs c n n1 n3 A0 A1 A2 A3 c0 c1 c2 c3 qc V2 := ⟨HT1.out.below hb2, (HCC.out.below hn2).more (Below.size hn2), hfc2⟩
  have HCS := Lib.hid (fun W (h : BelW V2 W) => hcs2.next h)
  have HCE := Lib.hid (fun W (h : BelW V2 W) => (hcs2.next h).cells)
  have HB2V := Lib.hid hb2
  obtain ⟨ni, HNI⟩ := named (ofTo c.nodes [0] n).length
  obtain ⟨ns, HNS⟩ := named (ofTo c.nodes [14] n).length
  obtain ⟨L, hst⟩ := cst_of x HXX.out HC.out HN.out HN1.out HN3.out HNI.out HNS.out
  have HST := Lib.hid hst
  have hfew : n < 20 := hst.few
  have hniB : ni ≤ n := hst.niB
  have hnsB : ns ≤ n := hst.nsB
  have hpos : 0 < n := by rw [HN.out]; exact ofC_inputs x HC.out
  have HFX : Hid (∀ W, BelW V2 W → Fr W (w.heap.size) 27 (#[.int .u8 x.inN, .int .u8 x.dffs, .int .u8 x.d0, .int .u8 x.d1, .bool x.bus, .bool false, .int .u8 x.p0, .int .u8 x.p1, .int .u8 x.p2, .int .u8 x.p3, sG, sA]).toList ∧ Fr W (w.heap.size + 1) 29 (#[.slice Aqi mqi cqi, .slice Aqs mqs cqs]).toList) := Lib.hid fun W h => ⟨HF0.out.below (joinB HB2V.out h), HF1.out.below (joinB HB2V.out h)⟩
  clear hn2 hfc2 hb2 hcs2 hst HV2 HQC HCC HB2 HW1
  obtain ⟨pin, HPIN⟩ := named (takL lqi 4 ni)
  obtain ⟨pst, HPST⟩ := named (takL lqs 3 ns)
  have HLP : Hid (pin.length = ni) := Lib.hid (by rw [HPIN.out, takL_len])
  have HLS : Hid (pst.length = ns) := Lib.hid (by rw [HPST.out, takL_len])
  have HVP : Hid (∀ y ∈ pin, 0 ≤ y ∧ y ≤ 3) := Lib.hid (by rw [HPIN.out]; exact takL_in4 HVq.out.1 _)
  have HVS : Hid (∀ y ∈ pst, 0 ≤ y ∧ y ≤ 3) := Lib.hid (by rw [HPST.out]; exact takL_in3 HVq.out.2 _)
  have HPW : Hid (∀ W, BelW V2 W → Calls Tryz.prog 5 #[.agg #[.slice Aqi mqi cqi, .slice Aqs mqs cqs], .agg #[.slice A0 n c0, .slice A1 n1 c1, .slice A2 0 c2, .slice A3 n3 c3]] W fun e w' => ∃ AI cI AS cS, e = .returned (.agg #[.slice AI ni cI, .slice AS ns cS]) ∧ VStk w' W.heap.size (.slice AI ni cI) pin ∧ VStk w' W.heap.size (.slice AS ns cS) pst ∧ BelW W w') := Lib.hid fun W h => by
    have := (HCS.out W h).pOf HST.out (HKP.out (joinB HB2V.out h) HKqi.out) (HKP.out (joinB HB2V.out h) HKqs.out) HVq.out.1 HVq.out.2
    rw [← HPIN.out, ← HPST.out] at this
    exact this.mono fun e w' ⟨a, b, c, d, h1, h2, h3, _, h4⟩ => ⟨a, b, c, d, h1, h2, h3, h4⟩
  have HOW : Hid (∀ W, BelW V2 W → Calls Tryz.prog 4 #[.agg #[.int .u8 x.inN, .int .u8 x.dffs, .int .u8 x.d0, .int .u8 x.d1, .bool x.bus, .bool false, .int .u8 x.p0, .int .u8 x.p1, .int .u8 x.p2, .int .u8 x.p3, sG, sA]] W fun e w' => (∃ B0 B1 B2 B3 d0 d1 d2 d3, e = .returned (.agg #[.slice B0 n d0, .slice B1 n1 d1, .slice B2 0 d2, .slice B3 n3 d3]) ∧ Cir w' w'.heap.size (.agg #[.slice B0 n d0, .slice B1 n1 d1, .slice B2 0 d2, .slice B3 n3 d3]) c) ∧ BelW W w') := Lib.hid fun W h =>
    (ofc_s x HXX.out sG sA w W (joinB HB1.out (joinB HB2V.out h)) HGA.out.1 HGA.out.2 HC.out HN.out).mono fun e w' ⟨⟨B0, B1, B2, B3, m1, m3, d0, d1, d2, d3, he, hc, hm1, hm3⟩, hb⟩ => ⟨⟨B0, B1, B2, B3, d0, d1, d2, d3, by rw [he, hm1, hm3, HN1.out, HN3.out], by rw [HN1.out, HN3.out, ← hm1, ← hm3]; exact hc⟩, hb⟩
  have HPN : Hid (∀ k, k < n → (c.nodes.getD k default).ins.length ≤ 7) := Lib.hid fun k hk => by
    rw [HC.out]
    exact Nat.le_trans (ofC_pins _ (by rw [← HC.out, ← HN.out]; exact hk)) (by decide)
  obtain ⟨x0, x1, x2, x3⟩ := HCE.out V2 (Below.refl _ _)
  have y0 := (HFX.out V2 (Below.refl _ _)).2.cell 0
  have y1 := (HFX.out V2 (Below.refl _ _)).2.cell 1
  have hpq := HPW.out V2 (Below.refl _ _)
  have HPQ := Lib.hid hpq
  clear hpq
  go_upto_region 4 with (go_at_call 5; (with_reducible refine HPQ.out.mono ?_); rintro e w3 ⟨BI, dI, BS, dS, rfl, r1, r2, hb⟩; have HP1 := Lib.hid r1; have HP2 := Lib.hid r2; have HB3 : Hid (BelW V2 w3) := Lib.hid hb; clear r1 r2 hb)
  clear x0 x1 x2 x3 y0 y1
  obtain ⟨V3, HV3⟩ := named (w3.alloc (.cells #[.slice BI ni dI, .slice BS ns dS] 39))
  have hn3 : BelW w3 V3 := by rw [HV3.out]; exact below_new (Below.refl _ _) _
  have hfp : Fr V3 w3.heap.size 39 [.slice BI ni dI, .slice BS ns dS] := by rw [HV3.out]; exact Fr.made _ _ _ rfl
  have hb3 : BelW V2 V3 := joinB HB3.out hn3
  obtain ⟨qp, HQP⟩ := named w3.heap.size
  rw [← HQP.out] at hfp
  rw [← HV3.out, ← HQP.out]
  have HK3 : Hid (∀ W, BelW V3 W → Fr W qp 39 [.slice BI ni dI, .slice BS ns dS] ∧ Ks W W.heap.size (.slice BI ni dI) pin ∧ Ks W W.heap.size (.slice BS ns dS) pst) := Lib.hid fun W h => ⟨hfp.below h, ((HP1.out.below hn3).below h).ks, ((HP2.out.below hn3).below h).ks⟩
  have HB23 := Lib.hid hb3
  have k3 := HK3.out V3 (Below.refl _ _)
  have HR4 := Lib.hid ((HCS.out V3 hb3).run HST.out k3.2.1 k3.2.2 HLP.out HLS.out HVP.out HVS.out)
  have y0 := k3.1.cell 0
  have y1 := k3.1.cell 1
  obtain ⟨x0, x1, x2, x3⟩ := HCE.out V3 hb3
  clear hn3 hfp hb3 k3 HV3 HQP
  go_upto_region 5 with (go_at_call 6; (with_reducible refine HR4.out.mono ?_); rintro e w4 ⟨nt, g1, h1, k1, hn, hl, rfl, r1, r2, r3, hb⟩; have HNT := Lib.hid hn; have HL1 := Lib.hid hl; have HG1 := Lib.hid r1; have HH1 := Lib.hid r2; have HI1 := Lib.hid r3; have HB4 : Hid (BelW V3 w4) := Lib.hid hb; clear hn hl r1 r2 r3 hb)
  clear x0 x1 x2 x3 y0 y1
  obtain ⟨V4, HV4⟩ := named (w4.alloc (.cells #[.slice (some ⟨g1, 0, none⟩) n3 n3, .slice (some ⟨h1, 0, none⟩) ns ns] 42))
  have hn4 : BelW w4 V4 := by rw [HV4.out]; exact below_new (Below.refl _ _) _
  have hfr : Fr V4 w4.heap.size 42 [.slice (some ⟨g1, 0, none⟩) n3 n3, .slice (some ⟨h1, 0, none⟩) ns ns] := by rw [HV4.out]; exact Fr.made _ _ _ rfl
  obtain ⟨q4, HQ4⟩ := named w4.heap.size
  rw [← HQ4.out] at hfr
  rw [← HV4.out, ← HQ4.out]
  have hb4 : BelW V3 V4 := joinB HB4.out hn4
  have HB34 := Lib.hid hb4
  have HB24 : Hid (BelW V2 V4) := Lib.hid (joinB HB23.out hb4)
  have HR : Hid (∀ W, BelW V4 W → Fr W q4 42 [.slice (some ⟨g1, 0, none⟩) n3 n3, .slice (some ⟨h1, 0, none⟩) ns ns] ∧ VRow W g1 (outV c nt) ∧ VRow W h1 (nextV c nt) ∧ VRow W k1 nt) := Lib.hid fun W h => ⟨hfr.below h, (HG1.out.below hn4).below h, (HH1.out.below hn4).below h, (HI1.out.below hn4).below h⟩
  have HLO : Hid ((outV c nt).length = n3) := Lib.hid (by unfold outV; rw [List.length_map]; exact HST.out.h3)
  have HLN : Hid ((nextV c nt).length = ns) := Lib.hid (by unfold nextV; rw [List.length_map, HST.out.len]; exact HST.out.hs)
  obtain ⟨lo, HLOV⟩ := named (outV c nt)
  obtain ⟨ln, HLNV⟩ := named (nextV c nt)
  rw [← HLOV.out] at HR HLO
  rw [← HLNV.out] at HR HLN
  have HNW : Hid (∀ W B0 B1 B2 B3 d0 d1 d2 d3 AI cI AS cS, BelW V4 W → Cir W W.heap.size (.agg #[.slice B0 n d0, .slice B1 n1 d1, .slice B2 0 d2, .slice B3 n3 d3]) c → Ks W W.heap.size (.slice AI ni cI) pin → Ks W W.heap.size (.slice AS ns cS) pst → Calls Tryz.prog 7 #[.agg #[.slice B0 n d0, .slice B1 n1 d1, .slice B2 0 d2, .slice B3 n3 d3], .agg #[.slice AI ni cI, .slice AS ns cS]] W fun e w' => (∃ g d, e = .returned (.slice (some ⟨g, 0, none⟩) n d) ∧ VStk w' W.heap.size (.slice (some ⟨g, 0, none⟩) n d) nt) ∧ BelW W w') := Lib.hid fun W B0 B1 B2 B3 d0 d1 d2 d3 AI cI AS cS h hc hp hs => by
    have S := HST.out
    have hlen := S.len
    have hi := S.hi
    have hs2 := S.hs
    have hLP := HLP.out
    have hLS := HLS.out
    have := nets_any c L pin pst B0 B1 B2 B3 AI AS d0 d1 d2 d3 cI cS W W.heap.size (Nat.le_refl _) (by rw [hlen, S.h1, S.h2, S.h3]; exact hc) S.vld.wf S.vld.lvl (by omega) (fun k hk => HPN.out k (by omega)) (by omega) (by rw [hLP]; exact hp) (by rw [hLS]; exact hs) (by rw [hlen, hi, hLP]) (by rw [hlen, hs2, hLS]) HVP.out HVS.out
    rw [hlen, S.h1, S.h2, S.h3, hLP, hLS] at this
    refine this.mono fun e w' ⟨⟨g, d, out, he, hn, hv⟩, hb⟩ => ?_
    have e9 : out = nt := Net.same S.vld.wf S.vld.lvl hn HNT.out fun _ _ _ => rfl
    subst e9
    exact ⟨⟨g, d, he, hv⟩, hb⟩
  have HRW : Hid (∀ W B0 B1 B2 B3 d0 d1 d2 d3 g d, BelW V4 W → Cir W W.heap.size (.agg #[.slice B0 n d0, .slice B1 n1 d1, .slice B2 0 d2, .slice B3 n3 d3]) c → Ks W W.heap.size (.slice (some ⟨g, 0, none⟩) n d) nt → Calls Tryz.prog 8 #[.agg #[.slice B0 n d0, .slice B1 n1 d1, .slice B2 0 d2, .slice B3 n3 d3], .slice (some ⟨g, 0, none⟩) n d] W fun e w' => (∃ D E d f, e = .returned (.agg #[.slice D n3 d, .slice E ns f]) ∧ Ks w' w'.heap.size (.slice D n3 d) lo ∧ Ks w' w'.heap.size (.slice E ns f) ln) ∧ BelW W w') := Lib.hid fun W B0 B1 B2 B3 d0 d1 d2 d3 g d h hc hk => by
    have S := HST.out
    have hlen := S.len
    have := rob_any c nt (fun y hy => (net_in HNT.out HVP.out HVS.out y hy).1) B0 B1 B2 B3 (some ⟨g, 0, none⟩) d0 d1 d2 d3 n d W W.heap.size (Nat.le_refl _) (by rw [hlen, S.h1, S.h2, S.h3]; exact hc) hk (by omega) (by rw [S.h3]; have := S.outs; have := ofC_outs4 { x with mem := false }; rw [← HC.out] at this; have := S.h3; omega)
    rw [hlen, S.h1, S.h2, S.h3, ← HLOV.out, ← HLNV.out, HLO.out, HLN.out] at this
    exact this
  have HOBW : Hid (∀ W, BelW V4 W → Calls Tryz.prog 9 #[.agg #[.slice A0 n c0, .slice A1 n1 c1, .slice A2 0 c2, .slice A3 n3 c3], .slice (some ⟨k1, 0, none⟩) n n] W fun e w' => ∃ g h, e = .returned (.agg #[.slice (some ⟨g, 0, none⟩) n3 n3, .slice (some ⟨h, 0, none⟩) ns ns]) ∧ VRow w' g lo ∧ VRow w' h ln ∧ BelW W w') := Lib.hid fun W h => by
    have S := HST.out
    have hlen := S.len
    have hk := (HR.out W h).2.2.2.ks
    rw [HL1.out] at hk
    have := observe_any c nt A0 A1 A2 A3 (some ⟨k1, 0, none⟩) c0 c1 c2 c3 n n W W.heap.size (Nat.le_refl _) (by rw [hlen, S.h1, S.h2, S.h3]; exact (HCS.out W (joinB HB24.out h)).cir) hk (by omega) S.outs
    rw [hlen, S.h1, S.h2, S.h3, ← HLOV.out, ← HLNV.out] at this
    refine this.mono fun e w' ⟨g, h, h1, h2, h3, _, _, _, h4⟩ => ⟨g, h, by rw [h1, HLO.out, HLN.out], h2, h3, h4⟩
  have HXB : Hid (∀ W, BelW V4 W → BelW V4 W ∧ W.cell? ⟨w.heap.size, 0, none⟩ = some (.int .u8 x.inN) ∧ W.cell? ⟨w.heap.size, 1, none⟩ = some (.int .u8 x.dffs) ∧ W.cell? ⟨w.heap.size, 2, none⟩ = some (.int .u8 x.d0) ∧ W.cell? ⟨w.heap.size, 3, none⟩ = some (.int .u8 x.d1) ∧ W.cell? ⟨w.heap.size, 4, none⟩ = some (.bool x.bus) ∧ W.cell? ⟨w.heap.size, 5, none⟩ = some (.bool false) ∧ W.cell? ⟨w.heap.size, 6, none⟩ = some (.int .u8 x.p0) ∧ W.cell? ⟨w.heap.size, 7, none⟩ = some (.int .u8 x.p1) ∧ W.cell? ⟨w.heap.size, 8, none⟩ = some (.int .u8 x.p2) ∧ W.cell? ⟨w.heap.size, 9, none⟩ = some (.int .u8 x.p3) ∧ W.cell? ⟨w.heap.size, 10, none⟩ = some sG ∧ W.cell? ⟨w.heap.size, 11, none⟩ = some sA ∧ W.cell? ⟨w.heap.size + 1, 0, none⟩ = some (.slice Aqi mqi cqi) ∧ W.cell? ⟨w.heap.size + 1, 1, none⟩ = some (.slice Aqs mqs cqs) ∧ W.cell? ⟨qc, 0, none⟩ = some (.slice A0 n c0) ∧ W.cell? ⟨qc, 1, none⟩ = some (.slice A1 n1 c1) ∧ W.cell? ⟨qc, 2, none⟩ = some (.slice A2 0 c2) ∧ W.cell? ⟨qc, 3, none⟩ = some (.slice A3 n3 c3)) := Lib.hid fun W h => by
    obtain ⟨f0, f1⟩ := HFX.out W (joinB HB24.out h)
    obtain ⟨a0, a1, a2, a3⟩ := HCE.out W (joinB HB24.out h)
    exact ⟨h, f0.cell 0, f0.cell 1, f0.cell 2, f0.cell 3, f0.cell 4, f0.cell 5, f0.cell 6, f0.cell 7, f0.cell 8, f0.cell 9, f0.cell 10, f0.cell 11, f1.cell 0, f1.cell 1, a0, a1, a2, a3⟩
  have HOX : Hid (∀ W, BelW V4 W → Calls Tryz.prog 4 #[.agg #[.int .u8 x.inN, .int .u8 x.dffs, .int .u8 x.d0, .int .u8 x.d1, .bool x.bus, .bool false, .int .u8 x.p0, .int .u8 x.p1, .int .u8 x.p2, .int .u8 x.p3, sG, sA]] W fun e w' => (∃ B0 B1 B2 B3 d0 d1 d2 d3, e = .returned (.agg #[.slice B0 n d0, .slice B1 n1 d1, .slice B2 0 d2, .slice B3 n3 d3]) ∧ Cir w' w'.heap.size (.agg #[.slice B0 n d0, .slice B1 n1 d1, .slice B2 0 d2, .slice B3 n3 d3]) c) ∧ BelW W w') := Lib.hid fun W h => HOW.out W (joinB HB24.out h)
  have HPX : Hid (∀ W, BelW V4 W → Calls Tryz.prog 5 #[.agg #[.slice Aqi mqi cqi, .slice Aqs mqs cqs], .agg #[.slice A0 n c0, .slice A1 n1 c1, .slice A2 0 c2, .slice A3 n3 c3]] W fun e w' => ∃ AI cI AS cS, e = .returned (.agg #[.slice AI ni cI, .slice AS ns cS]) ∧ VStk w' W.heap.size (.slice AI ni cI) pin ∧ VStk w' W.heap.size (.slice AS ns cS) pst ∧ BelW W w') := Lib.hid fun W h => HPW.out W (joinB HB24.out h)
  have hs4 : BelW V4 V4 := Below.refl _ _
  clear hn4 hfr hb4 HV4 HQ4 HPW HOW
  go_region_held3 (fun w' => BelW V4 w' ∧ w'.cell? ⟨w.heap.size, 0, none⟩ = some (.int .u8 x.inN) ∧ w'.cell? ⟨w.heap.size, 1, none⟩ = some (.int .u8 x.dffs) ∧ w'.cell? ⟨w.heap.size, 2, none⟩ = some (.int .u8 x.d0) ∧ w'.cell? ⟨w.heap.size, 3, none⟩ = some (.int .u8 x.d1) ∧ w'.cell? ⟨w.heap.size, 4, none⟩ = some (.bool x.bus) ∧ w'.cell? ⟨w.heap.size, 5, none⟩ = some (.bool false) ∧ w'.cell? ⟨w.heap.size, 6, none⟩ = some (.int .u8 x.p0) ∧ w'.cell? ⟨w.heap.size, 7, none⟩ = some (.int .u8 x.p1) ∧ w'.cell? ⟨w.heap.size, 8, none⟩ = some (.int .u8 x.p2) ∧ w'.cell? ⟨w.heap.size, 9, none⟩ = some (.int .u8 x.p3) ∧ w'.cell? ⟨w.heap.size, 10, none⟩ = some sG ∧ w'.cell? ⟨w.heap.size, 11, none⟩ = some sA ∧ w'.cell? ⟨w.heap.size + 1, 0, none⟩ = some (.slice Aqi mqi cqi) ∧ w'.cell? ⟨w.heap.size + 1, 1, none⟩ = some (.slice Aqs mqs cqs) ∧ w'.cell? ⟨qc, 0, none⟩ = some (.slice A0 n c0) ∧ w'.cell? ⟨qc, 1, none⟩ = some (.slice A1 n1 c1) ∧ w'.cell? ⟨qc, 2, none⟩ = some (.slice A2 0 c2) ∧ w'.cell? ⟨qc, 3, none⟩ = some (.slice A3 n3 c3))
    ((refine HXB.out _ ?_; first | (with_reducible assumption) | (refine BelW.drew ?_; with_reducible assumption)))
    (first
      | (go_at_call 4; (with_reducible refine Calls.mono (HOX.out _ ?_) ?_); · (first | (with_reducible assumption) | (refine BelW.drew ?_; with_reducible assumption))
         rintro e w5 ⟨⟨B0, B1, B2, B3, d0, d1, d2, d3, rfl, hcr⟩, hb5⟩
         have hs5 : BelW V4 w5 := (by refine BelW.next ?_ hb5; first | (with_reducible assumption) | (refine BelW.drew ?_; with_reducible assumption)))
      | (go_at_call 5; (with_reducible refine Calls.mono (HPX.out _ ?_) ?_); · (first | (with_reducible assumption) | (refine BelW.drew ?_; with_reducible assumption))
         rintro e w6 ⟨EI, fI, ES, fS, rfl, hp1, hp2, hb6⟩
         have hs6 : BelW V4 w6 := (by refine BelW.next ?_ hb6; first | (with_reducible assumption) | (refine BelW.drew ?_; with_reducible assumption))
         have hcr6 := (hcr.below hb6).more (Below.size hb6))
      | (go_at_call 7; (with_reducible refine Calls.mono (HNW.out _ _ _ _ _ _ _ _ _ _ _ _ _ ?_ ?_ ?_ ?_) ?_)
         · (first | (with_reducible assumption) | (refine BelW.drew ?_; with_reducible assumption))
         · exact hcr6
         · exact hp1.ks
         · exact hp2.ks
         rintro e w7 ⟨⟨g7, d7, rfl, hv7⟩, hb7⟩
         have hs7 : BelW V4 w7 := (by refine BelW.next ?_ hb7; first | (with_reducible assumption) | (refine BelW.drew ?_; with_reducible assumption))))
  obtain ⟨-, x0, x1, x2, x3, x4, x5, x6, x7, x8, x9, x10, x11, -, -, -, -, -, -⟩ := HXB.out w7 hs7
  have HV7 := Lib.hid (fun W (h : BelW w7 W) => (hv7.below h).ks)
  have HS7 := Lib.hid hs7
  clear hs4 hb5 hs5 hcr hp1 hp2 hb6 hs6 hcr6 hv7 hb7
  go_upto_region 7 with (first
    | (go_at_call 4; (with_reducible refine (HOX.out _ hs7).mono ?_); rintro e w8 ⟨⟨E0, E1, E2, E3, e0, e1, e2, e3, rfl, hcr⟩, hb8⟩; have hs8 : BelW V4 w8 := joinB hs7 hb8; have HCR8 := Lib.hid hcr; have HK8 := Lib.hid (HV7.out w8 hb8); have HB78 : Hid (BelW w7 w8) := Lib.hid hb8; clear hcr hb8 x0 x1 x2 x3 x4 x5 x6 x7 x8 x9 x10 x11)
    | (go_at_call 8; (with_reducible refine (HRW.out _ _ _ _ _ _ _ _ _ _ _ hs8 HCR8.out HK8.out).mono ?_); rintro e w9 ⟨⟨D, E, dD, dE, rfl, hd1, hd2⟩, hb9⟩; have hs9 : BelW V4 w9 := joinB hs8 hb9; have HD1 := Lib.hid hd1; have HD2 := Lib.hid hd2; have HB79 : Hid (BelW w8 w9) := Lib.hid hb9; clear hd1 hd2 hb9))
  obtain ⟨V9, HV9⟩ := named (w9.alloc (.cells #[.slice D n3 dD, .slice E ns dE] 42))
  have hn9 : BelW w9 V9 := by rw [HV9.out]; exact below_new (Below.refl _ _) _
  have hfw : Fr V9 w9.heap.size 42 [.slice D n3 dD, .slice E ns dE] := by rw [HV9.out]; exact Fr.made _ _ _ rfl
  obtain ⟨qw, HQW⟩ := named w9.heap.size
  rw [← HQW.out] at hfw
  rw [← HV9.out, ← HQW.out]
  have hsV9 : BelW V4 V9 := joinB hs9 hn9
  have HN7 : Hid (BelW w8 V9) := Lib.hid (joinB HB79.out hn9)
  have HK9 : Hid (∀ W, BelW V9 W → Fr W qw 42 [.slice D n3 dD, .slice E ns dE] ∧ Ks W W.heap.size (.slice D n3 dD) lo ∧ Ks W W.heap.size (.slice E ns dE) ln) := Lib.hid fun W hh =>
    have h4 : BelW w9 W := joinB hn9 hh
    ⟨hfw.below hh, Arr.keep stays_u8 HD1.out (Below.size h4) fun _ hp => Below.cell h4 hp, Arr.keep stays_u8 HD2.out (Below.size h4) fun _ hp => Below.cell h4 hp⟩
  have HSV9 := Lib.hid hsV9
  obtain ⟨-, -, -, -, -, -, -, -, -, -, -, -, -, -, -, z0, z1, z2, z3⟩ := HXB.out V9 hsV9
  clear hn9 hfw HV9 HQW hs8 hs9 hs7
  go_upto_region 8 with (go_at_call 9; (with_reducible refine (HOBW.out _ hsV9).mono ?_); rintro e wa ⟨ga, ha, rfl, r1, r2, hb⟩; have HA1 := Lib.hid r1; have HA2 := Lib.hid r2; have HBA : Hid (BelW V9 wa) := Lib.hid hb; clear r1 r2 hb z0 z1 z2 z3)
  obtain ⟨Va, HVa⟩ := named (wa.alloc (.cells #[.slice (some ⟨ga, 0, none⟩) n3 n3, .slice (some ⟨ha, 0, none⟩) ns ns] 42))
  have hna : BelW wa Va := by rw [HVa.out]; exact below_new (Below.refl _ _) _
  have hfa : Fr Va wa.heap.size 42 [.slice (some ⟨ga, 0, none⟩) n3 n3, .slice (some ⟨ha, 0, none⟩) ns ns] := by rw [HVa.out]; exact Fr.made _ _ _ rfl
  obtain ⟨qo, HQO⟩ := named wa.heap.size
  rw [← HQO.out] at hfa
  rw [← HVa.out, ← HQO.out]
  have h9a : BelW V9 Va := joinB HBA.out hna
  have hsVa : BelW V4 Va := joinB hsV9 h9a
  have HKA : Hid (∀ W, BelW Va W → Fr W qo 42 [.slice (some ⟨ga, 0, none⟩) n3 n3, .slice (some ⟨ha, 0, none⟩) ns ns] ∧ Ks W W.heap.size (.slice (some ⟨ga, 0, none⟩) n3 n3) lo ∧ Ks W W.heap.size (.slice (some ⟨ha, 0, none⟩) ns ns) ln) := Lib.hid fun W hh => by
    have a1 := ((HA1.out.below hna).below hh).ks
    have a2 := ((HA2.out.below hna).below hh).ks
    rw [HLO.out] at a1
    rw [HLN.out] at a2
    exact ⟨hfa.below hh, a1, a2⟩
  have H9A := Lib.hid h9a
  obtain ⟨-, -, -, -, -, -, -, -, -, -, -, -, -, y0, y1, z0, z1, z2, z3⟩ := HXB.out Va hsVa
  clear hna hfa h9a HVa HQO hsV9
  go_upto_region 9 with (go_at_call 5; (with_reducible refine (HPX.out _ hsVa).mono ?_); rintro e wb ⟨GI, eI, GS, eS, rfl, r1, r2, hb⟩; have HG1' := Lib.hid r1; have HG2' := Lib.hid r2; have HBB : Hid (BelW Va wb) := Lib.hid hb; clear r1 r2 hb y0 y1 z0 z1 z2 z3)
  obtain ⟨Vb, HVb⟩ := named (wb.alloc (.cells #[.slice GI ni eI, .slice GS ns eS] 39))
  have hnb : BelW wb Vb := by rw [HVb.out]; exact below_new (Below.refl _ _) _
  have hfb : Fr Vb wb.heap.size 39 [.slice GI ni eI, .slice GS ns eS] := by rw [HVb.out]; exact Fr.made _ _ _ rfl
  obtain ⟨qa, HQA⟩ := named wb.heap.size
  rw [← HQA.out] at hfb
  rw [← HVb.out, ← HQA.out]
  have hab : BelW Va Vb := joinB HBB.out hnb
  have hs4b : BelW V4 Vb := joinB hsVa hab
  have h9b : BelW V9 Vb := joinB H9A.out hab
  have h7b : BelW w7 Vb := joinB HB78.out (joinB HN7.out h9b)
  have HAB := Lib.hid (And.intro hab (And.intro hs4b (And.intro h9b h7b)))
  have HKK : Hid (∀ W, BelW Vb W → Ks W W.heap.size (.slice (some ⟨k1, 0, none⟩) n n) nt ∧ Ks W W.heap.size (.slice (some ⟨g7, 0, none⟩) n d7) nt ∧ Ks W W.heap.size (.slice (some ⟨g1, 0, none⟩) n3 n3) lo ∧ Ks W W.heap.size (.slice (some ⟨h1, 0, none⟩) ns ns) ln ∧ Ks W W.heap.size (.slice D n3 dD) lo ∧ Ks W W.heap.size (.slice E ns dE) ln ∧ Ks W W.heap.size (.slice (some ⟨ga, 0, none⟩) n3 n3) lo ∧ Ks W W.heap.size (.slice (some ⟨ha, 0, none⟩) ns ns) ln ∧ Ks W W.heap.size (.slice BI ni dI) pin ∧ Ks W W.heap.size (.slice BS ns dS) pst ∧ Ks W W.heap.size (.slice GI ni eI) pin ∧ Ks W W.heap.size (.slice GS ns eS) pst) := Lib.hid fun W hh => by
    obtain ⟨-, a1, a2, a3⟩ := HR.out W (joinB HAB.out.2.1 hh)
    have b1 := a1.ks
    have b2 := a2.ks
    have b3 := a3.ks
    rw [HLO.out] at b1
    rw [HLN.out] at b2
    rw [HL1.out] at b3
    have c9 := HK9.out W (joinB HAB.out.2.2.1 hh)
    have ca := HKA.out W (joinB HAB.out.1 hh)
    have cp := HK3.out W (joinB HB34.out (joinB HAB.out.2.1 hh))
    exact ⟨b3, HV7.out W (joinB HAB.out.2.2.2 hh), b1, b2, c9.2.1, c9.2.2, ca.2.1, ca.2.2, cp.2.1, cp.2.2, ((HG1'.out.below hnb).below hh).ks, ((HG2'.out.below hnb).below hh).ks⟩
  have HZ : Hid (∀ W, BelW Vb W → BelW Vb W ∧ W.cell? ⟨w.heap.size, 0, none⟩ = some (.int .u8 x.inN) ∧ W.cell? ⟨w.heap.size, 1, none⟩ = some (.int .u8 x.dffs) ∧ W.cell? ⟨w.heap.size, 2, none⟩ = some (.int .u8 x.d0) ∧ W.cell? ⟨w.heap.size, 3, none⟩ = some (.int .u8 x.d1) ∧ W.cell? ⟨w.heap.size, 4, none⟩ = some (.bool x.bus) ∧ W.cell? ⟨w.heap.size, 5, none⟩ = some (.bool false) ∧ W.cell? ⟨w.heap.size, 6, none⟩ = some (.int .u8 x.p0) ∧ W.cell? ⟨w.heap.size, 7, none⟩ = some (.int .u8 x.p1) ∧ W.cell? ⟨w.heap.size, 8, none⟩ = some (.int .u8 x.p2) ∧ W.cell? ⟨w.heap.size, 9, none⟩ = some (.int .u8 x.p3) ∧ W.cell? ⟨w.heap.size, 10, none⟩ = some sG ∧ W.cell? ⟨w.heap.size, 11, none⟩ = some sA ∧ W.cell? ⟨qc, 0, none⟩ = some (.slice A0 n c0) ∧ W.cell? ⟨qc, 1, none⟩ = some (.slice A1 n1 c1) ∧ W.cell? ⟨qc, 2, none⟩ = some (.slice A2 0 c2) ∧ W.cell? ⟨qc, 3, none⟩ = some (.slice A3 n3 c3) ∧ W.cell? ⟨q4, 0, none⟩ = some (.slice (some ⟨g1, 0, none⟩) n3 n3) ∧ W.cell? ⟨q4, 1, none⟩ = some (.slice (some ⟨h1, 0, none⟩) ns ns) ∧ W.cell? ⟨qw, 0, none⟩ = some (.slice D n3 dD) ∧ W.cell? ⟨qw, 1, none⟩ = some (.slice E ns dE) ∧ W.cell? ⟨qo, 0, none⟩ = some (.slice (some ⟨ga, 0, none⟩) n3 n3) ∧ W.cell? ⟨qo, 1, none⟩ = some (.slice (some ⟨ha, 0, none⟩) ns ns) ∧ W.cell? ⟨qp, 0, none⟩ = some (.slice BI ni dI) ∧ W.cell? ⟨qp, 1, none⟩ = some (.slice BS ns dS) ∧ W.cell? ⟨qa, 0, none⟩ = some (.slice GI ni eI) ∧ W.cell? ⟨qa, 1, none⟩ = some (.slice GS ns eS)) := Lib.hid fun W hh => by
    obtain ⟨-, a0, a1, a2, a3, a4, a5, a6, a7, a8, a9, a10, a11, -, -, b0, b1, b2, b3⟩ := HXB.out W (joinB HAB.out.2.1 hh)
    have fr := (HR.out W (joinB HAB.out.2.1 hh)).1
    have fw := (HK9.out W (joinB HAB.out.2.2.1 hh)).1
    have fo := (HKA.out W (joinB HAB.out.1 hh)).1
    have fp := (HK3.out W (joinB HB34.out (joinB HAB.out.2.1 hh))).1
    exact ⟨hh, a0, a1, a2, a3, a4, a5, a6, a7, a8, a9, a10, a11, b0, b1, b2, b3, fr.cell 0, fr.cell 1, fw.cell 0, fw.cell 1, fo.cell 0, fo.cell 1, fp.cell 0, fp.cell 1, (hfb.below hh).cell 0, (hfb.below hh).cell 1⟩
  have HSG : Hid (∀ W l A m cc A' m' cc', Ks W W.heap.size (.slice A m cc) l → Ks W W.heap.size (.slice A' m' cc') l → Calls Tryz.prog 10 #[.slice A m cc, .slice A' m' cc'] W fun e w' => e = .returned (.int .i64 0) ∧ BelW W w') := Lib.hid fun W l A m cc A' m' cc' h h' => by
    have := same6_any l l m m' A A' cc cc' W _ _ h h'
    rwa [if_pos rfl] at this
  have hsb : BelW Vb Vb := Below.refl _ _
  clear hnb hfb hab hs4b h9b h7b HVb HQA hsVa
  have HS1 : Hid (∀ W, BelW Vb W → Calls Tryz.prog 10 #[.slice (some ⟨k1, 0, none⟩) n n, .slice (some ⟨g7, 0, none⟩) n d7] W fun e w' => e = .returned (.int .i64 0) ∧ BelW W w') := Lib.hid fun W h => HSG.out W nt _ _ _ _ _ _ (HKK.out W h).1 (HKK.out W h).2.1
  have HS2 : Hid (∀ W, BelW Vb W → Calls Tryz.prog 10 #[.slice (some ⟨g1, 0, none⟩) n3 n3, .slice D n3 dD] W fun e w' => e = .returned (.int .i64 0) ∧ BelW W w') := Lib.hid fun W h => HSG.out W lo _ _ _ _ _ _ (HKK.out W h).2.2.1 (HKK.out W h).2.2.2.2.1
  have HS3 : Hid (∀ W, BelW Vb W → Calls Tryz.prog 10 #[.slice (some ⟨h1, 0, none⟩) ns ns, .slice E ns dE] W fun e w' => e = .returned (.int .i64 0) ∧ BelW W w') := Lib.hid fun W h => HSG.out W ln _ _ _ _ _ _ (HKK.out W h).2.2.2.1 (HKK.out W h).2.2.2.2.2.1
  have HS4 : Hid (∀ W, BelW Vb W → Calls Tryz.prog 10 #[.slice (some ⟨ga, 0, none⟩) n3 n3, .slice (some ⟨g1, 0, none⟩) n3 n3] W fun e w' => e = .returned (.int .i64 0) ∧ BelW W w') := Lib.hid fun W h => HSG.out W lo _ _ _ _ _ _ (HKK.out W h).2.2.2.2.2.2.1 (HKK.out W h).2.2.1
  have HS5 : Hid (∀ W, BelW Vb W → Calls Tryz.prog 10 #[.slice (some ⟨ha, 0, none⟩) ns ns, .slice (some ⟨h1, 0, none⟩) ns ns] W fun e w' => e = .returned (.int .i64 0) ∧ BelW W w') := Lib.hid fun W h => HSG.out W ln _ _ _ _ _ _ (HKK.out W h).2.2.2.2.2.2.2.1 (HKK.out W h).2.2.2.1
  have HS6 : Hid (∀ W, BelW Vb W → Calls Tryz.prog 10 #[.slice BI ni dI, .slice GI ni eI] W fun e w' => e = .returned (.int .i64 0) ∧ BelW W w') := Lib.hid fun W h => HSG.out W pin _ _ _ _ _ _ (HKK.out W h).2.2.2.2.2.2.2.2.1 (HKK.out W h).2.2.2.2.2.2.2.2.2.2.1
  have HS7 : Hid (∀ W, BelW Vb W → Calls Tryz.prog 10 #[.slice BS ns dS, .slice GS ns eS] W fun e w' => e = .returned (.int .i64 0) ∧ BelW W w') := Lib.hid fun W h => HSG.out W pst _ _ _ _ _ _ (HKK.out W h).2.2.2.2.2.2.2.2.2.1 (HKK.out W h).2.2.2.2.2.2.2.2.2.2.2
  have HNS2 : Hid (∀ W B0 B1 B2 B3 d0 d1 d2 d3, BelW Vb W → Cir W W.heap.size (.agg #[.slice B0 n d0, .slice B1 n1 d1, .slice B2 0 d2, .slice B3 n3 d3]) c → Calls Tryz.prog 11 #[.agg #[.slice A0 n c0, .slice A1 n1 c1, .slice A2 0 c2, .slice A3 n3 c3], .agg #[.slice B0 n d0, .slice B1 n1 d1, .slice B2 0 d2, .slice B3 n3 d3]] W fun e w' => e = .returned (.bool true) ∧ BelW W w') := Lib.hid fun W B0 B1 B2 B3 d0 d1 d2 d3 h hc => by
    have := same_any c c _ _ W W.heap.size W.heap.size (Nat.le_refl _) (Nat.le_refl _) (HCS.out W (joinB HB24.out (joinB HAB.out.2.1 h))).cir hc
    rw [ckEq_self] at this
    exact this
  have HLV : Hid (∀ W, BelW Vb W → Calls Tryz.prog 12 #[] W fun e w' => e = .returned (.bool true) ∧ BelW W w') := Lib.hid fun W h => lives6_any W (HCS.out W (joinB HB24.out (joinB HAB.out.2.1 h))).tabs
  have HCO : Hid (∀ W, BelW Vb W → Calls Tryz.prog 4 #[.agg #[.int .u8 x.inN, .int .u8 x.dffs, .int .u8 x.d0, .int .u8 x.d1, .bool x.bus, .bool false, .int .u8 x.p0, .int .u8 x.p1, .int .u8 x.p2, .int .u8 x.p3, sG, sA]] W fun e w' => (∃ B0 B1 B2 B3 d0 d1 d2 d3, e = .returned (.agg #[.slice B0 n d0, .slice B1 n1 d1, .slice B2 0 d2, .slice B3 n3 d3]) ∧ Cir w' w'.heap.size (.agg #[.slice B0 n d0, .slice B1 n1 d1, .slice B2 0 d2, .slice B3 n3 d3]) c) ∧ BelW W w') := Lib.hid fun W h => HOX.out W (joinB HAB.out.2.1 h)
  have HFIN : Hid (∀ W, BelW Vb W → Below w.heap.size w W) := Lib.hid fun W h => joinB HB1.out (joinB HB2V.out (joinB HB24.out (joinB HAB.out.2.1 h)))
  obtain ⟨-, -, -, -, -, -, -, -, -, -, -, -, -, -, -, -, -, r0, r1, s0, s1, -, -, -, -, -, -⟩ := HZ.out Vb hsb
  go_upto_region 11 with (first
    | (go_at_call 10; (with_reducible refine (HS1.out _ hsb).mono ?_); rintro e wc ⟨rfl, hb⟩; have hsc : BelW Vb wc := joinB hsb hb; clear hb r0 r1 s0 s1; obtain ⟨-, -, -, -, -, -, -, -, -, -, -, -, -, -, -, -, -, r0, r1, s0, s1, -, -, -, -, -, -⟩ := HZ.out wc hsc)
    | (go_at_call 10; (with_reducible refine (HS2.out _ hsc).mono ?_); rintro e wd ⟨rfl, hb⟩; have hsd : BelW Vb wd := joinB hsc hb; clear hb r0 r1 s0 s1; obtain ⟨-, -, -, -, -, -, -, -, -, -, -, -, -, -, -, -, -, r0, r1, s0, s1, -, -, -, -, -, -⟩ := HZ.out wd hsd)
    | (go_at_call 10; (with_reducible refine (HS3.out _ hsd).mono ?_); rintro e we ⟨rfl, hb⟩; have hse : BelW Vb we := joinB hsd hb; clear hb r0 r1 s0 s1; obtain ⟨-, -, -, -, -, -, -, -, -, -, -, -, -, -, -, -, -, r0, r1, s0, s1, -, -, -, -, -, -⟩ := HZ.out we hse))
  clear hsb hsc hsd r0 r1 s0 s1
  go_region_held3 (fun w' => BelW Vb w' ∧ w'.cell? ⟨w.heap.size, 0, none⟩ = some (.int .u8 x.inN) ∧ w'.cell? ⟨w.heap.size, 1, none⟩ = some (.int .u8 x.dffs) ∧ w'.cell? ⟨w.heap.size, 2, none⟩ = some (.int .u8 x.d0) ∧ w'.cell? ⟨w.heap.size, 3, none⟩ = some (.int .u8 x.d1) ∧ w'.cell? ⟨w.heap.size, 4, none⟩ = some (.bool x.bus) ∧ w'.cell? ⟨w.heap.size, 5, none⟩ = some (.bool false) ∧ w'.cell? ⟨w.heap.size, 6, none⟩ = some (.int .u8 x.p0) ∧ w'.cell? ⟨w.heap.size, 7, none⟩ = some (.int .u8 x.p1) ∧ w'.cell? ⟨w.heap.size, 8, none⟩ = some (.int .u8 x.p2) ∧ w'.cell? ⟨w.heap.size, 9, none⟩ = some (.int .u8 x.p3) ∧ w'.cell? ⟨w.heap.size, 10, none⟩ = some sG ∧ w'.cell? ⟨w.heap.size, 11, none⟩ = some sA ∧ w'.cell? ⟨qc, 0, none⟩ = some (.slice A0 n c0) ∧ w'.cell? ⟨qc, 1, none⟩ = some (.slice A1 n1 c1) ∧ w'.cell? ⟨qc, 2, none⟩ = some (.slice A2 0 c2) ∧ w'.cell? ⟨qc, 3, none⟩ = some (.slice A3 n3 c3) ∧ w'.cell? ⟨q4, 0, none⟩ = some (.slice (some ⟨g1, 0, none⟩) n3 n3) ∧ w'.cell? ⟨q4, 1, none⟩ = some (.slice (some ⟨h1, 0, none⟩) ns ns) ∧ w'.cell? ⟨qw, 0, none⟩ = some (.slice D n3 dD) ∧ w'.cell? ⟨qw, 1, none⟩ = some (.slice E ns dE) ∧ w'.cell? ⟨qo, 0, none⟩ = some (.slice (some ⟨ga, 0, none⟩) n3 n3) ∧ w'.cell? ⟨qo, 1, none⟩ = some (.slice (some ⟨ha, 0, none⟩) ns ns) ∧ w'.cell? ⟨qp, 0, none⟩ = some (.slice BI ni dI) ∧ w'.cell? ⟨qp, 1, none⟩ = some (.slice BS ns dS) ∧ w'.cell? ⟨qa, 0, none⟩ = some (.slice GI ni eI) ∧ w'.cell? ⟨qa, 1, none⟩ = some (.slice GS ns eS))
    ((refine HZ.out _ ?_; first | (with_reducible assumption) | (refine BelW.drew ?_; with_reducible assumption)))
    (first
      | (go_at_call 10; (with_reducible refine Calls.mono (HS4.out _ ?_) ?_); · (first | (with_reducible assumption) | (refine BelW.drew ?_; with_reducible assumption))
         rintro e wf ⟨rfl, hbf⟩
         have hsf : BelW Vb wf := (by refine BelW.next ?_ hbf; first | (with_reducible assumption) | (refine BelW.drew ?_; with_reducible assumption)))
      | (go_at_call 10; (with_reducible refine Calls.mono (HS5.out _ ?_) ?_); · (first | (with_reducible assumption) | (refine BelW.drew ?_; with_reducible assumption))
         rintro e wg ⟨rfl, hbg⟩
         have hsg : BelW Vb wg := (by refine BelW.next ?_ hbg; first | (with_reducible assumption) | (refine BelW.drew ?_; with_reducible assumption)))
      | (go_at_call 10; (with_reducible refine Calls.mono (HS6.out _ ?_) ?_); · (first | (with_reducible assumption) | (refine BelW.drew ?_; with_reducible assumption))
         rintro e wh ⟨rfl, hbh⟩
         have hsh : BelW Vb wh := (by refine BelW.next ?_ hbh; first | (with_reducible assumption) | (refine BelW.drew ?_; with_reducible assumption)))
      | (go_at_call 10; (with_reducible refine Calls.mono (HS7.out _ ?_) ?_); · (first | (with_reducible assumption) | (refine BelW.drew ?_; with_reducible assumption))
         rintro e wi ⟨rfl, hbi⟩
         have hsi : BelW Vb wi := (by refine BelW.next ?_ hbi; first | (with_reducible assumption) | (refine BelW.drew ?_; with_reducible assumption)))
      | (go_at_call 4; (with_reducible refine Calls.mono (HCO.out _ ?_) ?_); · (first | (with_reducible assumption) | (refine BelW.drew ?_; with_reducible assumption))
         rintro e wj ⟨⟨B0', B1', B2', B3', f0, f1, f2, f3, rfl, hcj⟩, hbj⟩
         have hsj : BelW Vb wj := (by refine BelW.next ?_ hbj; first | (with_reducible assumption) | (refine BelW.drew ?_; with_reducible assumption)))
      | (go_at_call 11; (with_reducible refine Calls.mono (HNS2.out _ _ _ _ _ _ _ _ _ ?_ ?_) ?_)
         · (first | (with_reducible assumption) | (refine BelW.drew ?_; with_reducible assumption))
         · exact hcj
         rintro e wk ⟨rfl, hbk⟩
         have hsk : BelW Vb wk := (by refine BelW.next ?_ hbk; first | (with_reducible assumption) | (refine BelW.drew ?_; with_reducible assumption)))
      | (go_at_call 12; (with_reducible refine Calls.mono (HLV.out _ ?_) ?_); · (first | (with_reducible assumption) | (refine BelW.drew ?_; with_reducible assumption))
         rintro e wl ⟨rfl, hbl⟩
         have hsl : BelW Vb wl := (by refine BelW.next ?_ hbl; first | (with_reducible assumption) | (refine BelW.drew ?_; with_reducible assumption))))
  go_wp2
  go_ret
  exact ⟨rfl, HFIN.out _ hsl⟩
end Go.Proofs.YtfcdhoaccmckoaaGreatDoor
