/- SimsUnique: the law's walk. -/
import Derived.Test.YtbkfpaklmepglaaDoorUnh
import Derived.Test.YtbkfpaklmepglaaDoorSml
import Derived.StillTailTactics
namespace Go.Proofs.YtbkfpaklmepglaaDoor
open Go.RowKit

set_option maxRecDepth 100000 in
set_option maxHeartbeats 8000000 in
theorem unique_law (x : Cx) (hx : Cok x) (sG sA : Value) (lqi lqs : List Int) (Aqi Aqs : Option Addr) (mqi mqs cqi cqs : Nat) (lo : List Int) (Ao : Option Addr) (mo co : Nat) (w : World) (hT : Lg.Tabs w) (hG : Gs w w.heap.size sG x.gates) (hA : Ks w w.heap.size sA x.outs)
    (kqi : Ks w w.heap.size (.slice Aqi mqi cqi) lqi) (kqs : Ks w w.heap.size (.slice Aqs mqs cqs) lqs) (vqi : ∀ y ∈ lqi, 0 ≤ y ∧ y ≤ 255) (vqs : ∀ y ∈ lqs, 0 ≤ y ∧ y ≤ 255) (ko : Ks w w.heap.size (.slice Ao mo co) lo) (vo : ∀ y ∈ lo, 0 ≤ y ∧ y ≤ 255) :
    Calls Tryd.prog 5 #[.agg #[.int .u8 x.inN, .int .u8 x.dffs, .int .u8 x.d0, .int .u8 x.d1, .bool x.bus, .bool x.mem, .int .u8 x.p0, .int .u8 x.p1, .int .u8 x.p2, .int .u8 x.p3, sG, sA], .agg #[.slice Aqi mqi cqi, .slice Aqs mqs cqs], .slice Ao mo co] w fun e w' => e = .returned (.bool true) ∧ Below w.heap.size w w' := by
  obtain ⟨c, HC⟩ := named (ofC { x with mem := false })
  obtain ⟨n, HN⟩ := named c.nodes.length
  obtain ⟨W1, HW1⟩ := named ((w.alloc (.cells #[.int .u8 x.inN, .int .u8 x.dffs, .int .u8 x.d0, .int .u8 x.d1, .bool x.bus, .bool false, .int .u8 x.p0, .int .u8 x.p1, .int .u8 x.p2, .int .u8 x.p3, sG, sA] 49)).alloc (.cells #[.slice Aqi mqi cqi, .slice Aqs mqs cqs] 51))
  have hb1 : BelW w W1 := by rw [HW1.out]; exact below_new (below_new (Below.refl _ _) _) _
  have hf0 : Fr W1 (w.heap.size) 49 (#[.int .u8 x.inN, .int .u8 x.dffs, .int .u8 x.d0, .int .u8 x.d1, .bool x.bus, .bool false, .int .u8 x.p0, .int .u8 x.p1, .int .u8 x.p2, .int .u8 x.p3, sG, sA]).toList := by rw [HW1.out]; exact Fr.alloc (Fr.made _ _ _ (by simp)) _
  have hf1 : Fr W1 (w.heap.size + 1) 51 (#[.slice Aqi mqi cqi, .slice Aqs mqs cqs]).toList := by rw [HW1.out]; exact Fr.made _ _ _ (by simp)
  have HOF := Lib.hid (ofc_s x hx sG sA w W1 hb1 hG hA HC.out HN.out)
  have HXX := Lib.hid hx
  have HT1 := Lib.hid (hT.below hb1)
  have HB1 := Lib.hid hb1
  have HKP : Hid (∀ {v l W}, BelW W1 W → Ks w w.heap.size v l → Ks W W.heap.size v l) := Lib.hid fun h hk => Arr.keep stays_u8 hk (joinB HB1.out h).size fun _ hp => (joinB HB1.out h).cell hp
  have HKqi := Lib.hid kqi
  have HKqs := Lib.hid kqs
  have HVq := Lib.hid (And.intro vqi vqs)
  have HF0 := Lib.hid hf0
  have HF1 := Lib.hid hf1
  clear hT hG hA hx hb1 kqi kqs vqi vqs hf0 hf1
  go_enter Tryd.func5, Tryd.ntmps5
  go_upto_region 2 with (fail)
  rw [← HW1.out]
  have x0 := HF0.out.cell 0
  have x1 := HF0.out.cell 1
  have x2 := HF0.out.cell 2
  have x3 := HF0.out.cell 3
  have x4 := HF0.out.cell 4
  have x5 := HF0.out.cell 5
  have x6 := HF0.out.cell 6
  have x7 := HF0.out.cell 7
  have x8 := HF0.out.cell 8
  have x9 := HF0.out.cell 9
  have x10 := HF0.out.cell 10
  have x11 := HF0.out.cell 11
  go_upto_region 3 with (go_at_call 17; (with_reducible refine HOF.out.mono ?_); rintro e w2 ⟨⟨A0, A1, A2, A3, n1, n3, c0, c1, c2, c3, rfl, hc, hn1, hn3⟩, hb⟩; have HCC := Lib.hid hc; have HB2 := Lib.hid hb; have HN1 := Lib.hid hn1; have HN3 := Lib.hid hn3; clear hc hb hn1 hn3)
  clear x0 x1 x2 x3 x4 x5 x6 x7 x8 x9 x10 x11
  obtain ⟨V2, HV2⟩ := named (w2.alloc (.cells #[.slice A0 n c0, .slice A1 n1 c1, .slice A2 0 c2, .slice A3 n3 c3] 27))
  have hn2 : BelW w2 V2 := by rw [HV2.out]; exact below_new (Below.refl _ _) _
  have hfc2 : Fr V2 w2.heap.size 27 (#[.slice A0 n c0, .slice A1 n1 c1, .slice A2 0 c2, .slice A3 n3 c3]).toList := by rw [HV2.out]; exact Fr.made _ _ _ rfl
  have hb2 : BelW W1 V2 := joinB HB2.out hn2
  obtain ⟨qc, HQC⟩ := named w2.heap.size
  rw [← HQC.out] at hfc2
  rw [← HV2.out, ← HQC.out]
  have hcs2 : Cs c n n1 n3 A0 A1 A2 A3 c0 c1 c2 c3 qc V2 := ⟨HT1.out.below hb2, (HCC.out.below hn2).more (Below.size hn2), hfc2⟩
  have HCS := Lib.hid (fun W (h : BelW V2 W) => hcs2.next h)
  have HCE := Lib.hid (fun W (h : BelW V2 W) => (hcs2.next h).cells)
  have HB2V := Lib.hid hb2
  obtain ⟨ni, HNI⟩ := named (ofTo c.nodes [0] n).length
  obtain ⟨ns, HNS⟩ := named (ofTo c.nodes [14] n).length
  obtain ⟨L, hst⟩ := cst_of x HXX.out HC.out HN.out HN1.out HN3.out HNI.out HNS.out
  have HST := Lib.hid hst
  have hfew : n < 20 := hst.few
  have hniB : ni ≤ n := hst.niB
  have hnsB : ns ≤ n := hst.nsB
  have hpos : 0 < n := by rw [HN.out]; exact ofC_inputs x HC.out
  have HFX : Hid (∀ W, BelW V2 W → Fr W (w.heap.size) 49 (#[.int .u8 x.inN, .int .u8 x.dffs, .int .u8 x.d0, .int .u8 x.d1, .bool x.bus, .bool false, .int .u8 x.p0, .int .u8 x.p1, .int .u8 x.p2, .int .u8 x.p3, sG, sA]).toList ∧ Fr W (w.heap.size + 1) 51 (#[.slice Aqi mqi cqi, .slice Aqs mqs cqs]).toList) := Lib.hid fun W h => ⟨HF0.out.below (joinB HB2V.out h), HF1.out.below (joinB HB2V.out h)⟩
  clear hn2 hfc2 hb2 hcs2 hst HV2 HQC HCC HB2 HW1
  have HKO := Lib.hid ko
  have HVO := Lib.hid vo
  clear ko vo
  obtain ⟨pin, HPIN⟩ := named (takL lqi 4 ni)
  obtain ⟨pst, HPST⟩ := named (takL lqs 3 ns)
  have hpq := (HCS.out V2 (Below.refl _ _)).pOf HST.out (HKP.out HB2V.out HKqi.out) (HKP.out HB2V.out HKqs.out) HVq.out.1 HVq.out.2
  rw [← HPIN.out, ← HPST.out] at hpq
  have HPQ := Lib.hid hpq
  have HLP : Hid (pin.length = ni) := Lib.hid (by rw [HPIN.out, takL_len])
  have HLS : Hid (pst.length = ns) := Lib.hid (by rw [HPST.out, takL_len])
  have HVP : Hid (∀ y ∈ pin, 0 ≤ y ∧ y ≤ 3) := Lib.hid (by rw [HPIN.out]; exact takL_in4 HVq.out.1 _)
  have HVS : Hid (∀ y ∈ pst, 0 ≤ y ∧ y ≤ 3) := Lib.hid (by rw [HPST.out]; exact takL_in3 HVq.out.2 _)
  clear hpq
  obtain ⟨x0, x1, x2, x3⟩ := HCE.out V2 (Below.refl _ _)
  have y0 := (HFX.out V2 (Below.refl _ _)).2.cell 0
  have y1 := (HFX.out V2 (Below.refl _ _)).2.cell 1
  go_upto_region 4 with (go_at_call 18; (with_reducible refine HPQ.out.mono ?_); rintro e w3 ⟨BI, dI, BS, dS, rfl, r1, r2, -, hb⟩; have HP1 := Lib.hid r1; have HP2 := Lib.hid r2; have HB3 : Hid (BelW V2 w3) := Lib.hid hb; clear r1 r2 hb)
  clear x0 x1 x2 x3 y0 y1
  obtain ⟨V3, HV3⟩ := named (w3.alloc (.cells #[.slice BI ni dI, .slice BS ns dS] 30))
  have hn3 : BelW w3 V3 := by rw [HV3.out]; exact below_new (Below.refl _ _) _
  have hfp : Fr V3 w3.heap.size 30 [.slice BI ni dI, .slice BS ns dS] := by rw [HV3.out]; exact Fr.made _ _ _ rfl
  have hb3 : BelW V2 V3 := joinB HB3.out hn3
  obtain ⟨qp, HQP⟩ := named w3.heap.size
  rw [← HQP.out] at hfp
  rw [← HV3.out, ← HQP.out]
  have HK3 : Hid (∀ W, BelW V3 W → Fr W qp 30 [.slice BI ni dI, .slice BS ns dS] ∧ Ks W W.heap.size (.slice BI ni dI) pin ∧ Ks W W.heap.size (.slice BS ns dS) pst) := Lib.hid fun W h => ⟨hfp.below h, ((HP1.out.below hn3).below h).ks, ((HP2.out.below hn3).below h).ks⟩
  have HB23 := Lib.hid hb3
  have k3 := HK3.out V3 (Below.refl _ _)
  have HR4 := Lib.hid ((HCS.out V3 hb3).run HST.out k3.2.1 k3.2.2 HLP.out HLS.out HVP.out HVS.out)
  have y0 := k3.1.cell 0
  have y1 := k3.1.cell 1
  obtain ⟨x0, x1, x2, x3⟩ := HCE.out V3 hb3
  clear hn3 hfp hb3 k3 HV3 HQP
  go_upto_region 5 with (go_at_call 12; (with_reducible refine HR4.out.mono ?_); rintro e w4 ⟨nt, g1, h1, k1, hn, hl, rfl, r1, r2, r3, hb⟩; have HNT := Lib.hid hn; have HL1 := Lib.hid hl; have HG1 := Lib.hid r1; have HH1 := Lib.hid r2; have HI1 := Lib.hid r3; have HB4 : Hid (BelW V3 w4) := Lib.hid hb; clear hn hl r1 r2 r3 hb)
  clear x0 x1 x2 x3 y0 y1
  obtain ⟨V4, HV4⟩ := named (w4.alloc (.cells #[.slice (some ⟨g1, 0, none⟩) n3 n3, .slice (some ⟨h1, 0, none⟩) ns ns] 36))
  have hn4 : BelW w4 V4 := by rw [HV4.out]; exact below_new (Below.refl _ _) _
  obtain ⟨q4, HQ4⟩ := named w4.heap.size
  rw [← HV4.out, ← HQ4.out]
  have hb4 : BelW V3 V4 := joinB HB4.out hn4
  have HB34 := Lib.hid hb4
  have HB24 : Hid (BelW V2 V4) := Lib.hid (joinB HB23.out hb4)
  have HI4 : Hid (VRow V4 k1 nt) := Lib.hid (HI1.out.below hn4)
  have HNV : Hid (∀ y ∈ nt, 0 ≤ y ∧ y ≤ 3) := Lib.hid (net_in HNT.out HVP.out HVS.out)
  have HKN := Lib.hid ((HCS.out V2 (Below.refl _ _)).kinds HST.out.len)
  have HHN : Hid (∀ l : List Int, l.length = n → (∀ y ∈ l, 0 ≤ y ∧ y ≤ 3) → ((∀ i : Nat, i < n → lat l i = wantV c.nodes pin pst l i) ↔ l = nt)) := Lib.hid fun l hl hv => by
    have h := holds_net HST.out.vld HST.out.h2 HKN.out (pin := pin) (pst := pst) (nets := l) (by rw [HST.out.hi, HLP.out]) (by rw [HST.out.hs, HLS.out]) hl hv
    rw [h]
    exact ⟨fun h' => net_only HST.out.vld h' HNT.out, fun e => by rw [e]; exact HNT.out⟩
  have HHO : Hid (∀ W (l : List Int) A cl (r : Bool), BelW V4 W → Ks W W.heap.size (.slice A n cl) l → l.length = n → (∀ y ∈ l, 0 ≤ y ∧ y ≤ 3) → (r = true ↔ l = nt) → Calls Tryd.prog 20 #[.agg #[.slice A0 n c0, .slice A1 n1 c1, .slice A2 0 c2, .slice A3 n3 c3], .agg #[.slice BI ni dI, .slice BS ns dS], .slice A n cl] W fun e w' => e = .returned (.bool r) ∧ BelW W w') := Lib.hid fun W l A cl r h hk hl hv hr => by
    have k3 := HK3.out W (joinB HB34.out h)
    exact holds_any W (HCS.out W (joinB HB24.out h)) HST.out k3.2.1 k3.2.2 hk HLP.out HLS.out hl r (hr.trans (HHN.out l hl hv).symm)
  have hk4 : Ks V4 V4.heap.size (.slice (some ⟨k1, 0, none⟩) n n) nt := by have := HI4.out.ks; rw [HL1.out] at this; exact this
  have HH4 := Lib.hid (HHO.out V4 nt (some ⟨k1, 0, none⟩) n true (Below.refl _ _) hk4 HL1.out HNV.out ⟨fun _ => rfl, fun _ => rfl⟩)
  have k3 := HK3.out V4 hb4
  have y0 := k3.1.cell 0
  have y1 := k3.1.cell 1
  obtain ⟨x0, x1, x2, x3⟩ := HCE.out V4 HB24.out
  clear hn4 hb4 hk4 k3 HV4 HQ4
  go_upto_region 7 with (go_at_call 20; (with_reducible refine HH4.out.mono ?_); rintro e w5 ⟨rfl, hb⟩; have HB5 : Hid (BelW V4 w5) := Lib.hid hb; clear hb)
  clear x0 x1 x2 x3 y0 y1
  obtain ⟨i1, hi1, hz0, hz1, hz2⟩ := info_parts info_val
  have HI := Lib.hid (And.intro hi1 (And.intro hz0 (And.intro hz1 hz2)))
  clear hi1 hz0 hz1 hz2
  have hr5 : VRow w5 k1 nt := HI4.out.below HB5.out
  have hk5 : ∀ j u, (nt.map (Value.int .u8))[j]? = some u → w5.cell? ((⟨k1, 0, none⟩ : Addr).add j) = some u := fun j u hj => by
    have hjl : j < nt.length := by
      have := (List.getElem?_eq_some_iff.1 hj).1
      simpa using this
    rw [List.getElem?_map, List.getElem?_eq_getElem hjl] at hj
    have hc := hr5.cell hjl
    unfold lat at hc
    rw [Int.toNat_natCast, List.getD_eq_getElem?_getD, List.getElem?_eq_getElem hjl] at hc
    simp only [Option.map_some, Option.some.injEq] at hj
    rw [← hj]
    rw [Addr.add_lit, Nat.zero_add]
    exact hc
  have HK5 := Lib.hid hk5
  have HLM : Hid ((nt.map (Value.int .u8)).length = n) := Lib.hid (by rw [List.length_map, HL1.out])
  clear hr5 hk5
  go_upto_region 8 with (at_builtin; refine wpList_append_own_at _ rfl _ _ 28 rfl w5.heap.size 40 i1 (.int .u8 0) 1 1 Tryd.underlying28 HI.out.1 HI.out.2.1 HI.out.2.2.1 HI.out.2.2.2 rfl (by decide) (.slice none 0 0) 0 [] rfl (VStk.nil w5 w5.heap.size) ⟨k1, 0, none⟩ n n (nt.map (Value.int .u8)) rfl (by rw [HLM.out, Nat.mul_one]) HK5.out (ints_oneCell .u8 nt) (by unfold maxLen; omega) (by omega) (Nat.le_refl _) ?_; intro v6 w6 hown hgrow hnil hloc; have HOW := Lib.hid hown; have HGR := Lib.hid hgrow; clear hown hgrow hnil hloc)
  have hvs : VStk w6 w5.heap.size v6 nt := by
    have h := HOW.out
    rw [List.nil_append, Nat.zero_add] at h
    unfold VStk
    rw [HL1.out]
    exact h
  have hb6 : BelW w5 w6 := (Below.refl _ _).grown HGR.out (Nat.le_refl _) (fun k h => by cases h)
  obtain ⟨A6, c6, rfl, hle6, hc6, hq6⟩ := hvs.form
  obtain ⟨g6, rfl, hg6, -⟩ := hq6 (by rw [HL1.out]; exact hpos)
  rw [HL1.out] at hle6 hvs
  rw [HL1.out]
  obtain ⟨A, bo, oo, cc, e, hAo, -, hmo, hco⟩ := HKO.out.opens
  simp only [Value.slice.injEq] at e
  obtain ⟨rfl, hml, rfl⟩ := e
  rw [← hml] at hAo hmo hco
  unfold maxLen at hmo
  have HAO := Lib.hid hAo
  have HCO : Hid (∀ W, BelW V4 W → ∀ k, k < mo → W.cell? ⟨bo, oo + k, none⟩ = some (.int .u8 (lo.getD k 0))) := Lib.hid fun W h k hk => ((joinB HB1.out (joinB HB2V.out (joinB HB24.out h))).cell (p := ⟨bo, oo + k, none⟩) (hco k hk).1).trans (hco k hk).2
  have HVY : Hid (∀ k, k < mo → 0 ≤ lo.getD k 0 ∧ lo.getD k 0 ≤ 255) := Lib.hid fun k hk => HVO.out _ (getD_inL (by rw [← hml]; exact hk))
  have hw5 : V4.heap.size ≤ w5.heap.size := Below.size HB5.out
  obtain ⟨B6, HB6⟩ := named w5.heap.size
  rw [← HB6.out] at hvs hg6 hw5
  have hb46 : BelW V4 w6 := joinB HB5.out hb6
  have HVS6 := Lib.hid hvs
  have HB46 := Lib.hid hb46
  clear hAo hco hml hvs hb6 hb46 hq6 HOW HGR HK5 HLM HKO HVO
  go_wp2
  go_loopw [13] (fun i wr => ∃ (k : Nat) (ch : List Int), k ≤ mo ∧ k ≤ 64 ∧ i = .int .i64 k ∧ BelW V4 wr ∧ ch.length = n ∧ (∀ y ∈ ch, 0 ≤ y ∧ y ≤ 3) ∧ VStk wr B6 (.slice (some ⟨g6, 0, none⟩) n c6) ch) (fun i _ => mo - (intOf i).toNat)
  case atStart => exact ⟨0, nt, Nat.zero_le _, Nat.zero_le _, rfl, HB46.out, HL1.out, HNV.out, HVS6.out⟩
  case round =>
    obtain ⟨k, ch, hk, hk64, rfl, hb, hcl, hcv, hst⟩ := hrel
    have HB := Lib.hid hb
    have HCV := Lib.hid hcv
    have HST := Lib.hid hst
    have HCL := Lib.hid hcl
    by_cases h1 : k < mo
    · by_cases h2 : k < 64
      · obtain rfl := HAO.out (by omega)
        have f1 := HCO.out wr hb k h1
        have hy := HVY.out k h1
        obtain ⟨y, HY⟩ := named (lo.getD k 0)
        rw [← HY.out] at f1 hy
        obtain ⟨yn, rfl⟩ := Int.eq_ofNat_of_zero_le hy.1
        have hnz : ¬ n = 0 := by omega
        have hjn : yn % n < n := Nat.mod_lt _ hpos
        have hmod : ((yn : Int)).tmod (n : Int) = ((yn % n : Nat) : Int) := by rw [Int.tmod_eq_emod_of_nonneg (by omega)]; simp
        have hw : IntKind.i64.wrap (yn : Int) = (yn : Int) := by simp [IntKind.wrap, IntKind.bits, IntKind.signed]; omega
        obtain ⟨j, HJ⟩ := named (yn % n)
        rw [← HJ.out] at hjn hmod
        have hvc := VStk.cellK hst hcl hjn
        have hvf := VStk.frozenK hst hcl j
        obtain ⟨cv, HCVN⟩ := named (ch.getD j 0)
        rw [← HCVN.out] at hvc
        clear hb hst hcl hcv
        go_wp2
        go_still_tail 15, (by kernel_rfl)
        go_wp2
        have HNX := Lib.hid (HST.out.set HCL.out j ((yn : Int) / 64))
        have HBN := Lib.hid (Below.setCell (p := ⟨g6, j, none⟩) HB.out (Nat.le_trans hw5 hg6) (.int .u8 ((yn : Int) / 64)))
        have HCN : Hid (∀ y ∈ ch.set j ((yn : Int) / 64), 0 ≤ y ∧ y ≤ 3) := Lib.hid fun y hy => by
          rcases List.mem_or_eq_of_mem_set hy with h | rfl
          · exact HCV.out y h
          · omega
        go_roundw
        case rel => exact ⟨k + 1, ch.set j ((yn : Int) / 64), by omega, by omega, by go_num, BelW.drew HBN.out, by rw [List.length_set, HCL.out], HCN.out, HNX.out⟩
        case measure => simp [intOf]; omega
      · obtain rfl : k = 64 := by omega
        have hcase : ∃ (s : Int) (r : Bool), Hid (s = (if ch = nt then 0 else 1)) ∧ Hid (r = true ↔ ch = nt) ∧ ((s = 0 ∧ r = true) ∨ (s = 1 ∧ r = false)) := by
          by_cases e : ch = nt
          · exact ⟨0, true, Lib.hid (by rw [if_pos e]), Lib.hid ⟨fun _ => e, fun _ => rfl⟩, .inl ⟨rfl, rfl⟩⟩
          · exact ⟨1, false, Lib.hid (by rw [if_neg e]), Lib.hid ⟨fun h => (by cases h), fun h => absurd h e⟩, .inr ⟨rfl, rfl⟩⟩
        obtain ⟨s, r, HS, HRR, hsr⟩ := hcase
        have HSM : Hid (∀ W, BelW wr W → Calls Tryd.prog 21 #[.slice (some ⟨g6, 0, none⟩) n c6, .slice (some ⟨k1, 0, none⟩) n n] W fun e w' => e = .returned (.int .i64 s) ∧ BelW W w') := Lib.hid fun W h => by
          have k1' : Ks W W.heap.size (.slice (some ⟨g6, 0, none⟩) n c6) ch := (HST.out.below h).ks
          have k2' : Ks W W.heap.size (.slice (some ⟨k1, 0, none⟩) n n) nt := by have := (HI4.out.below (joinB HB.out h)).ks; rw [HL1.out] at this; exact this
          have := same6_any ch nt n n _ _ _ _ W _ _ k1' k2'
          rw [← HS.out] at this
          exact this
        have HHL : Hid (∀ W, BelW wr W → Calls Tryd.prog 20 #[.agg #[.slice A0 n c0, .slice A1 n1 c1, .slice A2 0 c2, .slice A3 n3 c3], .agg #[.slice BI ni dI, .slice BS ns dS], .slice (some ⟨g6, 0, none⟩) n c6] W fun e w' => e = .returned (.bool r) ∧ BelW W w') := Lib.hid fun W h =>
          HHO.out W ch _ _ r (joinB HB.out h) (HST.out.below h).ks HCL.out HCV.out HRR.out
        have HLV : Hid (∀ W, BelW wr W → Calls Tryd.prog 10 #[] W fun e w' => e = .returned (.bool true) ∧ BelW W w') := Lib.hid fun W h => lives6_any W (HCS.out W (joinB HB24.out (joinB HB.out h))).tabs
        have HKE : Hid (∀ W, BelW wr W → BelW wr W ∧ W.cell? ⟨qc, 0, none⟩ = some (.slice A0 n c0) ∧ W.cell? ⟨qc, 1, none⟩ = some (.slice A1 n1 c1) ∧ W.cell? ⟨qc, 2, none⟩ = some (.slice A2 0 c2) ∧ W.cell? ⟨qc, 3, none⟩ = some (.slice A3 n3 c3) ∧ W.cell? ⟨qp, 0, none⟩ = some (.slice BI ni dI) ∧ W.cell? ⟨qp, 1, none⟩ = some (.slice BS ns dS)) := Lib.hid fun W h => by
          have h4 := joinB HB.out h
          obtain ⟨a0, a1, a2, a3⟩ := HCE.out W (joinB HB24.out h4)
          have f := (HK3.out W (joinB HB34.out h4)).1
          exact ⟨h, a0, a1, a2, a3, f.cell 0, f.cell 1⟩
        have HFIN : Hid (∀ W, BelW wr W → Below w.heap.size w W) := Lib.hid fun W h => joinB HB1.out (joinB HB2V.out (joinB HB24.out (joinB HB.out h)))
        clear hb hst hcl hcv
        go_upto_region 12 with (fail)
        obtain ⟨-, x0, x1, x2, x3, y0, y1⟩ := HKE.out wr (Below.refl _ _)
        have hs0 : BelW wr wr := Below.refl _ _
        rcases hsr with ⟨rfl, rfl⟩ | ⟨rfl, rfl⟩ <;>
          (go_region_held3 (fun w' => BelW wr w' ∧ w'.cell? ⟨qc, 0, none⟩ = some (.slice A0 n c0) ∧ w'.cell? ⟨qc, 1, none⟩ = some (.slice A1 n1 c1) ∧ w'.cell? ⟨qc, 2, none⟩ = some (.slice A2 0 c2) ∧ w'.cell? ⟨qc, 3, none⟩ = some (.slice A3 n3 c3) ∧ w'.cell? ⟨qp, 0, none⟩ = some (.slice BI ni dI) ∧ w'.cell? ⟨qp, 1, none⟩ = some (.slice BS ns dS))
            ((refine HKE.out _ ?_; first | (with_reducible assumption) | (refine BelW.drew ?_; with_reducible assumption)))
            (first
              | (go_at_call 21; (with_reducible refine Calls.mono (HSM.out _ ?_) ?_); · (first | (with_reducible assumption) | (refine BelW.drew ?_; with_reducible assumption))
                 rintro e wa ⟨rfl, hba⟩
                 have hswa : BelW wr wa := (by refine BelW.next ?_ hba; first | (with_reducible assumption) | (refine BelW.drew ?_; with_reducible assumption)))
              | (go_at_call 20; (with_reducible refine Calls.mono (HHL.out _ ?_) ?_); · (first | (with_reducible assumption) | (refine BelW.drew ?_; with_reducible assumption))
                 rintro e wb ⟨rfl, hbb⟩
                 have hswb : BelW wr wb := (by refine BelW.next ?_ hbb; first | (with_reducible assumption) | (refine BelW.drew ?_; with_reducible assumption)))
              | (go_at_call 10; (with_reducible refine Calls.mono (HLV.out _ ?_) ?_); · (first | (with_reducible assumption) | (refine BelW.drew ?_; with_reducible assumption))
                 rintro e wd ⟨rfl, hbd⟩
                 have hswd : BelW wr wd := (by refine BelW.next ?_ hbd; first | (with_reducible assumption) | (refine BelW.drew ?_; with_reducible assumption))))
           go_wp2
           go_ret
           exact ⟨rfl, HFIN.out _ hswd⟩)
    · obtain rfl : mo = k := by omega
      have hcase : ∃ (s : Int) (r : Bool), Hid (s = (if ch = nt then 0 else 1)) ∧ Hid (r = true ↔ ch = nt) ∧ ((s = 0 ∧ r = true) ∨ (s = 1 ∧ r = false)) := by
        by_cases e : ch = nt
        · exact ⟨0, true, Lib.hid (by rw [if_pos e]), Lib.hid ⟨fun _ => e, fun _ => rfl⟩, .inl ⟨rfl, rfl⟩⟩
        · exact ⟨1, false, Lib.hid (by rw [if_neg e]), Lib.hid ⟨fun h => (by cases h), fun h => absurd h e⟩, .inr ⟨rfl, rfl⟩⟩
      obtain ⟨s, r, HS, HRR, hsr⟩ := hcase
      have HSM : Hid (∀ W, BelW wr W → Calls Tryd.prog 21 #[.slice (some ⟨g6, 0, none⟩) n c6, .slice (some ⟨k1, 0, none⟩) n n] W fun e w' => e = .returned (.int .i64 s) ∧ BelW W w') := Lib.hid fun W h => by
        have k1' : Ks W W.heap.size (.slice (some ⟨g6, 0, none⟩) n c6) ch := (HST.out.below h).ks
        have k2' : Ks W W.heap.size (.slice (some ⟨k1, 0, none⟩) n n) nt := by have := (HI4.out.below (joinB HB.out h)).ks; rw [HL1.out] at this; exact this
        have := same6_any ch nt n n _ _ _ _ W _ _ k1' k2'
        rw [← HS.out] at this
        exact this
      have HHL : Hid (∀ W, BelW wr W → Calls Tryd.prog 20 #[.agg #[.slice A0 n c0, .slice A1 n1 c1, .slice A2 0 c2, .slice A3 n3 c3], .agg #[.slice BI ni dI, .slice BS ns dS], .slice (some ⟨g6, 0, none⟩) n c6] W fun e w' => e = .returned (.bool r) ∧ BelW W w') := Lib.hid fun W h =>
        HHO.out W ch _ _ r (joinB HB.out h) (HST.out.below h).ks HCL.out HCV.out HRR.out
      have HLV : Hid (∀ W, BelW wr W → Calls Tryd.prog 10 #[] W fun e w' => e = .returned (.bool true) ∧ BelW W w') := Lib.hid fun W h => lives6_any W (HCS.out W (joinB HB24.out (joinB HB.out h))).tabs
      have HKE : Hid (∀ W, BelW wr W → BelW wr W ∧ W.cell? ⟨qc, 0, none⟩ = some (.slice A0 n c0) ∧ W.cell? ⟨qc, 1, none⟩ = some (.slice A1 n1 c1) ∧ W.cell? ⟨qc, 2, none⟩ = some (.slice A2 0 c2) ∧ W.cell? ⟨qc, 3, none⟩ = some (.slice A3 n3 c3) ∧ W.cell? ⟨qp, 0, none⟩ = some (.slice BI ni dI) ∧ W.cell? ⟨qp, 1, none⟩ = some (.slice BS ns dS)) := Lib.hid fun W h => by
        have h4 := joinB HB.out h
        obtain ⟨a0, a1, a2, a3⟩ := HCE.out W (joinB HB24.out h4)
        have f := (HK3.out W (joinB HB34.out h4)).1
        exact ⟨h, a0, a1, a2, a3, f.cell 0, f.cell 1⟩
      have HFIN : Hid (∀ W, BelW wr W → Below w.heap.size w W) := Lib.hid fun W h => joinB HB1.out (joinB HB2V.out (joinB HB24.out (joinB HB.out h)))
      clear hb hst hcl hcv
      go_upto_region 12 with (fail)
      obtain ⟨-, x0, x1, x2, x3, y0, y1⟩ := HKE.out wr (Below.refl _ _)
      have hs0 : BelW wr wr := Below.refl _ _
      rcases hsr with ⟨rfl, rfl⟩ | ⟨rfl, rfl⟩ <;>
        (go_region_held3 (fun w' => BelW wr w' ∧ w'.cell? ⟨qc, 0, none⟩ = some (.slice A0 n c0) ∧ w'.cell? ⟨qc, 1, none⟩ = some (.slice A1 n1 c1) ∧ w'.cell? ⟨qc, 2, none⟩ = some (.slice A2 0 c2) ∧ w'.cell? ⟨qc, 3, none⟩ = some (.slice A3 n3 c3) ∧ w'.cell? ⟨qp, 0, none⟩ = some (.slice BI ni dI) ∧ w'.cell? ⟨qp, 1, none⟩ = some (.slice BS ns dS))
          ((refine HKE.out _ ?_; first | (with_reducible assumption) | (refine BelW.drew ?_; with_reducible assumption)))
          (first
            | (go_at_call 21; (with_reducible refine Calls.mono (HSM.out _ ?_) ?_); · (first | (with_reducible assumption) | (refine BelW.drew ?_; with_reducible assumption))
               rintro e wa ⟨rfl, hba⟩
               have hswa : BelW wr wa := (by refine BelW.next ?_ hba; first | (with_reducible assumption) | (refine BelW.drew ?_; with_reducible assumption)))
            | (go_at_call 20; (with_reducible refine Calls.mono (HHL.out _ ?_) ?_); · (first | (with_reducible assumption) | (refine BelW.drew ?_; with_reducible assumption))
               rintro e wb ⟨rfl, hbb⟩
               have hswb : BelW wr wb := (by refine BelW.next ?_ hbb; first | (with_reducible assumption) | (refine BelW.drew ?_; with_reducible assumption)))
            | (go_at_call 10; (with_reducible refine Calls.mono (HLV.out _ ?_) ?_); · (first | (with_reducible assumption) | (refine BelW.drew ?_; with_reducible assumption))
               rintro e wd ⟨rfl, hbd⟩
               have hswd : BelW wr wd := (by refine BelW.next ?_ hbd; first | (with_reducible assumption) | (refine BelW.drew ?_; with_reducible assumption))))
         go_wp2
         go_ret
         exact ⟨rfl, HFIN.out _ hswd⟩)
end Go.Proofs.YtbkfpaklmepglaaDoor
