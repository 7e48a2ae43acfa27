/- WordsRun: the law's walk, for at most 70 patterns. -/
import Derived.Test.YtemogllidmgbfaaGreatDoorM43
import Derived.Test.YtemogllidmgbfaaGreatDoorM41
import Derived.Test.YtemogllidmgbfaaGreatDoorM45
import Derived.StillTailTactics
namespace Go.Proofs.YtemogllidmgbfaaGreatDoor
open Go.RowKit

set_option maxRecDepth 100000 in
set_option maxHeartbeats 16000000 in
theorem wrun_law (x : Cx) (hx : Cok x) (sG sA : Value) (qs : List (List Int × List Int)) (Aq : Option Addr) (nq cq : Nat) (w : World) (hT : Lg.Tabs w) (hG : Gs w w.heap.size sG x.gates) (hA : Ks w w.heap.size sA x.outs)
    (hft : Ft w) (hq : Pts w w.heap.size (.slice Aq nq cq) qs) (hqv : ∀ x ∈ qs, (∀ y ∈ x.1, 0 ≤ y ∧ y ≤ 255) ∧ ∀ y ∈ x.2, 0 ≤ y ∧ y ≤ 255) (hn70 : ¬ (70 : Int) < (nq : Int)) :
    Calls Tryz.prog 4 #[.agg #[.int .u8 x.inN, .int .u8 x.dffs, .int .u8 x.d0, .int .u8 x.d1, .bool x.bus, .bool x.mem, .int .u8 x.p0, .int .u8 x.p1, .int .u8 x.p2, .int .u8 x.p3, sG, sA], .slice Aq nq cq] w fun e w' => e = .returned (.bool true) ∧ Below w.heap.size w w' := by
  obtain ⟨c, HC⟩ := named (ofC { x with mem := false })
  obtain ⟨n, HN⟩ := named c.nodes.length
  obtain ⟨W1, HW1⟩ := named (w.alloc (.cells #[.int .u8 x.inN, .int .u8 x.dffs, .int .u8 x.d0, .int .u8 x.d1, .bool x.bus, .bool false, .int .u8 x.p0, .int .u8 x.p1, .int .u8 x.p2, .int .u8 x.p3, sG, sA] 39))
  have hb1 : BelW w W1 := by rw [HW1.out]; exact below_new (Below.refl _ _) _
  have hf0 : Fr W1 (w.heap.size) 39 (#[.int .u8 x.inN, .int .u8 x.dffs, .int .u8 x.d0, .int .u8 x.d1, .bool x.bus, .bool false, .int .u8 x.p0, .int .u8 x.p1, .int .u8 x.p2, .int .u8 x.p3, sG, sA]).toList := by rw [HW1.out]; exact Fr.made _ _ _ (by simp)
  have HOF := Lib.hid (ofc_s x hx sG sA w W1 hb1 hG hA HC.out HN.out)
  have HXX := Lib.hid hx
  have HT1 := Lib.hid (hT.below hb1)
  have HB1 := Lib.hid hb1
  have HKP : Hid (∀ {v l W}, BelW W1 W → Ks w w.heap.size v l → Ks W W.heap.size v l) := Lib.hid fun h hk => Arr.keep stays_u8 hk (joinB HB1.out h).size fun _ hp => (joinB HB1.out h).cell hp
  have HF0 := Lib.hid hf0
  have HGA := Lib.hid (And.intro hG hA)
  have HFT := Lib.hid hft
  have HQ0 := Lib.hid hq
  have HQV := Lib.hid hqv
  have HN70 := Lib.hid hn70
  clear hft hq hqv
  clear hT hG hA hx hb1  hf0
  go_enter Tryz.func4, Tryz.ntmps4
  go_upto_region 4 with (fail)
  rw [← HW1.out]
  have x0 := HF0.out.cell 0
  have x1 := HF0.out.cell 1
  have x2 := HF0.out.cell 2
  have x3 := HF0.out.cell 3
  have x4 := HF0.out.cell 4
  have x5 := HF0.out.cell 5
  have x6 := HF0.out.cell 6
  have x7 := HF0.out.cell 7
  have x8 := HF0.out.cell 8
  have x9 := HF0.out.cell 9
  have x10 := HF0.out.cell 10
  have x11 := HF0.out.cell 11
  go_upto_region 5 with (go_at_call 11; (with_reducible refine HOF.out.mono ?_); rintro e w2 ⟨⟨A0, A1, A2, A3, n1, n3, c0, c1, c2, c3, rfl, hc, hn1, hn3⟩, hb⟩; have HCC := Lib.hid hc; have HB2 := Lib.hid hb; have HN1 := Lib.hid hn1; have HN3 := Lib.hid hn3; clear hc hb hn1 hn3)
  clear x0 x1 x2 x3 x4 x5 x6 x7 x8 x9 x10 x11
  obtain ⟨V2, HV2⟩ := named (w2.alloc (.cells #[.slice A0 n c0, .slice A1 n1 c1, .slice A2 0 c2, .slice A3 n3 c3] 46))
  have hn2 : BelW w2 V2 := by rw [HV2.out]; exact below_new (Below.refl _ _) _
  have hfc2 : Fr V2 w2.heap.size 46 (#[.slice A0 n c0, .slice A1 n1 c1, .slice A2 0 c2, .slice A3 n3 c3]).toList := by rw [HV2.out]; exact Fr.made _ _ _ rfl
  have hb2 : BelW W1 V2 := joinB HB2.out hn2
  obtain ⟨qc, HQC⟩ := named w2.heap.size
  rw [← HQC.out] at hfc2
  rw [← HV2.out, ← HQC.out]
  have hcs2 : Cs c n n1 n3 A0 A1 A2 A3 c0 c1 c2 c3 qc V2 := ⟨HT1.out.below hb2, (HCC.out.below hn2).more (Below.size hn2), hfc2⟩
  have HCS := Lib.hid (fun W (h : BelW V2 W) => hcs2.next h)
  have HCE := Lib.hid (fun W (h : BelW V2 W) => (hcs2.next h).cells)
  have HB2V := Lib.hid hb2
  obtain ⟨ni, HNI⟩ := named (ofTo c.nodes [0] n).length
  obtain ⟨ns, HNS⟩ := named (ofTo c.nodes [14] n).length
  obtain ⟨L, hst⟩ := cst_of x HXX.out HC.out HN.out HN1.out HN3.out HNI.out HNS.out
  have HST := Lib.hid hst
  have hfew : n < 20 := hst.few
  have hniB : ni ≤ n := hst.niB
  have hnsB : ns ≤ n := hst.nsB
  have hpos : 0 < n := by rw [HN.out]; exact ofC_inputs x HC.out
  have HFX : Hid (∀ W, BelW V2 W → Fr W (w.heap.size) 39 (#[.int .u8 x.inN, .int .u8 x.dffs, .int .u8 x.d0, .int .u8 x.d1, .bool x.bus, .bool false, .int .u8 x.p0, .int .u8 x.p1, .int .u8 x.p2, .int .u8 x.p3, sG, sA]).toList) := Lib.hid fun W h => HF0.out.below (joinB HB2V.out h)
  clear hn2 hfc2 hb2 hcs2 hst HV2 HQC HCC HB2 HW1
  have hn70 := HN70.out
  obtain ⟨Aq', bq, oq, cq', eq', hAq, hleq, hmq, hcq⟩ := HQ0.out
  simp only [Value.slice.injEq] at eq'
  obtain ⟨rfl, hnq, rfl⟩ := eq'
  rw [← hnq] at hAq hcq
  obtain ⟨ps, HPS⟩ := named (patsL ni ns qs)
  have HPL : Hid (ps.length = nq) := Lib.hid (by rw [HPS.out, hnq]; unfold patsL; rw [List.length_map])
  have HFP : Hid (FitP ni ns ps) := Lib.hid (by rw [HPS.out]; exact patsL_fit HQV.out)
  have HQA := Lib.hid hAq
  have HFW : Hid (∀ W, BelW V2 W → Ft W) := Lib.hid fun W h => HFT.out.below (joinB HB1.out (joinB HB2V.out h))
  have HQK : Hid (∀ k, k < nq → ∃ Ai As mi ms ci cs, ∀ W, BelW V2 W → (W.cell? ⟨bq, oq + k * 2, none⟩ = some (.slice Ai mi ci) ∧ W.cell? ⟨bq, oq + k * 2 + 1, none⟩ = some (.slice As ms cs)) ∧ Calls Tryz.prog 12 #[.agg #[.slice Ai mi ci, .slice As ms cs], .agg #[.slice A0 n c0, .slice A1 n1 c1, .slice A2 0 c2, .slice A3 n3 c3]] W fun e w' => ∃ AI cI AS cS, e = .returned (.agg #[.slice AI ni cI, .slice AS ns cS]) ∧ VStk w' W.heap.size (.slice AI ni cI) (ps.getD k ([], [])).1 ∧ VStk w' W.heap.size (.slice AS ns cS) (ps.getD k ([], [])).2 ∧ BelW W w') := Lib.hid fun k hk => by
    obtain ⟨hbk, Ai, As, ci, cs, g1, g2, k1, k2⟩ := hcq k hk
    refine ⟨Ai, As, (qs.getD k ([], [])).1.length, (qs.getD k ([], [])).2.length, ci, cs, fun W h => ?_⟩
    have h9 : BelW w W := joinB HB1.out (joinB HB2V.out h)
    refine ⟨⟨(Below.cell h9 (p := ⟨bq, oq + k * 2, none⟩) hbk).trans g1, (Below.cell h9 (p := ⟨bq, oq + k * 2 + 1, none⟩) hbk).trans g2⟩, ?_⟩
    have hm : qs.getD k ([], []) ∈ qs := by rw [List.getD_eq_getElem?_getD, List.getElem?_eq_getElem (by omega)]; exact List.getElem_mem _
    have e9 : ps.getD k ([], []) = (takL (qs.getD k ([], [])).1 4 ni, takL (qs.getD k ([], [])).2 3 ns) := by
      rw [HPS.out]; unfold patsL
      rw [List.getD_eq_getElem?_getD, List.getElem?_map, List.getD_eq_getElem?_getD, List.getElem?_eq_getElem (by omega)]; rfl
    rw [e9]
    exact ((HCS.out W h).pOf HST.out (Arr.keep stays_u8 k1 (Below.size h9) fun _ hp => Below.cell h9 hp) (Arr.keep stays_u8 k2 (Below.size h9) fun _ hp => Below.cell h9 hp) (HQV.out _ hm).1 (HQV.out _ hm).2).mono fun e w' ⟨a, b, c, d, h1, h2, h3, _, h4⟩ => ⟨a, b, c, d, h1, h2, h3, h4⟩
  have HSN : Hid (∀ k, k < nq → ps.take (k + 1) = ps.take k ++ [ps.getD k ([], [])]) := Lib.hid fun k hk => snocT (by have := HPL.out; omega)
  have HLT : Hid (∀ k, k ≤ nq → (ps.take k).length = k) := Lib.hid fun k hk => by rw [List.length_take]; have := HPL.out; omega
  have HPE : Hid (∀ k, k < nq → (ps.getD k ([], [])).1.length = ni ∧ (ps.getD k ([], [])).2.length = ns) := Lib.hid fun k hk => by
    have hm : ps.getD k ([], []) ∈ ps := by rw [List.getD_eq_getElem?_getD, List.getElem?_eq_getElem (by have := HPL.out; omega)]; exact List.getElem_mem _
    exact ⟨(HFP.out _ hm).1.1, (HFP.out _ hm).2.1⟩
  have HPT : Hid (∀ W lv, PS W V2.heap.size lv (ps.take nq) → ∃ A cl, lv = .slice A nq cl ∧ Pts W W.heap.size (.slice A nq cl) ps) := Lib.hid fun W lv h => by
    have e9 : ps.take nq = ps := by rw [← HPL.out]; exact List.take_of_length_le (Nat.le_refl _)
    rw [e9] at h
    have := h.pts
    rwa [HPL.out] at this
  have HLV : Hid (∀ W, BelW V2 W → Calls Tryz.prog 7 #[] W fun e w' => e = .returned (.bool true) ∧ BelW W w') := Lib.hid fun W h => lives7_any W (HCS.out W h).tabs (HFW.out W h)
  have HFIN : Hid (∀ W, BelW V2 W → Below w.heap.size w W) := Lib.hid fun W h => joinB HB1.out (joinB HB2V.out h)
  obtain ⟨i0, hi0, hz0, hz1, hz2⟩ := info_parts info_pat
  have HI := Lib.hid (And.intro hi0 (And.intro hz0 (And.intro hz1 hz2)))
  clear hnq hAq hcq hleq hmq hi0 hz0 hz1 hz2
  go_wp2
  go_loopw [6, 7] (fun lv i wr => BelW V2 wr ∧ ∃ k : Nat, k ≤ nq ∧ i = .int .i64 k ∧ PS wr V2.heap.size lv (ps.take k)) (fun _ i _ => nq - (intOf i).toNat)
  case atStart => exact ⟨Below.refl _ _, 0, Nat.zero_le _, rfl, PS.nil _ _⟩
  case round =>
    obtain ⟨hbr, k, hk, rfl, hps⟩ := hrel
    have HBR := Lib.hid hbr
    have HO := Lib.hid hps
    clear hps
    by_cases hlt : k < nq
    · obtain rfl := HQA.out (by omega)
      obtain ⟨Ai, As, mi, ms, ci, cs, hqk⟩ := HQK.out k hlt
      have HPX : Hid (∀ W, BelW V2 W → Calls Tryz.prog 12 #[.agg #[.slice Ai mi ci, .slice As ms cs], .agg #[.slice A0 n c0, .slice A1 n1 c1, .slice A2 0 c2, .slice A3 n3 c3]] W fun e w' => ∃ AI cI AS cS, e = .returned (.agg #[.slice AI ni cI, .slice AS ns cS]) ∧ VStk w' W.heap.size (.slice AI ni cI) (ps.getD k ([], [])).1 ∧ VStk w' W.heap.size (.slice AS ns cS) (ps.getD k ([], [])).2 ∧ BelW W w') := Lib.hid fun W h => (hqk W h).2
      have HSK := Lib.hid (HSN.out k hlt)
      have HLK := Lib.hid (HLT.out k (by omega))
      have HEK := Lib.hid (HPE.out k hlt)
      obtain ⟨p, HP⟩ := named (ps.getD k ([], []))
      rw [← HP.out] at HPX HSK HEK
      obtain ⟨vs, v1, v2, v3⟩ := HO.out
      have HVS := Lib.hid (And.intro v1 (And.intro v2 v3))
      have hk2 : (k : Int) < (nq : Int) := by omega
      have hk9 : k + 1 ≤ 1000 := by omega
      have hrr : BelW wr wr := Below.refl _ _
      have HKE : Hid (∀ W, BelW V2 W → BelW V2 W ∧ (W.cell? ⟨bq, oq + k * 2, none⟩ = some (.slice Ai mi ci) ∧ W.cell? ⟨bq, oq + k * 2 + 1, none⟩ = some (.slice As ms cs)) ∧ (W.cell? ⟨qc, 0, none⟩ = some (.slice A0 n c0) ∧ W.cell? ⟨qc, 1, none⟩ = some (.slice A1 n1 c1) ∧ W.cell? ⟨qc, 2, none⟩ = some (.slice A2 0 c2) ∧ W.cell? ⟨qc, 3, none⟩ = some (.slice A3 n3 c3))) := Lib.hid fun W h => ⟨h, (hqk W h).1, HCE.out W h⟩
      clear hqk v1 v2 v3
      go_wp2
      go_region_held3 (fun w' => BelW V2 w' ∧ (w'.cell? ⟨bq, oq + k * 2, none⟩ = some (.slice Ai mi ci) ∧ w'.cell? ⟨bq, oq + k * 2 + 1, none⟩ = some (.slice As ms cs)) ∧ (w'.cell? ⟨qc, 0, none⟩ = some (.slice A0 n c0) ∧ w'.cell? ⟨qc, 1, none⟩ = some (.slice A1 n1 c1) ∧ w'.cell? ⟨qc, 2, none⟩ = some (.slice A2 0 c2) ∧ w'.cell? ⟨qc, 3, none⟩ = some (.slice A3 n3 c3)))
        ((refine HKE.out _ ?_; (repeat (first | (with_reducible assumption) | (with_reducible refine BelW.drew ?_) | (with_reducible refine BelW.alloc ?_ _))); done))
        (first
          | (refine step_ownP rfl (.tmp 30) (.tmp 37) 48 rfl V2.heap.size 50 i0 (.agg #[.slice none 0 0, .slice none 0 0]) Tryz.underlying48 HI.out.1 HI.out.2.1 HI.out.2.2.1 HI.out.2.2.2 rfl _ k _ rfl (ho1.alloc _) ⟨w1.heap.size, 0, none⟩ 1 1 [.slice AI ni cI, .slice AS ns cS] rfl rfl (two_cells _ _ _ _) two_sl hk9 (Below.size (hs1.alloc _)) ?_
             intro mo' w3 hown' hgrow
             have hs3 : BelW V2 w3 := bel_own (ho1.alloc _) (hs1.alloc _) hgrow)
          | (go_at_call 12; (with_reducible refine Calls.mono (HPX.out _ ?_) ?_); · ((repeat (first | (with_reducible assumption) | (with_reducible refine BelW.drew ?_) | (with_reducible refine BelW.alloc ?_ _))); done)
             rintro e w1 ⟨AI, cI, AS, cS, rfl, s1, s2, hb1⟩
             have hr1 : BelW wr w1 := (by refine BelW.next ?_ hb1; (repeat (first | (with_reducible assumption) | (with_reducible refine BelW.drew ?_) | (with_reducible refine BelW.alloc ?_ _))); done)
             have ho1 := own_bel (by have := HVS.out.2.1; rw [HLK.out] at this; exact this) hr1
             have hs1 : BelW V2 w1 := BelW.next hbr hr1))
      have sa : VStk w1 V2.heap.size (.slice AI ni cI) p.1 := s1.low (Below.size (BelW.drew hbr))
      have sb : VStk w1 V2.heap.size (.slice AS ns cS) p.2 := s2.low (Below.size (BelW.drew hbr))
      have HO3 : Hid (PS w3 V2.heap.size mo' (ps.take (k + 1))) := Lib.hid (by
        rw [HSK.out]
        have g1 : BelW w1 (w1.alloc (.cells #[.slice AI ni cI, .slice AS ns cS] 50)) := below_new (Below.refl _ _) _
        have g2 := BelW.next hr1 g1
        exact ps_add HVS.out.1 (own_bel HVS.out.2.1 g2) (fun j hj => by obtain ⟨x, e, hp⟩ := HVS.out.2.2 j hj; exact ⟨x, e, hp.below g2⟩) hgrow (by rw [HLK.out]; exact hown') ⟨AI, cI, AS, cS, by rw [HEK.out.1, HEK.out.2], by rw [HEK.out.1]; exact sa.below g1, by rw [HEK.out.2]; exact sb.below g1⟩)
      have HS3 := Lib.hid hs3
      clear hown' hgrow hs3 hs1 ho1 hb1 hr1 s1 s2 sa sb hrr
      go_wp2
      go_roundw
      case rel => exact ⟨HS3.out, k + 1, by omega, by go_num, HO3.out⟩
      case measure => simp [intOf]; omega
    · obtain rfl : nq = k := by omega
      obtain ⟨w3z, rfl⟩ : ∃ z, z = wr := ⟨_, rfl⟩
      obtain ⟨Al, cl, rfl, hpts⟩ := HPT.out _ _ HO.out
      have HP3 := Lib.hid hpts
      clear hpts
      have HCW := Lib.hid (HCS.out w3z hbr)
      obtain ⟨x0, x1, x2, x3⟩ := HCE.out w3z hbr
      by_cases n64 : 64 < nq
      · have n64' : (64 : Int) < (nq : Int) := by omega
        have HRB := Lib.hid (HCW.out.wbad HST.out HP3.out n64)
        go_wp2_with (first
          | (go_at_call 13; (with_reducible refine HRB.out.mono ?_); rintro e w4 ⟨rfl, hb4⟩; have hs4 : BelW V2 w4 := joinB hbr hb4; clear hb4)
          | (go_at_call 7; (with_reducible refine (HLV.out _ hs4).mono ?_); rintro e w5 ⟨rfl, hb5⟩; have hs5 : BelW V2 w5 := joinB hs4 hb5; clear hb5))
        go_ret
        exact ⟨rfl, HFIN.out _ hs5⟩
      have n64' : ¬ (64 : Int) < (nq : Int) := by omega
      have HRG := Lib.hid (HCW.out.wrun HST.out (HFW.out w3z hbr) HP3.out HFP.out (by omega))
      go_upto_region 11 with (go_at_call 13; (with_reducible refine HRG.out.mono ?_); rintro e w4 ⟨gr, g4, out, rfl, hl, hw, hok, hol, hrr, hb4⟩; have HLN := Lib.hid hl; have HW4 := Lib.hid hw; have HOK := Lib.hid hok; have HOL := Lib.hid hol; have HRR := Lib.hid hrr; have hs4 : BelW V2 w4 := joinB hbr hb4; have HB34 := Lib.hid hb4; clear hl hw hok hol hrr hb4)
      clear x0 x1 x2 x3
      obtain ⟨x0, x1, x2, x3⟩ := HCE.out w4 hs4
      have HS4 := Lib.hid hs4
      obtain ⟨bl, ol, hal, hpc⟩ := pts_at HP3.out HFP.out
      have HAL := Lib.hid hal
      have HPC := Lib.hid hpc
      have HRC := Lib.hid (rrow_at HST.out HRR.out)
      have HRV := Lib.hid (rowV_fit HFP.out)
      have HWC : Hid (∀ W, BelW w4 W → ∀ j, j < n → W.cell? ⟨g4, j * 2, none⟩ = some (.int .u64 ((out.getD j (0, 0)).1 : Int)) ∧ W.cell? ⟨g4, j * 2 + 1, none⟩ = some (.int .u64 ((out.getD j (0, 0)).2 : Int))) := Lib.hid fun W h j hj => (HW4.out.below h).cell (by rw [HOL.out]; exact hj)
      clear hal hpc
      go_wp2
      go_loopw [11] (fun i wq => BelW w4 wq ∧ ∃ k : Nat, k ≤ 64 ∧ i = .int .i64 k) (fun i _ => 64 - (intOf i).toNat)
      case atStart => exact ⟨Below.refl _ _, 0, Nat.zero_le _, rfl⟩
      case round =>
        obtain ⟨hbq, k, hk, rfl⟩ := hrel
        obtain ⟨wq, rfl⟩ : ∃ z, z = wr := ⟨_, rfl⟩
        have HBQ := Lib.hid hbq
        have h2q : BelW V2 wq := joinB HS4.out hbq
        have H2Q := Lib.hid h2q
        by_cases h64 : k < 64
        · have hk64 : (k : Int) < 64 := by omega
          have HBK := Lib.hid ((HCS.out wq h2q).blank HST.out)
          obtain ⟨x0, x1, x2, x3⟩ := HCE.out wq h2q
          by_cases hkn : k < nq
          · have hkn' : (k : Int) < (nq : Int) := by omega
            obtain rfl := HAL.out (by omega)
            obtain ⟨hbl, AI, AS, cI, cS, hpc⟩ := HPC.out k hkn
            have HPK := Lib.hid hpc
            obtain ⟨g0, g1, -, -⟩ := hpc wq (joinB HB34.out hbq)
            have HG6 : Hid (∀ W, BelW w4 W → W.cell? ⟨bl, ol + k * 2, none⟩ = some (.slice AI ni cI) ∧ W.cell? ⟨bl, ol + k * 2 + 1, none⟩ = some (.slice AS ns cS)) := Lib.hid fun W h => ⟨(HPK.out W (joinB HB34.out h)).1, (HPK.out W (joinB HB34.out h)).2.1⟩
            clear hpc g0 g1
            go_upto_region 19 with (go_at_call 14; (with_reducible refine HBK.out.mono ?_); rintro e w6 ⟨ga, gb, rfl, r1, r2, hb6⟩; have HR1 := Lib.hid r1; have HR2 := Lib.hid r2; have h46 : BelW w4 w6 := joinB hbq hb6; clear r1 r2 hb6)
            obtain ⟨g0, g1⟩ := HG6.out w6 h46
            have hl6 : bl < w6.heap.size := Nat.lt_of_lt_of_le hbl (Below.size (joinB HB34.out h46))
            have hn6 : bl ≠ w6.heap.size := Nat.ne_of_lt hl6
            go_upto_region 21 with (fail)
            clear g0 g1
            clear x0 x1 x2 x3
            obtain ⟨V6, HV6⟩ := named (w6.alloc (.cells #[.slice AI ni cI, .slice AS ns cS] 50))
            have hn6 : BelW w6 V6 := by rw [HV6.out]; exact below_new (Below.refl _ _) _
            have hfp : Fr V6 w6.heap.size 50 [.slice AI ni cI, .slice AS ns cS] := by rw [HV6.out]; exact Fr.made _ _ _ rfl
            have h4V6 : BelW w4 V6 := joinB h46 hn6
            obtain ⟨qp, HQP⟩ := named w6.heap.size
            rw [← HQP.out] at hfp
            rw [← HV6.out, ← HQP.out]
            have H46 := Lib.hid h4V6
            have HKI : Hid (Ks V6 V6.heap.size (.slice AI ni cI) (rowV (ps.map (·.1)) ni k) ∧ Ks V6 V6.heap.size (.slice AS ns cS) (rowV (ps.map (·.2)) ns k)) := Lib.hid (by
              exact (HPK.out V6 (joinB HB34.out h4V6)).2.2)
            have hrv := HRV.out k
            have HRN := Lib.hid ((HCS.out V6 (joinB HS4.out h4V6)).run HST.out HKI.out.1 HKI.out.2 hrv.1.1 hrv.2.1 hrv.1.2 hrv.2.2)
            obtain ⟨x0, x1, x2, x3⟩ := HCE.out V6 (joinB HS4.out h4V6)
            have y0 := hfp.cell 0
            have y1 := hfp.cell 1
            clear hrv hn6 hfp HV6 HQP
            go_upto_if 134 with (go_at_call 15; (with_reducible refine HRN.out.mono ?_); rintro e w7 ⟨nt, g7, h7, k7, hn, hl, rfl, r1, r2, r3, hb⟩; have HNT := Lib.hid (lane_net HST.out HLN.out h64 hn); have HL7 := Lib.hid hl; have HG7 := Lib.hid r1; have HH7 := Lib.hid r2; have HI7 := Lib.hid r3; have HB7 : Hid (BelW V6 w7) := Lib.hid hb; clear hn hl r1 r2 r3 hb)
            clear x0 x1 x2 x3 y0 y1
            obtain ⟨V7, HV7⟩ := named (w7.alloc (.cells #[.slice (some ⟨g7, 0, none⟩) n3 n3, .slice (some ⟨h7, 0, none⟩) ns ns] 59))
            have hn7 : BelW w7 V7 := by rw [HV7.out]; exact below_new (Below.refl _ _) _
            have hfr : Fr V7 w7.heap.size 59 [.slice (some ⟨g7, 0, none⟩) n3 n3, .slice (some ⟨h7, 0, none⟩) ns ns] := by rw [HV7.out]; exact Fr.made _ _ _ rfl
            obtain ⟨qs7, HQ7⟩ := named w7.heap.size
            rw [← HQ7.out] at hfr
            rw [← HV7.out, ← HQ7.out]
            have H47 : Hid (BelW w4 V7) := Lib.hid (joinB H46.out (joinB HB7.out hn7))
            have HY : Hid (∀ W, BelW V7 W → ∀ j : Nat, j < n → W.cell? ⟨k7, j, none⟩ = some (.int .u8 (lat (lanes out k) (j : Int)))) := Lib.hid fun W h j hj => by
              rw [← HNT.out]
              exact ((HI7.out.below hn7).below h).cell (by rw [HL7.out]; exact hj)
            have HAT : Hid (∀ W (j : Nat), j < n → Calls Tryz.prog 9 #[.agg #[.int .u64 ((out.getD j (0, 0)).1 : Int), .int .u64 ((out.getD j (0, 0)).2 : Int)], .int .i64 (k : Int)] W fun e w' => e = .returned (.int .u8 (lat (lanes out k) (j : Int))) ∧ BelW W w') := Lib.hid fun W j hj => at_lane HOK.out (by rw [HOL.out]; exact hj) h64 W
            have hs7 : BelW V7 V7 := Below.refl _ _
            obtain ⟨ra, rb, hrc⟩ := HRC.out k hkn
            have HRK := Lib.hid hrc
            have HKR : Hid (∀ W, BelW V7 W → BelW V7 W ∧ W.cell? ⟨gr, k * 2, none⟩ = some (.slice (some ⟨ra, 0, none⟩) n3 n3) ∧ W.cell? ⟨gr, k * 2 + 1, none⟩ = some (.slice (some ⟨rb, 0, none⟩) ns ns) ∧ W.cell? ⟨qs7, 0, none⟩ = some (.slice (some ⟨g7, 0, none⟩) n3 n3) ∧ W.cell? ⟨qs7, 1, none⟩ = some (.slice (some ⟨h7, 0, none⟩) ns ns)) := Lib.hid fun W h => by
              have h1 := HRK.out W (joinB H47.out h)
              exact ⟨h, h1.1, h1.2.1, (hfr.below h).cell 0, (hfr.below h).cell 1⟩
            have HSA : Hid (∀ W, BelW V7 W → Calls Tryz.prog 16 #[.slice (some ⟨ra, 0, none⟩) n3 n3, .slice (some ⟨g7, 0, none⟩) n3 n3] W fun e w' => e = .returned (.int .i64 0) ∧ BelW W w') := Lib.hid fun W h => by
              have e1 := ((HG7.out.below hn7).below h).ks
              rw [(HST.out.out_len nt).1, HNT.out] at e1
              have := same6_any _ _ _ _ _ _ _ _ W _ _ (HRK.out W (joinB H47.out h)).2.2.1 e1
              rwa [if_pos rfl] at this
            have HSB : Hid (∀ W, BelW V7 W → Calls Tryz.prog 16 #[.slice (some ⟨rb, 0, none⟩) ns ns, .slice (some ⟨h7, 0, none⟩) ns ns] W fun e w' => e = .returned (.int .i64 0) ∧ BelW W w') := Lib.hid fun W h => by
              have e1 := ((HH7.out.below hn7).below h).ks
              rw [(HST.out.out_len nt).2, HNT.out] at e1
              have := same6_any _ _ _ _ _ _ _ _ W _ _ (HRK.out W (joinB H47.out h)).2.2.2 e1
              rwa [if_pos rfl] at this
            obtain ⟨-, z0, z1, z2, z3⟩ := HKR.out V7 hs7
            clear hrc hn7 hfr HV7 HQ7
            go_cut [134] (fun f wx => f = .bool false ∧ BelW V7 wx)
            case first =>
              go_upto_region 22 with (fail)
              go_region_held3 (fun w' => BelW V7 w' ∧ w'.cell? ⟨gr, k * 2, none⟩ = some (.slice (some ⟨ra, 0, none⟩) n3 n3) ∧ w'.cell? ⟨gr, k * 2 + 1, none⟩ = some (.slice (some ⟨rb, 0, none⟩) ns ns) ∧ w'.cell? ⟨qs7, 0, none⟩ = some (.slice (some ⟨g7, 0, none⟩) n3 n3) ∧ w'.cell? ⟨qs7, 1, none⟩ = some (.slice (some ⟨h7, 0, none⟩) ns ns))
                ((refine HKR.out _ ?_; (repeat (first | (with_reducible assumption) | (with_reducible refine BelW.drew ?_) | (with_reducible refine BelW.alloc ?_ _))); done))
                (first
                  | (go_at_call 16; (with_reducible refine Calls.mono (HSA.out _ ?_) ?_); · ((repeat (first | (with_reducible assumption) | (with_reducible refine BelW.drew ?_) | (with_reducible refine BelW.alloc ?_ _))); done)
                     rintro e wa ⟨rfl, hba⟩
                     have hsa : BelW V7 wa := (by refine BelW.next ?_ hba; (repeat (first | (with_reducible assumption) | (with_reducible refine BelW.drew ?_) | (with_reducible refine BelW.alloc ?_ _))); done))
                  | (go_at_call 16; (with_reducible refine Calls.mono (HSB.out _ ?_) ?_); · ((repeat (first | (with_reducible assumption) | (with_reducible refine BelW.drew ?_) | (with_reducible refine BelW.alloc ?_ _))); done)
                     rintro e wb ⟨rfl, hbb⟩
                     have hsb : BelW V7 wb := (by refine BelW.next ?_ hbb; (repeat (first | (with_reducible assumption) | (with_reducible refine BelW.drew ?_) | (with_reducible refine BelW.alloc ?_ _))); done)))
              go_wp2
              go_meet
              case rel => exact ⟨by first | rfl | simp | (simp [hkn']), hsb⟩
            case rest =>
              obtain ⟨rfl, hsb⟩ := hcut
              obtain ⟨wS, rfl⟩ : ∃ z, z = wc := ⟨_, rfl⟩
              have H7S := Lib.hid hsb
              clear hsb z0 z1 z2 z3 hs7
              have H4S : Hid (BelW w4 wS) := Lib.hid (joinB H47.out H7S.out)
              have H2S : Hid (BelW V2 wS) := Lib.hid (joinB HS4.out H4S.out)
              go_wp2
              go_loopw [16] (fun i wr => BelW wS wr ∧ ∃ j : Nat, j ≤ n ∧ i = .int .i64 j) (fun i _ => n - (intOf i).toNat)
              case atStart => exact ⟨Below.refl _ _, 0, Nat.zero_le _, rfl⟩
              case round =>
                obtain ⟨hbz, j, hj, rfl⟩ := hrel
                have HBZ := Lib.hid hbz
                by_cases hjn : j < n
                · have hjn' : (j : Int) < (n : Int) := by omega
                  have HWJ : Hid (∀ W, BelW wS W → BelW wS W ∧ W.cell? ⟨g4, j * 2, none⟩ = some (.int .u64 ((out.getD j (0, 0)).1 : Int)) ∧ W.cell? ⟨g4, j * 2 + 1, none⟩ = some (.int .u64 ((out.getD j (0, 0)).2 : Int)) ∧ W.cell? ⟨k7, j, none⟩ = some (.int .u8 (lat (lanes out k) (j : Int)))) := Lib.hid fun W h => by
                    obtain ⟨a1, a2⟩ := HWC.out W (joinB H4S.out h) j hjn
                    exact ⟨h, a1, a2, HY.out W (joinB H7S.out h) j hjn⟩
                  have HAJ := Lib.hid (fun W => HAT.out W j hjn)
                  obtain ⟨y, HYY⟩ := named (lat (lanes out k) (j : Int))
                  obtain ⟨u, HU⟩ := named (out.getD j (0, 0)).1
                  obtain ⟨v, HV⟩ := named (out.getD j (0, 0)).2
                  rw [← HYY.out, ← HU.out, ← HV.out] at HWJ HAJ
                  obtain ⟨-, b0, b1, b2⟩ := HWJ.out wr hbz
                  go_wp2
                  go_region_held3 (fun w' => BelW wS w' ∧ w'.cell? ⟨g4, j * 2, none⟩ = some (.int .u64 (u : Int)) ∧ w'.cell? ⟨g4, j * 2 + 1, none⟩ = some (.int .u64 (v : Int)) ∧ w'.cell? ⟨k7, j, none⟩ = some (.int .u8 y))
                    ((refine HWJ.out _ ?_; (repeat (first | (with_reducible assumption) | (with_reducible refine BelW.drew ?_) | (with_reducible refine BelW.alloc ?_ _))); done))
                    (first
                      | (go_at_call 9; (with_reducible refine Calls.mono (HAJ.out _) ?_)
                         rintro e wc ⟨rfl, hbc⟩
                         have hsc : BelW wS wc := (by refine BelW.next ?_ hbc; (repeat (first | (with_reducible assumption) | (with_reducible refine BelW.drew ?_) | (with_reducible refine BelW.alloc ?_ _))); done)))
                  have HSC := Lib.hid hsc
                  clear hsc hbc b0 b1 b2
                  go_wp2
                  go_roundw
                  case rel => exact ⟨HSC.out, j + 1, by omega, by go_num⟩
                  case measure => simp [intOf]; omega
                · obtain rfl : n = j := by omega
                  go_wp2
                  go_roundw
                  case rel => exact ⟨joinB H4S.out HBZ.out, k + 1, by omega, by go_num⟩
                  case measure => simp [intOf]; omega
          · have hkn' : ¬ (k : Int) < (nq : Int) := by omega
            go_upto_region 21 with (go_at_call 14; (with_reducible refine HBK.out.mono ?_); rintro e w6 ⟨ga, gb, rfl, r1, r2, hb6⟩; have HR1 := Lib.hid r1; have HR2 := Lib.hid r2; have h46 : BelW w4 w6 := joinB hbq hb6; clear r1 r2 hb6)
            clear x0 x1 x2 x3
            obtain ⟨V6, HV6⟩ := named (w6.alloc (.cells #[.slice (some ⟨ga, 0, none⟩) ni ni, .slice (some ⟨gb, 0, none⟩) ns ns] 50))
            have hn6 : BelW w6 V6 := by rw [HV6.out]; exact below_new (Below.refl _ _) _
            have hfp : Fr V6 w6.heap.size 50 [.slice (some ⟨ga, 0, none⟩) ni ni, .slice (some ⟨gb, 0, none⟩) ns ns] := by rw [HV6.out]; exact Fr.made _ _ _ rfl
            have h4V6 : BelW w4 V6 := joinB h46 hn6
            obtain ⟨qp, HQP⟩ := named w6.heap.size
            rw [← HQP.out] at hfp
            rw [← HV6.out, ← HQP.out]
            have H46 := Lib.hid h4V6
            have HKI : Hid (Ks V6 V6.heap.size (.slice (some ⟨ga, 0, none⟩) ni ni) (rowV (ps.map (·.1)) ni k) ∧ Ks V6 V6.heap.size (.slice (some ⟨gb, 0, none⟩) ns ns) (rowV (ps.map (·.2)) ns k)) := Lib.hid (by
              have e1 := (HR1.out.below hn6).ks
              have e2 := (HR2.out.below hn6).ks
              rw [List.length_replicate] at e1 e2
              rw [rowV_no _ (by rw [HPL.out]; exact hkn), rowV_no _ (by rw [HPL.out]; exact hkn)]
              exact ⟨e1, e2⟩)
            have hrv := HRV.out k
            have HRN := Lib.hid ((HCS.out V6 (joinB HS4.out h4V6)).run HST.out HKI.out.1 HKI.out.2 hrv.1.1 hrv.2.1 hrv.1.2 hrv.2.2)
            obtain ⟨x0, x1, x2, x3⟩ := HCE.out V6 (joinB HS4.out h4V6)
            have y0 := hfp.cell 0
            have y1 := hfp.cell 1
            clear hrv hn6 hfp HV6 HQP
            go_upto_region 22 with (go_at_call 15; (with_reducible refine HRN.out.mono ?_); rintro e w7 ⟨nt, g7, h7, k7, hn, hl, rfl, r1, r2, r3, hb⟩; have HNT := Lib.hid (lane_net HST.out HLN.out h64 hn); have HL7 := Lib.hid hl; have HG7 := Lib.hid r1; have HH7 := Lib.hid r2; have HI7 := Lib.hid r3; have HB7 : Hid (BelW V6 w7) := Lib.hid hb; clear hn hl r1 r2 r3 hb)
            clear x0 x1 x2 x3 y0 y1
            obtain ⟨V7, HV7⟩ := named (w7.alloc (.cells #[.slice (some ⟨g7, 0, none⟩) n3 n3, .slice (some ⟨h7, 0, none⟩) ns ns] 59))
            have hn7 : BelW w7 V7 := by rw [HV7.out]; exact below_new (Below.refl _ _) _
            have hfr : Fr V7 w7.heap.size 59 [.slice (some ⟨g7, 0, none⟩) n3 n3, .slice (some ⟨h7, 0, none⟩) ns ns] := by rw [HV7.out]; exact Fr.made _ _ _ rfl
            obtain ⟨qs7, HQ7⟩ := named w7.heap.size
            rw [← HQ7.out] at hfr
            rw [← HV7.out, ← HQ7.out]
            have H47 : Hid (BelW w4 V7) := Lib.hid (joinB H46.out (joinB HB7.out hn7))
            have HY : Hid (∀ W, BelW V7 W → ∀ j : Nat, j < n → W.cell? ⟨k7, j, none⟩ = some (.int .u8 (lat (lanes out k) (j : Int)))) := Lib.hid fun W h j hj => by
              rw [← HNT.out]
              exact ((HI7.out.below hn7).below h).cell (by rw [HL7.out]; exact hj)
            have HAT : Hid (∀ W (j : Nat), j < n → Calls Tryz.prog 9 #[.agg #[.int .u64 ((out.getD j (0, 0)).1 : Int), .int .u64 ((out.getD j (0, 0)).2 : Int)], .int .i64 (k : Int)] W fun e w' => e = .returned (.int .u8 (lat (lanes out k) (j : Int))) ∧ BelW W w') := Lib.hid fun W j hj => at_lane HOK.out (by rw [HOL.out]; exact hj) h64 W
            have hs7 : BelW V7 V7 := Below.refl _ _
            clear hn7 hfr HV7 HQ7
            go_quiet (fail)
            generalize hX : World.drewN V7 _ = wS
            have H7S : Hid (BelW V7 wS) := Lib.hid (by rw [← hX]; exact belw_drewN (Below.refl _ _) _)
            clear hX hs7
            have H4S : Hid (BelW w4 wS) := Lib.hid (joinB H47.out H7S.out)
            have H2S : Hid (BelW V2 wS) := Lib.hid (joinB HS4.out H4S.out)
            go_wp2
            go_loopw [16] (fun i wr => BelW wS wr ∧ ∃ j : Nat, j ≤ n ∧ i = .int .i64 j) (fun i _ => n - (intOf i).toNat)
            case atStart => exact ⟨Below.refl _ _, 0, Nat.zero_le _, rfl⟩
            case round =>
              obtain ⟨hbz, j, hj, rfl⟩ := hrel
              have HBZ := Lib.hid hbz
              by_cases hjn : j < n
              · have hjn' : (j : Int) < (n : Int) := by omega
                have HWJ : Hid (∀ W, BelW wS W → BelW wS W ∧ W.cell? ⟨g4, j * 2, none⟩ = some (.int .u64 ((out.getD j (0, 0)).1 : Int)) ∧ W.cell? ⟨g4, j * 2 + 1, none⟩ = some (.int .u64 ((out.getD j (0, 0)).2 : Int)) ∧ W.cell? ⟨k7, j, none⟩ = some (.int .u8 (lat (lanes out k) (j : Int)))) := Lib.hid fun W h => by
                  obtain ⟨a1, a2⟩ := HWC.out W (joinB H4S.out h) j hjn
                  exact ⟨h, a1, a2, HY.out W (joinB H7S.out h) j hjn⟩
                have HAJ := Lib.hid (fun W => HAT.out W j hjn)
                obtain ⟨y, HYY⟩ := named (lat (lanes out k) (j : Int))
                obtain ⟨u, HU⟩ := named (out.getD j (0, 0)).1
                obtain ⟨v, HV⟩ := named (out.getD j (0, 0)).2
                rw [← HYY.out, ← HU.out, ← HV.out] at HWJ HAJ
                obtain ⟨-, b0, b1, b2⟩ := HWJ.out wr hbz
                go_wp2
                go_region_held3 (fun w' => BelW wS w' ∧ w'.cell? ⟨g4, j * 2, none⟩ = some (.int .u64 (u : Int)) ∧ w'.cell? ⟨g4, j * 2 + 1, none⟩ = some (.int .u64 (v : Int)) ∧ w'.cell? ⟨k7, j, none⟩ = some (.int .u8 y))
                  ((refine HWJ.out _ ?_; (repeat (first | (with_reducible assumption) | (with_reducible refine BelW.drew ?_) | (with_reducible refine BelW.alloc ?_ _))); done))
                  (first
                    | (go_at_call 9; (with_reducible refine Calls.mono (HAJ.out _) ?_)
                       rintro e wc ⟨rfl, hbc⟩
                       have hsc : BelW wS wc := (by refine BelW.next ?_ hbc; (repeat (first | (with_reducible assumption) | (with_reducible refine BelW.drew ?_) | (with_reducible refine BelW.alloc ?_ _))); done)))
                have HSC := Lib.hid hsc
                clear hsc hbc b0 b1 b2
                go_wp2
                go_roundw
                case rel => exact ⟨HSC.out, j + 1, by omega, by go_num⟩
                case measure => simp [intOf]; omega
              · obtain rfl : n = j := by omega
                go_wp2
                go_roundw
                case rel => exact ⟨joinB H4S.out HBZ.out, k + 1, by omega, by go_num⟩
                case measure => simp [intOf]; omega
        · have hk64 : ¬ (k : Int) < 64 := by omega
          have HSX : Hid (∀ W B0 B1 B2 B3 d0 d1 d2 d3, BelW V2 W → Cir W W.heap.size (.agg #[.slice B0 n d0, .slice B1 n1 d1, .slice B2 0 d2, .slice B3 n3 d3]) c → Calls Tryz.prog 17 #[.agg #[.slice A0 n c0, .slice A1 n1 c1, .slice A2 0 c2, .slice A3 n3 c3], .agg #[.slice B0 n d0, .slice B1 n1 d1, .slice B2 0 d2, .slice B3 n3 d3]] W fun e w' => e = .returned (.bool true) ∧ BelW W w') := Lib.hid fun W B0 B1 B2 B3 d0 d1 d2 d3 h hc => by
            have := same_any c c _ _ W W.heap.size W.heap.size (Nat.le_refl _) (Nat.le_refl _) (HCS.out W h).cir hc
            rw [ckEq_self] at this
            exact this
          have HCO : Hid (∀ W, BelW V2 W → Calls Tryz.prog 11 #[.agg #[.int .u8 x.inN, .int .u8 x.dffs, .int .u8 x.d0, .int .u8 x.d1, .bool x.bus, .bool false, .int .u8 x.p0, .int .u8 x.p1, .int .u8 x.p2, .int .u8 x.p3, sG, sA]] W fun e w' => (∃ B0 B1 B2 B3 d0 d1 d2 d3, e = .returned (.agg #[.slice B0 n d0, .slice B1 n1 d1, .slice B2 0 d2, .slice B3 n3 d3]) ∧ Cir w' w'.heap.size (.agg #[.slice B0 n d0, .slice B1 n1 d1, .slice B2 0 d2, .slice B3 n3 d3]) c) ∧ BelW W w') := Lib.hid fun W h =>
            (ofc_s x HXX.out sG sA w W (joinB HB1.out (joinB HB2V.out h)) HGA.out.1 HGA.out.2 HC.out HN.out).mono fun e w' ⟨⟨B0, B1, B2, B3, m1, m3, d0, d1, d2, d3, he, hc, hm1, hm3⟩, hb⟩ => ⟨⟨B0, B1, B2, B3, d0, d1, d2, d3, by rw [he, hm1, hm3, HN1.out, HN3.out], by rw [HN1.out, HN3.out, ← hm1, ← hm3]; exact hc⟩, hb⟩
          have HZ : Hid (∀ W, BelW V2 W → BelW V2 W ∧ (W.cell? ⟨w.heap.size, 0, none⟩ = some (.int .u8 x.inN) ∧ W.cell? ⟨w.heap.size, 1, none⟩ = some (.int .u8 x.dffs) ∧ W.cell? ⟨w.heap.size, 2, none⟩ = some (.int .u8 x.d0) ∧ W.cell? ⟨w.heap.size, 3, none⟩ = some (.int .u8 x.d1) ∧ W.cell? ⟨w.heap.size, 4, none⟩ = some (.bool x.bus) ∧ W.cell? ⟨w.heap.size, 5, none⟩ = some (.bool false) ∧ W.cell? ⟨w.heap.size, 6, none⟩ = some (.int .u8 x.p0) ∧ W.cell? ⟨w.heap.size, 7, none⟩ = some (.int .u8 x.p1) ∧ W.cell? ⟨w.heap.size, 8, none⟩ = some (.int .u8 x.p2) ∧ W.cell? ⟨w.heap.size, 9, none⟩ = some (.int .u8 x.p3) ∧ W.cell? ⟨w.heap.size, 10, none⟩ = some sG ∧ W.cell? ⟨w.heap.size, 11, none⟩ = some sA) ∧ (W.cell? ⟨qc, 0, none⟩ = some (.slice A0 n c0) ∧ W.cell? ⟨qc, 1, none⟩ = some (.slice A1 n1 c1) ∧ W.cell? ⟨qc, 2, none⟩ = some (.slice A2 0 c2) ∧ W.cell? ⟨qc, 3, none⟩ = some (.slice A3 n3 c3))) := Lib.hid fun W h => by
            have f0 := HFX.out W h
            exact ⟨h, ⟨f0.cell 0, f0.cell 1, f0.cell 2, f0.cell 3, f0.cell 4, f0.cell 5, f0.cell 6, f0.cell 7, f0.cell 8, f0.cell 9, f0.cell 10, f0.cell 11⟩, HCE.out W h⟩
          obtain ⟨-, ⟨x0, x1, x2, x3, x4, x5, x6, x7, x8, x9, x10, x11⟩, r0, r1, r2, r3⟩ := HZ.out wq h2q
          go_wp2
          go_region_held3 (fun w' => BelW V2 w' ∧ (w'.cell? ⟨w.heap.size, 0, none⟩ = some (.int .u8 x.inN) ∧ w'.cell? ⟨w.heap.size, 1, none⟩ = some (.int .u8 x.dffs) ∧ w'.cell? ⟨w.heap.size, 2, none⟩ = some (.int .u8 x.d0) ∧ w'.cell? ⟨w.heap.size, 3, none⟩ = some (.int .u8 x.d1) ∧ w'.cell? ⟨w.heap.size, 4, none⟩ = some (.bool x.bus) ∧ w'.cell? ⟨w.heap.size, 5, none⟩ = some (.bool false) ∧ w'.cell? ⟨w.heap.size, 6, none⟩ = some (.int .u8 x.p0) ∧ w'.cell? ⟨w.heap.size, 7, none⟩ = some (.int .u8 x.p1) ∧ w'.cell? ⟨w.heap.size, 8, none⟩ = some (.int .u8 x.p2) ∧ w'.cell? ⟨w.heap.size, 9, none⟩ = some (.int .u8 x.p3) ∧ w'.cell? ⟨w.heap.size, 10, none⟩ = some sG ∧ w'.cell? ⟨w.heap.size, 11, none⟩ = some sA) ∧ (w'.cell? ⟨qc, 0, none⟩ = some (.slice A0 n c0) ∧ w'.cell? ⟨qc, 1, none⟩ = some (.slice A1 n1 c1) ∧ w'.cell? ⟨qc, 2, none⟩ = some (.slice A2 0 c2) ∧ w'.cell? ⟨qc, 3, none⟩ = some (.slice A3 n3 c3)))
            ((refine HZ.out _ ?_; (repeat (first | (with_reducible assumption) | (with_reducible refine BelW.drew ?_) | (with_reducible refine BelW.alloc ?_ _))); done))
            (first
              | (go_at_call 11; (with_reducible refine Calls.mono (HCO.out _ ?_) ?_); · ((repeat (first | (with_reducible assumption) | (with_reducible refine BelW.drew ?_) | (with_reducible refine BelW.alloc ?_ _))); done)
                 rintro e wj ⟨⟨B0', B1', B2', B3', f0, f1, f2, f3, rfl, hcj⟩, hbj⟩
                 have hsj : BelW V2 wj := (by refine BelW.next ?_ hbj; (repeat (first | (with_reducible assumption) | (with_reducible refine BelW.drew ?_) | (with_reducible refine BelW.alloc ?_ _))); done))
              | (go_at_call 17; (with_reducible refine Calls.mono (HSX.out _ _ _ _ _ _ _ _ _ ?_ ?_) ?_)
                 · ((repeat (first | (with_reducible assumption) | (with_reducible refine BelW.drew ?_) | (with_reducible refine BelW.alloc ?_ _))); done)
                 · exact hcj
                 rintro e wk ⟨rfl, hbk⟩
                 have hsk : BelW V2 wk := (by refine BelW.next ?_ hbk; (repeat (first | (with_reducible assumption) | (with_reducible refine BelW.drew ?_) | (with_reducible refine BelW.alloc ?_ _))); done))
              | (go_at_call 7; (with_reducible refine Calls.mono (HLV.out _ ?_) ?_); · ((repeat (first | (with_reducible assumption) | (with_reducible refine BelW.drew ?_) | (with_reducible refine BelW.alloc ?_ _))); done)
                 rintro e wl ⟨rfl, hbl⟩
                 have hsl : BelW V2 wl := (by refine BelW.next ?_ hbl; (repeat (first | (with_reducible assumption) | (with_reducible refine BelW.drew ?_) | (with_reducible refine BelW.alloc ?_ _))); done)))
          go_wp2
          go_ret
          exact ⟨rfl, HFIN.out _ hsl⟩
end Go.Proofs.YtemogllidmgbfaaGreatDoor
