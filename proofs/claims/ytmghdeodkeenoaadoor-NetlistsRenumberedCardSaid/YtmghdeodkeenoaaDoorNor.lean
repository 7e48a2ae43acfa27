/- NetlistsOrder: the law's walk. -/
import Derived.Test.YtmghdeodkeenoaaDoorLcv
namespace Go.Proofs.YtmghdeodkeenoaaDoor
open Go.RowKit

theorem LC.form {c : Ck} {w w1 : World} {q : Nat} {A0 A1 A2 A3 : Option Addr} {n n1 n2 n3 c0 c1 c2 c3 : Nat} (h : LC c w q A0 A1 A2 A3 n n1 n2 n3 c0 c1 c2 c3 w1) (h0 : 0 < n) :
    ∃ b o, A0 = some ⟨b, o, none⟩ ∧ b < q ∧ ∀ k, k < n → NdAt w1 q b (o + k * 4) (c.nodes.getD k default) := by
  obtain ⟨v0, v1, v2, v3, e, hns, -⟩ := h.cir
  simp only [Value.agg.injEq, Array.mk.injEq, List.cons.injEq, and_true] at e
  obtain ⟨rfl, -⟩ := e
  obtain ⟨A, b, o, cc, e, hA, -, -, hc⟩ := hns
  simp only [Value.slice.injEq] at e
  obtain ⟨rfl, rfl, -⟩ := e
  exact ⟨b, o, hA h0, (hc 0 h0).1, fun k hk => (hc k hk).2⟩

theorem Row.is' {w : World} {g : Nat} {l : List Int} (h : Row w g l) (hm : l.length ≤ maxLen) : Is w w.heap.size (.slice (some ⟨g, 0, none⟩) l.length l.length) l :=
  ⟨some ⟨g, 0, none⟩, g, 0, l.length, rfl, fun _ => rfl, Nat.le_refl _, hm, fun k hk => ⟨h.lt, by
    have := h.cell hk
    unfold IntAt
    rw [Nat.zero_add, Nat.mul_one]
    exact this⟩⟩
theorem ints0 {W : World} {d n : Nat} {R : List Int} {s : Value} (hn : n = R.length) (h : Row W d R) (h' : Is W W.heap.size s R) (h0 : intsR R R n = 0) :
    Calls Tryd.prog 25 #[.slice (some ⟨d, 0, none⟩) n n, s] W fun e w' => e = .returned (.int .i64 0) ∧ ∃ k, w' = W.drewN k := by
  subst hn
  have hm : R.length ≤ maxLen := by
    obtain ⟨A, b, o, c, e, -, -, hm, -⟩ := h'
    exact hm
  have := ints_any R R _ _ s W W.heap.size W.heap.size (h.is' hm) h'
  rw [h0] at this
  exact this

set_option maxRecDepth 100000 in
set_option maxHeartbeats 8000000 in
theorem order_law (x : Cx) (hx : Cok x) (sG sA : Value) (w : World) (hT : Tabs w) (hG : Gs w w.heap.size sG x.gates) (hA : Ks w w.heap.size sA x.outs) :
    Calls Tryd.prog 6 #[.agg #[.int .u8 x.inN, .int .u8 x.dffs, .int .u8 x.d0, .int .u8 x.d1, .bool x.bus, .bool x.mem, .int .u8 x.p0, .int .u8 x.p1, .int .u8 x.p2, .int .u8 x.p3, sG, sA]] w
      fun e w' => e = .returned (.bool true) ∧ Below w.heap.size w w' := by
  obtain ⟨L, V0⟩ := vld_c x hx
  have hz := sizeN_le x
  have HOF : Hid (∀ W, Below w.heap.size w W → ∀ n, n = sizeN x → Calls Tryd.prog 32 #[.agg #[.int .u8 x.inN, .int .u8 x.dffs, .int .u8 x.d0, .int .u8 x.d1, .bool x.bus, .bool x.mem, .int .u8 x.p0, .int .u8 x.p1, .int .u8 x.p2, .int .u8 x.p3, sG, sA]] W
      fun e w' => ∃ A0 A1 A2 A3 n1 n2 n3 c0 c1 c2 c3, e = .returned (.agg #[.slice A0 n c0, .slice A1 n1 c1, .slice A2 n2 c2, .slice A3 n3 c3]) ∧ Below w.heap.size w w' ∧
        LC (ofC x) w w'.heap.size A0 A1 A2 A3 n n1 n2 n3 c0 c1 c2 c3 (w'.alloc (.cells #[.slice A0 n c0, .slice A1 n1 c1, .slice A2 n2 c2, .slice A3 n3 c3] 27))) :=
    Lib.hid fun W hb n hn => ofc_c x hx hT hG hA hb hn
  clear hT hG hA hx
  obtain ⟨n, HN⟩ := named (sizeN x)
  rw [← HN.out] at V0 hz
  obtain ⟨c, HC⟩ := named (ofC x)
  rw [← HC.out] at V0
  have HV := Lib.hid V0
  have HBX : Hid (Below w.heap.size w (w.alloc (.cells #[.int .u8 x.inN, .int .u8 x.dffs, .int .u8 x.d0, .int .u8 x.d1, .bool x.bus, .bool x.mem, .int .u8 x.p0, .int .u8 x.p1, .int .u8 x.p2, .int .u8 x.p3, sG, sA] 61))) := Lib.hid (below_new (Below.refl _ _) _)
  clear V0
  obtain ⟨i0, hi, hz0, hz1, hz2⟩ := info_parts info_bool
  have HI := Lib.hid (And.intro hi (And.intro hz0 (And.intro hz1 hz2)))
  clear hi hz0 hz1 hz2
  obtain ⟨R, HRR⟩ := named (ordTo L n n)
  have HLEN : Hid (n = R.length) := Lib.hid (by rw [HRR.out]; exact (ordTo_full HV.out.bnd).symm)
  have HINT : Hid (intsR R R n = 0) := Lib.hid (by unfold intsR; rw [if_pos ⟨rfl, by rw [← HLEN.out]; exact Nat.le_refl _⟩])
  go_enter Tryd.func6, Tryd.ntmps6
  go_wp2_with (first
    | (go_at_call 32; (with_reducible refine (HOF.out _ HBX.out n HN.out).mono ?_); rintro e w1 ⟨A0, A1, A2, A3, n1, n2, n3, c0, c1, c2, c3, rfl, hb, hl⟩; rw [← HC.out] at hl; have HL0 := Lib.hid hl; clear hb hl)
    | (go_at_call 15; (with_reducible refine (lev_v HV.out HL0.out (Below.refl _ _)).mono ?_); rintro e w2 ⟨⟨g, rfl, hg, hr⟩, hb, hl⟩; obtain ⟨x0, x1, x2, x3⟩ := hl.cells; have HL1 := Lib.hid hl; have HRL := Lib.hid hr; clear hb hl hr hg)
    | (go_at_call 16; (with_reducible refine (ord_v HV.out HL1.out (Below.refl _ _)).mono ?_); rintro e w3 ⟨⟨d, rfl, hd, hr⟩, hb, hl⟩; rw [← HRR.out] at hr; clear x0 x1 x2 x3; obtain ⟨x0, x1, x2, x3⟩ := hl.cells; have HL2 := Lib.hid hl; have HRL2 := Lib.hid (HRL.out.below hb); have HRO := Lib.hid hr; clear hb hl hr hd)
    | (go_at_call 33; (with_reducible refine (rord_v HV.out HL2.out (Below.refl _ _)).mono ?_); rintro e w4 ⟨⟨sR, rfl, hr⟩, hb, hl⟩; rw [← HRR.out] at hr; clear x0 x1 x2 x3; obtain ⟨x0, x1, x2, x3⟩ := hl.cells; have HL3 := Lib.hid hl; have HRL3 := Lib.hid (HRL2.out.below hb); have HRO3 := Lib.hid (HRO.out.below hb); have HRR3 := Lib.hid hr; clear hb hl hr)
    | (go_at_call 25; (with_reducible refine (ints0 HLEN.out HRO3.out HRR3.out HINT.out).mono ?_); rintro e w5 ⟨rfl, k5, rfl⟩; have HL4 := Lib.hid (HL3.out.next (below_drewN (Below.refl _ _) k5)); have HRL4 := Lib.hid (HRL3.out.below (below_drewN (Below.refl _ _) k5)); have HRO4 := Lib.hid (HRO3.out.below (below_drewN (Below.refl _ _) k5)); obtain ⟨wb, HWB⟩ := named (w4.drewN k5); rw [← HWB.out] at HL4 HRL4 HRO4; rw [← HWB.out]; clear x0 x1 x2 x3; obtain ⟨x0, x1, x2, x3⟩ := HL4.out.cells; clear HWB)
    | (at_make; refine wpList_make_full _ rfl _ _ 63 rfl wb.heap.size 4 i0 (.bool false) 1 Tryd.underlying63 HI.out.1 HI.out.2.1 HI.out.2.2.1 .i64 .i64 _ _ n rfl rfl rfl rfl ?b2 ?b3 ?b4 ?_))
  case b2 => rw [HI.out.2.2.2]; omega
  case b3 => unfold maxLen; omega
  case b4 => exact Nat.le_refl _
  intro w6 hown hgr
  have hbr : Below wb.heap.size wb w6 := (Below.refl _ _).grown hgr (Nat.le_refl _) (fun k h => by cases h)
  have hse : BRow w6 wb.heap.size (seenL n (R.take 0)) := by
    unfold BRow
    rw [seenL_len, List.take_zero, seenL_nil, ← made_false]
    exact hown
  obtain ⟨b, o, rfl, hbq, hnd⟩ := HL4.out.form (by omega)
  have hx6 := (HL4.out.next hbr).cells
  have hq1 : w1.heap.size < wb.heap.size := HL4.out.box.lt
  clear x0 x1 x2 x3
  obtain ⟨x0, -, -, -⟩ := hx6
  have HND := Lib.hid hnd
  have HBR := Lib.hid hbr
  have HSE := Lib.hid hse
  clear hown hgr hbr hse hnd
  go_wp2
  go_loopw [9] (fun i wr => ∃ k : Nat, i = .int .i64 k ∧ k ≤ n ∧ Below wb.heap.size wb wr ∧ BRow wr wb.heap.size (seenL n (R.take k))) (fun i _ => n - (intOf i).toNat)
  case atStart => exact ⟨0, rfl, Nat.zero_le _, HBR.out, HSE.out⟩
  case round =>
    clear HBR HSE x0
    obtain ⟨k, rfl, hk, hb, hse⟩ := hrel
    obtain ⟨x0, -, -, -⟩ := (HL4.out.next hb).cells
    have HB := Lib.hid hb
    have HSE := Lib.hid hse
    by_cases hkn : k < n
    · obtain ⟨y, hY⟩ := ordTo_at HV.out.bnd hkn
      rw [← HRR.out] at hY
      have hyn := hY.lt
      have z1 : wr.cell? ⟨d, k, none⟩ = some (.int .i64 (y : Int)) := by
        have h := (HRO4.out.below hb).cell (j := k) (by rw [← HLEN.out]; exact hkn)
        rw [h, show lat R (k : Int) = (y : Int) from hY.at_]
      have z2 : wr.cell? ⟨wb.heap.size, y, none⟩ = some (.bool false) := hse.cell (by rw [seenL_get hyn, decide_eq_false hY.fresh])
      have z3 : wr.cell? ⟨g, y, none⟩ = some (.int .i64 (lat L y)) := (HRL4.out.below hb).cell (by rw [HV.out.lvl.1, ← HV.out.len]; exact hyn)
      have z4 := hse.frozen y
      obtain ⟨ly, HLY⟩ := named (lat L y)
      rw [← HLY.out] at z3
      have HY := Lib.hid hY
      clear hb hse hY
      go_upto_region 11 with (fail)
      go_cut [125] (fun v wx => v = .bool false ∧ Below wb.heap.size wb wx ∧ BRow wx wb.heap.size (seenL n (R.take k)))
      case first =>
        have t1 : decide ((y : Int) < 0) = false := by rw [decide_eq_false_iff_not]; omega
        have t2 : decide (n ≤ y) = false := by rw [decide_eq_false_iff_not]; omega
        by_cases hk0 : 0 < k
        · obtain ⟨kp, hkp⟩ : ∃ kp, k = kp + 1 := ⟨k - 1, by omega⟩
          have hp := HY.out.prev kp hkp
          have hk' : kp < n := by omega
          obtain ⟨yp, hYp⟩ := ordTo_at HV.out.bnd hk'
          rw [← HRR.out] at hYp
          have hypn := hYp.lt
          have z5 : wr.cell? ⟨d, kp, none⟩ = some (.int .i64 (yp : Int)) := by
            have h := (HRO4.out.below HB.out).cell (j := kp) (by rw [← HLEN.out]; exact hk')
            rw [h, show lat R (kp : Int) = (yp : Int) from hYp.at_]
          have z6 : wr.cell? ⟨g, yp, none⟩ = some (.int .i64 (lat L yp)) := (HRL4.out.below HB.out).cell (by rw [HV.out.lvl.1, ← HV.out.len]; exact hypn)
          have hlex : Lex L (yp : Int) (y : Int) := by rw [← hYp.at_]; exact hp
          unfold Lex at hlex
          rw [← HLY.out] at hlex
          obtain ⟨lp, HLP⟩ := named (lat L yp)
          rw [← HLP.out] at z6 hlex
          have hs1 : IntKind.i64.wrap ((k : Int) - 1) = (kp : Int) := by rw [show (k : Int) - 1 = (kp : Int) by omega]; exact IntWalk.i64_in _ (by omega)
          have hs2 : decide (ly < lp) = false := by rw [decide_eq_false_iff_not]; omega
          have t3 : decide (0 < k) = true := by rw [decide_eq_true_iff]; exact hk0
          have t4 : decide ((0 : Int) < (k : Int)) = true := by rw [decide_eq_true_iff]; omega
          have HKP := Lib.hid hkp
          by_cases he : ly = lp
          · have hs4 : decide (y < yp) = false := by rw [decide_eq_false_iff_not]; omega
            have he2 : (ly == lp) = true := by rw [he]; simp
            clear hp hYp hlex he hkp
            go_quiet (fail)
            go_wp2
            go_meet
            exact ⟨rfl, below_drewN HB.out _, HSE.out.below (below_drewN (Below.refl _ _) _)⟩
          · have he2 : (ly == lp) = false := by simpa using he
            clear hp hYp hlex he hkp
            go_quiet (fail)
            go_wp2
            go_meet
            exact ⟨rfl, below_drewN HB.out _, HSE.out.below (below_drewN (Below.refl _ _) _)⟩
        · have t3 : decide (0 < k) = false := by rw [decide_eq_false_iff_not]; exact hk0
          have t4 : decide ((0 : Int) < (k : Int)) = false := by rw [decide_eq_false_iff_not]; omega
          go_quiet (fail)
          go_wp2
          go_meet
          exact ⟨rfl, below_drewN HB.out _, HSE.out.below (below_drewN (Below.refl _ _) _)⟩
      case rest =>
        obtain ⟨rfl, hb, hse⟩ := hcut
        clear x0 z1 z2 z3 z4
        obtain ⟨x0, -, -, -⟩ := (HL4.out.next hb).cells
        have z2 : wc.cell? ⟨wb.heap.size, y, none⟩ = some (.bool false) := hse.cell (by rw [seenL_get hyn, decide_eq_false HY.out.fresh])
        have z4 := hse.frozen y
        have hbne : ¬ b = wb.heap.size := by omega
        have hbel := hb.size
        obtain ⟨s5, h0, h1, h2, h3, h4, -⟩ := HND.out y hyn
        obtain ⟨A5, b5, o5, c5, rfl, hA5, -, hm5, hc5⟩ := h4.opens
        have hb0 : ∀ (p : Nat), wc.cell? ⟨b, p, none⟩ = wb.cell? ⟨b, p, none⟩ := fun p => hb.cell (p := ⟨b, p, none⟩) (by show b < wb.heap.size; omega)
        rw [← hb0] at h0 h1 h2 h3
        have HDEP : Hid (dep c.nodes (y : Int) = if cmb (c.nodes.getD y default).kind = true then (c.nodes.getD y default).ins else []) := Lib.hid rfl
        obtain ⟨yy, hyy⟩ : ∃ y', cmb (c.nodes.getD y default).kind = y' := ⟨_, rfl⟩
        have hpin := HV.out.pins y (by rw [← HV.out.len]; exact hyn)
        obtain ⟨kd, HKD⟩ := named (c.nodes.getD y default).kind
        obtain ⟨mm, HMM⟩ := named (c.nodes.getD y default).mem
        obtain ⟨bt, HBT⟩ := named (c.nodes.getD y default).bit
        rw [← HKD.out] at h0 hyy HDEP
        rw [← HMM.out] at h2
        rw [← HBT.out] at h3
        obtain ⟨li, HLI⟩ := named (c.nodes.getD y default).ins
        rw [← HLI.out] at h1 hA5 hm5 hc5 HDEP hpin
        obtain ⟨ni, HNI⟩ := named li.length
        rw [← HNI.out] at h1 hA5 hm5 hc5 hpin
        unfold maxLen at hm5
        have HC5 := Lib.hid hc5
        have HA5 := Lib.hid hA5
        have HYY := Lib.hid hyy
        have hrc := fun W => comb_any kd W
        rw [hyy] at hrc
        have HRC := Lib.hid hrc
        have hbl2 : b < wc.heap.size := by omega
        have hq2 : w1.heap.size < wc.heap.size := by omega
        have hs2 : wb.heap.size < wc.heap.size := hse.lt
        have hb8 : Below wb.heap.size wb ((wc.setCell ⟨wb.heap.size, y, none⟩ (.bool true)).alloc (.cells #[.int .u8 kd, .slice A5 ni c5, .int .i64 mm, .int .i64 bt] 49)) := below_new (hb.setCell (Nat.le_refl _) _) _
        have hse8 : BRow ((wc.setCell ⟨wb.heap.size, y, none⟩ (.bool true)).alloc (.cells #[.int .u8 kd, .slice A5 ni c5, .int .i64 mm, .int .i64 bt] 49)) wb.heap.size (seenL n (R.take (k + 1))) := by
          rw [HY.out.next, ← seenL_set]
          exact (hse.set y true).below (below_new (Below.refl _ _) _)
        have hfr8 : Fr ((wc.setCell ⟨wb.heap.size, y, none⟩ (.bool true)).alloc (.cells #[.int .u8 kd, .slice A5 ni c5, .int .i64 mm, .int .i64 bt] 49)) wc.heap.size 49 [.int .u8 kd, .slice A5 ni c5, .int .i64 mm, .int .i64 bt] := Fr.made _ _ _ (by simp)
        have HB8 := Lib.hid hb8
        have HSE8 := Lib.hid hse8
        have HF8 := Lib.hid hfr8
        clear hb hse h4 hb0 hyy hc5 hA5 hrc hb8 hse8 hfr8
        go_wp2
        obtain ⟨q8, HQ8⟩ := named wc.heap.size
        rw [← HQ8.out]
        rw [← HQ8.out] at HF8 hs2
        clear x0 z2 z4 h0 h1 h2 h3 hbl2 hq2 hbne hbel
        go_loopw [12, 13] (fun l i wx => ∃ m : Nat, i = .int .i64 m ∧ m ≤ ni ∧ (yy = false → m = 0) ∧ l = .int .i64 (levf L (li.take m)) ∧ Below wb.heap.size wb wx ∧ BRow wx wb.heap.size (seenL n (R.take (k + 1))) ∧ Fr wx q8 49 [.int .u8 kd, .slice A5 ni c5, .int .i64 mm, .int .i64 bt]) (fun _ i _ => ni - (intOf i).toNat)
        case atStart => exact ⟨0, rfl, Nat.zero_le _, fun _ => rfl, rfl, HB8.out, HSE8.out, HF8.out⟩
        case round =>
          clear HB8 HSE8 HF8
          obtain ⟨m, rfl, hm, hm0, rfl, hb, hse, hfr⟩ := hrel
          have z0 : wr.cell? ⟨q8, 0, none⟩ = some (.int .u8 kd) := hfr.cell 0
          have z1 : wr.cell? ⟨q8, 1, none⟩ = some (.slice A5 ni c5) := hfr.cell 1
          have zy : wr.cell? ⟨g, y, none⟩ = some (.int .i64 ly) := by
            have h := (HRL4.out.below hb).cell (j := y) (by rw [HV.out.lvl.1, ← HV.out.len]; exact hyn)
            rw [h, ← HLY.out]
          have hlvl : ly = levf L (dep c.nodes y) := by rw [HLY.out]; exact HV.out.lvl.2 y (by rw [← HV.out.len]; exact hyn)
          have HLVL := Lib.hid hlvl
          have HB := Lib.hid hb
          have HSE := Lib.hid hse
          have HFR := Lib.hid hfr
          clear hlvl
          cases yy
          · obtain rfl : m = 0 := hm0 rfl
            have hly : ly = levf L (li.take 0) := by rw [HLVL.out, HDEP.out, HYY.out, if_neg (by decide)]; rfl
            obtain ⟨lv, HLV⟩ := named (levf L (li.take 0))
            rw [← HLV.out] at hly
            rw [← HLV.out]
            have hne : (ly != lv) = false := by rw [hly]; simp
            clear hb hse hfr hm0 hly
            by_cases hn0 : 0 < ni
            · go_wp2_with (go_at_call 22; (with_reducible refine (HRC.out _).mono ?_); rintro e w3 ⟨rfl, rfl⟩)
              go_roundw
              case rel => exact ⟨k + 1, by go_num, by omega, HB.out, HSE.out⟩
              case measure => simp [intOf]; omega
            · go_wp2
              go_roundw
              case rel => exact ⟨k + 1, by go_num, by omega, HB.out, HSE.out⟩
              case measure => simp [intOf]; omega
          · by_cases hmn : m < ni
            · obtain rfl := HA5.out (by omega)
              obtain ⟨hlb5, z2⟩ := HC5.out m hmn
              have hmem : li.getD m 0 ∈ dep c.nodes y := by rw [HDEP.out, HYY.out, if_pos rfl]; exact getD_in (by rw [← HNI.out]; exact hmn)
              have hxb := HV.out.wf.dep (i := (y : Int)) (by rw [← HV.out.len]; simpa using hyn) hmem
              have hlt2 := HV.out.lvl.lt (i := (y : Int)) (by omega) (by rw [← HV.out.len]; omega) hmem
              have hsn : levf L (li.take (m + 1)) = max (levf L (li.take m)) (lat L (li.getD m 0) + 1) := by rw [take_succ_getD li m (by rw [← HNI.out]; exact hmn), levf_snoc]
              obtain ⟨xv, HX⟩ := named (li.getD m 0)
              rw [← HX.out] at z2 hxb hlt2 hsn
              obtain ⟨xn, rfl⟩ : ∃ xn : Nat, xv = (xn : Int) := ⟨xv.toNat, by omega⟩
              have hxn : xn < n := by rw [HV.out.len]; omega
              have z2' : wr.cell? ⟨b5, o5 + m, none⟩ = some (.int .i64 (xn : Int)) := (hb.cell (p := ⟨b5, o5 + m, none⟩) (by show b5 < wb.heap.size; omega)).trans z2
              have z3 : wr.cell? ⟨wb.heap.size, xn, none⟩ = some (.bool true) := hse.cell (by rw [seenL_get hxn, decide_eq_true (HY.out.deps xn hxn hlt2)])
              have z4 : wr.cell? ⟨g, xn, none⟩ = some (.int .i64 (lat L xn)) := (HRL4.out.below hb).cell (by rw [HV.out.lvl.1, ← HV.out.len]; exact hxn)
              have hlx := HV.out.bnd xn hxn
              obtain ⟨lx, HLX⟩ := named (lat L xn)
              rw [← HLX.out] at z4 hlx hsn
              obtain ⟨lv, HLV⟩ := named (levf L (li.take m))
              rw [← HLV.out] at hsn
              rw [← HLV.out]
              have HSN := Lib.hid hsn
              clear hb hse hfr hm0 hsn z2 hmem hlt2
              go_wp2_with (go_at_call 22; (with_reducible refine (HRC.out _).mono ?_); rintro e w3 ⟨rfl, rfl⟩)
              go_roundw
              case rel => exact ⟨m + 1, by go_num, by omega, (fun h => by cases h), by rw [HSN.out]; exact congrArg (Value.int .i64) (by split <;> omega), HB.out, HSE.out, HFR.out⟩
              case measure => simp [intOf]; omega
            · obtain rfl : ni = m := by omega
              have hly : ly = levf L (li.take ni) := by rw [HLVL.out, HDEP.out, HYY.out, if_pos rfl, HNI.out, List.take_length]
              obtain ⟨lv, HLV⟩ := named (levf L (li.take ni))
              rw [← HLV.out] at hly
              rw [← HLV.out]
              have hne : (ly != lv) = false := by rw [hly]; simp
              clear hb hse hfr hm0 hly
              go_wp2
              go_roundw
              case rel => exact ⟨k + 1, by go_num, by omega, HB.out, HSE.out⟩
              case measure => simp [intOf]; omega
    · obtain rfl : n = k := by omega
      have HLW := Lib.hid (HL4.out.next hb)
      clear hb hse
      go_wp2_with (go_at_call 12; (with_reducible refine (lives_v HLW.out (Below.refl _ _)).mono ?_); rintro e w7 ⟨rfl, hb⟩; have HB7 := Lib.hid hb; clear hb)
      go_ret
      exact ⟨rfl, HB7.out⟩
end Go.Proofs.YtmghdeodkeenoaaDoor
