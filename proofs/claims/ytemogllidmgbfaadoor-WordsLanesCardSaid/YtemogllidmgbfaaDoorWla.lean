/- WordsLanes: the walk. -/
import Derived.Test.YtemogllidmgbfaaDoorM44
import Derived.StillTailTactics
namespace Go.Proofs.YtemogllidmgbfaaDoor
open Go.RowKit

/-- How many lanes Unpack returns. -/
def upN (z : Int) : Nat := if z < 0 then 0 else if 64 < z then 64 else z.toNat
theorem upN_le (z : Int) : upN z ≤ 64 := by unfold upN; split <;> (try split) <;> omega
theorem upN_cases (z : Int) : (z < 0 ∧ upN z = 0) ∨ z = (upN z : Int) ∨ (64 < z ∧ upN z = 64) := by unfold upN; split <;> (try split) <;> omega
def wantL (l : List Int) (n k : Nat) : Int := if k < n then cln (l.getD k 0) else 2
set_option maxRecDepth 100000 in
set_option maxHeartbeats 4000000 in
theorem wlanes_law (l : List Int) (A : Option Addr) (n cl a b : Nat) (z0 z1 : Int) (ha : W64 a) (hb : W64 b) (hz1 : -9223372036854775808 ≤ z1 ∧ z1 ≤ 9223372036854775807) (w : World) (hT : Lg.Tabs w) (hf : Ft w) (hs : Ks w w.heap.size (.slice A n cl) l) (hp0 : ∀ y ∈ l, 0 ≤ y ∧ y ≤ 255) :
    Calls Tryd.prog 3 #[.slice A n cl, wv a b, .agg #[.int .i64 z0, .int .i64 z1]] w fun e w' => e = .returned (.bool true) ∧ Below w.heap.size w w' := by
  obtain ⟨W1, HW1⟩ := named ((w.alloc (.cells #[.int .u64 (a : Int), .int .u64 (b : Int)] 25)).alloc (.cells #[.int .i64 z0, .int .i64 z1] 26))
  have hb1 : BelW w W1 := by rw [HW1.out]; exact below_new (below_new (Below.refl _ _) _) _
  have hf0 : Fr W1 w.heap.size 25 [.int .u64 (a : Int), .int .u64 (b : Int)] := by rw [HW1.out]; exact Fr.alloc (Fr.made _ _ _ rfl) _
  have hf1 : Fr W1 (w.heap.size + 1) 26 [.int .i64 z0, .int .i64 z1] := by rw [HW1.out]; exact Fr.made _ _ _ (by simp)
  obtain ⟨A', bb, o, c', e, hA, -, hm, hc⟩ := hs.opens
  simp only [Value.slice.injEq] at e
  obtain ⟨rfl, hnl, rfl⟩ := e
  rw [← hnl] at hA hm hc
  unfold maxLen at hm
  have HLV : Hid (∀ W, BelW W1 W → Calls Tryd.prog 6 #[] W fun e w' => e = .returned (.bool true) ∧ BelW W w') := Lib.hid fun W h => lives7_any W (hT.below (joinB hb1 h)) (hf.below (joinB hb1 h))
  have HKS : ∀ W, BelW W1 W → Ks W W.heap.size (.slice A n cl) l := fun W h => Arr.keep stays_u8 hs (Below.size (joinB hb1 h)) fun _ hp => Below.cell (joinB hb1 h) hp
  have hpw : W64 (pkA l (min n 64)) ∧ W64 (pkB l (min n 64)) := ⟨pkA_w _ _ (by omega), pkB_w _ _ (by omega)⟩
  have hpl : ∀ k, k < 64 → lnV (pkA l (min n 64)) (pkB l (min n 64)) k = wantL l n k := fun k hk => by
    rw [pack_ln (fun y hy => (hp0 y hy).1) hk]
    unfold wantL
    by_cases h : k < n
    · rw [if_pos (by omega), if_pos h]
    · rw [if_neg (by omega), if_neg h]
  have HPK : Hid (∀ W, BelW W1 W → Calls Tryd.prog 7 #[.slice A n cl] W fun e w' => e = .returned (.agg #[.int .u64 (pkA l (min n 64) : Int), .int .u64 (pkB l (min n 64) : Int)]) ∧ BelW W w') := Lib.hid fun W h => pack_any l A n cl W W.heap.size (Nat.le_refl _) (hf.below (joinB hb1 h)) (HKS W h) fun y hy => (hp0 y hy).1
  obtain ⟨v, HV⟩ := named (if 0 < n then l.getD 0 0 else 2)
  have hv0 : 0 ≤ v := by
    rw [HV.out]
    split
    · have : l.getD 0 0 ∈ l := by rw [List.getD_eq_getElem?_getD, List.getElem?_eq_getElem (by omega)]; exact List.getElem_mem _
      exact (hp0 _ this).1
    · decide
  have hfw : W64 (fA (cln v)) ∧ W64 (fB (cln v)) := ⟨fA_w _, fB_w _⟩
  have hcl := cln_cases v hv0
  have hfl : ∀ k, k < 64 → lnV (fA (cln v)) (fB (cln v)) k = cln v := fun k hk => fill_ln (by omega) (by omega) hk
  have HFI : Hid (∀ W, BelW W1 W → Calls Tryd.prog 8 #[.int .u8 v] W fun e w' => e = .returned (.agg #[.int .u64 (fA (cln v) : Int), .int .u64 (fB (cln v) : Int)]) ∧ BelW W w') := Lib.hid fun W h => fill_any v hv0 W (hf.below (joinB hb1 h))
  obtain ⟨p1, HP1⟩ := named (pkA l (min n 64))
  obtain ⟨p2, HP2⟩ := named (pkB l (min n 64))
  obtain ⟨f1, HF1⟩ := named (fA (cln v))
  obtain ⟨f2, HF2⟩ := named (fB (cln v))
  rw [← HP1.out, ← HP2.out] at hpw hpl HPK
  rw [← HF1.out, ← HF2.out] at hfw hfl HFI
  obtain ⟨m, HM⟩ := named (upN z1)
  have hm64 : m ≤ 64 := by rw [HM.out]; exact upN_le z1
  have hmc := upN_cases z1
  rw [← HM.out] at hmc
  obtain ⟨ul, HUL⟩ := named ((List.range m).map (lnV a b))
  have HUN : Hid (∀ W, BelW W1 W → Calls Tryd.prog 9 #[.agg #[.int .u64 (a : Int), .int .u64 (b : Int)], .int .i64 z1] W fun e w' => ∃ g, e = .returned (.slice (some ⟨g, 0, none⟩) m m) ∧ VRow w' g ul ∧ BelW W w') := Lib.hid fun W h => by
    rw [HUL.out]
    exact unpack_any a b ha hb z1 m hm64 hmc W (hf.below (joinB hb1 h))
  have hull : ul.length = m := by rw [HUL.out]; simp
  have hula : ∀ k, k < m → lat ul (k : Int) = lnV a b k := fun k hk => by
    unfold lat
    rw [HUL.out, Int.toNat_natCast, List.getD_eq_getElem?_getD, List.getElem?_map, List.getElem?_range hk]; rfl
  have HLP : Hid (∀ W (k : Nat), k < 64 → Calls Tryd.prog 11 #[.agg #[.int .u64 (p1 : Int), .int .u64 (p2 : Int)], .int .i64 (k : Int)] W fun e w' => e = .returned (.int .u8 (wantL l n k)) ∧ BelW W w') := Lib.hid fun W k hk => by rw [← hpl k hk]; exact lat7_any p1 p2 k hpw.1 hpw.2 hk W
  have HAP : Hid (∀ W (k : Nat), BelW W1 W → k < 64 → Calls Tryd.prog 12 #[.agg #[.int .u64 (p1 : Int), .int .u64 (p2 : Int)], .int .i64 (k : Int)] W fun e w' => e = .returned (.int .u8 (wantL l n k)) ∧ BelW W w') := Lib.hid fun W k h hk => by rw [← hpl k hk]; exact wat_any p1 p2 k hpw.1 hpw.2 hk W (hf.below (joinB hb1 h))
  have HLF : Hid (∀ W (k : Nat), k < 64 → Calls Tryd.prog 11 #[.agg #[.int .u64 (f1 : Int), .int .u64 (f2 : Int)], .int .i64 (k : Int)] W fun e w' => e = .returned (.int .u8 (cln v)) ∧ BelW W w') := Lib.hid fun W k hk => by rw [← hfl k hk]; exact lat7_any f1 f2 k hfw.1 hfw.2 hk W
  have HLW : Hid (∀ W (k : Nat), k < 64 → Calls Tryd.prog 11 #[.agg #[.int .u64 (a : Int), .int .u64 (b : Int)], .int .i64 (k : Int)] W fun e w' => e = .returned (.int .u8 (lnV a b k)) ∧ BelW W w') := Lib.hid fun W k hk => lat7_any a b k ha hb hk W
  have HAW : Hid (∀ W (k : Nat), BelW W1 W → k < 64 → Calls Tryd.prog 12 #[.agg #[.int .u64 (a : Int), .int .u64 (b : Int)], .int .i64 (k : Int)] W fun e w' => e = .returned (.int .u8 (lnV a b k)) ∧ BelW W w') := Lib.hid fun W k h hk => wat_any a b k ha hb hk W (hf.below (joinB hb1 h))
  have HAO : Hid (∀ W, ¬ (0 ≤ z0 ∧ z0 < 64) → Calls Tryd.prog 12 #[.agg #[.int .u64 (a : Int), .int .u64 (b : Int)], .int .i64 z0] W fun e w' => e = .returned (.int .u8 2) ∧ BelW W w') := Lib.hid fun W h => wat_out a b z0 h W
  have HCL : Hid (∀ q W, Calls Tryd.prog 10 #[.int .u8 q] W fun e w' => e = .returned (.int .u8 (cln q)) ∧ W = w') := Lib.hid fun q W => Lg.clean_any q W
  have HWL : Hid (∀ k : Nat, wantL l n k = if k < n then cln (l.getD k 0) else 2) := Lib.hid fun k => rfl
  have HA := Lib.hid hA
  have HC : Hid (∀ W, BelW W1 W → ∀ k, k < n → W.cell? ⟨bb, o + k, none⟩ = some (.int .u8 (l.getD k 0))) := Lib.hid fun W h k hk => (Below.cell (joinB hb1 h) (p := ⟨bb, o + k, none⟩) (hc k hk).1).trans (hc k hk).2
  have HVI : Hid (v = if 0 < n then l.getD 0 0 else 2) := HV
  have HB1 := Lib.hid hb1
  obtain ⟨q, HQ⟩ := named w.heap.size
  rw [← HQ.out] at hf0 hf1
  have HK1 : Hid (∀ W, BelW W1 W → W.cell? ⟨q, 0, none⟩ = some (.int .u64 (a : Int)) ∧ W.cell? ⟨q, 1, none⟩ = some (.int .u64 (b : Int)) ∧ W.cell? ⟨q + 1, 0, none⟩ = some (.int .i64 z0) ∧ W.cell? ⟨q + 1, 1, none⟩ = some (.int .i64 z1)) := Lib.hid fun W h => ⟨(hf0.below h).cell 0, (hf0.below h).cell 1, (hf1.below h).cell 0, (hf1.below h).cell 1⟩
  obtain ⟨wn, HWN⟩ : ∃ wn : Nat → Int, wn = wantL l n := ⟨_, rfl⟩
  rw [← HWN] at HLP HAP HWL
  obtain ⟨lnw, HLNW⟩ : ∃ lnw : Nat → Int, lnw = lnV a b := ⟨_, rfl⟩
  rw [← HLNW] at HLW HAW hula
  have HUA := Lib.hid hula
  have HLL := Lib.hid hull
  have hs0 : BelW W1 W1 := Below.refl _ _
  clear hf0 hf1 hs hA hc hT hf hb1 HKS hpw hpl hfw hcl hfl hula hull HP1 HP2 HF1 HF2 HM HUL HV hp0 ha hb hnl hv0 HWN HLNW
  unfold wv
  obtain ⟨x0, x1, x2, x3⟩ := HK1.out W1 hs0
  by_cases hn : 200 < n
  · have hn2 : (200 : Int) < (n : Int) := by omega
    go_enter Tryd.func3, Tryd.ntmps3
    go_upto_region 1 with (fail)
    rw [← HW1.out]
    go_wp2_with (go_at_call 6; (with_reducible refine (HLV.out _ hs0).mono ?_); rintro e w2 ⟨rfl, hb⟩; have HB := Lib.hid hb; clear hb)
    go_ret
    exact ⟨rfl, joinB HB1.out HB.out⟩
  have hn2 : ¬ (200 : Int) < (n : Int) := by omega
  go_enter Tryd.func3, Tryd.ntmps3
  go_upto_region 1 with (fail)
  rw [← HW1.out, ← HQ.out]
  go_upto_if 21 with (go_at_call 7; (with_reducible refine (HPK.out _ hs0).mono ?_); rintro e w2 ⟨rfl, hb⟩; have hs2 : BelW W1 w2 := hb; clear hb)
  obtain ⟨V2, HV2⟩ := named (w2.alloc (.cells #[.int .u64 (p1 : Int), .int .u64 (p2 : Int)] 25))
  have hn2' : BelW w2 V2 := by rw [HV2.out]; exact below_new (Below.refl _ _) _
  have hfp : Fr V2 w2.heap.size 25 [.int .u64 (p1 : Int), .int .u64 (p2 : Int)] := by rw [HV2.out]; exact Fr.made _ _ _ rfl
  have hs3 : BelW W1 V2 := hs2.trans hn2'
  obtain ⟨q2, HQ2⟩ := named w2.heap.size
  rw [← HQ2.out] at hfp
  rw [← HV2.out, ← HQ2.out]
  clear x0 x1 x2 x3 hn2'
  go_cut [8] (fun s wx => s = .int .u8 v ∧ wx = V2)
  case first =>
    by_cases h0 : 0 < n
    · obtain rfl := HA.out h0
      have f0 : V2.cell? ⟨bb, o, none⟩ = some (.int .u8 (l.getD 0 0)) := HC.out V2 hs3 0 h0
      have hv := HVI.out
      rw [if_pos h0] at hv
      rw [← hv] at f0
      clear hv
      have h02 : (0 : Int) < (n : Int) := by omega
      go_wp2
      go_meet
      case rel => exact ⟨rfl, rfl⟩
    · have hv := HVI.out
      rw [if_neg h0] at hv
      have h02 : ¬ (0 : Int) < (n : Int) := by omega
      go_wp2
      go_meet
      case rel => exact ⟨by rw [hv], rfl⟩
  case rest =>
    obtain ⟨rfl, hw2⟩ := hcut
    obtain rfl : V2 = wc := hw2.symm
    have HFP := Lib.hid hfp
    clear hfp
    go_upto_region 8 with (go_at_call 8; (with_reducible refine (HFI.out _ hs3).mono ?_); rintro e w4 ⟨rfl, hb⟩; have hs4 : BelW W1 w4 := hs3.trans hb; have hV4 : BelW V2 w4 := hb; clear hb)
    obtain ⟨V4, HV4⟩ := named (w4.alloc (.cells #[.int .u64 (f1 : Int), .int .u64 (f2 : Int)] 25))
    have hn4 : BelW w4 V4 := by rw [HV4.out]; exact below_new (Below.refl _ _) _
    have hff : Fr V4 w4.heap.size 25 [.int .u64 (f1 : Int), .int .u64 (f2 : Int)] := by rw [HV4.out]; exact Fr.made _ _ _ rfl
    have hs5 : BelW W1 V4 := hs4.trans hn4
    have hfp4 := HFP.out.below (hV4.trans hn4)
    obtain ⟨q3, HQ3⟩ := named w4.heap.size
    rw [← HQ3.out] at hff
    rw [← HV4.out, ← HQ3.out]
    obtain ⟨x0, x1, x2, x3⟩ := HK1.out V4 hs5
    have HS5 := Lib.hid hs5
    have HKP : Hid (∀ W, BelW V4 W → W.cell? ⟨q2, 0, none⟩ = some (.int .u64 (p1 : Int)) ∧ W.cell? ⟨q2, 1, none⟩ = some (.int .u64 (p2 : Int)) ∧ W.cell? ⟨q3, 0, none⟩ = some (.int .u64 (f1 : Int)) ∧ W.cell? ⟨q3, 1, none⟩ = some (.int .u64 (f2 : Int))) := Lib.hid fun W h => ⟨(hfp4.below h).cell 0, (hfp4.below h).cell 1, (hff.below h).cell 0, (hff.below h).cell 1⟩
    clear hn4 hff hfp4 hV4 hs4 HFP hs3 hs2
    go_upto_region 9 with (go_at_call 9; (with_reducible refine (HUN.out _ hs5).mono ?_); rintro e w6 ⟨g, rfl, hvu, hb⟩; have HVU := Lib.hid hvu; have hs6 : BelW V4 w6 := hb; clear hb hvu x0 x1 x2 x3)
    have hs7 : BelW W1 w6 := hs5.trans hs6
    obtain ⟨x0, x1, x2, x3⟩ := HK1.out w6 hs7
    go_cut [44] (fun s wx => s = .bool false ∧ wx = w6)
    case first =>
      rcases hmc with ⟨h1, h2⟩ | h1 | ⟨h1, h2⟩
      · subst h2
        have h3 : ¬ 64 < z1 := by omega
        have h4 : ¬ 0 < z1 := by omega
        have h5 : z1 < 64 := by omega
        go_wp2
        go_meet
        case rel => exact ⟨rfl, rfl⟩
      · subst h1
        have h3 : ¬ (64 : Int) < (m : Int) := by omega
        by_cases h4 : 0 < m
        · have h5 : (0 : Int) < (m : Int) := by omega
          go_wp2
          go_meet
          case rel => exact ⟨rfl, rfl⟩
        · obtain rfl : m = 0 := by omega
          go_wp2
          go_meet
          case rel => exact ⟨rfl, rfl⟩
      · subst h2
        have h3 : ¬ z1 < 64 := by omega
        go_wp2
        go_meet
        case rel => exact ⟨rfl, rfl⟩
    case rest =>
      obtain ⟨rfl, hw2⟩ := hcut
      obtain rfl : w6 = wc := hw2.symm
      have HS6 := Lib.hid hs6
      clear x0 x1 x2 x3 hmc hs7 hs5 hs6
      go_wp2
      go_loopw [11] (fun i wr => BelW w6 wr ∧ ∃ k : Nat, k ≤ 64 ∧ i = .int .i64 k) (fun i _ => 64 - (intOf i).toNat)
      case atStart => exact ⟨Below.refl _ _, 0, by omega, rfl⟩
      case round =>
        obtain ⟨hbr, k, hk, rfl⟩ := hrel
        have HBR := Lib.hid hbr
        have hs1 : BelW W1 wr := (HS5.out.trans HS6.out).trans hbr
        have hs4 : BelW V4 wr := HS6.out.trans hbr
        by_cases hlt : k < 64
        · have hlt2 : (k : Int) < 64 := by omega
          have HWK := Lib.hid (HWL.out k)
          have HLP2 := Lib.hid (fun W => HLP.out W k hlt)
          have HAP2 := Lib.hid (fun W h => HAP.out W k h hlt)
          have HLF2 := Lib.hid (fun W => HLF.out W k hlt)
          have HLW2 := Lib.hid (fun W => HLW.out W k hlt)
          have HAW2 := Lib.hid (fun W h => HAW.out W k h hlt)
          obtain ⟨t, HT0⟩ := named (wn k)
          rw [← HT0.out] at HWK HLP2 HAP2
          obtain ⟨lz, HLZ⟩ := named (lnw k)
          rw [← HLZ.out] at HLW2 HAW2
          obtain ⟨cv, HCV⟩ := named (cln v)
          rw [← HCV.out] at HLF2
          go_upto_if 52 with (fail)
          go_cut [12] (fun s wx => s = .int .u8 t ∧ wx = wr)
          case first =>
            by_cases hkn : k < n
            · obtain rfl := HA.out (by omega)
              have hkn2 : (k : Int) < (n : Int) := by omega
              have f0 := HC.out wr hs1 k hkn
              have hw := HWK.out
              rw [if_pos hkn] at hw
              have HC2 := Lib.hid (fun W => HCL.out (l.getD k 0) W)
              rw [← hw] at HC2
              obtain ⟨lk, HLK⟩ := named (l.getD k 0)
              rw [← HLK.out] at HC2 f0
              clear hw
              go_wp2_with (go_at_call 10; (with_reducible refine (HC2.out _).mono ?_); rintro e w' ⟨rfl, rfl⟩)
              go_meet
              case rel => exact ⟨rfl, rfl⟩
            · have hkn2 : ¬ (k : Int) < (n : Int) := by omega
              have hw := HWK.out
              rw [if_neg hkn] at hw
              go_wp2
              go_meet
              case rel => exact ⟨by rw [hw], rfl⟩
          case rest =>
            obtain ⟨rfl, hw2⟩ := hcut
            obtain rfl : wr = wc := hw2.symm
            obtain ⟨x0, x1, -, -⟩ := HK1.out wr hs1
            obtain ⟨y0, y1, y2, y3⟩ := HKP.out wr hs4
            have hvr := HVU.out.below hbr
            have QLP : Hid (∀ xx : Beh wr, Calls Tryd.prog 11 #[.agg #[.int .u64 (p1 : Int), .int .u64 (p2 : Int)], .int .i64 (k : Int)] xx.x fun e w' => e = .returned (.int .u8 t) ∧ Below wr.heap.size wr w') := Lib.hid fun xx => (HLP2.out xx.x).mono fun e w' ⟨h1, h2⟩ => ⟨h1, joinB xx.below h2⟩
            have QAP : Hid (∀ xx : Beh wr, Calls Tryd.prog 12 #[.agg #[.int .u64 (p1 : Int), .int .u64 (p2 : Int)], .int .i64 (k : Int)] xx.x fun e w' => e = .returned (.int .u8 t) ∧ Below wr.heap.size wr w') := Lib.hid fun xx => (HAP2.out xx.x (joinB hs1 xx.below)).mono fun e w' ⟨h1, h2⟩ => ⟨h1, joinB xx.below h2⟩
            have QLF : Hid (∀ xx : Beh wr, Calls Tryd.prog 11 #[.agg #[.int .u64 (f1 : Int), .int .u64 (f2 : Int)], .int .i64 (k : Int)] xx.x fun e w' => e = .returned (.int .u8 cv) ∧ Below wr.heap.size wr w') := Lib.hid fun xx => (HLF2.out xx.x).mono fun e w' ⟨h1, h2⟩ => ⟨h1, joinB xx.below h2⟩
            have QLW : Hid (∀ xx : Beh wr, Calls Tryd.prog 11 #[.agg #[.int .u64 (a : Int), .int .u64 (b : Int)], .int .i64 (k : Int)] xx.x fun e w' => e = .returned (.int .u8 lz) ∧ Below wr.heap.size wr w') := Lib.hid fun xx => (HLW2.out xx.x).mono fun e w' ⟨h1, h2⟩ => ⟨h1, joinB xx.below h2⟩
            have QAW : Hid (∀ xx : Beh wr, Calls Tryd.prog 12 #[.agg #[.int .u64 (a : Int), .int .u64 (b : Int)], .int .i64 (k : Int)] xx.x fun e w' => e = .returned (.int .u8 lz) ∧ Below wr.heap.size wr w') := Lib.hid fun xx => (HAW2.out xx.x (joinB hs1 xx.below)).mono fun e w' ⟨h1, h2⟩ => ⟨h1, joinB xx.below h2⟩
            have QCL : Hid (∀ xx : Beh wr, Calls Tryd.prog 10 #[.int .u8 v] xx.x fun e w' => e = .returned (.int .u8 cv) ∧ xx.x = w') := Lib.hid fun xx => by rw [HCV.out]; exact HCL.out v xx.x
            have g0 : ∀ xx : Beh wr, xx.x.cell? ⟨q, 0, none⟩ = some (.int .u64 (a : Int)) := fun xx => beh_cell (cell_lt x0) x0 xx
            have g1 : ∀ xx : Beh wr, xx.x.cell? ⟨q, 1, none⟩ = some (.int .u64 (b : Int)) := fun xx => beh_cell (cell_lt x1) x1 xx
            have g2 : ∀ xx : Beh wr, xx.x.cell? ⟨q2, 0, none⟩ = some (.int .u64 (p1 : Int)) := fun xx => beh_cell (cell_lt y0) y0 xx
            have g3 : ∀ xx : Beh wr, xx.x.cell? ⟨q2, 1, none⟩ = some (.int .u64 (p2 : Int)) := fun xx => beh_cell (cell_lt y1) y1 xx
            have g4 : ∀ xx : Beh wr, xx.x.cell? ⟨q3, 0, none⟩ = some (.int .u64 (f1 : Int)) := fun xx => beh_cell (cell_lt y2) y2 xx
            have g5 : ∀ xx : Beh wr, xx.x.cell? ⟨q3, 1, none⟩ = some (.int .u64 (f2 : Int)) := fun xx => beh_cell (cell_lt y3) y3 xx
            obtain ⟨ks, hks⟩ : ∃ ks, decide ((k : Int) < (m : Int)) = ks := ⟨_, rfl⟩
            have hks2 : decide (k < m) = ks := by rw [← hks]; simp
            have g6 : ks = true → ∀ xx : Beh wr, xx.x.cell? ⟨g, k, none⟩ = some (.int .u8 lz) := fun h xx => by
              have hkm : k < m := by rw [← hks] at h; have := of_decide_eq_true h; omega
              have h2 := hvr.cell (j := k) (by rw [HLL.out]; exact hkm)
              rw [HUA.out k hkm, ← HLZ.out] at h2
              exact beh_cell (cell_lt h2) h2 xx
            clear hvr x0 x1 y0 y1 y2 y3 HLP2 HAP2 HLF2 HLW2 HAW2 HWK
            go_upto_if 102 with (fail)
            cases ks with
            | false =>
              clear g6
              refine region_class (w0 := wr) (Below.refl _ _) (by kernel_rfl) (by kernel_rfl) ?_
              repeat (first
                | go_big_quiet_skip
                | (go_big_quiet_want; go_big_quiet_op; first
                  | go_big_quiet_on
                  | (apply Exists.intro
                     refine ⟨fun xx => ?_, ?_⟩
                     focus first
                      | (go_at_call 11; with_reducible exact beh_of (QLP.out xx))
                      | (go_at_call 12; with_reducible exact beh_of (QAP.out xx))
                      | (go_at_call 11; with_reducible exact beh_of (QLF.out xx))
                      | (go_at_call 10; with_reducible exact beh_same (QCL.out xx))
                      | (go_at_call 12; with_reducible exact beh_of (QAW.out xx))
                      | (go_at_call 11; with_reducible exact beh_of (QLW.out xx))
                     go_big_quiet_on)))
              refine wpQuiet_nil ?_
              rintro wz ⟨⟨wz', hz⟩, rfl⟩
              go_wp2
              go_roundw
              case rel => exact ⟨joinB HBR.out hz, k + 1, by omega, by go_num⟩
              case measure => simp [intOf]; omega
            | true =>
              have g7 := g6 rfl
              have hkm2 : (k : Int) < (m : Int) := of_decide_eq_true hks
              have hkm3 : k < m := by omega
              clear g6
              refine region_class (w0 := wr) (Below.refl _ _) (by kernel_rfl) (by kernel_rfl) ?_
              repeat (first
                | go_big_quiet_skip
                | (go_big_quiet_want; go_big_quiet_op; first
                  | go_big_quiet_on
                  | (apply Exists.intro
                     refine ⟨fun xx => ?_, ?_⟩
                     focus first
                      | (go_at_call 11; with_reducible exact beh_of (QLP.out xx))
                      | (go_at_call 12; with_reducible exact beh_of (QAP.out xx))
                      | (go_at_call 11; with_reducible exact beh_of (QLF.out xx))
                      | (go_at_call 10; with_reducible exact beh_same (QCL.out xx))
                      | (go_at_call 12; with_reducible exact beh_of (QAW.out xx))
                      | (go_at_call 11; with_reducible exact beh_of (QLW.out xx))
                     go_big_quiet_on)))
              refine wpQuiet_nil ?_
              rintro wz ⟨⟨wz', hz⟩, rfl⟩
              go_wp2
              go_roundw
              case rel => exact ⟨joinB HBR.out hz, k + 1, by omega, by go_num⟩
              case measure => simp [intOf]; omega
        · obtain ⟨-, -, x2, -⟩ := HK1.out wr hs1
          obtain ⟨x0, x1, -, -⟩ := HK1.out wr hs1
          by_cases h1 : 0 ≤ z0
          · by_cases h2 : z0 < 64
            · go_wp2_with (go_at_call 6; (with_reducible refine (HLV.out _ hs1).mono ?_); rintro e w8 ⟨rfl, hb⟩; have HB8 : Hid (BelW W1 w8) := Lib.hid (hs1.trans hb); clear hb)
              go_ret
              exact ⟨rfl, joinB HB1.out HB8.out⟩
            · have HAO2 := Lib.hid (fun W => HAO.out W (fun h => h2 h.2))
              go_wp2_with (first
                | (go_at_call 12; (with_reducible refine (HAO2.out _).mono ?_); rintro e w7 ⟨rfl, hb⟩; have hs7 : BelW W1 w7 := hs1.trans hb; clear hb)
                | (go_at_call 6; (with_reducible refine (HLV.out _ hs7).mono ?_); rintro e w8 ⟨rfl, hb⟩; have HB8 : Hid (BelW W1 w8) := Lib.hid (hs7.trans hb); clear hb))
              go_ret
              exact ⟨rfl, joinB HB1.out HB8.out⟩
          · have HAO2 := Lib.hid (fun W => HAO.out W (fun h => h1 h.1))
            go_wp2_with (first
              | (go_at_call 12; (with_reducible refine (HAO2.out _).mono ?_); rintro e w7 ⟨rfl, hb⟩; have hs7 : BelW W1 w7 := hs1.trans hb; clear hb)
              | (go_at_call 6; (with_reducible refine (HLV.out _ hs7).mono ?_); rintro e w8 ⟨rfl, hb⟩; have HB8 : Hid (BelW W1 w8) := Lib.hid (hs7.trans hb); clear hb))
            go_ret
            exact ⟨rfl, joinB HB1.out HB8.out⟩
end Go.Proofs.YtemogllidmgbfaaDoor
