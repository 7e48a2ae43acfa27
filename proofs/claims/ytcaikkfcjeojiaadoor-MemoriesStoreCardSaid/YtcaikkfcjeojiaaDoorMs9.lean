/- MemoriesStore: the law's walk. -/
import Derived.Test.YtcaikkfcjeojiaaDoorM36
import Derived.Test.YtcaikkfcjeojiaaDoorM38
import Derived.Test.YtcaikkfcjeojiaaDoorM39
import Derived.Test.YtcaikkfcjeojiaaDoorM25
import Derived.Test.YtcaikkfcjeojiaaDoorM40
namespace Go.Proofs.YtcaikkfcjeojiaaDoor
open Go.RowKit

theorem stw_ref (ws : List (List Int)) (ad dt : List Int) (en : Int) (j : Nat) : stW ws ad dt en j = refW (ws.getD j []) j ad dt en (ws.getD j []).length := by
  apply List.ext_getElem (by rw [stW_len, refW_len])
  intro b h1 h2
  have h3 : b < (ws.getD j []).length := by rw [← stW_len ws ad dt en j]; exact h1
  have := store_ref ws ad dt en j b h3
  rw [List.getD_eq_getElem?_getD, List.getElem?_eq_getElem h1] at this
  simpa [refW] using this
theorem VStk.at_len {w : World} {base n : Nat} {v : Value} {l : List Int} (h : VStk w base v l) (hl : l.length = n) : ∃ A c, v = .slice A n c ∧ Ks w w.heap.size (.slice A n c) l := by
  obtain ⟨A, c, e, -⟩ := h.form
  rw [hl] at e
  exact ⟨A, c, e, by rw [← e]; exact h.ks⟩
set_option maxRecDepth 100000 in
set_option maxHeartbeats 8000000 in
theorem msto_law (ws : List (List Int)) (ad dt : List Int) (en : Int) (A Aa Ad : Option Addr) (m c ma ca md cd : Nat) (w : World) (hT : Ch.Cht w) (hw : Wrds w w.heap.size (.slice A m c) ws) (ha : Ks w w.heap.size (.slice Aa ma ca) ad) (hd : Ks w w.heap.size (.slice Ad md cd) dt)
    (fm : m ≤ 140737488355328) (fw : ∀ k, k < m → Fine1 (ws.getD k [])) (fa : ma ≤ 140737488355328) (fd : md ≤ 140737488355328) :
    Calls Tryd.prog 3 #[.slice A m c, .agg #[.slice Aa ma ca, .slice Ad md cd, .int .u8 en]] w fun e w' => e = .returned (.bool true) ∧ Below w.heap.size w w' := by
  obtain ⟨W1, HW1⟩ := named (w.alloc (.cells #[.slice Aa ma ca, .slice Ad md cd, .int .u8 en] 26))
  have hb1 : BelW w W1 := by rw [HW1.out]; exact below_new (Below.refl _ _) _
  have hf1 : Fr W1 w.heap.size 26 [.slice Aa ma ca, .slice Ad md cd, .int .u8 en] := by rw [HW1.out]; exact Fr.made _ [.slice Aa ma ca, .slice Ad md cd, .int .u8 en] _ rfl
  obtain ⟨q, HQ⟩ := named w.heap.size
  rw [← HQ.out] at hf1
  have HXC : Hid (∀ W, BelW W1 W → W.cell? ⟨q, 0, none⟩ = some (.slice Aa ma ca) ∧ W.cell? ⟨q, 1, none⟩ = some (.slice Ad md cd) ∧ W.cell? ⟨q, 2, none⟩ = some (.int .u8 en)) := Lib.hid fun W h => ⟨(hf1.below h).cell 0, (hf1.below h).cell 1, (hf1.below h).cell 2⟩
  have HWW : Hid (∀ W, BelW W1 W → Wrds W W.heap.size (.slice A m c) ws) := Lib.hid fun W h => Arr.keep stays_wds hw (Below.size (joinB hb1 h)) fun _ hp => Below.cell (joinB hb1 h) hp
  have HWA : Hid (∀ W, BelW W1 W → Ks W W.heap.size (.slice Aa ma ca) ad) := Lib.hid fun W h => Arr.keep stays_u8 ha (Below.size (joinB hb1 h)) fun _ hp => Below.cell (joinB hb1 h) hp
  have HWD : Hid (∀ W, BelW W1 W → Ks W W.heap.size (.slice Ad md cd) dt) := Lib.hid fun W h => Arr.keep stays_u8 hd (Below.size (joinB hb1 h)) fun _ hp => Below.cell (joinB hb1 h) hp
  have HFW := Lib.hid (few9_any ws A Aa Ad m c ma ca md cd W1 W1.heap.size (HWW.out W1 (Below.refl _ _)) fa fd fm fun k hk => (fw k hk).2)
  have HLV : Hid (∀ W, BelW W1 W → Calls Tryd.prog 6 #[] W fun e w' => e = .returned (.bool true) ∧ BelW W w') := Lib.hid fun W h => lives9_any W (hT.below (joinB hb1 h))
  have HTX : Hid (FewN ws m ma md → ∀ W, BelW W1 W → Calls Tryd.prog 7 #[.slice A m c] W fun e w' => e = .returned (.string (txtW ws m)) ∧ BelW W w') := Lib.hid fun hs W h =>
    textw_any ws A m c W W.heap.size (Nat.le_refl _) (HWW.out W h) (Nat.le_trans hs.1 (by decide)) (fun k hk => ⟨Nat.le_trans (hs.2.2.2 k hk) (by decide), fun y hy => ((fw k hk).1 y hy).1⟩) (hT.below (joinB hb1 h))
  have HST : Hid (FewN ws m ma md → ∀ W, BelW W1 W → Calls Tryd.prog 8 #[.slice A m c, .slice Aa ma ca, .slice Ad md cd, .int .u8 en] W fun e w' => ∃ D T, e = .returned (.slice (some ⟨D, 0, none⟩) m m) ∧ SRow w' D (stW ws ad dt en) m m T ∧ W.heap.size ≤ D ∧ BelW W w') := Lib.hid fun hs W h =>
    store_any ws ad dt en A Aa Ad m c ma ca md cd W W.heap.size (Nat.le_refl _) (HWW.out W h) (HWA.out W h) (HWD.out W h) (Nat.le_trans hs.1 (by decide)) fun k hk => Nat.le_trans (hs.2.2.2 k hk) (by decide)
  obtain ⟨A', b, o, c', e, hA, -, -, hc⟩ := hw
  simp only [Value.slice.injEq] at e
  obtain ⟨rfl, hml, rfl⟩ := e
  rw [← hml] at hA hc
  have HA := Lib.hid hA
  have HRF : Hid (FewN ws m ma md → ∀ i, i < m → ∃ A4 n4 c4, n4 = (ws.getD i []).length ∧ n4 ≤ 400 ∧ ∀ W, BelW W1 W → W.cell? ⟨b, o + i, none⟩ = some (.slice A4 n4 c4) ∧ Calls Tryd.prog 10 #[.slice A4 n4 c4, .int .i64 (i : Int), .slice Aa ma ca, .slice Ad md cd, .int .u8 en] W fun e w' => (∃ A5 c5, e = .returned (.slice A5 n4 c5) ∧ Ks w' w'.heap.size (.slice A5 n4 c5) (stW ws ad dt en i)) ∧ BelW W w') := Lib.hid fun hs i hi => by
    obtain ⟨hbw, A4, c4, h1, h2⟩ := hc i hi
    rw [Nat.mul_one] at h1
    refine ⟨A4, _, c4, rfl, hs.2.2.2 i hi, fun W h => ⟨(Below.cell (joinB hb1 h) (p := ⟨b, o + i, none⟩) hbw).trans h1, ?_⟩⟩
    have hk : Ks W W.heap.size (.slice A4 (ws.getD i []).length c4) (ws.getD i []) := Arr.keep stays_u8 h2 (Below.size (joinB hb1 h)) fun _ hp => Below.cell (joinB hb1 h) hp
    refine (rstore_any (ws.getD i []) ad dt i en A4 Aa Ad _ c4 ma ca md cd W W.heap.size (Nat.le_refl _) hk (HWA.out W h) (HWD.out W h) hs.2.1 (Nat.le_trans (hs.2.2.2 i hi) (by decide))).mono fun e w' ⟨v, h5, h6, h7⟩ => ⟨?_, h7⟩
    rw [← stw_ref] at h6
    obtain ⟨A5, c5, rfl, h8⟩ := h6.at_len (stW_len ws ad dt en i)
    exact ⟨A5, c5, h5, h8⟩
  have HFL : Hid (∀ i, (stW ws ad dt en i).length = (ws.getD i []).length) := Lib.hid fun i => stW_len ws ad dt en i
  have HM4 : Hid (FewN ws m ma md → m ≤ 40) := Lib.hid fun h => h.1
  obtain ⟨S, HS⟩ := named (FewN ws m ma md)
  rw [← HS.out] at HFW HTX HST HRF HM4
  obtain ⟨f, HF⟩ := named (stW ws ad dt en)
  rw [← HF.out] at HST HRF HFL
  obtain ⟨tx, HTXN⟩ := named (txtW ws m)
  rw [← HTXN.out] at HTX
  have HB1 := Lib.hid hb1
  have hs00 : BelW W1 W1 := Below.refl _ _
  obtain ⟨x0, x1, x2⟩ := HXC.out W1 hs00
  clear hT ha hd fw hA hc hml hb1 hf1 fm fa fd
  go_enter Tryd.func3, Tryd.ntmps3
  go_upto_region 1 with (fail)
  rw [← HW1.out, ← HQ.out]
  go_upto_region 3 with (first
    | (go_at_call 5; (with_reducible refine HFW.out.mono ?_); rintro e w1 ⟨⟨bb, rfl, hs⟩, hw1⟩; obtain rfl : W1 = w1 := hw1.symm; have HSM := Lib.hid hs; clear hs; cases bb)
    | (go_at_call 6; (with_reducible refine (HLV.out _ hs00).mono ?_); rintro e w9 ⟨rfl, hb⟩; have HB9 := Lib.hid hb; clear hb))
  · go_ret
    exact ⟨rfl, joinB HB1.out HB9.out⟩
  have HSS := Lib.hid (HSM.out (by simp))
  have hm4 := HM4.out HSS.out
  clear HSM HFW HM4
  go_upto_region 4 with (go_at_call 7; (with_reducible refine (HTX.out HSS.out _ hs00).mono ?_); rintro e w3 ⟨rfl, hb⟩; have hb3 : BelW W1 w3 := hb; clear hb x0 x1 x2; obtain ⟨x0, x1, x2⟩ := HXC.out w3 hb3)
  go_upto_region 7 with (go_at_call 8; (with_reducible refine (HST.out HSS.out _ hb3).mono ?_); rintro e w4 ⟨D, T, rfl, hr, hD, hb⟩; have HB4 : Hid (BelW W1 w4) := Lib.hid (BelW.trans hb3 hb); have HD : Hid (W1.heap.size ≤ D) := Lib.hid (Nat.le_trans (Below.size hb3) hD); have HR := Lib.hid hr; clear hb hr hD x0 x1 x2)
  obtain ⟨gf, hg1, hg2⟩ := HR.out.open
  have HG1 : Hid (∀ j, j < m → W1.heap.size ≤ gf j ∧ D ≠ gf j) := Lib.hid fun j hj => by
    have := (hg1 j hj).2.2
    have := HD.out
    omega
  have HG2 : Hid (∀ i j, i < m → j < m → i ≠ j → gf i ≠ gf j) := Lib.hid fun i j hi hj hij => by
    rcases Nat.lt_or_ge i j with h | h
    · have := hg2 i j h hj; omega
    · have := hg2 j i (by omega) hi; omega
  have HI0 : Hid ((∀ j, j < m → w4.cell? ⟨D, j, none⟩ = some (.slice (some ⟨gf j, 0, none⟩) (f j).length (f j).length)) ∧ ∀ j, 0 ≤ j → j < m → VRow w4 (gf j) (f j)) := Lib.hid ⟨fun j hj => (hg1 j hj).1, fun j _ hj => (hg1 j hj).2.1⟩
  clear hg1 hg2 HR hb3 HST
  go_wp2_with fail
  go_loopw [7] (fun iv wr => ∃ i : Nat, i ≤ m ∧ iv = .int .i64 i ∧ BelW W1 wr ∧ (∀ j, j < m → wr.cell? ⟨D, j, none⟩ = some (.slice (some ⟨gf j, 0, none⟩) (f j).length (f j).length)) ∧ ∀ j, i ≤ j → j < m → VRow wr (gf j) (f j)) (fun iv _ => m - (intOf iv).toNat)
  case atStart => exact ⟨0, Nat.zero_le _, rfl, HB4.out, HI0.out.1, HI0.out.2⟩
  case round =>
    obtain ⟨i, hi, rfl, hb, hcd, hv⟩ := hrel
    obtain ⟨V, rfl⟩ : ∃ z, z = wr := ⟨_, rfl⟩
    have HBV := Lib.hid hb
    have HCD := Lib.hid hcd
    have HVV := Lib.hid hv
    clear hv hcd
    by_cases hlt : i < m
    · have hi2 : (i : Int) < (m : Int) := by omega
      obtain rfl := HA.out (by omega)
      obtain ⟨A4, n4, c4, hn4, hn40, hrf⟩ := HRF.out HSS.out i hlt
      have hfl := HFL.out i
      rw [← hn4] at hfl
      have hvi := HVV.out i (Nat.le_refl _) hlt
      have hci := HCD.out i hlt
      rw [hfl] at hci
      have HVI := Lib.hid hvi
      have HSF : Hid (∀ w', BelW V w' → (BelW V w' ∧ w'.cell? ⟨D, i, none⟩ = some (.slice (some ⟨gf i, 0, none⟩) n4 n4) ∧ w'.cell? ⟨b, o + i, none⟩ = some (.slice A4 n4 c4) ∧ w'.cell? ⟨q, 0, none⟩ = some (.slice Aa ma ca) ∧ w'.cell? ⟨q, 1, none⟩ = some (.slice Ad md cd) ∧ w'.cell? ⟨q, 2, none⟩ = some (.int .u8 en))) := Lib.hid fun w' h => by
        obtain ⟨z0, z1, z2⟩ := HXC.out w' (BelW.trans HBV.out h)
        exact ⟨h, (Below.cell h (p := ⟨D, i, none⟩) (cell_lt hci)).trans hci, (hrf w' (BelW.trans HBV.out h)).1, z0, z1, z2⟩
      have HRFI : Hid (∀ w', BelW V w' → Calls Tryd.prog 10 #[.slice A4 n4 c4, .int .i64 (i : Int), .slice Aa ma ca, .slice Ad md cd, .int .u8 en] w' fun e w'' => (∃ A5 c5, e = .returned (.slice A5 n4 c5) ∧ Ks w'' w''.heap.size (.slice A5 n4 c5) (f i)) ∧ BelW w' w'') := Lib.hid fun w' h => (hrf w' (BelW.trans HBV.out h)).2
      have HSA : Hid (∀ w' A5 c5, BelW V w' → Ks w' w'.heap.size (.slice A5 n4 c5) (f i) → Calls Tryd.prog 9 #[.slice (some ⟨gf i, 0, none⟩) n4 n4, .slice A5 n4 c5] w' fun e w'' => e = .returned (.int .i64 0) ∧ BelW w' w'') := Lib.hid fun w' A5 c5 h hk => by
        have h1 := (HVI.out.below h).ks
        rw [hfl] at h1
        exact (same6_any (f i) (f i) n4 n4 _ A5 n4 c5 w' _ _ h1 hk).mono fun e w'' h2 => ⟨by rw [h2.1, if_pos rfl], h2.2⟩
      have hs0 := HSF.out V (Below.refl _ _)
      have hy0 : BelW V V := Below.refl _ _
      have HFL4 := Lib.hid hfl
      clear hb hvi hrf hfl hn4
      obtain ⟨-, y1, y2, y3, y4, y5⟩ := HSF.out V (Below.refl _ _)
      go_wp2_with fail
      go_region_held3 (fun w' => BelW V w' ∧ w'.cell? ⟨D, i, none⟩ = some (.slice (some ⟨gf i, 0, none⟩) n4 n4) ∧ w'.cell? ⟨b, o + i, none⟩ = some (.slice A4 n4 c4) ∧ w'.cell? ⟨q, 0, none⟩ = some (.slice Aa ma ca) ∧ w'.cell? ⟨q, 1, none⟩ = some (.slice Ad md cd) ∧ w'.cell? ⟨q, 2, none⟩ = some (.int .u8 en))
        (first | exact hs0 | exact hs5 | exact hs6 | exact HSF.out _ (by with_reducible repeat (first | assumption | refine BelW.drew ?_ | refine BelW.alloc ?_ _)))
        (first
          | (go_at_call 10; (with_reducible refine Calls.mono (HRFI.out _ ?_) ?_); · (with_reducible repeat (first | assumption | refine BelW.drew ?_ | refine BelW.alloc ?_ _))
             rintro e w5 ⟨⟨A5, c5, rfl, hk5⟩, hb5⟩
             have hv5 : BelW V w5 := BelW.trans (by with_reducible repeat (first | assumption | refine BelW.drew ?_ | refine BelW.alloc ?_ _)) hb5
             have hs5 := HSF.out w5 hv5
             have HSA5 := Lib.hid (HSA.out w5 A5 c5 hv5 hk5))
          | (go_at_call 9; (with_reducible refine Calls.mono HSA5.out ?_)
             rintro e w6 ⟨rfl, hb6⟩
             have hv6 : BelW V w6 := BelW.trans hv5 hb6
             have hs6 := HSF.out w6 hv6))
      have HB6 : Hid (BelW W1 w6) := Lib.hid (BelW.trans HBV.out hv6)
      have HC6 : Hid (∀ j, j < m → w6.cell? ⟨D, j, none⟩ = some (.slice (some ⟨gf j, 0, none⟩) (f j).length (f j).length)) := Lib.hid fun j hj => (Below.cell hv6 (p := ⟨D, j, none⟩) (cell_lt (HCD.out j hj))).trans (HCD.out j hj)
      have HV6 : Hid (∀ j, i ≤ j → j < m → VRow w6 (gf j) (f j)) := Lib.hid fun j hij hj => (HVV.out j hij hj).below hv6
      clear hs0 hs5 hs6 hy0 y1 y2 y3 y4 y5 hk5 hv5 hb5 hb6
      obtain ⟨g, HGI⟩ := named (gf i)
      have hD4 : ∀ W : World, (∀ j, j < m → W.cell? ⟨D, j, none⟩ = some (.slice (some ⟨gf j, 0, none⟩) (f j).length (f j).length)) → W.cell? ⟨D, i, none⟩ = some (.slice (some ⟨g, 0, none⟩) n4 n4) := fun W h => by rw [h i hlt, HFL4.out, HGI.out]
      have HD4 := Lib.hid hD4
      have HVI6 : Hid (VRow w6 g (f i)) := Lib.hid (by rw [HGI.out]; exact HV6.out i (Nat.le_refl _) hlt)
      clear hv6 hD4
      go_wp2_with fail
      go_loopw [8] (fun bv w7 => ∃ bb : Nat, bb ≤ n4 ∧ bv = .int .i64 bb ∧ BelW W1 w7 ∧ (∀ j, j < m → w7.cell? ⟨D, j, none⟩ = some (.slice (some ⟨gf j, 0, none⟩) (f j).length (f j).length)) ∧ (∃ l' : List Int, l'.length = n4 ∧ VRow w7 g l') ∧ ∀ j, i + 1 ≤ j → j < m → VRow w7 (gf j) (f j)) (fun bv _ => n4 - (intOf bv).toNat)
      case atStart => exact ⟨0, Nat.zero_le _, rfl, HB6.out, HC6.out, ⟨f i, HFL4.out, HVI6.out⟩, fun j hij hj => HV6.out j (by omega) hj⟩
      case round =>
        obtain ⟨bb, hbb, rfl, hb, hcd, ⟨l', hl', hvl⟩, hv⟩ := hrel
        have c1 := HD4.out wr hcd
        by_cases hlb : bb < n4
        · have hb2 : (bb : Int) < (n4 : Int) := by omega
          have c2 := hvl.cell (by rw [hl']; exact hlb)
          have c3 := hvl.frozen bb
          obtain ⟨y, HY⟩ := named (lat l' (bb : Int))
          rw [← HY.out] at c2
          have HNX : Hid (∀ z : Int, BelW W1 (wr.setCell ⟨g, bb, none⟩ (.int .u8 z)) ∧ (∀ j, j < m → (wr.setCell ⟨g, bb, none⟩ (.int .u8 z)).cell? ⟨D, j, none⟩ = some (.slice (some ⟨gf j, 0, none⟩) (f j).length (f j).length)) ∧ VRow (wr.setCell ⟨g, bb, none⟩ (.int .u8 z)) g (l'.set bb z) ∧ ∀ j, i + 1 ≤ j → j < m → VRow (wr.setCell ⟨g, bb, none⟩ (.int .u8 z)) (gf j) (f j)) := Lib.hid fun z => by
            refine ⟨BelW.set hb (by rw [HGI.out]; exact (HG1.out i hlt).1) _, fun j hj => ?_, hvl.set bb z, fun j hij hj => (hv j hij hj).other (a := ⟨g, bb, none⟩) (by show g ≠ gf j; rw [HGI.out]; exact HG2.out i j hlt hj (by omega)) _⟩
            rw [World.cell?_setCell_other _ _ _ _ (fun e => (HG1.out i hlt).2 (by rw [← HGI.out]; exact (congrArg Addr.block e).symm))]
            exact hcd j hj
          have HL' : Hid (∀ z : Int, (l'.set bb z).length = n4) := Lib.hid fun z => by rw [List.length_set]; exact hl'
          clear hb hcd hl' hvl hv
          go_wp2_with fail
          go_still_tail 14, (by kernel_rfl)
          go_wp2_with fail
          go_roundw
          case rel => exact ⟨bb + 1, by omega, by go_num, BelW.drew (HNX.out _).1, (HNX.out _).2.1, ⟨_, HL'.out _, (HNX.out _).2.2.1.below (BelW.drew (Below.refl _ _))⟩, fun j hij hj => ((HNX.out _).2.2.2 j hij hj).below (BelW.drew (Below.refl _ _))⟩
          case measure => simp [intOf]; omega
        · obtain rfl : n4 = bb := by omega
          have HEN := Lib.hid (And.intro hb (And.intro hcd hv))
          clear hb hcd hl' hvl hv
          go_wp2_with fail
          go_roundw
          case rel => exact ⟨i + 1, by omega, by go_num, HEN.out.1, HEN.out.2.1, HEN.out.2.2⟩
          case measure => simp [intOf]; omega
    · obtain rfl : m = i := by omega
      go_wp2_with (first
        | (go_at_call 7; (with_reducible refine (HTX.out HSS.out _ HBV.out).mono ?_); rintro e w5 ⟨rfl, hb5⟩; have HB5 : Hid (BelW W1 w5) := Lib.hid (BelW.trans HBV.out hb5); clear hb5)
        | (go_at_call 6; (with_reducible refine (HLV.out _ HB5.out).mono ?_); rintro e w9 ⟨rfl, hb9⟩; have HB9 : Hid (BelW W1 w9) := Lib.hid (BelW.trans HB5.out hb9); clear hb9))
      go_ret
      exact ⟨rfl, joinB HB1.out HB9.out⟩
end Go.Proofs.YtcaikkfcjeojiaaDoor
