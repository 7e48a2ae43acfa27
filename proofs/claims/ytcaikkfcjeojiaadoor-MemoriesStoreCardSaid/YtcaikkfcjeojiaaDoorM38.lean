/- The texts Lv9. -/
import Derived.Test.YtcaikkfcjeojiaaDoorM37
namespace Go.Proofs.YtcaikkfcjeojiaaDoor
open Go.RowKit

theorem SRow.wrds {w : World} {D m T : Nat} {f : Nat → List Int} (h : SRow w D f m m T) (hm : m ≤ maxLen) : Wrds w w.heap.size (.slice (some ⟨D, 0, none⟩) m m) ((List.range m).map f) := by
  obtain ⟨gf, h1, -⟩ := h.open
  refine ⟨_, D, 0, m, by rw [List.length_map, List.length_range], fun _ => rfl, by simp, by simpa using hm, fun k hk => ⟨h.lt, ?_⟩⟩
  have hkm : k < m := by simpa using hk
  have e : ((List.range m).map f).getD k [] = f k := by simp [hkm, List.getD_eq_getElem?_getD]
  rw [e, Nat.mul_one, Nat.zero_add]
  obtain ⟨c1, c2, -⟩ := h1 k hkm
  exact ⟨_, _, c1, c2.ks⟩
theorem vls_at (s : ByteArray) (l : List Int) (n : Nat) (hn : s.size = n) (h : vlsB s = l) (hv : ∀ k, k < s.size → Ch.isv (Ch.chr s k) = true) (w W : World) (hT : Ch.Cht w) (hb : BelW w W) (h9 : n ≤ 1000) :
    Calls Tryd.prog 14 #[.string s] W fun e w' => ∃ g, e = .returned (.slice (some ⟨g, 0, none⟩) n n) ∧ VRow w' g l ∧ BelW W w' :=
  (vls_any s W (by omega) (hT.below hb) hv).mono fun e w' ⟨g, h1, h2, _, h3⟩ => ⟨g, by rw [h1, hn], by rw [← h]; exact h2, h3⟩
theorem txt_at (l : List Int) (s : ByteArray) (n : Nat) (hn : l.length = n) (h : strOfNums (l.map Ch.tch) = s) (hp : ∀ k, k < l.length → 0 ≤ l.getD k 0) (w W : World) (g : Nat) (hT : Ch.Cht w) (hb : BelW w W) (hv : VRow W g l) (h9 : n ≤ 1000) :
    Calls Tryd.prog 15 #[.slice (some ⟨g, 0, none⟩) n n] W fun e w' => e = .returned (.string s) ∧ BelW W w' := by
  subst hn h
  exact Ch.text_ch (Nat.le_refl _) hv.ks.lgvs h9 hp (hT.below hb)
theorem look_at (ws : List (List Int)) (ad r : List Int) (hr : (lkS ws ad 2 4).2 = r) (g gw : Nat) (W : World) (hw : Wrds W W.heap.size (.slice (some ⟨gw, 0, none⟩) 4 4) ws) (h0 : (ws.getD 0 []).length = 2) (hl : ad.length = 2) (hv : VRow W g ad) :
    Calls Tryd.prog 16 #[.slice (some ⟨gw, 0, none⟩) 4 4, .slice (some ⟨g, 0, none⟩) 2 2] W fun e w' => ∃ g, e = .returned (.slice (some ⟨g, 0, none⟩) 2 2) ∧ VRow w' g r ∧ BelW W w' := by
  have hk := hv.ks
  rw [hl] at hk
  subst hr
  exact look_any ws ad _ _ 4 4 2 2 2 W W.heap.size (Nat.le_refl _) hw hk (by decide) (by decide) h0.symm (by decide)
theorem store_at (ws : List (List Int)) (ad dt : List Int) (en : Int) (ga gd gw : Nat) (W : World) (hw : Wrds W W.heap.size (.slice (some ⟨gw, 0, none⟩) 4 4) ws) (h0 : ∀ k, k < 4 → (ws.getD k []).length ≤ 1000) (hl : ad.length = 2) (hd : dt.length = 2) (hv : VRow W ga ad) (hvd : VRow W gd dt) :
    Calls Tryd.prog 8 #[.slice (some ⟨gw, 0, none⟩) 4 4, .slice (some ⟨ga, 0, none⟩) 2 2, .slice (some ⟨gd, 0, none⟩) 2 2, .int .u8 en] W fun e w' => ∃ D T, e = .returned (.slice (some ⟨D, 0, none⟩) 4 4) ∧ SRow w' D (stW ws ad dt en) 4 4 T ∧ BelW W w' := by
  have hk := hv.ks
  rw [hl] at hk
  have hk2 := hvd.ks
  rw [hd] at hk2
  exact (store_any ws ad dt en _ _ _ 4 4 2 2 2 2 W W.heap.size (Nat.le_refl _) hw hk hk2 (by decide) (fun k hk => Nat.le_trans (h0 k hk) (by decide))).mono fun e w' ⟨D, T, h1, h2, _, h3⟩ => ⟨D, T, h1, h2, h3⟩
theorem wtxt_at (f : Nat → List Int) (L : List (List Int)) (s : ByteArray) (hf : (List.range 4).map f = L) (hs : txtW L 4 = s) (hl : ∀ k, k < 4 → (L.getD k []).length ≤ 1000 ∧ ∀ y ∈ L.getD k [], 0 ≤ y) (w W : World) (D T : Nat) (hT : Ch.Cht w) (hb : BelW w W) (hr : SRow W D f 4 4 T) :
    Calls Tryd.prog 7 #[.slice (some ⟨D, 0, none⟩) 4 4] W fun e w' => e = .returned (.string s) ∧ BelW W w' := by
  have h := hr.wrds (by decide)
  rw [hf] at h
  rw [← hs]
  exact textw_any L _ 4 4 W W.heap.size (Nat.le_refl _) h (by decide) hl (hT.below hb)
set_option maxRecDepth 100000 in
set_option maxHeartbeats 8000000 in
theorem lives9_any (w : World) (hT : Ch.Cht w) : Calls Tryd.prog 6 #[] w fun e w' => e = .returned (.bool true) ∧ BelW w w' := by
  have HV0 := Lib.hid (fun W (h : BelW w W) => vls_at ⟨#[48, 48]⟩ [0, 0] 2 rfl (by decide) (by decide) w W hT h (by decide))
  have HV1 := Lib.hid (fun W (h : BelW w W) => vls_at ⟨#[48, 49]⟩ [0, 1] 2 rfl (by decide) (by decide) w W hT h (by decide))
  have HV2 := Lib.hid (fun W (h : BelW w W) => vls_at ⟨#[49, 48]⟩ [1, 0] 2 rfl (by decide) (by decide) w W hT h (by decide))
  have HV3 := Lib.hid (fun W (h : BelW w W) => vls_at ⟨#[49, 49]⟩ [1, 1] 2 rfl (by decide) (by decide) w W hT h (by decide))
  have HV4 := Lib.hid (fun W (h : BelW w W) => vls_at ⟨#[88, 48]⟩ [2, 0] 2 rfl (by decide) (by decide) w W hT h (by decide))
  have HV5 := Lib.hid (fun W (h : BelW w W) => vls_at ⟨#[88, 88]⟩ [2, 2] 2 rfl (by decide) (by decide) w W hT h (by decide))
  have HV6 := Lib.hid (fun W (h : BelW w W) => vls_at ⟨#[49, 88]⟩ [1, 2] 2 rfl (by decide) (by decide) w W hT h (by decide))
  have HT0 := Lib.hid (fun W g (h : BelW w W) (hv : VRow W g [0, 1]) => txt_at [0, 1] ⟨#[48, 49]⟩ 2 rfl (by decide) (by decide) w W g hT h hv (by decide))
  have HT1 := Lib.hid (fun W g (h : BelW w W) (hv : VRow W g [0, 2]) => txt_at [0, 2] ⟨#[48, 88]⟩ 2 rfl (by decide) (by decide) w W g hT h hv (by decide))
  have HT2 := Lib.hid (fun W g (h : BelW w W) (hv : VRow W g [2, 2]) => txt_at [2, 2] ⟨#[88, 88]⟩ 2 rfl (by decide) (by decide) w W g hT h hv (by decide))
  have HW0 := Lib.hid (fun W D T (h : BelW w W) (hr : SRow W D (stW W4 [1, 2] [1, 1] 1) 4 4 T) => wtxt_at (stW W4 [1, 2] [1, 1] 1) [[0, 0], [2, 1], [1, 0], [1, 1]] ⟨#[48, 48, 44, 88, 49, 44, 49, 48, 44, 49, 49, 44]⟩ l9_s1 (by decide) (by decide) w W D T hT h hr)
  have HW1 := Lib.hid (fun W D T (h : BelW w W) (hr : SRow W D (stW W4 [1, 0] [1, 1] 1) 4 4 T) => wtxt_at (stW W4 [1, 0] [1, 1] 1) [[0, 0], [1, 1], [1, 0], [1, 1]] ⟨#[48, 48, 44, 49, 49, 44, 49, 48, 44, 49, 49, 44]⟩ l9_s2 (by decide) (by decide) w W D T hT h hr)
  have HW2 := Lib.hid (fun W D T (h : BelW w W) (hr : SRow W D (stW W4 [1, 0] [1, 1] 2) 4 4 T) => wtxt_at (stW W4 [1, 0] [1, 1] 2) [[0, 0], [2, 1], [1, 0], [1, 1]] ⟨#[48, 48, 44, 88, 49, 44, 49, 48, 44, 49, 49, 44]⟩ l9_s3 (by decide) (by decide) w W D T hT h hr)
  have hs : BelW w w := Below.refl _ _
  clear hT
  go_enter Tryd.func6, Tryd.ntmps6
  go_upto_region 1 with (fail)
  go_upto_region 2 with (first
    | (go_at_call 14; (with_reducible refine (HV0.out _ hs).mono ?_); rintro e wv ⟨g0, rfl, hvg0, hb⟩; replace hs : BelW w wv := hs.trans hb; clear hb)
    | (go_at_call 14; (with_reducible refine (HV1.out _ hs).mono ?_); rintro e wv ⟨g1, rfl, hvg1, hb⟩; replace hs : BelW w wv := hs.trans hb; replace hvg0 : VRow wv g0 [0, 0] := hvg0.below hb; clear hb)
    | (go_at_call 14; (with_reducible refine (HV2.out _ hs).mono ?_); rintro e wv ⟨g2, rfl, hvg2, hb⟩; replace hs : BelW w wv := hs.trans hb; replace hvg0 : VRow wv g0 [0, 0] := hvg0.below hb; replace hvg1 : VRow wv g1 [0, 1] := hvg1.below hb; clear hb)
    | (go_at_call 14; (with_reducible refine (HV3.out _ hs).mono ?_); rintro e wv ⟨g3, rfl, hvg3, hb⟩; replace hs : BelW w wv := hs.trans hb; replace hvg0 : VRow wv g0 [0, 0] := hvg0.below hb; replace hvg1 : VRow wv g1 [0, 1] := hvg1.below hb; replace hvg2 : VRow wv g2 [1, 0] := hvg2.below hb; clear hb))
  obtain ⟨w4, rfl⟩ : ∃ z, z = wv := ⟨_, rfl⟩
  obtain ⟨W5, HW5⟩ := named (w4.alloc (.cells #[.slice (some ⟨g0, 0, none⟩) 2 2, .slice (some ⟨g1, 0, none⟩) 2 2, .slice (some ⟨g2, 0, none⟩) 2 2, .slice (some ⟨g3, 0, none⟩) 2 2] 23))
  have hn5 : BelW w4 W5 := by rw [HW5.out]; exact below_new (Below.refl _ _) _
  have hf5 : Fr W5 w4.heap.size 23 [.slice (some ⟨g0, 0, none⟩) 2 2, .slice (some ⟨g1, 0, none⟩) 2 2, .slice (some ⟨g2, 0, none⟩) 2 2, .slice (some ⟨g3, 0, none⟩) 2 2] := by rw [HW5.out]; exact Fr.made _ [.slice (some ⟨g0, 0, none⟩) 2 2, .slice (some ⟨g1, 0, none⟩) 2 2, .slice (some ⟨g2, 0, none⟩) 2 2, .slice (some ⟨g3, 0, none⟩) 2 2] _ rfl
  obtain ⟨gw, HGW⟩ := named w4.heap.size
  rw [← HGW.out] at hf5
  rw [← HW5.out, ← HGW.out]
  have hwr : Wrds W5 W5.heap.size (.slice (some ⟨gw, 0, none⟩) 4 4) W4 := by
    refine ⟨_, gw, 0, 4, rfl, fun _ => rfl, by decide, by decide, fun k hk => ⟨hf5.lt, ?_⟩⟩
    have hk4 : k = 0 ∨ k = 1 ∨ k = 2 ∨ k = 3 := by simp [W4] at hk; omega
    rcases hk4 with rfl | rfl | rfl | rfl
    · exact ⟨_, _, hf5.cell 0, (hvg0.below hn5).ks⟩
    · exact ⟨_, _, hf5.cell 1, (hvg1.below hn5).ks⟩
    · exact ⟨_, _, hf5.cell 2, (hvg2.below hn5).ks⟩
    · exact ⟨_, _, hf5.cell 3, (hvg3.below hn5).ks⟩
  have hs5 : BelW w W5 := hs.trans hn5
  have HWR : Hid (∀ W, BelW W5 W → Wrds W W.heap.size (.slice (some ⟨gw, 0, none⟩) 4 4) W4) := Lib.hid fun W h => Arr.keep stays_wds hwr (Below.size h) fun _ hp => Below.cell h hp
  have HL0 := Lib.hid (fun W g (h : BelW W5 W) (hv : VRow W g [1, 0]) => look_at W4 [1, 0] [0, 1] l9_k1 g gw W (HWR.out W h) rfl rfl hv)
  have HL1 := Lib.hid (fun W g (h : BelW W5 W) (hv : VRow W g [2, 0]) => look_at W4 [2, 0] [0, 2] l9_k2 g gw W (HWR.out W h) rfl rfl hv)
  have HL2 := Lib.hid (fun W g (h : BelW W5 W) (hv : VRow W g [2, 2]) => look_at W4 [2, 2] [2, 2] l9_k3 g gw W (HWR.out W h) rfl rfl hv)
  have HS0 := Lib.hid (fun W ga gd (h : BelW W5 W) (hv : VRow W ga [1, 2]) (hd : VRow W gd [1, 1]) => store_at W4 [1, 2] [1, 1] 1 ga gd gw W (HWR.out W h) (by decide) rfl rfl hv hd)
  have HS1 := Lib.hid (fun W ga gd (h : BelW W5 W) (hv : VRow W ga [1, 0]) (hd : VRow W gd [1, 1]) => store_at W4 [1, 0] [1, 1] 1 ga gd gw W (HWR.out W h) (by decide) rfl rfl hv hd)
  have HS2 := Lib.hid (fun W ga gd (h : BelW W5 W) (hv : VRow W ga [1, 0]) (hd : VRow W gd [1, 1]) => store_at W4 [1, 0] [1, 1] 2 ga gd gw W (HWR.out W h) (by decide) rfl rfl hv hd)
  have HSS := Lib.hid hs5
  have h5 : BelW W5 W5 := Below.refl _ _
  clear hs hvg0 hvg1 hvg2 hvg3 hn5 hf5 hwr hs5
  go_upto_region 3 with (first
    | (go_at_call 14; (with_reducible refine (HV2.out _ (HSS.out.trans h5)).mono ?_); rintro e wv ⟨ga, rfl, hvga, hb⟩; replace h5 : BelW W5 wv := h5.trans hb; clear hb)
    | (go_at_call 14; (with_reducible refine (HV4.out _ (HSS.out.trans h5)).mono ?_); rintro e wv ⟨ga, rfl, hvga, hb⟩; replace h5 : BelW W5 wv := h5.trans hb; clear hb)
    | (go_at_call 14; (with_reducible refine (HV5.out _ (HSS.out.trans h5)).mono ?_); rintro e wv ⟨ga, rfl, hvga, hb⟩; replace h5 : BelW W5 wv := h5.trans hb; clear hb)
    | (go_at_call 16; (with_reducible refine (HL0.out _ _ h5 hvga).mono ?_); rintro e wl ⟨gl, rfl, hvgl, hb⟩; replace h5 : BelW W5 wl := h5.trans hb; clear hb hvga)
    | (go_at_call 16; (with_reducible refine (HL1.out _ _ h5 hvga).mono ?_); rintro e wl ⟨gl, rfl, hvgl, hb⟩; replace h5 : BelW W5 wl := h5.trans hb; clear hb hvga)
    | (go_at_call 16; (with_reducible refine (HL2.out _ _ h5 hvga).mono ?_); rintro e wl ⟨gl, rfl, hvgl, hb⟩; replace h5 : BelW W5 wl := h5.trans hb; clear hb hvga)
    | (go_at_call 15; (with_reducible refine (HT0.out _ _ (HSS.out.trans h5) hvgl).mono ?_); rintro e wt ⟨rfl, hb⟩; replace h5 : BelW W5 wt := h5.trans hb; clear hb hvgl)
    | (go_at_call 15; (with_reducible refine (HT1.out _ _ (HSS.out.trans h5) hvgl).mono ?_); rintro e wt ⟨rfl, hb⟩; replace h5 : BelW W5 wt := h5.trans hb; clear hb hvgl)
    | (go_at_call 15; (with_reducible refine (HT2.out _ _ (HSS.out.trans h5) hvgl).mono ?_); rintro e wt ⟨rfl, hb⟩; replace h5 : BelW W5 wt := h5.trans hb; clear hb hvgl))
  go_wp2_with (first
    | (go_at_call 14; (with_reducible refine (HV6.out _ (HSS.out.trans h5)).mono ?_); rintro e wv ⟨ga, rfl, hvga, hb⟩; replace h5 : BelW W5 wv := h5.trans hb; clear hb)
    | (go_at_call 14; (with_reducible refine (HV2.out _ (HSS.out.trans h5)).mono ?_); rintro e wv ⟨ga, rfl, hvga, hb⟩; replace h5 : BelW W5 wv := h5.trans hb; clear hb)
    | (go_at_call 14; (with_reducible refine (HV3.out _ (HSS.out.trans h5)).mono ?_); rintro e wv ⟨gd, rfl, hvgd, hb⟩; replace hvga := hvga.below hb; replace h5 : BelW W5 wv := h5.trans hb; clear hb)
    | (go_at_call 8; (with_reducible refine (HS0.out _ _ _ h5 hvga hvgd).mono ?_); rintro e ws ⟨D, T, rfl, hr, hb⟩; replace h5 : BelW W5 ws := h5.trans hb; clear hb hvga hvgd)
    | (go_at_call 8; (with_reducible refine (HS1.out _ _ _ h5 hvga hvgd).mono ?_); rintro e ws ⟨D, T, rfl, hr, hb⟩; replace h5 : BelW W5 ws := h5.trans hb; clear hb hvga hvgd)
    | (go_at_call 8; (with_reducible refine (HS2.out _ _ _ h5 hvga hvgd).mono ?_); rintro e ws ⟨D, T, rfl, hr, hb⟩; replace h5 : BelW W5 ws := h5.trans hb; clear hb hvga hvgd)
    | (go_at_call 7; (with_reducible refine (HW0.out _ _ _ (HSS.out.trans h5) hr).mono ?_); rintro e wt ⟨rfl, hb⟩; replace h5 : BelW W5 wt := h5.trans hb; clear hb hr)
    | (go_at_call 7; (with_reducible refine (HW1.out _ _ _ (HSS.out.trans h5) hr).mono ?_); rintro e wt ⟨rfl, hb⟩; replace h5 : BelW W5 wt := h5.trans hb; clear hb hr)
    | (go_at_call 7; (with_reducible refine (HW2.out _ _ _ (HSS.out.trans h5) hr).mono ?_); rintro e wt ⟨rfl, hb⟩; replace h5 : BelW W5 wt := h5.trans hb; clear hb hr))
  go_ret
  exact ⟨rfl, HSS.out.trans h5⟩
end Go.Proofs.YtcaikkfcjeojiaaDoor
