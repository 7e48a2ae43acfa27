/- NetlistsCopy: the law's walk. -/
import Derived.Test.YtmghdeodkeenoaaDoorCpm
import Derived.Test.YtmghdeodkeenoaaDoorRsm
import Derived.Test.YtmghdeodkeenoaaDoorGrt
import Derived.Test.YtmghdeodkeenoaaDoorLvs
import Derived.Test.YtmghdeodkeenoaaDoorPsz
import Derived.StillTailTactics
namespace Go.Proofs.YtmghdeodkeenoaaDoor
open Go.RowKit

set_option maxRecDepth 100000 in
set_option maxHeartbeats 8000000 in
theorem copy_law (a b : Ck) (v v' : Value) (w : World) (hT : Tabs w) (hc : Cir w w.heap.size v a) (hc' : Cir w w.heap.size v' b) (hz : Bear a) :
    Calls Tryd.prog 10 #[v, v'] w fun e w' => e = .returned (.bool true) ∧ Below w.heap.size w w' := by
  obtain ⟨v0, v1, v2, v3, rfl, hns, hss, hms, hos⟩ := id hc
  obtain ⟨A0, b0, o0, c0, rfl, -⟩ := id hns
  obtain ⟨A1, b1, o1, c1, rfl, -⟩ := id hss
  obtain ⟨A2, b2, o2, c2, rfl, -⟩ := id hms
  obtain ⟨A3, b3, o3, c3, rfl, -⟩ := id hos
  obtain ⟨u0, u1, u2, u3, rfl, kns, kss, kms, kos⟩ := id hc'
  obtain ⟨D0, p0, r0, d0, rfl, -⟩ := id kns
  obtain ⟨D1, p1, r1, d1, rfl, -⟩ := id kss
  obtain ⟨D2, p2, r2, d2, rfl, -⟩ := id kms
  obtain ⟨D3, p3, r3, d3, rfl, -⟩ := id kos
  clear hns hss hms hos kns kss kms kos
  obtain ⟨n, HN⟩ := named a.nodes.length
  obtain ⟨n1, HN1⟩ := named a.names.length
  obtain ⟨n2, HN2⟩ := named a.mems.length
  obtain ⟨n3, HN3⟩ := named a.outs.length
  rw [← HN.out, ← HN1.out, ← HN2.out, ← HN3.out] at hc
  rw [← HN.out, ← HN1.out, ← HN2.out, ← HN3.out]
  generalize b.nodes.length = m at hc' ⊢
  generalize b.names.length = m1 at hc' ⊢
  generalize b.mems.length = m2 at hc' ⊢
  generalize b.outs.length = m3 at hc' ⊢
  obtain ⟨W1, HW1⟩ := named ((w.alloc (.cells #[.slice A0 n c0, .slice A1 n1 c1, .slice A2 n2 c2, .slice A3 n3 c3] 27)).alloc (.cells #[.slice D0 m d0, .slice D1 m1 d1, .slice D2 m2 d2, .slice D3 m3 d3] 27))
  have hb1 : Below w.heap.size w W1 := by rw [HW1.out]; exact below_new (below_new (Below.refl _ _) _) _
  have hfa : Fr W1 w.heap.size 27 [.slice A0 n c0, .slice A1 n1 c1, .slice A2 n2 c2, .slice A3 n3 c3] := by rw [HW1.out]; exact Fr.alloc (Fr.made _ _ _ rfl) _
  have hfb : Fr W1 (w.heap.size + 1) 27 [.slice D0 m d0, .slice D1 m1 d1, .slice D2 m2 d2, .slice D3 m3 d3] := by rw [HW1.out]; exact Fr.made _ _ _ (by simp)
  have HCA : Hid (∀ W, Below W1.heap.size W1 W → W.cell? ⟨w.heap.size, 0, none⟩ = some (.slice A0 n c0) ∧ W.cell? ⟨w.heap.size, 1, none⟩ = some (.slice A1 n1 c1) ∧ W.cell? ⟨w.heap.size, 2, none⟩ = some (.slice A2 n2 c2) ∧ W.cell? ⟨w.heap.size, 3, none⟩ = some (.slice A3 n3 c3)) := Lib.hid fun W hb => ⟨(hfa.below hb).cell 0, (hfa.below hb).cell 1, (hfa.below hb).cell 2, (hfa.below hb).cell 3⟩
  have HCB : Hid (∀ W, Below W1.heap.size W1 W → W.cell? ⟨w.heap.size + 1, 0, none⟩ = some (.slice D0 m d0) ∧ W.cell? ⟨w.heap.size + 1, 1, none⟩ = some (.slice D1 m1 d1) ∧ W.cell? ⟨w.heap.size + 1, 2, none⟩ = some (.slice D2 m2 d2) ∧ W.cell? ⟨w.heap.size + 1, 3, none⟩ = some (.slice D3 m3 d3)) := Lib.hid fun W hb => ⟨(hfb.below hb).cell 0, (hfb.below hb).cell 1, (hfb.below hb).cell 2, (hfb.below hb).cell 3⟩
  have hca : ∀ W, Below W1.heap.size W1 W → Cir W W.heap.size (.agg #[.slice A0 n c0, .slice A1 n1 c1, .slice A2 n2 c2, .slice A3 n3 c3]) a := fun W hb => (hc.below (joinB hb1 hb)).more (Nat.le_trans hb1.size hb.size)
  have hcb : ∀ W, Below W1.heap.size W1 W → Cir W W.heap.size (.agg #[.slice D0 m d0, .slice D1 m1 d1, .slice D2 m2 d2, .slice D3 m3 d3]) b := fun W hb => (hc'.below (joinB hb1 hb)).more (Nat.le_trans hb1.size hb.size)
  have HGA : Hid (∀ W, Below W1.heap.size W1 W → Calls Tryd.prog 11 #[.agg #[.slice A0 n c0, .slice A1 n1 c1, .slice A2 n2 c2, .slice A3 n3 c3]] W fun e w' => (∃ b, e = .returned (.bool b) ∧ (b = false → Small a)) ∧ Below W1.heap.size W1 w') :=
    Lib.hid fun W hb => (great_any a _ W W.heap.size (Nat.le_refl _) (hca W hb)).mono fun e w' ⟨h1, h2⟩ => ⟨h1, joinB hb h2⟩
  have HGB : Hid (∀ W, Below W1.heap.size W1 W → Calls Tryd.prog 11 #[.agg #[.slice D0 m d0, .slice D1 m1 d1, .slice D2 m2 d2, .slice D3 m3 d3]] W fun e w' => (∃ b, e = .returned (.bool b)) ∧ Below W1.heap.size W1 w') :=
    Lib.hid fun W hb => (great_any b _ W W.heap.size (Nat.le_refl _) (hcb W hb)).mono fun e w' ⟨⟨z, h1, _⟩, h2⟩ => ⟨⟨z, h1⟩, joinB hb h2⟩
  have HLV : Hid (∀ W, Below W1.heap.size W1 W → Calls Tryd.prog 12 #[] W fun e w' => e = .returned (.bool true) ∧ Below W1.heap.size W1 w') :=
    Lib.hid fun W hb => (lives_any W (hT.below (joinB hb1 hb))).mono fun e w' ⟨h1, h2⟩ => ⟨h1, joinB hb h2⟩
  have HCP : Hid (Small a → ∀ W, Below W1.heap.size W1 W → Calls Tryd.prog 13 #[.agg #[.slice A0 n c0, .slice A1 n1 c1, .slice A2 n2 c2, .slice A3 n3 c3]] W fun e w' => Below W.heap.size W w' ∧ ∃ g0 g1 g2 g3 h ha hd, e = .returned (.agg #[.slice (some ⟨g0, 0, none⟩) n n, .slice (some ⟨g1, 0, none⟩) n1 n1, .slice (some ⟨g2, 0, none⟩) n2 n2, .slice (some ⟨g3, 0, none⟩) n3 n3]) ∧ (∀ k, k < n2 → ha k < w'.heap.size ∧ hd k < w'.heap.size) ∧
      OL a w w'.heap.size W.heap.size g0 g1 g2 g3 h ha hd n n1 n2 n3 (w'.alloc (.cells #[.slice (some ⟨g0, 0, none⟩) n n, .slice (some ⟨g1, 0, none⟩) n1 n1, .slice (some ⟨g2, 0, none⟩) n2 n2, .slice (some ⟨g3, 0, none⟩) n3 n3] 27))) :=
    Lib.hid fun hs W hb => copy_m hT (joinB hb1 hb) (hca W hb) (hz.szok hs.1 hs.2.1 hs.2.2.1 hs.2.2.2) HN.out HN1.out HN2.out HN3.out
  have HSR : Hid (∀ W y u, Below W1.heap.size W1 W → Cir W W.heap.size u y → Calls Tryd.prog 18 #[.agg #[.slice A0 n c0, .slice A1 n1 c1, .slice A2 n2 c2, .slice A3 n3 c3], u] W fun e w' => e = .returned (.bool (ckEq a y)) ∧ Below W.heap.size W w') :=
    Lib.hid fun W y u hb hu => rsame_any a y _ u W W.heap.size W.heap.size (Nat.le_refl _) (Nat.le_refl _) (hca W hb) hu
  have HSP : Hid (∀ W y u, Below W1.heap.size W1 W → Cir W W.heap.size u y → Calls Tryd.prog 35 #[.agg #[.slice A0 n c0, .slice A1 n1 c1, .slice A2 n2 c2, .slice A3 n3 c3], u] W fun e w' => e = .returned (.bool (ckEq a y)) ∧ Below W.heap.size W w') :=
    Lib.hid fun W y u hb hu => same_any a y _ u W W.heap.size W.heap.size (Nat.le_refl _) (Nat.le_refl _) (hca W hb) hu
  have HRB : Hid (∀ W, Below W1.heap.size W1 W → Cir W W.heap.size (.agg #[.slice D0 m d0, .slice D1 m1 d1, .slice D2 m2 d2, .slice D3 m3 d3]) b) := Lib.hid hcb
  have HB1 := Lib.hid hb1
  have hw1 := hb1.size
  have HFT := Lib.hid hc.fit
  clear hT hc hc' hz hca hcb hb1 hfa hfb
  go_enter Tryd.func10, Tryd.ntmps10
  go_upto_region 1 with (fail)
  rw [← HW1.out]
  obtain ⟨x0, x1, x2, x3⟩ := HCA.out W1 (Below.refl _ _)
  go_wp2_with (first
    | (go_at_call 11; (with_reducible refine (HGA.out _ (Below.refl _ _)).mono ?_); rintro e w1 ⟨⟨bb, rfl, hs⟩, hb⟩; have HSM := Lib.hid hs; obtain ⟨y0, y1, y2, y3⟩ := HCA.out _ hb; obtain ⟨z0, z1, z2, z3⟩ := HCB.out _ hb; have HB2 := Lib.hid hb; clear hs hb x0 x1 x2 x3; cases bb)
    | (go_at_call 11; (with_reducible refine (HGB.out _ HB2.out).mono ?_); rintro e w2 ⟨⟨bb, rfl⟩, hb⟩; have HB3 := Lib.hid hb; clear y0 y1 y2 y3 z0 z1 z2 z3; obtain ⟨y0, y1, y2, y3⟩ := HCA.out _ hb; clear hb; cases bb)
    | (go_at_call 12; (with_reducible first | refine (HLV.out _ HB3.out).mono ?_ | refine (HLV.out _ HB2.out).mono ?_); rintro e w9 ⟨rfl, hb⟩; have HB9 := Lib.hid hb; clear hb)
    | (go_at_call 13; (with_reducible refine (HCP.out (HSM.out (by simp)) _ HB3.out).mono ?_); rintro e w3 ⟨hb, g0, g1, g2, g3, h, ha, hd, rfl, hm, ho⟩; have HB4 := Lib.hid hb; have HM := Lib.hid hm; have HO := Lib.hid ho; clear hb hm ho))
  rotate_left 1
  · go_ret
    exact ⟨rfl, joinB HB1.out HB9.out⟩
  · go_ret
    exact ⟨rfl, joinB HB1.out HB9.out⟩
  obtain ⟨V2, HV2⟩ := named (w3.alloc (.cells #[.slice (some ⟨g0, 0, none⟩) n n, .slice (some ⟨g1, 0, none⟩) n1 n1, .slice (some ⟨g2, 0, none⟩) n2 n2, .slice (some ⟨g3, 0, none⟩) n3 n3] 27))
  have ho := HO.out
  rw [← HV2.out] at ho
  rw [← HV2.out]
  have hb5 : Below W1.heap.size W1 V2 := by rw [HV2.out]; exact below_new (joinB HB3.out HB4.out) _
  have hw3 := HB4.out.size
  have hb3 := HB3.out.size
  have hq : W1.heap.size ≤ w3.heap.size := Nat.le_trans hb3 hw3
  have HB5 := Lib.hid hb5
  have HO2 := Lib.hid ho
  obtain ⟨q, HQ⟩ := named w3.heap.size
  have HV2S : Hid (V2.heap.size = q + 1) := Lib.hid (by rw [HV2.out, HQ.out]; simp)
  obtain ⟨G, HG⟩ := named w2.heap.size
  have HGW : Hid (W1.heap.size ≤ G) := Lib.hid (by rw [HG.out]; exact hb3)
  have ca0 : ∀ xx : Beh V2, xx.x.cell? ⟨w.heap.size, 0, none⟩ = some (.slice A0 n c0) := fun xx => (HCA.out _ (joinB hb5 xx.below)).1
  have cb0 : ∀ xx : Beh V2, xx.x.cell? ⟨w.heap.size + 1, 0, none⟩ = some (.slice D0 m d0) := fun xx => (HCB.out _ (joinB hb5 xx.below)).1
  have cc0 : ∀ xx : Beh V2, xx.x.cell? ⟨w3.heap.size, 0, none⟩ = some (.slice (some ⟨g0, 0, none⟩) n n) := fun xx => (ho.next xx.below).cells.1
  have ca1 : ∀ xx : Beh V2, xx.x.cell? ⟨w.heap.size, 1, none⟩ = some (.slice A1 n1 c1) := fun xx => (HCA.out _ (joinB hb5 xx.below)).2.1
  have cb1 : ∀ xx : Beh V2, xx.x.cell? ⟨w.heap.size + 1, 1, none⟩ = some (.slice D1 m1 d1) := fun xx => (HCB.out _ (joinB hb5 xx.below)).2.1
  have cc1 : ∀ xx : Beh V2, xx.x.cell? ⟨w3.heap.size, 1, none⟩ = some (.slice (some ⟨g1, 0, none⟩) n1 n1) := fun xx => (ho.next xx.below).cells.2.1
  have ca2 : ∀ xx : Beh V2, xx.x.cell? ⟨w.heap.size, 2, none⟩ = some (.slice A2 n2 c2) := fun xx => (HCA.out _ (joinB hb5 xx.below)).2.2.1
  have cb2 : ∀ xx : Beh V2, xx.x.cell? ⟨w.heap.size + 1, 2, none⟩ = some (.slice D2 m2 d2) := fun xx => (HCB.out _ (joinB hb5 xx.below)).2.2.1
  have cc2 : ∀ xx : Beh V2, xx.x.cell? ⟨w3.heap.size, 2, none⟩ = some (.slice (some ⟨g2, 0, none⟩) n2 n2) := fun xx => (ho.next xx.below).cells.2.2.1
  have ca3 : ∀ xx : Beh V2, xx.x.cell? ⟨w.heap.size, 3, none⟩ = some (.slice A3 n3 c3) := fun xx => (HCA.out _ (joinB hb5 xx.below)).2.2.2
  have cb3 : ∀ xx : Beh V2, xx.x.cell? ⟨w.heap.size + 1, 3, none⟩ = some (.slice D3 m3 d3) := fun xx => (HCB.out _ (joinB hb5 xx.below)).2.2.2
  have cc3 : ∀ xx : Beh V2, xx.x.cell? ⟨w3.heap.size, 3, none⟩ = some (.slice (some ⟨g3, 0, none⟩) n3 n3) := fun xx => (ho.next xx.below).cells.2.2.2
  have HRC : Hid (∀ W, Below V2.heap.size V2 W → Cir W W.heap.size (.agg #[.slice (some ⟨g0, 0, none⟩) n n, .slice (some ⟨g1, 0, none⟩) n1 n1, .slice (some ⟨g2, 0, none⟩) n2 n2, .slice (some ⟨g3, 0, none⟩) n3 n3]) a) := Lib.hid fun W hb => (ho.next hb).cir
  have HT1 : Hid (∀ W, Below V2.heap.size V2 W → Calls Tryd.prog 18 #[.agg #[.slice A0 n c0, .slice A1 n1 c1, .slice A2 n2 c2, .slice A3 n3 c3], .agg #[.slice (some ⟨g0, 0, none⟩) n n, .slice (some ⟨g1, 0, none⟩) n1 n1, .slice (some ⟨g2, 0, none⟩) n2 n2, .slice (some ⟨g3, 0, none⟩) n3 n3]] W fun e w' => e = .returned (.bool true) ∧ Below V2.heap.size V2 w') :=
    Lib.hid fun W hb => (HSR.out W a _ (joinB hb5 hb) (HRC.out W hb)).mono fun e w' ⟨h1, h2⟩ => ⟨by rw [h1, ckEq_self], joinB hb h2⟩
  have HT2 : Hid (∀ W, Below V2.heap.size V2 W → Calls Tryd.prog 35 #[.agg #[.slice A0 n c0, .slice A1 n1 c1, .slice A2 n2 c2, .slice A3 n3 c3], .agg #[.slice (some ⟨g0, 0, none⟩) n n, .slice (some ⟨g1, 0, none⟩) n1 n1, .slice (some ⟨g2, 0, none⟩) n2 n2, .slice (some ⟨g3, 0, none⟩) n3 n3]] W fun e w' => e = .returned (.bool true) ∧ Below V2.heap.size V2 w') :=
    Lib.hid fun W hb => (HSP.out W a _ (joinB hb5 hb) (HRC.out W hb)).mono fun e w' ⟨h1, h2⟩ => ⟨by rw [h1, ckEq_self], joinB hb h2⟩
  obtain ⟨r, HR⟩ := named (ckEq a b)
  have HT3 : Hid (∀ W, Below V2.heap.size V2 W → Calls Tryd.prog 18 #[.agg #[.slice A0 n c0, .slice A1 n1 c1, .slice A2 n2 c2, .slice A3 n3 c3], .agg #[.slice D0 m d0, .slice D1 m1 d1, .slice D2 m2 d2, .slice D3 m3 d3]] W fun e w' => e = .returned (.bool r) ∧ Below V2.heap.size V2 w') :=
    Lib.hid fun W hb => (HSR.out W b _ (joinB hb5 hb) (HRB.out W (joinB hb5 hb))).mono fun e w' ⟨h1, h2⟩ => ⟨by rw [h1, HR.out], joinB hb h2⟩
  have HT4 : Hid (∀ W, Below V2.heap.size V2 W → Calls Tryd.prog 35 #[.agg #[.slice A0 n c0, .slice A1 n1 c1, .slice A2 n2 c2, .slice A3 n3 c3], .agg #[.slice D0 m d0, .slice D1 m1 d1, .slice D2 m2 d2, .slice D3 m3 d3]] W fun e w' => e = .returned (.bool r) ∧ Below V2.heap.size V2 w') :=
    Lib.hid fun W hb => (HSP.out W b _ (joinB hb5 hb) (HRB.out W (joinB hb5 hb))).mono fun e w' ⟨h1, h2⟩ => ⟨by rw [h1, HR.out], joinB hb h2⟩
  have hrr : (r != r) = false := by cases r <;> rfl
  clear hb5 ho y0 y1 y2 y3 HO HRB
  refine region_class (w0 := V2) (Below.refl _ _) (by kernel_rfl) (by kernel_rfl) ?_
  repeat (first
    | go_big_quiet_skip
    | (go_big_quiet_want; go_big_quiet_op; first
      | go_big_quiet_on
      | (apply Exists.intro
         refine ⟨fun xx => ?_, ?_⟩
         focus first
          | (go_at_call_of 18 g0; with_reducible exact beh_of (HT1.out _ xx.below))
          | (go_at_call_of 35 g0; with_reducible exact beh_of (HT2.out _ xx.below))
          | (go_at_call 18; with_reducible exact beh_of (HT3.out _ xx.below))
          | (go_at_call 35; with_reducible exact beh_of (HT4.out _ xx.below))
         go_big_quiet_on)))
  refine wpQuiet_nil ?_
  rintro w9 ⟨⟨wz, hz⟩, rfl⟩
  have HZ9 : Hid (Below V2.heap.size V2 w9) := Lib.hid hz
  obtain ⟨y0, y1, y2, y3⟩ := HCA.out w9 (joinB HB5.out hz)
  clear ca0 ca1 ca2 ca3 cb0 cb1 cb2 cb3 cc0 cc1 cc2 cc3 hrr hz HT1 HT2 HT3 HT4 HRC
  go_wp2_with (go_at_call 13; (with_reducible refine (HCP.out (HSM.out (by simp)) w9 (joinB HB5.out HZ9.out)).mono ?_); rintro e w4 ⟨hb, e0, e1, e2, e3, k5, ka, kd, rfl, -, ho⟩; have HB6 := Lib.hid hb; have HO5 := Lib.hid ho; clear hb ho)
  obtain ⟨V3, HV3⟩ := named (w4.alloc (.cells #[.slice (some ⟨e0, 0, none⟩) n n, .slice (some ⟨e1, 0, none⟩) n1 n1, .slice (some ⟨e2, 0, none⟩) n2 n2, .slice (some ⟨e3, 0, none⟩) n3 n3] 27))
  rw [← HV3.out]
  have HCW : Hid (CW a a W1 w w3.heap.size w2.heap.size g0 g1 g2 g3 h ha hd w4.heap.size w9.heap.size e0 e1 e2 e3 k5 ka kd n n1 n2 n3 0 V3) := Lib.hid (by
      have h9 := HZ9.out.size
      have hv := HV2S.out
      have hq := HQ.out
      have hg := HGW.out
      rw [HG.out] at hg
      have hb7 : Below w9.heap.size w9 V3 := by rw [HV3.out]; exact below_new HB6.out _
      refine ⟨joinB (joinB HB5.out HZ9.out) hb7, HO2.out.next (joinB HZ9.out hb7), ?_, ⟨hg, by omega, hw1⟩, HM.out, Chg.start a⟩
      rw [HV3.out]; exact HO5.out)
  clear y0 y1 y2 y3
  obtain ⟨hs0, hs1, hs2, hs3⟩ : n ≤ 24 ∧ n1 ≤ 24 ∧ n2 ≤ 18 ∧ n3 ≤ 24 := by
    rw [HN.out, HN1.out, HN2.out, HN3.out]; exact HSM.out (by simp)
  go_loopw [7] (fun i wr => ∃ (k : Nat) (c' : Ck), i = .int .i64 k ∧ k ≤ n ∧ CW a c' W1 w w3.heap.size w2.heap.size g0 g1 g2 g3 h ha hd w4.heap.size w9.heap.size e0 e1 e2 e3 k5 ka kd n n1 n2 n3 k wr) (fun i _ => n - (intOf i).toNat)
  case atStart => exact ⟨0, a, rfl, Nat.zero_le _, HCW.out⟩
  case round =>
    clear HCW
    obtain ⟨k, c', rfl, hk, hcw⟩ := hrel
    have x0 := hcw.oc.cell0
    have HCW := Lib.hid hcw
    by_cases hkn : k < n
    · obtain ⟨-, x1, -, -⟩ := hcw.oc.node hkn
      rw [hcw.ch.ni k] at x1
      obtain ⟨mi, HMI⟩ := named (a.nodes.getD k default).ins.length
      rw [← HMI.out] at x1
      have hmi : mi ≤ maxLen := by rw [HMI.out]; exact (HFT.out.k k (by rw [← HN.out]; exact hkn)).2.2
      unfold maxLen at hmi
      clear hcw
      go_wp2
      clear x0 x1
      go_loopw [8] (fun i wr => ∃ (j : Nat) (c' : Ck), i = .int .i64 j ∧ j ≤ mi ∧ CW a c' W1 w w3.heap.size w2.heap.size g0 g1 g2 g3 h ha hd w4.heap.size w9.heap.size e0 e1 e2 e3 k5 ka kd n n1 n2 n3 k wr) (fun i _ => mi - (intOf i).toNat)
      case atStart => exact ⟨0, c', rfl, Nat.zero_le _, HCW.out⟩
      case round =>
        clear HCW c'
        obtain ⟨j, c', rfl, hj, hcw⟩ := hrel
        have x0 := hcw.oc.cell0
        obtain ⟨x4, x1, x2, x3⟩ := hcw.oc.node hkn
        rw [hcw.ch.ni k, ← HMI.out] at x1 x2
        have HCW := Lib.hid hcw
        by_cases hjm : j < mi
        · have x5 := x2 j hjm
          have x6 := x3 j
          obtain ⟨xv, HXV⟩ := named ((c'.nodes.getD k default).ins.getD j 0)
          rw [← HXV.out] at x5
          have HP : Hid (∀ v, CW a (repin c' k j v) W1 w w3.heap.size w2.heap.size g0 g1 g2 g3 h ha hd w4.heap.size w9.heap.size e0 e1 e2 e3 k5 ka kd n n1 n2 n3 k (wr.setCell ⟨h k, j, none⟩ (.int .i64 v))) := Lib.hid fun v => hcw.pin hkn j v
          obtain ⟨hk_, HHK⟩ := named (h k)
          rw [← HHK.out] at x1 x5 x6 HP
          clear hcw x2 x3 x4
          go_wp2
          go_roundw
          case rel => exact ⟨j + 1, _, by go_num, by omega, HP.out _⟩
          case measure => simp [intOf]; omega
        · obtain rfl : mi = j := by omega
          have x6 := hcw.oc.own.f0.frozen (k * 4)
          have HP : Hid (∀ v, v = IntKind.u8.wrap ((c'.nodes.getD k default).kind + 1) → CW a (rekind c' k v) W1 w w3.heap.size w2.heap.size g0 g1 g2 g3 h ha hd w4.heap.size w9.heap.size e0 e1 e2 e3 k5 ka kd n n1 n2 n3 (k + 1) (wr.setCell ⟨g0, k * 4, none⟩ (.int .u8 v))) := Lib.hid fun v hv => hcw.kind hkn hv
          obtain ⟨kk, HKK⟩ := named (c'.nodes.getD k default).kind
          rw [← HKK.out] at x4 HP
          clear hcw x2 x3
          go_wp2
          go_roundw
          case rel => exact ⟨k + 1, _, by go_num, by omega, HP.out _ rfl⟩
          case measure => simp [intOf]; omega
    · obtain rfl : n = k := by omega
      have x2 := hcw.oc.cells.2.2.1
      clear hcw
      go_wp2
      clear x0 x2
      go_loopw [9] (fun i wr => ∃ (k : Nat) (c' : Ck), i = .int .i64 k ∧ k ≤ n2 ∧ CW a c' W1 w w3.heap.size w2.heap.size g0 g1 g2 g3 h ha hd w4.heap.size w9.heap.size e0 e1 e2 e3 k5 ka kd n n1 n2 n3 n wr) (fun i _ => n2 - (intOf i).toNat)
      case atStart => exact ⟨0, c', rfl, Nat.zero_le _, HCW.out⟩
      case round =>
        clear HCW c' hk
        obtain ⟨k, c', rfl, hk, hcw⟩ := hrel
        have x0 := hcw.oc.cells.2.2.1
        have HCW := Lib.hid hcw
        by_cases hkn : k < n2
        · obtain ⟨x1, x2, -, -, -, -⟩ := hcw.oc.mem hkn
          rw [hcw.ch.ma k] at x1
          rw [hcw.ch.md k] at x2
          obtain ⟨mi, HMI⟩ := named (a.mems.getD k default).addr.length
          obtain ⟨mj, HMJ⟩ := named (a.mems.getD k default).data.length
          rw [← HMI.out] at x1
          rw [← HMJ.out] at x2
          have hmi : mi ≤ maxLen := by rw [HMI.out]; exact (HFT.out.a k (by rw [← HN2.out]; exact hkn)).1
          have hmj : mj ≤ maxLen := by rw [HMJ.out]; exact (HFT.out.a k (by rw [← HN2.out]; exact hkn)).2
          unfold maxLen at hmi hmj
          clear hcw
          go_wp2
          clear x0 x1 x2
          go_loopw [10] (fun i wr => ∃ (j : Nat) (c' : Ck), i = .int .i64 j ∧ j ≤ mi ∧ CW a c' W1 w w3.heap.size w2.heap.size g0 g1 g2 g3 h ha hd w4.heap.size w9.heap.size e0 e1 e2 e3 k5 ka kd n n1 n2 n3 n wr) (fun i _ => mi - (intOf i).toNat)
          case atStart => exact ⟨0, c', rfl, Nat.zero_le _, HCW.out⟩
          case round =>
            clear HCW c'
            obtain ⟨j, c', rfl, hj, hcw⟩ := hrel
            have x0 := hcw.oc.cells.2.2.1
            obtain ⟨x1, x2, x3, x4, x5, x6⟩ := hcw.oc.mem hkn
            rw [hcw.ch.ma k, ← HMI.out] at x1 x3
            rw [hcw.ch.md k, ← HMJ.out] at x2 x4
            have HCW := Lib.hid hcw
            by_cases hjm : j < mi
            · have x7 := x3 j hjm
              have x8 := x5 j
              obtain ⟨xv, HXV⟩ := named ((c'.mems.getD k default).addr.getD j 0)
              rw [← HXV.out] at x7
              have HP : Hid (∀ v, CW a (readdr c' k j v) W1 w w3.heap.size w2.heap.size g0 g1 g2 g3 h ha hd w4.heap.size w9.heap.size e0 e1 e2 e3 k5 ka kd n n1 n2 n3 n (wr.setCell ⟨ha k, j, none⟩ (.int .i64 v))) := Lib.hid fun v => hcw.addr hkn j v
              obtain ⟨hk_, HHK⟩ := named (ha k)
              rw [← HHK.out] at x1 x7 x8 HP
              clear hcw x3 x4 x5 x6
              go_wp2
              go_roundw
              case rel => exact ⟨j + 1, _, by go_num, by omega, HP.out _⟩
              case measure => simp [intOf]; omega
            · obtain rfl : mi = j := by omega
              clear hcw x3 x4 x5 x6
              go_wp2
              clear x0 x1 x2
              go_loopw [11] (fun i wr => ∃ (j : Nat) (c' : Ck), i = .int .i64 j ∧ j ≤ mj ∧ CW a c' W1 w w3.heap.size w2.heap.size g0 g1 g2 g3 h ha hd w4.heap.size w9.heap.size e0 e1 e2 e3 k5 ka kd n n1 n2 n3 n wr) (fun i _ => mj - (intOf i).toNat)
              case atStart => exact ⟨0, c', rfl, Nat.zero_le _, HCW.out⟩
              case round =>
                clear HCW c'
                obtain ⟨j, c', rfl, hj, hcw⟩ := hrel
                have x0 := hcw.oc.cells.2.2.1
                obtain ⟨x1, x2, x3, x4, x5, x6⟩ := hcw.oc.mem hkn
                rw [hcw.ch.ma k, ← HMI.out] at x1 x3
                rw [hcw.ch.md k, ← HMJ.out] at x2 x4
                have HCW := Lib.hid hcw
                by_cases hjm : j < mj
                · have x7 := x4 j hjm
                  have x8 := x6 j
                  obtain ⟨xv, HXV⟩ := named ((c'.mems.getD k default).data.getD j 0)
                  rw [← HXV.out] at x7
                  have HP : Hid (∀ v, CW a (redata c' k j v) W1 w w3.heap.size w2.heap.size g0 g1 g2 g3 h ha hd w4.heap.size w9.heap.size e0 e1 e2 e3 k5 ka kd n n1 n2 n3 n (wr.setCell ⟨hd k, j, none⟩ (.int .i64 v))) := Lib.hid fun v => hcw.data hkn j v
                  obtain ⟨hk_, HHK⟩ := named (hd k)
                  rw [← HHK.out] at x2 x7 x8 HP
                  clear hcw x3 x4 x5 x6
                  go_wp2
                  go_roundw
                  case rel => exact ⟨j + 1, _, by go_num, by omega, HP.out _⟩
                  case measure => simp [intOf]; omega
                · obtain rfl : mj = j := by omega
                  clear hcw x3 x4 x5 x6
                  go_wp2
                  go_roundw
                  case rel => exact ⟨k + 1, c', by go_num, by omega, HCW.out⟩
                  case measure => simp [intOf]; omega
        · obtain rfl : n2 = k := by omega
          have x3 := hcw.oc.cells.2.2.2
          clear hcw
          go_wp2
          clear x0 x3
          go_loopw [12] (fun i wr => ∃ (j : Nat) (c' : Ck), i = .int .i64 j ∧ j ≤ n3 ∧ CW a c' W1 w w3.heap.size w2.heap.size g0 g1 g2 g3 h ha hd w4.heap.size w9.heap.size e0 e1 e2 e3 k5 ka kd n n1 n2 n3 n wr) (fun i _ => n3 - (intOf i).toNat)
          case atStart => exact ⟨0, c', rfl, Nat.zero_le _, HCW.out⟩
          case round =>
            clear HCW c' hk
            obtain ⟨j, c', rfl, hj, hcw⟩ := hrel
            have x0 := hcw.oc.cells.2.2.2
            obtain ⟨x1, x2⟩ := hcw.oc.outc
            have HCW := Lib.hid hcw
            by_cases hjm : j < n3
            · have x3 := x1 j hjm
              have x4 := x2 j
              obtain ⟨xv, HXV⟩ := named (c'.outs.getD j 0)
              rw [← HXV.out] at x3
              have HP : Hid (∀ v, CW a (reout c' j v) W1 w w3.heap.size w2.heap.size g0 g1 g2 g3 h ha hd w4.heap.size w9.heap.size e0 e1 e2 e3 k5 ka kd n n1 n2 n3 n (wr.setCell ⟨g3, j, none⟩ (.int .i64 v))) := Lib.hid fun v => hcw.out j v
              clear hcw x1 x2
              go_wp2
              go_roundw
              case rel => exact ⟨j + 1, _, by go_num, by omega, HP.out _⟩
              case measure => simp [intOf]; omega
            · obtain rfl : n3 = j := by omega
              obtain ⟨q0, q1, q2, q3⟩ := hcw.og.cells
              obtain ⟨y0, y1, y2, y3⟩ := HCA.out _ hcw.bw
              obtain ⟨z0, z1, z2, z3⟩ := hcw.oc.cells
              have HF1 : Hid (Calls Tryd.prog 18 #[.agg #[.slice A0 n c0, .slice A1 n1 c1, .slice A2 n2 c2, .slice A3 n3 c3], .agg #[.slice (some ⟨e0, 0, none⟩) n n, .slice (some ⟨e1, 0, none⟩) n1 n1, .slice (some ⟨e2, 0, none⟩) n2 n2, .slice (some ⟨e3, 0, none⟩) n3 n3]] wr fun e w' => e = .returned (.bool true) ∧ Below wr.heap.size wr w') :=
                Lib.hid ((HSR.out wr a _ hcw.bw hcw.og.cir).mono fun e w' ⟨h1, h2⟩ => ⟨by rw [h1, ckEq_self], h2⟩)
              have HF2 : Hid (0 < n → ∀ W, Below wr.heap.size wr W → Calls Tryd.prog 35 #[.agg #[.slice A0 n c0, .slice A1 n1 c1, .slice A2 n2 c2, .slice A3 n3 c3], .agg #[.slice (some ⟨g0, 0, none⟩) n n, .slice (some ⟨g1, 0, none⟩) n1 n1, .slice (some ⟨g2, 0, none⟩) n2 n2, .slice (some ⟨g3, 0, none⟩) n3 n3]] W fun e w' => e = .returned (.bool false) ∧ Below wr.heap.size wr w') :=
                Lib.hid fun h0 W hb => (HSP.out W c' _ (joinB hcw.bw hb) (hcw.oc.next hb).cir).mono fun e w' ⟨h1, h2⟩ => ⟨by rw [h1, ckEq_ne (hcw.ch.ne h0 (by rw [← HN.out]; exact h0) (by have := HFT.out.k 0 (by rw [← HN.out]; exact h0); exact ⟨this.1, this.2.1⟩))], joinB hb h2⟩
              have HBW := Lib.hid hcw.bw
              have HNX : Hid (∀ W, Below wr.heap.size wr W → W.cell? ⟨w.heap.size, 0, none⟩ = some (.slice A0 n c0) ∧ W.cell? ⟨w.heap.size, 1, none⟩ = some (.slice A1 n1 c1) ∧ W.cell? ⟨w.heap.size, 2, none⟩ = some (.slice A2 n2 c2) ∧ W.cell? ⟨w.heap.size, 3, none⟩ = some (.slice A3 n3 c3) ∧ W.cell? ⟨w3.heap.size, 0, none⟩ = some (.slice (some ⟨g0, 0, none⟩) n n) ∧ W.cell? ⟨w3.heap.size, 1, none⟩ = some (.slice (some ⟨g1, 0, none⟩) n1 n1) ∧ W.cell? ⟨w3.heap.size, 2, none⟩ = some (.slice (some ⟨g2, 0, none⟩) n2 n2) ∧ W.cell? ⟨w3.heap.size, 3, none⟩ = some (.slice (some ⟨g3, 0, none⟩) n3 n3)) := Lib.hid fun W hb => by
                obtain ⟨s0, s1, s2, s3⟩ := HCA.out _ (joinB hcw.bw hb)
                obtain ⟨t0, t1, t2, t3⟩ := (hcw.oc.next hb).cells
                exact ⟨s0, s1, s2, s3, t0, t1, t2, t3⟩
              clear hcw x1 x2
              by_cases hn0 : 0 < n
              · go_wp2_with (first
                  | (go_at_call 18; (with_reducible refine HF1.out.mono ?_); rintro e w5 ⟨rfl, hb⟩; have HB5' := Lib.hid hb; clear x0 q0 q1 q2 q3 y0 y1 y2 y3 z0 z1 z2 z3; obtain ⟨y0, y1, y2, y3, z0, z1, z2, z3⟩ := HNX.out _ hb; clear hb)
                  | (go_at_call 35; (with_reducible refine (HF2.out hn0 _ HB5'.out).mono ?_); rintro e w6 ⟨rfl, hb⟩; have HB6' := Lib.hid (joinB HBW.out hb); clear hb)
                  | (go_at_call 12; (with_reducible refine (HLV.out _ HB6'.out).mono ?_); rintro e w7 ⟨rfl, hb⟩; have HB7 := Lib.hid hb; clear hb))
                go_ret
                exact ⟨rfl, joinB HB1.out HB7.out⟩
              · obtain rfl : n = 0 := by omega
                go_wp2_with (first
                  | (go_at_call 18; (with_reducible refine HF1.out.mono ?_); rintro e w5 ⟨rfl, hb⟩; have HB5' := Lib.hid (joinB HBW.out hb); clear x0 q0 q1 q2 q3 y0 y1 y2 y3 z0 z1 z2 z3; obtain ⟨y0, y1, y2, y3, z0, z1, z2, z3⟩ := HNX.out _ hb; clear hb)
                  | (go_at_call 12; (with_reducible refine (HLV.out _ HB5'.out).mono ?_); rintro e w7 ⟨rfl, hb⟩; have HB7 := Lib.hid hb; clear hb))
                go_ret
                exact ⟨rfl, joinB HB1.out HB7.out⟩
end Go.Proofs.YtmghdeodkeenoaaDoor
