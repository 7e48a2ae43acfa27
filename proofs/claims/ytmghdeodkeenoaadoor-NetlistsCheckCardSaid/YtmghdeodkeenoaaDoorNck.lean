/- NetlistsCheck: the law's walk. -/
import Derived.Test.YtmghdeodkeenoaaDoorRck
import Derived.Test.YtmghdeodkeenoaaDoorSrs
import Derived.Test.YtmghdeodkeenoaaDoorRsm
import Derived.Test.YtmghdeodkeenoaaDoorGrt
import Derived.Test.YtmghdeodkeenoaaDoorLvs
import Derived.Test.YtmghdeodkeenoaaDoorPsz
namespace Go.Proofs.YtmghdeodkeenoaaDoor
open Go.RowKit

set_option maxRecDepth 100000 in
set_option maxHeartbeats 8000000 in
theorem check_law (a : Ck) (v : Value) (w : World) (hT : Tabs w) (hc : Cir w w.heap.size v a) (hz : Bear a) :
    Calls Tryd.prog 3 #[v] w fun e w' => e = .returned (.bool true) ∧ Below w.heap.size w w' := by
  obtain ⟨v0, v1, v2, v3, rfl, hns, hss, hms, hos⟩ := id hc
  obtain ⟨A0, b0, o0, c0, rfl, -⟩ := id hns
  obtain ⟨A1, b1, o1, c1, rfl, -⟩ := id hss
  obtain ⟨A2, b2, o2, c2, rfl, -⟩ := id hms
  obtain ⟨A3, b3, o3, c3, rfl, -⟩ := id hos
  have hm0 := Arr.len hns
  clear hns hss hms hos
  obtain ⟨W1, HW1⟩ := named (w.alloc (.cells #[.slice A0 a.nodes.length c0, .slice A1 a.names.length c1, .slice A2 a.mems.length c2, .slice A3 a.outs.length c3] 27))
  have hb1 : Below w.heap.size w W1 := by rw [HW1.out]; exact below_new (Below.refl _ _) _
  have hfa : Fr W1 w.heap.size 27 [.slice A0 a.nodes.length c0, .slice A1 a.names.length c1, .slice A2 a.mems.length c2, .slice A3 a.outs.length c3] := by rw [HW1.out]; exact Fr.made _ _ _ rfl
  have hca : ∀ W, Below W1.heap.size W1 W → Cir W W.heap.size (.agg #[.slice A0 a.nodes.length c0, .slice A1 a.names.length c1, .slice A2 a.mems.length c2, .slice A3 a.outs.length c3]) a := fun W hb => (hc.below (joinB hb1 hb)).more (Nat.le_trans hb1.size hb.size)
  have hta : ∀ W, Below W1.heap.size W1 W → Tabs W := fun W hb => hT.below (joinB hb1 hb)
  have hGA : ∀ W, Below W1.heap.size W1 W → Calls Tryd.prog 11 #[.agg #[.slice A0 a.nodes.length c0, .slice A1 a.names.length c1, .slice A2 a.mems.length c2, .slice A3 a.outs.length c3]] W fun e w' => (∃ b, e = .returned (.bool b) ∧ (b = false → Small a)) ∧ Below W.heap.size W w' :=
    fun W hb => (great_any a _ W W.heap.size (Nat.le_refl _) (hca W hb)).mono fun e w' ⟨h1, h2⟩ => ⟨h1, h2⟩
  have hLV : ∀ W, Below W1.heap.size W1 W → Calls Tryd.prog 12 #[] W fun e w' => e = .returned (.bool true) ∧ Below W.heap.size W w' :=
    fun W hb => lives_any W (hta W hb)
  have hCP : Small a → ∀ W, Below W1.heap.size W1 W → Calls Tryd.prog 13 #[.agg #[.slice A0 a.nodes.length c0, .slice A1 a.names.length c1, .slice A2 a.mems.length c2, .slice A3 a.outs.length c3]] W fun e w' => ∃ g0 g1 g2 g3, e = .returned (.agg #[.slice (some ⟨g0, 0, none⟩) a.nodes.length a.nodes.length, .slice (some ⟨g1, 0, none⟩) a.names.length a.names.length, .slice (some ⟨g2, 0, none⟩) a.mems.length a.mems.length, .slice (some ⟨g3, 0, none⟩) a.outs.length a.outs.length]) ∧ Below W.heap.size W w' ∧
      Cir w' w'.heap.size (.agg #[.slice (some ⟨g0, 0, none⟩) a.nodes.length a.nodes.length, .slice (some ⟨g1, 0, none⟩) a.names.length a.names.length, .slice (some ⟨g2, 0, none⟩) a.mems.length a.mems.length, .slice (some ⟨g3, 0, none⟩) a.outs.length a.outs.length]) a :=
    fun hs W hb => (copy_any a _ W W.heap.size (Nat.le_refl _) (hca W hb) (hz.szok hs.1 hs.2.1 hs.2.2.1 hs.2.2.2)).mono fun e w' ⟨hb2, g0, g1, g2, g3, h, ha, hd, he, ho⟩ => ⟨g0, g1, g2, g3, he, hb2, ho.cir hc.fit⟩
  have hCK : ∀ W, Below W1.heap.size W1 W → Calls Tryd.prog 14 #[.agg #[.slice A0 a.nodes.length c0, .slice A1 a.names.length c1, .slice A2 a.mems.length c2, .slice A3 a.outs.length c3]] W fun e w' => e = .returned (.int .i64 (chkErr a)) ∧ Below W.heap.size W w' :=
    fun W hb => check_any a _ W W.heap.size (Nat.le_refl _) (hta W hb) (hca W hb)
  have hRC : ∀ W, Below W1.heap.size W1 W → Calls Tryd.prog 17 #[.agg #[.slice A0 a.nodes.length c0, .slice A1 a.names.length c1, .slice A2 a.mems.length c2, .slice A3 a.outs.length c3]] W fun e w' => e = .returned (.int .i64 (chkErr a)) ∧ Below W.heap.size W w' :=
    fun W hb => rchk_any a _ W W.heap.size (Nat.le_refl _) (hca W hb)
  have hLE : ∀ W, Below W1.heap.size W1 W → Calls Tryd.prog 15 #[.agg #[.slice A0 a.nodes.length c0, .slice A1 a.names.length c1, .slice A2 a.mems.length c2, .slice A3 a.outs.length c3]] W fun e w' => (∃ s m k, e = .returned (.tuple #[.slice s m k, .int .i64 (chkErr a)]) ∧ m = if chkErr a = 0 then a.nodes.length else 0) ∧ Below W.heap.size W w' :=
    fun W hb => (levels_any a _ W W.heap.size (Nat.le_refl _) (hta W hb) (hca W hb)).mono fun e w' ⟨h1, h2⟩ => by
      rcases h2 with ⟨h0, -, L, g, -, -, -, he, -⟩ | ⟨hn, he⟩
      · exact ⟨⟨_, _, _, by rw [h0]; exact he, by rw [if_pos h0]⟩, h1⟩
      · exact ⟨⟨_, _, _, he, by rw [if_neg hn]⟩, h1⟩
  have hOR : Small a → ∀ W, Below W1.heap.size W1 W → Calls Tryd.prog 16 #[.agg #[.slice A0 a.nodes.length c0, .slice A1 a.names.length c1, .slice A2 a.mems.length c2, .slice A3 a.outs.length c3]] W fun e w' => (∃ s m k, e = .returned (.tuple #[.slice s m k, .int .i64 (chkErr a)]) ∧ m = if chkErr a = 0 then a.nodes.length else 0) ∧ Below W.heap.size W w' :=
    fun hs W hb => (order_w a _ W W.heap.size (Nat.le_refl _) (hta W hb) (hca W hb) (Nat.le_trans hs.1 (by decide))).mono fun e w' ⟨h1, h2⟩ => by
      rcases h2 with ⟨h0, d, he⟩ | ⟨hn, he⟩
      · exact ⟨⟨_, _, _, by rw [h0]; exact he, by rw [if_pos h0]⟩, h1⟩
      · exact ⟨⟨_, _, _, he, by rw [if_neg hn]⟩, h1⟩
  have hSR : ∀ W u, Below W1.heap.size W1 W → Cir W W.heap.size u a → Calls Tryd.prog 18 #[.agg #[.slice A0 a.nodes.length c0, .slice A1 a.names.length c1, .slice A2 a.mems.length c2, .slice A3 a.outs.length c3], u] W fun e w' => e = .returned (.bool true) ∧ Below W.heap.size W w' :=
    fun W u hb hu => (rsame_any a a _ u W W.heap.size W.heap.size (Nat.le_refl _) (Nat.le_refl _) (hca W hb) hu).mono fun e w' ⟨h1, h2⟩ => ⟨by rw [h1, ckEq_self], h2⟩
  obtain ⟨n, HN⟩ := named a.nodes.length
  rw [← HN.out] at hfa hGA hCP hCK hRC hLE hOR hSR HW1 hm0
  rw [← HN.out]
  generalize a.names.length = n1 at hfa hGA hCP hCK hRC hLE hOR hSR HW1 ⊢
  generalize a.mems.length = n2 at hfa hGA hCP hCK hRC hLE hOR hSR HW1 ⊢
  generalize a.outs.length = n3 at hfa hGA hCP hCK hRC hLE hOR hSR HW1 ⊢
  obtain ⟨z, HZ⟩ := named (chkErr a)
  rw [← HZ.out] at hCK hRC hLE hOR
  have HCA : Hid (∀ W, Below W1.heap.size W1 W → W.cell? ⟨w.heap.size, 0, none⟩ = some (.slice A0 n c0) ∧ W.cell? ⟨w.heap.size, 1, none⟩ = some (.slice A1 n1 c1) ∧ W.cell? ⟨w.heap.size, 2, none⟩ = some (.slice A2 n2 c2) ∧ W.cell? ⟨w.heap.size, 3, none⟩ = some (.slice A3 n3 c3)) :=
    Lib.hid fun W hb => ⟨(hfa.below hb).cell 0, (hfa.below hb).cell 1, (hfa.below hb).cell 2, (hfa.below hb).cell 3⟩
  have HGA := Lib.hid hGA
  have HLV := Lib.hid hLV
  have HCP := Lib.hid hCP
  have HCK := Lib.hid hCK
  have HRC := Lib.hid hRC
  have HSR := Lib.hid hSR
  have HB1 := Lib.hid hb1
  unfold maxLen at hm0
  have hw1 := hb1.size
  clear hT hc hz hca hta hfa hb1 hGA hLV hCP hCK hRC hSR
  obtain ⟨m, HM⟩ : ∃ m, Hid (m = if z = 0 then n else 0) := ⟨_, Lib.hid rfl⟩
  have HLE : Hid (∀ W, Below W1.heap.size W1 W → Calls Tryd.prog 15 #[.agg #[.slice A0 n c0, .slice A1 n1 c1, .slice A2 n2 c2, .slice A3 n3 c3]] W fun e w' => (∃ s k, e = .returned (.tuple #[.slice s m k, .int .i64 z])) ∧ Below W.heap.size W w') :=
    Lib.hid fun W hb => (hLE W hb).mono fun e w' ⟨⟨s, m', k, he, hm⟩, h⟩ => ⟨⟨s, k, by rw [he, hm, HM.out]⟩, h⟩
  have HOR : Hid (Small a → ∀ W, Below W1.heap.size W1 W → Calls Tryd.prog 16 #[.agg #[.slice A0 n c0, .slice A1 n1 c1, .slice A2 n2 c2, .slice A3 n3 c3]] W fun e w' => (∃ s k, e = .returned (.tuple #[.slice s m k, .int .i64 z])) ∧ Below W.heap.size W w') :=
    Lib.hid fun hs W hb => (hOR hs W hb).mono fun e w' ⟨⟨s, m', k, he, hm⟩, h⟩ => ⟨⟨s, k, by rw [he, hm, HM.out]⟩, h⟩
  clear hLE hOR
  go_enter Tryd.func3, Tryd.ntmps3
  go_upto_region 1 with (fail)
  rw [← HW1.out]
  obtain ⟨x0, x1, x2, x3⟩ := HCA.out W1 (Below.refl _ _)
  go_upto_region 4 with (first
    | (go_at_call 11; (with_reducible refine (HGA.out _ (Below.refl _ _)).mono ?_); rintro e w1 ⟨⟨bb, rfl, hs⟩, hb⟩; have HSM := Lib.hid hs; obtain ⟨y0, y1, y2, y3⟩ := HCA.out _ hb; have HB2 := Lib.hid hb; clear hs hb x0 x1 x2 x3; cases bb)
    | (go_at_call 12; (with_reducible refine (HLV.out _ HB2.out).mono ?_); rintro e w9 ⟨rfl, hb⟩; have HB9 := Lib.hid hb; clear hb)
    | (go_at_call 13; (with_reducible refine (HCP.out (HSM.out (by simp)) _ HB2.out).mono ?_); rintro e w3 ⟨g0, g1, g2, g3, rfl, hb, ho⟩; have HB3 := Lib.hid hb; have HO := Lib.hid ho; clear hb ho))
  rotate_left 1
  · go_ret
    exact ⟨rfl, joinB HB1.out (joinB HB2.out HB9.out)⟩
  clear y0 y1 y2 y3
  obtain ⟨V3, HV3⟩ := named (w3.alloc (.cells #[.slice (some ⟨g0, 0, none⟩) n n, .slice (some ⟨g1, 0, none⟩) n1 n1, .slice (some ⟨g2, 0, none⟩) n2 n2, .slice (some ⟨g3, 0, none⟩) n3 n3] 27))
  have HB4 : Hid (Below W1.heap.size W1 V3) := Lib.hid (by rw [HV3.out]; exact below_new (joinB HB2.out HB3.out) _)
  have hfc : Fr V3 w3.heap.size 27 [.slice (some ⟨g0, 0, none⟩) n n, .slice (some ⟨g1, 0, none⟩) n1 n1, .slice (some ⟨g2, 0, none⟩) n2 n2, .slice (some ⟨g3, 0, none⟩) n3 n3] := by rw [HV3.out]; exact Fr.made _ _ _ rfl
  have HRR : Hid (∀ W, Below V3.heap.size V3 W → Cir W W.heap.size (.agg #[.slice (some ⟨g0, 0, none⟩) n n, .slice (some ⟨g1, 0, none⟩) n1 n1, .slice (some ⟨g2, 0, none⟩) n2 n2, .slice (some ⟨g3, 0, none⟩) n3 n3]) a) := by
    have h3 : Below w3.heap.size w3 V3 := by rw [HV3.out]; exact below_new (Below.refl _ _) _
    exact Lib.hid fun W hb => (HO.out.below (joinB h3 hb)).more (Nat.le_trans h3.size hb.size)
  obtain ⟨q, HQ⟩ := named w3.heap.size
  rw [← HQ.out] at hfc
  have HCC : Hid (∀ W, Below V3.heap.size V3 W → W.cell? ⟨w.heap.size, 0, none⟩ = some (.slice A0 n c0) ∧ W.cell? ⟨w.heap.size, 1, none⟩ = some (.slice A1 n1 c1) ∧ W.cell? ⟨w.heap.size, 2, none⟩ = some (.slice A2 n2 c2) ∧ W.cell? ⟨w.heap.size, 3, none⟩ = some (.slice A3 n3 c3) ∧ W.cell? ⟨q, 0, none⟩ = some (.slice (some ⟨g0, 0, none⟩) n n) ∧ W.cell? ⟨q, 1, none⟩ = some (.slice (some ⟨g1, 0, none⟩) n1 n1) ∧ W.cell? ⟨q, 2, none⟩ = some (.slice (some ⟨g2, 0, none⟩) n2 n2) ∧ W.cell? ⟨q, 3, none⟩ = some (.slice (some ⟨g3, 0, none⟩) n3 n3)) :=
    Lib.hid fun W hb => have h := HCA.out W (joinB HB4.out hb); ⟨h.1, h.2.1, h.2.2.1, h.2.2.2, (hfc.below hb).cell 0, (hfc.below hb).cell 1, (hfc.below hb).cell 2, (hfc.below hb).cell 3⟩
  rw [← HV3.out, ← HQ.out]
  clear hfc
  obtain ⟨y0, y1, y2, y3, u0, u1, u2, u3⟩ := HCC.out V3 (Below.refl _ _)
  have hzz : (z != z) = false := by simp
  by_cases hz0 : z = 0
  · subst hz0
    obtain rfl : m = n := by rw [HM.out]; exact if_pos rfl
    go_wp2_with (first
      | (go_at_call 14; (with_reducible refine (HCK.out _ HB4.out).mono ?_); rintro e w4 ⟨rfl, hb⟩; have HB5 := Lib.hid (joinB HB4.out hb); obtain ⟨y0, y1, y2, y3, u0, u1, u2, u3⟩ := HCC.out _ hb; have HD5 := Lib.hid hb; clear hb)
      | (go_at_call 15; (with_reducible refine (HLE.out _ HB5.out).mono ?_); rintro e w5 ⟨⟨s, k, rfl⟩, hb⟩; have HB6 := Lib.hid (joinB HB5.out hb); have HD6 := Lib.hid (joinB HD5.out hb); clear hb y0 y1 y2 y3 u0 u1 u2 u3; obtain ⟨y0, y1, y2, y3, u0, u1, u2, u3⟩ := HCC.out _ HD6.out)
      | (go_at_call 16; (with_reducible refine (HOR.out (HSM.out (by simp)) _ HB6.out).mono ?_); rintro e w6 ⟨⟨s', k', rfl⟩, hb⟩; have HB7 := Lib.hid (joinB HB6.out hb); have HD7 := Lib.hid (joinB HD6.out hb); clear hb y0 y1 y2 y3 u0 u1 u2 u3; obtain ⟨y0, y1, y2, y3, u0, u1, u2, u3⟩ := HCC.out _ HD7.out)
      | (go_at_call 17; (with_reducible refine (HRC.out _ HB7.out).mono ?_); rintro e w7 ⟨rfl, hb⟩; have HB8 := Lib.hid (joinB HB7.out hb); have HD8 := Lib.hid (joinB HD7.out hb); clear hb y0 y1 y2 y3 u0 u1 u2 u3; obtain ⟨y0, y1, y2, y3, u0, u1, u2, u3⟩ := HCC.out _ HD8.out)
      | (go_at_call 18; (with_reducible refine (HSR.out _ _ HB8.out (HRR.out _ HD8.out)).mono ?_); rintro e w8 ⟨rfl, hb⟩; have HB9 := Lib.hid (joinB HB8.out hb); have HD9 := Lib.hid (joinB HD8.out hb); clear hb y0 y1 y2 y3 u0 u1 u2 u3; obtain ⟨y0, y1, y2, y3, u0, u1, u2, u3⟩ := HCC.out _ HD9.out)
      | (go_at_call 12; (with_reducible refine (HLV.out _ HB9.out).mono ?_); rintro e w9 ⟨rfl, hb⟩; have HBX := Lib.hid (joinB HB9.out hb); clear hb))
    go_ret
    exact ⟨rfl, joinB HB1.out HBX.out⟩
  · obtain rfl : m = 0 := by rw [HM.out]; exact if_neg hz0
    have q0 : (z == 0) = false := by simpa using hz0
    have q1 : (z != 0) = true := by simpa using hz0
    clear hz0
    go_wp2_with (first
      | (go_at_call 14; (with_reducible refine (HCK.out _ HB4.out).mono ?_); rintro e w4 ⟨rfl, hb⟩; have HB5 := Lib.hid (joinB HB4.out hb); obtain ⟨y0, y1, y2, y3, u0, u1, u2, u3⟩ := HCC.out _ hb; have HD5 := Lib.hid hb; clear hb)
      | (go_at_call 15; (with_reducible refine (HLE.out _ HB5.out).mono ?_); rintro e w5 ⟨⟨s, k, rfl⟩, hb⟩; have HB6 := Lib.hid (joinB HB5.out hb); have HD6 := Lib.hid (joinB HD5.out hb); clear hb y0 y1 y2 y3 u0 u1 u2 u3; obtain ⟨y0, y1, y2, y3, u0, u1, u2, u3⟩ := HCC.out _ HD6.out)
      | (go_at_call 16; (with_reducible refine (HOR.out (HSM.out (by simp)) _ HB6.out).mono ?_); rintro e w6 ⟨⟨s', k', rfl⟩, hb⟩; have HB7 := Lib.hid (joinB HB6.out hb); have HD7 := Lib.hid (joinB HD6.out hb); clear hb y0 y1 y2 y3 u0 u1 u2 u3; obtain ⟨y0, y1, y2, y3, u0, u1, u2, u3⟩ := HCC.out _ HD7.out)
      | (go_at_call 17; (with_reducible refine (HRC.out _ HB7.out).mono ?_); rintro e w7 ⟨rfl, hb⟩; have HB8 := Lib.hid (joinB HB7.out hb); have HD8 := Lib.hid (joinB HD7.out hb); clear hb y0 y1 y2 y3 u0 u1 u2 u3; obtain ⟨y0, y1, y2, y3, u0, u1, u2, u3⟩ := HCC.out _ HD8.out)
      | (go_at_call 18; (with_reducible refine (HSR.out _ _ HB8.out (HRR.out _ HD8.out)).mono ?_); rintro e w8 ⟨rfl, hb⟩; have HB9 := Lib.hid (joinB HB8.out hb); have HD9 := Lib.hid (joinB HD8.out hb); clear hb y0 y1 y2 y3 u0 u1 u2 u3; obtain ⟨y0, y1, y2, y3, u0, u1, u2, u3⟩ := HCC.out _ HD9.out)
      | (go_at_call 12; (with_reducible refine (HLV.out _ HB9.out).mono ?_); rintro e w9 ⟨rfl, hb⟩; have HBX := Lib.hid (joinB HB9.out hb); clear hb))
    go_ret
    exact ⟨rfl, joinB HB1.out HBX.out⟩
end Go.Proofs.YtmghdeodkeenoaaDoor
