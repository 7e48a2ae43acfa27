/- WordsErrors: the walk. -/
import Derived.Test.YtemogllidmgbfaaGreatDoorM41
import Derived.Test.YtemogllidmgbfaaGreatDoorM40
namespace Go.Proofs.YtemogllidmgbfaaGreatDoor
open Go.RowKit

def lensOf (x : List Int × List Int) : Prop := x.1.length ≤ 140737488355328 ∧ x.2.length ≤ 140737488355328
set_option maxRecDepth 100000 in
set_option maxHeartbeats 8000000 in
theorem werr_law (c : Ck) (v : Value) (ps : List (List Int × List Int)) (Al : Option Addr) (np cl : Nat) (w : World) (hT : Lg.Tabs w) (hft : Ft w) (hc : Cir w w.heap.size v c) (hp : Pts w w.heap.size (.slice Al np cl) ps)
    (hna : c.names.length ≤ 17592186044416) (hno : c.outs.length ≤ 17592186044416) (hnm : c.mems.length ≤ 17592186044416) (hv : ∀ x ∈ ps, (∀ y ∈ x.1, 0 ≤ y) ∧ (∀ y ∈ x.2, 0 ≤ y)) (hls : ∀ x ∈ ps, lensOf x) :
    Calls Tryz.prog 5 #[v, .slice Al np cl] w fun e w' => e = .returned (.bool true) ∧ Below w.heap.size w w' := by
  have hc0 := hc
  obtain ⟨v0, v1, v2, v3, rfl, hnd, hss, hms, hos⟩ := hc
  obtain ⟨A0, b0, o0, c0, rfl, hA0, -, hm0, hcell0⟩ := id hnd
  obtain ⟨A1, b1, o1, c1, rfl, -⟩ := id hss
  obtain ⟨A2, b2, o2, c2, rfl, -⟩ := id hms
  obtain ⟨A3, b3, o3, c3, rfl, -⟩ := id hos
  unfold maxLen at hm0
  obtain ⟨A', b, o, c', e, hA, -, hm, hcell⟩ := id hp
  simp only [Value.slice.injEq] at e
  obtain ⟨rfl, hpl, rfl⟩ := e
  rw [← hpl] at hA hm hcell
  unfold maxLen at hm
  obtain ⟨W1, HW1⟩ := named (w.alloc (.cells #[.slice A0 c.nodes.length c0, .slice A1 c.names.length c1, .slice A2 c.mems.length c2, .slice A3 c.outs.length c3] 46))
  have hb1 : BelW w W1 := by rw [HW1.out]; exact below_new (Below.refl _ _) _
  have hfc : Fr W1 w.heap.size 46 [.slice A0 c.nodes.length c0, .slice A1 c.names.length c1, .slice A2 c.mems.length c2, .slice A3 c.outs.length c3] := by rw [HW1.out]; exact Fr.made _ _ _ rfl
  have hcW : ∀ {W}, BelW W1 W → Cir W w.heap.size (.agg #[.slice A0 c.nodes.length c0, .slice A1 c.names.length c1, .slice A2 c.mems.length c2, .slice A3 c.outs.length c3]) c := fun {W} h => hc0.below (joinB hb1 h)
  have hpW : ∀ {W}, BelW W1 W → Pts W w.heap.size (.slice Al np cl) ps := fun {W} h => Arr.keep stays_pat hp (Nat.le_refl _) fun _ hp => Below.cell (joinB hb1 h) hp
  have hzW : ∀ {W}, BelW W1 W → w.heap.size ≤ W.heap.size := fun {W} h => Below.size (joinB hb1 h)
  have HLV : Hid (∀ W, BelW W1 W → Calls Tryz.prog 7 #[] W fun e w' => e = .returned (.bool true) ∧ BelW W w') := Lib.hid fun W h => lives7_any W (hT.below (joinB hb1 h)) (hft.below (joinB hb1 h))
  obtain ⟨mi, HMI⟩ := named (ofTo c.nodes [0] c.nodes.length).length
  obtain ⟨ms, HMS⟩ := named (ofTo c.nodes [14] c.nodes.length).length
  have HBL : Hid (c.nodes.length ≤ 24 → ∀ W, BelW W1 W → Calls Tryz.prog 14 #[.agg #[.slice A0 c.nodes.length c0, .slice A1 c.names.length c1, .slice A2 c.mems.length c2, .slice A3 c.outs.length c3]] W (BlkPost mi ms W)) :=
    Lib.hid fun h24 W h => by
      have := blank_any c A0 A1 A2 A3 c0 c1 c2 c3 W w.heap.size (hzW h) (hcW h) (by omega)
      rw [← HMI.out, ← HMS.out] at this
      exact this
  have HSC : Hid (c.nodes.length ≤ 24 → ∀ W g h, BelW W1 W → VRow W g (List.replicate mi 2) → VRow W h (List.replicate ms 2) → Calls Tryz.prog 18 #[.agg #[.slice A0 c.nodes.length c0, .slice A1 c.names.length c1, .slice A2 c.mems.length c2, .slice A3 c.outs.length c3], .agg #[.slice (some ⟨g, 0, none⟩) mi mi, .slice (some ⟨h, 0, none⟩) ms ms]] W fun e w' => e = .returned (.int .i64 (blE c)) ∧ BelW W w') :=
    Lib.hid fun h24 W g h hb h1 h2 => by
      have := rck6_any c (List.replicate mi 2) (List.replicate ms 2) A0 A1 A2 A3 (some ⟨g, 0, none⟩) (some ⟨h, 0, none⟩) c0 c1 c2 c3 mi ms W W.heap.size (Nat.le_refl _) ((hcW hb).more (hzW hb)) (by have := h1.ks; simpa using this) (by have := h2.ks; simpa using this) (by omega)
      rw [List.length_replicate, List.length_replicate] at this
      unfold blE
      rw [← HMI.out, ← HMS.out]
      exact this
  obtain ⟨ce, HCE0⟩ : ∃ ce : Nat → Int, Hid (∀ k, ce k = ckE c (ps.getD k ([], [])).1 (ps.getD k ([], [])).2) := ⟨_, Lib.hid fun _ => rfl⟩
  have HPT : Hid (∀ W, BelW W1 W → ∀ k, k < np → ∃ Ai As ni ns ci cs, Al = some ⟨b, o, none⟩ ∧ ni ≤ 140737488355328 ∧ ns ≤ 140737488355328 ∧ W.cell? ⟨b, o + k * 2, none⟩ = some (.slice Ai ni ci) ∧ W.cell? ⟨b, o + k * 2 + 1, none⟩ = some (.slice As ns cs) ∧ (c.nodes.length ≤ 24 → ∀ W2, BelW W1 W2 → Calls Tryz.prog 18 #[.agg #[.slice A0 c.nodes.length c0, .slice A1 c.names.length c1, .slice A2 c.mems.length c2, .slice A3 c.outs.length c3], .agg #[.slice Ai ni ci, .slice As ns cs]] W2 fun e w' => e = .returned (.int .i64 (ce k)) ∧ BelW W2 w')) := Lib.hid fun W h k hk => by
    obtain ⟨hbb, Ai, As, ci, cs, h1, h2, h3, h4⟩ := hcell k hk
    have hl := hls (ps.getD k ([], [])) (by rw [List.getD_eq_getElem?_getD, List.getElem?_eq_getElem (by omega)]; exact List.getElem_mem _)
    refine ⟨Ai, As, _, _, ci, cs, hA (by omega), hl.1, hl.2, (Below.cell (joinB hb1 h) (p := ⟨b, _, none⟩) hbb).trans h1, (Below.cell (joinB hb1 h) (p := ⟨b, _, none⟩) hbb).trans h2, fun h24 W2 hW2 => ?_⟩
    have hw2 := joinB hb1 hW2
    rw [HCE0.out]
    exact rck6_any c _ _ A0 A1 A2 A3 Ai As c0 c1 c2 c3 ci cs W2 w.heap.size (hzW hW2) (hcW hW2) (Arr.keep stays_u8 h3 (Nat.le_refl _) fun _ hp => Below.cell hw2 hp) (Arr.keep stays_u8 h4 (Nat.le_refl _) fun _ hp => Below.cell hw2 hp) (by omega)
  have HRN : Hid (c.nodes.length ≤ 24 → ∀ W, BelW W1 W → Calls Tryz.prog 13 #[.agg #[.slice A0 c.nodes.length c0, .slice A1 c.names.length c1, .slice A2 c.mems.length c2, .slice A3 c.outs.length c3], .slice Al np cl] W (RunZ (wkE c ps) np c.nodes.length W)) := Lib.hid fun h24 W h =>
    wrun_e c ps A0 A1 A2 A3 Al c0 c1 c2 c3 np cl W w.heap.size (hzW h) (hT.below (joinB hb1 h)) (hft.below (joinB hb1 h)) (hcW h) (hpW h) (by omega) hno hv
  have HWK : Hid (wkE c ps = if 64 < np then 3 else foldE c (blE c) (ps.take np)) := Lib.hid (by
    have : ps.take np = ps := by rw [List.take_of_length_le (by omega)]
    rw [this, hpl]; rfl)
  have HF0 : Hid (foldE c (blE c) (ps.take 0) = blE c) := Lib.hid rfl
  have HFS : Hid (∀ k, k < np → foldE c (blE c) (ps.take (k + 1)) = if foldE c (blE c) (ps.take k) = 0 then ce k else foldE c (blE c) (ps.take k)) := Lib.hid fun k hk => by rw [HCE0.out]; exact foldE_take (by omega)
  obtain ⟨fo, HFO⟩ : ∃ fo : Nat → Int, Hid (∀ k, fo k = foldE c (blE c) (ps.take k)) := ⟨_, Lib.hid fun _ => rfl⟩
  have HF0' : Hid (blE c = fo 0) := Lib.hid (by rw [HFO.out]; exact HF0.out.symm)
  have HFS' : Hid (∀ k, k < np → fo (k + 1) = if fo k = 0 then ce k else fo k) := Lib.hid fun k hk => by rw [HFO.out, HFO.out]; exact HFS.out k hk
  have HWK' : Hid (wkE c ps = if 64 < np then 3 else fo np) := Lib.hid (by rw [HFO.out]; exact HWK.out)
  have HSC' : Hid (c.nodes.length ≤ 24 → ∀ W g h, BelW W1 W → VRow W g (List.replicate mi 2) → VRow W h (List.replicate ms 2) → Calls Tryz.prog 18 #[.agg #[.slice A0 c.nodes.length c0, .slice A1 c.names.length c1, .slice A2 c.mems.length c2, .slice A3 c.outs.length c3], .agg #[.slice (some ⟨g, 0, none⟩) mi mi, .slice (some ⟨h, 0, none⟩) ms ms]] W fun e w' => e = .returned (.int .i64 (fo 0)) ∧ BelW W w') := Lib.hid (by rw [← HF0'.out]; exact HSC.out)
  have HB1 := Lib.hid hb1
  have hs0 : BelW W1 W1 := Below.refl _ _
  have HAA := Lib.hid hA0
  have HCN : Hid (∀ W, BelW W1 W → ∀ k, k < c.nodes.length → ∃ A4 n4 c4, W.cell? ⟨b0, o0 + k * 4 + 1, none⟩ = some (.slice A4 n4 c4) ∧ n4 ≤ 2 ^ 63 - 1) := Lib.hid fun W h k hk => by
    obtain ⟨hlb, s, h0, h1, h2, h3, h4, -⟩ := hcell0 k hk
    obtain ⟨A4, b4, o4, c4, rfl, -, -, hm4, -⟩ := id h4
    exact ⟨A4, _, c4, (Below.cell (joinB hb1 h) (p := ⟨b0, _, none⟩) hlb).trans h1, hm4⟩
  clear hc0 hnd hss hms hos hp hcW hpW hzW hT hft hcell hcell0 hA hA0 hls hv hb1 hpl HSC HWK HF0 HFS HF0' HFO HCE0 HMI HMS
  obtain ⟨z, HZ⟩ := named (wkE c ps)
  rw [← HZ.out] at HRN HWK'
  clear HZ
  generalize c.nodes.length = n0 at HW1 hfc HBL HPT HRN HSC' HAA HCN hm0 ⊢
  generalize c.names.length = n1 at HW1 hfc HBL HPT HRN HSC' hna ⊢
  generalize c.mems.length = n2 at HW1 hfc HBL HPT HRN HSC' hnm ⊢
  generalize c.outs.length = n3 at HW1 hfc HBL HPT HRN HSC' hno ⊢
  have HCE : Hid (∀ w', BelW W1 w' → w'.cell? ⟨w.heap.size, 0, none⟩ = some (.slice A0 n0 c0) ∧ w'.cell? ⟨w.heap.size, 1, none⟩ = some (.slice A1 n1 c1) ∧ w'.cell? ⟨w.heap.size, 2, none⟩ = some (.slice A2 n2 c2) ∧ w'.cell? ⟨w.heap.size, 3, none⟩ = some (.slice A3 n3 c3)) := Lib.hid fun w' h =>
    ⟨(hfc.below h).cell 0, (hfc.below h).cell 1, (hfc.below h).cell 2, (hfc.below h).cell 3⟩
  clear hfc
  obtain ⟨q, HQ⟩ := named w.heap.size
  rw [← HQ.out] at HCE
  obtain ⟨x0, x1, x2, x3⟩ := HCE.out W1 hs0
  go_enter Tryz.func5, Tryz.ntmps5
  go_upto_region 1 with (fail)
  rw [← HW1.out, ← HQ.out]
  go_wp2
  go_loopw [6, 5] (fun i z wr => wr = W1 ∧ ∃ (k : Nat) (q : Int), k ≤ n0 ∧ k ≤ 30 ∧ i = .int .i64 k ∧ z = .int .i64 q ∧ ((n1 : Int) + n3 + 4 * n2) ≤ q ∧ q ≤ ((n1 : Int) + n3 + 4 * n2) + 100 * (k : Int)) (fun i _ _ => n0 - (intOf i).toNat)
  case atStart => exact ⟨rfl, 0, _, Nat.zero_le _, by omega, rfl, rfl, by go_num, by go_num⟩
  case round =>
    obtain ⟨rfl, k, qq, hk, hk3, rfl, rfl, hq0, hq1⟩ := hrel
    by_cases hlt : k < n0
    · by_cases hl3 : k < 30
      · obtain rfl := HAA.out (by omega)
        obtain ⟨A4, n4, c4, e1, hm4⟩ := HCN.out wr hs0 k hlt
        go_wp2
        go_roundw
        case rel => exact ⟨by trivial, k + 1, qq + min (n4 : Int) 100, by omega, by omega, by go_num, by go_num, by omega, by omega⟩
        case measure => simp [intOf]; omega
      · have h24 : ¬ (n0 : Int) ≤ 24 := by omega
        have h25 : (24 : Int) < (n0 : Int) := by omega
        go_wp2_with (go_at_call 7; (with_reducible refine (HLV.out _ hs0).mono ?_); rintro e w2 ⟨rfl, hb⟩; have HB := Lib.hid hb; clear hb)
        go_ret
        exact ⟨rfl, joinB HB1.out HB.out⟩
    · obtain rfl : n0 = k := by omega
      by_cases h24 : 24 < n0
      · have h25 : (24 : Int) < (n0 : Int) := by omega
        go_wp2_with (go_at_call 7; (with_reducible refine (HLV.out _ hs0).mono ?_); rintro e w2 ⟨rfl, hb⟩; have HB := Lib.hid hb; clear hb)
        go_ret
        exact ⟨rfl, joinB HB1.out HB.out⟩
      have h25 : ¬ (24 : Int) < (n0 : Int) := by omega
      by_cases h250 : 250 < qq
      · go_wp2_with (go_at_call 7; (with_reducible refine (HLV.out _ hs0).mono ?_); rintro e w2 ⟨rfl, hb⟩; have HB := Lib.hid hb; clear hb)
        go_ret
        exact ⟨rfl, joinB HB1.out HB.out⟩
      by_cases h66 : 66 < np
      · have h67 : (66 : Int) < (np : Int) := by omega
        go_wp2_with (go_at_call 7; (with_reducible refine (HLV.out _ hs0).mono ?_); rintro e w2 ⟨rfl, hb⟩; have HB := Lib.hid hb; clear hb)
        go_ret
        exact ⟨rfl, joinB HB1.out HB.out⟩
      have h67 : ¬ (66 : Int) < (np : Int) := by omega
      have h24b : n0 ≤ 24 := by omega
      have HBL2 := Lib.hid (HBL.out h24b)
      have HSC2 := Lib.hid (HSC'.out h24b)
      have HRN2 := Lib.hid (HRN.out h24b)
      go_upto_region 8 with (fail)
      have HKE : Hid (∀ w', BelW wr w' → BelW wr w' ∧ w'.cell? ⟨q, 0, none⟩ = some (.slice A0 n0 c0) ∧ w'.cell? ⟨q, 1, none⟩ = some (.slice A1 n1 c1) ∧ w'.cell? ⟨q, 2, none⟩ = some (.slice A2 n2 c2) ∧ w'.cell? ⟨q, 3, none⟩ = some (.slice A3 n3 c3)) := Lib.hid fun w' h => ⟨h, HCE.out w' h⟩
      go_region_held3 (fun w' => BelW wr w' ∧ w'.cell? ⟨q, 0, none⟩ = some (.slice A0 n0 c0) ∧ w'.cell? ⟨q, 1, none⟩ = some (.slice A1 n1 c1) ∧ w'.cell? ⟨q, 2, none⟩ = some (.slice A2 n2 c2) ∧ w'.cell? ⟨q, 3, none⟩ = some (.slice A3 n3 c3))
        ((refine HKE.out _ ?_; first | (with_reducible assumption) | (refine BelW.drew ?_; with_reducible assumption)))
        (first
          | (go_at_call 14; (with_reducible refine Calls.mono (HBL2.out _ ?_) ?_); · (first | (with_reducible assumption) | (refine BelW.drew ?_; with_reducible assumption))
             rintro e wA ⟨gA, hA', rfl, hvA, hvB, hbA⟩
             have hsA : BelW wr wA := (by refine BelW.next ?_ hbA; first | (with_reducible assumption) | (refine BelW.drew ?_; with_reducible assumption)))
          | (go_at_call 18; (with_reducible refine Calls.mono (HSC2.out _ _ _ hsA hvA hvB) ?_)
             rintro e wB ⟨rfl, hbB⟩
             have hsB : BelW wr wB := hsA.trans hbB))
      have HSB := Lib.hid hsB
      clear hsA hsB hbA hbB hvA hvB x0 x1 x2 x3
      obtain ⟨V1, rfl⟩ : ∃ V0 : World, V0 = wr := ⟨_, rfl⟩
      go_wp2
      go_loopw [7, 8] (fun s i wr => BelW V1 wr ∧ ∃ k : Nat, k ≤ np ∧ i = .int .i64 k ∧ s = .int .i64 (fo k)) (fun _ i _ => np - (intOf i).toNat)
      case atStart => exact ⟨HSB.out, 0, Nat.zero_le _, rfl, rfl⟩
      case round =>
        obtain ⟨hbr, k, hk, rfl, rfl⟩ := hrel
        have HBR := Lib.hid hbr
        by_cases hlt : k < np
        · obtain ⟨Ai, As, ni, ns, ci, cs, rfl, hni, hns, u0, u1, hck⟩ := HPT.out wr hbr k hlt
          have HCK := Lib.hid (hck h24b)
          have HFK := Lib.hid (HFS'.out k hlt)
          have hk2 : (k : Int) < (np : Int) := by omega
          clear hck
          obtain ⟨cc, HCC⟩ := named ((ni : Int) + (ns : Int))
          have hw : IntKind.i64.wrap ((ni : Int) + (ns : Int)) = cc := by rw [HCC.out]; simp [IntKind.wrap, IntKind.bits, IntKind.signed]; omega
          have HKP : Hid (∀ w', BelW wr w' → BelW wr w' ∧ w'.cell? ⟨q, 0, none⟩ = some (.slice A0 n0 c0) ∧ w'.cell? ⟨q, 1, none⟩ = some (.slice A1 n1 c1) ∧ w'.cell? ⟨q, 2, none⟩ = some (.slice A2 n2 c2) ∧ w'.cell? ⟨q, 3, none⟩ = some (.slice A3 n3 c3) ∧ w'.cell? ⟨b, o + k * 2, none⟩ = some (.slice Ai ni ci) ∧ w'.cell? ⟨b, o + k * 2 + 1, none⟩ = some (.slice As ns cs)) := Lib.hid fun w' h => by
            obtain ⟨z0, z1, z2, z3⟩ := HCE.out w' (HBR.out.trans h)
            exact ⟨h, z0, z1, z2, z3, (Below.cell h (p := ⟨b, _, none⟩) (cell_lt u0)).trans u0, (Below.cell h (p := ⟨b, _, none⟩) (cell_lt u1)).trans u1⟩
          go_wp2
          go_quiet (fail)
          generalize hX : World.drewN wr _ = X
          have hbX : BelW wr X := by rw [← hX]; exact below_drewN (Below.refl _ _) _
          have hsX : BelW V1 X := hbr.trans hbX
          clear hX u0 u1
          by_cases h100 : 100 < cc
          · go_wp2_with (go_at_call 7; (with_reducible refine (HLV.out _ hsX).mono ?_); rintro e w2 ⟨rfl, hb⟩; have HB : Hid (BelW V1 w2) := Lib.hid (hsX.trans hb); clear hb)
            go_ret
            exact ⟨rfl, joinB HB1.out HB.out⟩
          · by_cases hfz : fo k = 0
            · have HNX : Hid (fo (k + 1) = ce k) := Lib.hid (by rw [HFK.out, if_pos hfz])
              obtain ⟨cv, HCV⟩ := named (ce k)
              rw [← HCV.out] at HCK HNX
              have hq0 : (fo k == 0) = true := by rw [hfz]; rfl
              obtain ⟨-, x0, x1, x2, x3, u0, u1⟩ := HKP.out X hbX
              have HCK2 : Hid (∀ W2, BelW wr W2 → Calls Tryz.prog 18 #[.agg #[.slice A0 n0 c0, .slice A1 n1 c1, .slice A2 n2 c2, .slice A3 n3 c3], .agg #[.slice Ai ni ci, .slice As ns cs]] W2 fun e w' => e = .returned (.int .i64 cv) ∧ BelW W2 w') := Lib.hid fun W2 h => HCK.out W2 (HBR.out.trans h)
              clear hfz
              go_wp2
              go_region_held3 (fun w' => BelW wr w' ∧ w'.cell? ⟨q, 0, none⟩ = some (.slice A0 n0 c0) ∧ w'.cell? ⟨q, 1, none⟩ = some (.slice A1 n1 c1) ∧ w'.cell? ⟨q, 2, none⟩ = some (.slice A2 n2 c2) ∧ w'.cell? ⟨q, 3, none⟩ = some (.slice A3 n3 c3) ∧ w'.cell? ⟨b, o + k * 2, none⟩ = some (.slice Ai ni ci) ∧ w'.cell? ⟨b, o + k * 2 + 1, none⟩ = some (.slice As ns cs))
                ((refine HKP.out _ ?_; first | (with_reducible assumption) | (refine BelW.drew ?_; with_reducible assumption)))
                (first
                  | (go_at_call 18; (with_reducible refine Calls.mono (HCK2.out _ ?_) ?_); · (first | (with_reducible assumption) | (refine BelW.drew ?_; with_reducible assumption))
                     rintro e w6 ⟨rfl, hb6⟩
                     have hs6 : BelW wr w6 := (by refine BelW.next ?_ hb6; first | (with_reducible assumption) | (refine BelW.drew ?_; with_reducible assumption))))
              have HS6 : Hid (BelW V1 w6) := Lib.hid (HBR.out.trans hs6)
              go_wp2
              go_roundw
              case rel => exact ⟨HS6.out, k + 1, by omega, by go_num, by rw [HNX.out]⟩
              case measure => simp [intOf]; omega
            · have HNX : Hid (fo (k + 1) = fo k) := Lib.hid (by rw [HFK.out, if_neg hfz])
              have hq0 : (fo k == 0) = false := by simpa using hfz
              go_wp2
              go_roundw
              case rel => exact ⟨hsX, k + 1, by omega, by go_num, by rw [HNX.out]⟩
              case measure => simp [intOf]; omega
        · obtain rfl : np = k := by omega
          have HZK := Lib.hid HWK'.out
          go_upto_if 94 with (fail)
          go_cut [7] (fun s wx => s = .int .i64 z ∧ wx = wr)
          case first =>
            have hz := HZK.out
            by_cases h64 : 64 < np
            · have h65 : (64 : Int) < (np : Int) := by omega
              rw [if_pos h64] at hz
              go_wp2
              go_meet
              case rel => exact ⟨by rw [hz], rfl⟩
            · have h65 : ¬ (64 : Int) < (np : Int) := by omega
              rw [if_neg h64] at hz
              go_wp2
              go_meet
              case rel => exact ⟨by rw [hz], rfl⟩
          case rest =>
            obtain ⟨rfl, hw2⟩ := hcut
            obtain rfl : wr = wc := hw2.symm
            obtain ⟨x0, x1, x2, x3⟩ := HCE.out wr hbr
            go_upto_region 19 with (go_at_call 13; (with_reducible refine (HRN2.out _ hbr).mono ?_); rintro e w9 ⟨Ar, mr, kr, Br, jr, dr, rfl, hz0, hnz, hb⟩; have hs9 : BelW V1 w9 := hbr.trans hb; have HZ0 := Lib.hid hz0; have HNZ := Lib.hid hnz; clear hz0 hnz hb x0 x1 x2 x3)
            obtain ⟨x0, -, -, -⟩ := HCE.out w9 hs9
            by_cases hz : z = 0
            · obtain ⟨rfl, rfl⟩ := HZ0.out hz
              subst hz
              go_wp2_with (go_at_call 7; (with_reducible refine (HLV.out _ hs9).mono ?_); rintro e w10 ⟨rfl, hb⟩; have HB : Hid (BelW V1 w10) := Lib.hid (hs9.trans hb); clear hb)
              go_ret
              exact ⟨rfl, joinB HB1.out HB.out⟩
            · obtain ⟨rfl, rfl⟩ := HNZ.out hz
              have hq0 : (z == 0) = false := by simpa using hz
              have hq1 : (z != 0) = true := by simpa using hz
              go_wp2_with (go_at_call 7; (with_reducible refine (HLV.out _ hs9).mono ?_); rintro e w10 ⟨rfl, hb⟩; have HB : Hid (BelW V1 w10) := Lib.hid (hs9.trans hb); clear hb)
              go_ret
              exact ⟨rfl, joinB HB1.out HB.out⟩
end Go.Proofs.YtemogllidmgbfaaGreatDoor
