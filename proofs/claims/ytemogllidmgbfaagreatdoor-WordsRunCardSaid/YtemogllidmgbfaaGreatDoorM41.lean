/- The texts Lv7. -/
import Derived.Test.YtemogllidmgbfaaGreatDoorM40
namespace Go.Proofs.YtemogllidmgbfaaGreatDoor
open Go.RowKit

set_option maxRecDepth 100000 in
set_option maxHeartbeats 8000000 in
theorem lives7_any (w : World) (hT : Lg.Tabs w) (hf : Ft w) : Calls Tryz.prog 7 #[] w fun e w' => e = .returned (.bool true) ∧ BelW w w' := by
  have HT := Lib.hid (fun W (h : BelW w W) => hT.below h)
  have HF := Lib.hid (fun W (h : BelW w W) => hf.below h)
  have HPA := Lib.hid (fun W (h : BelW w W) => l7_pa W (HF.out W h))
  have HPB := Lib.hid (fun W (h : BelW w W) => l7_pb W (HF.out W h))
  have HPC := Lib.hid (fun W (h : BelW w W) => l7_pc W (HF.out W h))
  have HPD := Lib.hid (fun W (h : BelW w W) => l7_pd W (HF.out W h))
  have HPE := Lib.hid (fun W (h : BelW w W) => l7_pe W (HF.out W h))
  have HEA := Lib.hid (fun W (h : BelW w W) => l7_ea W (HT.out W h) (HF.out W h))
  have HEB := Lib.hid (fun W (h : BelW w W) => l7_eb W (HT.out W h) (HF.out W h))
  have HF1 := Lib.hid (fun W (h : BelW w W) => l7_f1 W (HF.out W h))
  have HF3 := Lib.hid (fun W (h : BelW w W) => l7_f3 W (HF.out W h))
  have HUN := Lib.hid (fun W (h : BelW w W) => l7_un W (HF.out W h))
  have HA3 := Lib.hid (fun W (h : BelW w W) => l7_a3 W (HF.out W h))
  have HA6 := Lib.hid (fun W (_ : BelW w W) => l7_a6 W)
  have HTX : Hid (∀ W g, BelW w W → VRow W g [1, 0, 2, 3, 2] → Calls Tryz.prog 23 #[.slice (some ⟨g, 0, none⟩) 5 5] W fun e w' => e = .returned (.string ⟨#[49, 48, 88, 90, 88]⟩) ∧ BelW W w') := Lib.hid fun W g h hv => l7_tx W g (HT.out W h) hv
  have HTY : Hid (∀ W g, BelW w W → VRow W g [1, 3] → Calls Tryz.prog 23 #[.slice (some ⟨g, 0, none⟩) 2 2] W fun e w' => e = .returned (.string ⟨#[49, 90]⟩) ∧ BelW W w') := Lib.hid fun W g h hv => l7_ty W g (HT.out W h) hv
  have HEX := Lib.hid (fun W => example7_any W)
  have hs0 : BelW w w := Below.refl _ _
  clear hT hf
  go_enter Tryz.func7, Tryz.ntmps7
  go_upto_region 2 with (go_at_call 19; (with_reducible refine (HPA.out _ hs0).mono ?_); rintro e w2 ⟨rfl, hb⟩; have hs2 : BelW w w2 := hb; clear hb)
  obtain ⟨V, HV⟩ := named (w2.alloc (.cells #[.int .u64 9, .int .u64 10] 27))
  have hnV : BelW w2 V := by rw [HV.out]; exact below_new (Below.refl _ _) _
  have hfV : Fr V w2.heap.size 27 [.int .u64 9, .int .u64 10] := by rw [HV.out]; exact Fr.made _ _ _ rfl
  have hsV : BelW w V := joinB hs2 hnV
  obtain ⟨q, HQ⟩ := named w2.heap.size
  rw [← HQ.out] at hfV
  rw [← HV.out, ← HQ.out]
  have HBX : Hid (∀ W, BelW V W → W.cell? ⟨q, 0, none⟩ = some (.int .u64 9) ∧ W.cell? ⟨q, 1, none⟩ = some (.int .u64 10)) := Lib.hid fun W h => ⟨(hfV.below h).cell 0, (hfV.below h).cell 1⟩
  have hv0 : BelW V V := Below.refl _ _
  obtain ⟨x0, x1⟩ := HBX.out V hv0
  have HSV := Lib.hid hsV
  clear hnV hfV
  go_upto_region 5 with (first
    | (go_at_call 22; (with_reducible refine (HF1.out _ hsV).mono ?_); rintro e w3 ⟨rfl, hb⟩; have hv3 : BelW V w3 := hb; clear hb x0 x1)
    | (go_at_call 22; (with_reducible refine (HF3.out _ (HSV.out.trans hv3)).mono ?_); rintro e w4 ⟨rfl, hb⟩; have hv4 : BelW V w4 := joinB hv3 hb; clear hb; obtain ⟨x0, x1⟩ := HBX.out _ hv4)
    | (go_at_call 24; (with_reducible refine (HUN.out _ (HSV.out.trans hv4)).mono ?_); rintro e w5 ⟨gu, rfl, hvu, hb⟩; have hv5 : BelW V w5 := joinB hv4 hb; have HVU := Lib.hid hvu; clear hb hvu x0 x1)
    | (go_at_call 23; (with_reducible refine (HTX.out _ _ (HSV.out.trans hv5) HVU.out).mono ?_); rintro e w6 ⟨rfl, hb⟩; have hv6 : BelW V w6 := joinB hv5 hb; clear hb; obtain ⟨x0, x1⟩ := HBX.out _ hv6)
    | (go_at_call 21; (with_reducible refine (HA3.out _ (HSV.out.trans hv6)).mono ?_); rintro e w7 ⟨rfl, hb⟩; have hv7 : BelW V w7 := joinB hv6 hb; clear hb x0 x1; obtain ⟨x0, x1⟩ := HBX.out _ hv7)
    | (go_at_call 21; (with_reducible refine (HA6.out _ (HSV.out.trans hv7)).mono ?_); rintro e w8 ⟨rfl, hb⟩; have hv8 : BelW V w8 := joinB hv7 hb; clear hb x0 x1))
  have HS8 : Hid (BelW w w8) := Lib.hid (HSV.out.trans hv8)
  clear hv0 hv3 hv4 hv5 hv6 hv7 hv8 hsV hs2 HVU HBX HSV HPA HF1 HF3 HUN HTX HA3 HA6
  go_upto_region 6 with (fail)
  generalize hW : World.alloc _ _ = W9
  obtain ⟨hz, h0, h1, h2, h3, h4, h5, h6, hb⟩ := sevenW w8 W9 _ _ _ _ _ _ _ hW.symm
  clear hW
  have hp7 : Pts W9 W9.heap.size (.slice (some ⟨w8.heap.size + 1 + 1 + 1 + 1 + 1 + 1, 0, none⟩) 3 3) P7 := by
    refine ⟨_, w8.heap.size + 1 + 1 + 1 + 1 + 1 + 1, 0, 3, rfl, fun _ => rfl, Nat.le_refl _, by simp [P7, maxLen], fun k hk => ⟨by omega, ?_⟩⟩
    have hk3 : k = 0 ∨ k = 1 ∨ k = 2 := by simp [P7] at hk; omega
    unfold PatAt
    simp only [cell_of_row W9 _ _ _ _ _ h6]
    rcases hk3 with rfl | rfl | rfl
    · exact ⟨_, _, _, _, rfl, rfl, ks_at [0] h0 (by simp [maxLen]) (by omega), ks_at [1] h1 (by simp [maxLen]) (by omega)⟩
    · exact ⟨_, _, _, _, rfl, rfl, ks_at [1] h2 (by simp [maxLen]) (by omega), ks_at [2] h3 (by simp [maxLen]) (by omega)⟩
    · exact ⟨_, _, _, _, rfl, rfl, ks_at [2] h4 (by simp [maxLen]) (by omega), ks_at [1] h5 (by simp [maxLen]) (by omega)⟩
  obtain ⟨g6, HG6⟩ := named (w8.heap.size + 1 + 1 + 1 + 1 + 1 + 1)
  rw [← HG6.out] at hp7
  rw [← HG6.out]
  have hs9 : BelW w W9 := HS8.out.trans hb
  have HRUN : Hid (∀ W A0 A1 A3 c0 c1 c3, BelW W9 W → Cir W W.heap.size (.agg #[.slice A0 6 c0, .slice A1 6 c1, .slice none 0 0, .slice A3 2 c3]) E6 → Calls Tryz.prog 13 #[.agg #[.slice A0 6 c0, .slice A1 6 c1, .slice none 0 0, .slice A3 2 c3], .slice (some ⟨g6, 0, none⟩) 3 3] W fun e w' => ∃ gr g a, e = .returned (.tuple #[.slice (some ⟨gr, 0, none⟩) 3 3, .slice (some ⟨g, 0, none⟩) 6 6, .int .i64 0]) ∧ w'.cell? ⟨g, 8, none⟩ = some (.int .u64 1) ∧ w'.cell? ⟨g, 9, none⟩ = some (.int .u64 3) ∧ w'.cell? ⟨gr, 0, none⟩ = some (.slice (some ⟨a, 0, none⟩) 2 2) ∧ VRow w' a [1, 3] ∧ BelW W w') :=
    Lib.hid fun W A0 A1 A3 c0 c1 c3 h hc => run7_any A0 A1 A3 _ c0 c1 c3 _ W (HT.out W (hs9.trans h)) (HF.out W (hs9.trans h)) hc (Arr.keep stays_pat hp7 (Below.size h) fun _ hp => Below.cell h hp)
  have h90 : BelW W9 W9 := Below.refl _ _
  have HS9 := Lib.hid hs9
  clear hz h0 h1 h2 h3 h4 h5 h6 hb hp7 hs9
  go_upto_region 7 with (first
    | (go_at_call 25; (with_reducible refine (HEX.out _).mono ?_); rintro e w10 ⟨⟨A0, A1, A3, c0, c1, c3, rfl, hc⟩, hb⟩; have HC := Lib.hid hc; have h91 : BelW W9 w10 := hb; clear hc hb)
    | (go_at_call 13; (with_reducible refine (HRUN.out _ _ _ _ _ _ _ h91 HC.out).mono ?_); rintro e w11 ⟨gr, g, a, rfl, y0, y1, y2, hva, hb⟩; have HVA := Lib.hid hva; have h92 : BelW W9 w11 := h91.trans hb; clear hb hva))
  have HS11 : Hid (BelW w w11) := Lib.hid (HS9.out.trans h92)
  go_upto_region 9 with (go_at_call 23; (with_reducible refine (HTY.out _ _ HS11.out HVA.out).mono ?_); rintro e w12 ⟨rfl, hb⟩; have hs12 : BelW w w12 := HS11.out.trans hb; clear hb y0 y1 y2)
  go_wp2_with (first
    | (go_at_call 19; (with_reducible refine (HPB.out _ hs12).mono ?_); rintro e w13 ⟨rfl, hb⟩; have hs13 : BelW w w13 := hs12.trans hb; clear hb)
    | (go_at_call 19; (with_reducible refine (HPC.out _ hs13).mono ?_); rintro e w14 ⟨rfl, hb⟩; have hs14 : BelW w w14 := hs13.trans hb; clear hb)
    | (go_at_call 8; (with_reducible refine (HEA.out _ hs14).mono ?_); rintro e w15 ⟨rfl, hb⟩; have hs15 : BelW w w15 := hs14.trans hb; clear hb)
    | (go_at_call 19; (with_reducible refine (HPD.out _ hs15).mono ?_); rintro e w16 ⟨rfl, hb⟩; have hs16 : BelW w w16 := hs15.trans hb; clear hb)
    | (go_at_call 19; (with_reducible refine (HPE.out _ hs16).mono ?_); rintro e w17 ⟨rfl, hb⟩; have hs17 : BelW w w17 := hs16.trans hb; clear hb)
    | (go_at_call 8; (with_reducible refine (HEB.out _ hs17).mono ?_); rintro e w18 ⟨rfl, hb⟩; have hs18 : BelW w w18 := hs17.trans hb; clear hb))
  go_ret
  exact ⟨rfl, hs18⟩
end Go.Proofs.YtemogllidmgbfaaGreatDoor
