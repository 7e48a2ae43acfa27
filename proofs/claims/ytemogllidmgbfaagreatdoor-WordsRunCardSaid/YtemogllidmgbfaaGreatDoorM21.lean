/- The texts Wxo Wmu. -/
import Derived.Test.YtemogllidmgbfaaGreatDoorM20
import Derived.Laws.EntriesVeiled
import Derived.StillTailTactics
namespace Go.Proofs.YtemogllidmgbfaaGreatDoor
open Go.RowKit

def xoA (l : List (Nat × Nat)) : Nat → Nat
  | 0 => 0
  | k + 1 => xoA l k ^^^ anot (l.getD k (0, 0)).1 (l.getD k (0, 0)).2
def xoK (l : List (Nat × Nat)) : Nat → Nat
  | 0 => 18446744073709551615
  | k + 1 => xoK l k &&& (anot (l.getD k (0, 0)).1 (l.getD k (0, 0)).2 ||| anot (l.getD k (0, 0)).2 (l.getD k (0, 0)).1)
theorem xoA_w {l : List (Nat × Nat)} (h : ∀ k, W64 (l.getD k (0, 0)).1) : ∀ k, W64 (xoA l k)
  | 0 => by unfold xoA; unfold W64; decide
  | k + 1 => (xoA_w h k).xor (h k).anot
theorem xoK_w (l : List (Nat × Nat)) : ∀ k, W64 (xoK l k)
  | 0 => by unfold xoK; unfold W64; decide
  | k + 1 => (xoK_w l k).and
set_option maxRecDepth 100000 in
set_option maxHeartbeats 4000000 in
theorem wxor_any (l : List (Nat × Nat)) (A : Option Addr) (n cl : Nat) (w : World) (B : Nat) (hB : B ≤ w.heap.size) (hf : Ft w) (hs : Wd w B (.slice A n cl) l) :
    Calls Tryz.prog 71 #[.slice A n cl] w fun e w' => e = .returned (wv (xoK l n &&& xoA l n) (anot (xoK l n) (xoA l n))) ∧ BelW w w' := by
  obtain ⟨A', b, o, c', e, hA, hle, hm, hc⟩ := id hs
  simp only [Value.slice.injEq] at e
  obtain ⟨rfl, hml, rfl⟩ := e
  have hw1 : ∀ k, W64 (l.getD k (0, 0)).1 ∧ W64 (l.getD k (0, 0)).2 := fun k => by
    by_cases h : k < l.length
    · exact (hc k h).2.2.2
    · rw [List.getD_eq_getElem?_getD, List.getElem?_eq_none (by omega)]; exact ⟨w_zero, w_zero⟩
  rw [← hml] at hA hc hm
  unfold maxLen at hm
  obtain ⟨W1, HW1⟩ := named (w.alloc (.cells #[.int .u64 0, .int .u64 0] 27))
  have hb1 : BelW w W1 := by rw [HW1.out]; exact below_new (Below.refl _ _) _
  have hfr : Fr W1 w.heap.size 27 [.int .u64 0, .int .u64 0] := by rw [HW1.out]; exact Fr.made _ _ _ rfl
  obtain ⟨r, HR⟩ := named w.heap.size
  rw [← HR.out] at hfr
  have hrl : w.heap.size ≤ r := by rw [HR.out]; exact Nat.le_refl _
  have HAA := Lib.hid hA
  have HCE : Hid (∀ W, BelW w W → ∀ k, k < n → W.cell? ⟨b, o + k * 2, none⟩ = some (.int .u64 ((l.getD k (0, 0)).1 : Int)) ∧ W.cell? ⟨b, o + k * 2 + 1, none⟩ = some (.int .u64 ((l.getD k (0, 0)).2 : Int))) := Lib.hid fun W h k hk =>
    ⟨(Below.cell h (p := ⟨b, o + k * 2, none⟩) (Nat.lt_of_lt_of_le (hc k hk).1 hB)).trans (hc k hk).2.1, (Below.cell h (p := ⟨b, o + k * 2 + 1, none⟩) (Nat.lt_of_lt_of_le (hc k hk).1 hB)).trans (hc k hk).2.2.1⟩
  have HWW := Lib.hid hw1
  have HRA := Lib.hid (And.intro hfr hb1)
  have h00 : xoA l 0 = 0 := rfl
  have h01 : xoK l 0 = 18446744073709551615 := rfl
  clear hs hA hc hf hb1 hfr hml hB hw1
  go_enter Tryz.func71, Tryz.ntmps71
  go_upto_region 1 with (fail)
  rw [← HW1.out, ← HR.out]
  go_wp2
  go_loopw [3, 4, 9] (fun ov kv i wr => ∃ k : Nat, k ≤ n ∧ i = .int .i64 k ∧ ov = .int .u64 (xoA l k : Int) ∧ kv = .int .u64 (xoK l k : Int) ∧ BelW w wr ∧ Fr wr r 27 [.int .u64 0, .int .u64 0]) (fun _ _ i _ => n - (intOf i).toNat)
  case atStart => exact ⟨0, Nat.zero_le _, rfl, by rw [h00]; rfl, by rw [h01]; rfl, HRA.out.2, HRA.out.1⟩
  case round =>
    obtain ⟨k, hk, rfl, rfl, rfl, hb, hfr⟩ := hrel
    have HB := Lib.hid hb
    have HFR := Lib.hid hfr
    by_cases hlt : k < n
    · obtain rfl := HAA.out (by omega)
      obtain ⟨f0, f1⟩ := HCE.out wr hb k hlt
      obtain ⟨hwa, hwb⟩ := HWW.out k
      have hpA := xoA_w (fun k => (HWW.out k).1) k
      have hpB := xoK_w l k
      have hrd := read_any _ _ hwa hwb
      have hca : W64 (anot (l.getD k (0, 0)).1 (l.getD k (0, 0)).2) := hwa.anot
      have hcb : W64 (anot (l.getD k (0, 0)).2 (l.getD k (0, 0)).1) := hwb.anot
      have e1 : bits .xor .u64 (xoA l k : Int) ((anot (l.getD k (0, 0)).1 (l.getD k (0, 0)).2 : Nat) : Int) = (xoA l (k + 1) : Int) := u64_xor_nat _ _ hpA hca
      have e2 : bits .or .u64 ((anot (l.getD k (0, 0)).1 (l.getD k (0, 0)).2 : Nat) : Int) ((anot (l.getD k (0, 0)).2 (l.getD k (0, 0)).1 : Nat) : Int) = ((anot (l.getD k (0, 0)).1 (l.getD k (0, 0)).2 ||| anot (l.getD k (0, 0)).2 (l.getD k (0, 0)).1 : Nat) : Int) := u64_or_nat _ _ hca hcb
      have e3 : bits .and .u64 (xoK l k : Int) ((anot (l.getD k (0, 0)).1 (l.getD k (0, 0)).2 ||| anot (l.getD k (0, 0)).2 (l.getD k (0, 0)).1 : Nat) : Int) = (xoK l (k + 1) : Int) := u64_and_nat _ _ hpB (hca.or hcb)
      obtain ⟨cc, HCC⟩ := named (anot (l.getD k (0, 0)).1 (l.getD k (0, 0)).2 ||| anot (l.getD k (0, 0)).2 (l.getD k (0, 0)).1)
      rw [← HCC.out] at e2 e3
      obtain ⟨ca, HCA⟩ := named (anot (l.getD k (0, 0)).1 (l.getD k (0, 0)).2)
      obtain ⟨cb, HCB⟩ := named (anot (l.getD k (0, 0)).2 (l.getD k (0, 0)).1)
      obtain ⟨xa, HXA⟩ := named (l.getD k (0, 0)).1
      obtain ⟨xb, HXB⟩ := named (l.getD k (0, 0)).2
      obtain ⟨pa, HPA⟩ := named (xoA l k)
      obtain ⟨pb, HPB⟩ := named (xoK l k)
      obtain ⟨na, HNA⟩ := named (xoA l (k + 1))
      obtain ⟨nb, HNB⟩ := named (xoK l (k + 1))
      rw [← HCA.out] at e1 e2 hrd
      rw [← HCB.out] at e2 hrd
      rw [← HXA.out] at f0 hrd
      rw [← HXB.out] at f1 hrd
      rw [← HPA.out] at e1
      rw [← HPB.out] at e3
      rw [← HNA.out] at e1
      rw [← HNB.out] at e3
      try rw [← HPA.out]
      try rw [← HPB.out]
      unfold wv at hrd
      have HRD := Lib.hid hrd
      clear hb hfr hrd hpA hpB hca hcb hwa hwb
      go_upto_region 6 with (fail)
      obtain ⟨V3, HV3⟩ := named (wr.alloc (.cells #[.int .u64 (xa : Int), .int .u64 (xb : Int)] 27))
      have hn3 : BelW wr V3 := by rw [HV3.out]; exact below_new (Below.refl _ _) _
      have hfx : Fr V3 wr.heap.size 27 [.int .u64 (xa : Int), .int .u64 (xb : Int)] := by rw [HV3.out]; exact Fr.made _ _ _ rfl
      obtain ⟨x, HX⟩ := named wr.heap.size
      rw [← HX.out] at hfx
      rw [← HV3.out, ← HX.out]
      have x0 := hfx.cell 0
      have x1 := hfx.cell 1
      have HFX := Lib.hid hfx
      have HN3 := Lib.hid hn3
      clear f0 f1 hn3 hfx
      go_upto_region 7 with (go_at_call 68; (with_reducible refine (HRD.out _).mono ?_); rintro e w4 ⟨rfl, hb4⟩; have HB4 : Hid (BelW V3 w4) := Lib.hid hb4; clear hb4; have y0 := (HFX.out.below HB4.out).cell 0; have y1 := (HFX.out.below HB4.out).cell 1; have y2 := (HFX.out.below HB4.out).frozen 0; have y3 := (HFX.out.below HB4.out).frozen 1)
      obtain ⟨V5, HV5⟩ := named ((w4.setCell ⟨x, 0, none⟩ (.int .u64 (ca : Int))).setCell ⟨x, 1, none⟩ (.int .u64 (cb : Int)))
      have hxl : wr.heap.size ≤ x := by rw [HX.out]; exact Nat.le_refl _
      have hb5 : BelW wr V5 := by rw [HV5.out]; exact BelW.set (BelW.set (joinB HN3.out HB4.out) hxl _) hxl _
      have hfx5 : Fr V5 x 27 [.int .u64 (ca : Int), .int .u64 (cb : Int)] := by rw [HV5.out]; exact ((HFX.out.below HB4.out).set 0 _).set 1 _
      have hfr5 := HFR.out.below hb5
      rw [← HV5.out]
      have x0 := hfx5.cell 0
      have x1 := hfx5.cell 1
      have HBV : Hid (BelW w V5) := Lib.hid (joinB HB.out hb5)
      have HR2 := Lib.hid hfr5
      clear y0 y1 y2 y3 hb5 hfx5 hfr5
      go_wp2
      go_roundw
      case rel => exact ⟨k + 1, by omega, by go_num, by rw [← HNA.out], by rw [← HNB.out], HBV.out, HR2.out⟩
      case measure => simp [intOf]; omega
    · obtain rfl : n = k := by omega
      have z0 := hfr.cell 0
      have z1 := hfr.cell 1
      have z2 := hfr.frozen 0
      have z3 := hfr.frozen 1
      have hpA := xoA_w (fun k => (HWW.out k).1) n
      have hpB := xoK_w l n
      have e1 : bits .and .u64 (xoK l n : Int) (xoA l n : Int) = ((xoK l n &&& xoA l n : Nat) : Int) := u64_and_nat _ _ hpB hpA
      have e2 : bits .andNot .u64 (xoK l n : Int) (xoA l n : Int) = ((anot (xoK l n) (xoA l n) : Nat) : Int) := u64_andNot_nat _ _ hpB hpA
      clear hb hfr
      go_wp2
      (try simp only [Exit.inBlock, Exit.then])
      refine bodyPost_ret (results_cell_row rfl _ _ _ _ _ _ _ rfl ((HFR.out.set 0 _).set 1 _) Tryz.underlying27 rfl (by kernel_rfl)) rfl ?_
      exact ⟨rfl, BelW.set (BelW.set HB.out hrl _) hrl _⟩
end Go.Proofs.YtemogllidmgbfaaGreatDoor

namespace Go.Proofs.YtemogllidmgbfaaGreatDoor
open Go.RowKit

/-- What mux chooses of two numbers: o, z the selector's. -/
def muN (o z a b : Nat) : Nat := (z &&& a ||| o &&& b) ||| a &&& b
theorem muN_w {o z a b : Nat} (hz : W64 z) (ho : W64 o) (ha : W64 a) : W64 (muN o z a b) := (hz.and.or ho.and).or ha.and
set_option maxHeartbeats 2000000 in
theorem mux1_any (o z a b q : Nat) (ho : W64 o) (hz : W64 z) (ha : W64 a) (hb : W64 b) (w : World) (h0 : w.cell? ⟨q, 0, none⟩ = some (.int .u64 (o : Int))) (h1 : w.cell? ⟨q, 1, none⟩ = some (.int .u64 (z : Int))) :
    Calls Tryz.prog 97 #[.int .u64 (a : Int), .int .u64 (b : Int), .pointer (some ⟨q, 0, none⟩)] w fun e w' => e = .returned (.int .u64 (muN o z a b : Int)) ∧ w = w' := by
  have e1 : bits .and .u64 (z : Int) (a : Int) = ((z &&& a : Nat) : Int) := u64_and_nat z a hz ha
  have e2 : bits .and .u64 (o : Int) (b : Int) = ((o &&& b : Nat) : Int) := u64_and_nat o b ho hb
  have e3 : bits .or .u64 ((z &&& a : Nat) : Int) ((o &&& b : Nat) : Int) = ((z &&& a ||| o &&& b : Nat) : Int) := u64_or_nat _ _ hz.and ho.and
  have e4 : bits .and .u64 (a : Int) (b : Int) = ((a &&& b : Nat) : Int) := u64_and_nat a b ha hb
  have e5 : bits .or .u64 ((z &&& a ||| o &&& b : Nat) : Int) ((a &&& b : Nat) : Int) = (muN o z a b : Int) := u64_or_nat _ _ (hz.and.or ho.and) ha.and
  obtain ⟨y, HY⟩ := named (muN o z a b)
  rw [← HY.out] at e5
  rw [← HY.out]
  obtain ⟨c, HC⟩ := named (z &&& a ||| o &&& b)
  rw [← HC.out] at e3 e5
  obtain ⟨d, HD⟩ := named (z &&& a)
  rw [← HD.out] at e1 e3
  obtain ⟨f, HF⟩ := named (o &&& b)
  rw [← HF.out] at e2 e3
  obtain ⟨g, HG⟩ := named (a &&& b)
  rw [← HG.out] at e4 e5
  go_enter Tryz.func97, Tryz.ntmps97
  go_wp2
  go_ret
  exact ⟨rfl, rfl⟩
set_option maxRecDepth 100000 in
set_option maxHeartbeats 4000000 in
theorem wmux_any (o z a b c d : Nat) (ho : W64 o) (hz : W64 z) (ha : W64 a) (hb : W64 b) (hc : W64 c) (hd : W64 d) (w : World) :
    Calls Tryz.prog 72 #[wv o z, wv a b, wv c d] w fun e w' => e = .returned (wv (muN o z a c) (muN o z b d)) ∧ BelW w w' := by
  obtain ⟨W1, HW1⟩ := named ((((w.alloc (.cells #[.int .u64 (o : Int), .int .u64 (z : Int)] 27)).alloc (.cells #[.int .u64 (a : Int), .int .u64 (b : Int)] 27)).alloc (.cells #[.int .u64 (c : Int), .int .u64 (d : Int)] 27)).alloc (.cells #[.int .u64 0, .int .u64 0] 27))
  have hb1 : BelW w W1 := by rw [HW1.out]; exact below_new (below_new (below_new (below_new (Below.refl _ _) _) _) _) _
  have hf0 : Fr W1 w.heap.size 27 [.int .u64 (o : Int), .int .u64 (z : Int)] := by rw [HW1.out]; exact Fr.alloc (Fr.alloc (Fr.alloc (Fr.made _ _ _ rfl) _) _) _
  have hf1 : Fr W1 (w.heap.size + 1) 27 [.int .u64 (a : Int), .int .u64 (b : Int)] := by rw [HW1.out]; exact Fr.alloc (Fr.alloc (Fr.made _ _ _ (by simp)) _) _
  have hf2 : Fr W1 (w.heap.size + 1 + 1) 27 [.int .u64 (c : Int), .int .u64 (d : Int)] := by rw [HW1.out]; exact Fr.alloc (Fr.made _ _ _ (by simp)) _
  have hfr : Fr W1 (w.heap.size + 1 + 1 + 1) 27 [.int .u64 0, .int .u64 0] := by rw [HW1.out]; exact Fr.made _ _ _ (by simp)
  obtain ⟨q, HQ⟩ := named w.heap.size
  obtain ⟨p, HP⟩ := named (q + 1)
  obtain ⟨s, HS⟩ := named (p + 1)
  obtain ⟨r, HR⟩ := named (s + 1)
  rw [← HQ.out] at hf0 hf1 hf2 hfr
  rw [← HP.out] at hf1 hf2 hfr
  rw [← HS.out] at hf2 hfr
  rw [← HR.out] at hfr
  have x0 := hf1.cell 0
  have x1 := hf1.cell 1
  have y0 := hf2.cell 0
  have y1 := hf2.cell 1
  have z0 := hfr.cell 0
  have z1 := hfr.cell 1
  have z2 := hfr.frozen 0
  have z3 := hfr.frozen 1
  have HM1 : Hid (Calls Tryz.prog 97 #[.int .u64 (a : Int), .int .u64 (c : Int), .pointer (some ⟨q, 0, none⟩)] W1.drew fun e w' => e = .returned (.int .u64 (muN o z a c : Int)) ∧ W1.drew = w') := Lib.hid (mux1_any o z a c q ho hz ha hc W1.drew (hf0.cell 0) (hf0.cell 1))
  have HM2 : Hid (Calls Tryz.prog 97 #[.int .u64 (b : Int), .int .u64 (d : Int), .pointer (some ⟨q, 0, none⟩)] W1.drew fun e w' => e = .returned (.int .u64 (muN o z b d : Int)) ∧ W1.drew = w') := Lib.hid (mux1_any o z b d q ho hz hb hd W1.drew (hf0.cell 0) (hf0.cell 1))
  obtain ⟨u, HU⟩ := named (muN o z a c)
  obtain ⟨v, HV⟩ := named (muN o z b d)
  rw [← HU.out] at HM1
  rw [← HV.out] at HM2
  rw [← HU.out, ← HV.out]
  have HFR := Lib.hid hfr
  have HB1 := Lib.hid hb1
  have hrl : w.heap.size ≤ r := by rw [HR.out, HS.out, HP.out, HQ.out]; omega
  clear hfr hb1 hf0 hf1 hf2
  unfold wv
  go_enter Tryz.func72, Tryz.ntmps72
  go_upto_region 1 with (fail)
  rw [← HW1.out, ← HQ.out]
  try rw [← HP.out]
  try rw [← HS.out]
  try rw [← HR.out]
  go_upto_region 2 with (fail)
  go_still_tail 13, (by kernel_rfl)
  still_call (HM1.out.mono fun _ _ h => ⟨h.1, h.2.symm⟩)
  repeat still_step
  still_call (HM2.out.mono fun _ _ h => ⟨h.1, h.2.symm⟩)
  repeat still_step
  refine wpStill_nil ?_
  go_wp2
  (try simp only [Exit.inBlock, Exit.then])
  refine bodyPost_ret (results_cell_row rfl _ _ _ _ _ _ _ rfl ((HFR.out.drew.set 0 _).set 1 _) Tryz.underlying27 rfl (by kernel_rfl)) rfl ?_
  exact ⟨rfl, BelW.set (BelW.set (BelW.drew HB1.out) hrl _) hrl _⟩
end Go.Proofs.YtemogllidmgbfaaGreatDoor
