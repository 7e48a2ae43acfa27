/- The texts Wmu. -/
import Derived.Test.YtemogllidmgbfaaDoorM23
import Derived.Laws.EntriesVeiled
import Derived.StillTailTactics
namespace Go.Proofs.YtemogllidmgbfaaDoor
open Go.RowKit

/-- What mux chooses of two numbers: o, z the selector's. -/
def muN (o z a b : Nat) : Nat := (z &&& a ||| o &&& b) ||| a &&& b
theorem muN_w {o z a b : Nat} (hz : W64 z) (ho : W64 o) (ha : W64 a) : W64 (muN o z a b) := (hz.and.or ho.and).or ha.and
set_option maxHeartbeats 2000000 in
theorem mux1_any (o z a b q : Nat) (ho : W64 o) (hz : W64 z) (ha : W64 a) (hb : W64 b) (w : World) (h0 : w.cell? ⟨q, 0, none⟩ = some (.int .u64 (o : Int))) (h1 : w.cell? ⟨q, 1, none⟩ = some (.int .u64 (z : Int))) :
    Calls Tryd.prog 48 #[.int .u64 (a : Int), .int .u64 (b : Int), .pointer (some ⟨q, 0, none⟩)] w fun e w' => e = .returned (.int .u64 (muN o z a b : Int)) ∧ w = w' := by
  have e1 : bits .and .u64 (z : Int) (a : Int) = ((z &&& a : Nat) : Int) := u64_and_nat z a hz ha
  have e2 : bits .and .u64 (o : Int) (b : Int) = ((o &&& b : Nat) : Int) := u64_and_nat o b ho hb
  have e3 : bits .or .u64 ((z &&& a : Nat) : Int) ((o &&& b : Nat) : Int) = ((z &&& a ||| o &&& b : Nat) : Int) := u64_or_nat _ _ hz.and ho.and
  have e4 : bits .and .u64 (a : Int) (b : Int) = ((a &&& b : Nat) : Int) := u64_and_nat a b ha hb
  have e5 : bits .or .u64 ((z &&& a ||| o &&& b : Nat) : Int) ((a &&& b : Nat) : Int) = (muN o z a b : Int) := u64_or_nat _ _ (hz.and.or ho.and) ha.and
  obtain ⟨y, HY⟩ := named (muN o z a b)
  rw [← HY.out] at e5
  rw [← HY.out]
  obtain ⟨c, HC⟩ := named (z &&& a ||| o &&& b)
  rw [← HC.out] at e3 e5
  obtain ⟨d, HD⟩ := named (z &&& a)
  rw [← HD.out] at e1 e3
  obtain ⟨f, HF⟩ := named (o &&& b)
  rw [← HF.out] at e2 e3
  obtain ⟨g, HG⟩ := named (a &&& b)
  rw [← HG.out] at e4 e5
  go_enter Tryd.func48, Tryd.ntmps48
  go_wp2
  go_ret
  exact ⟨rfl, rfl⟩
set_option maxRecDepth 100000 in
set_option maxHeartbeats 4000000 in
theorem wmux_any (o z a b c d : Nat) (ho : W64 o) (hz : W64 z) (ha : W64 a) (hb : W64 b) (hc : W64 c) (hd : W64 d) (w : World) :
    Calls Tryd.prog 30 #[wv o z, wv a b, wv c d] w fun e w' => e = .returned (wv (muN o z a c) (muN o z b d)) ∧ BelW w w' := by
  obtain ⟨W1, HW1⟩ := named ((((w.alloc (.cells #[.int .u64 (o : Int), .int .u64 (z : Int)] 25)).alloc (.cells #[.int .u64 (a : Int), .int .u64 (b : Int)] 25)).alloc (.cells #[.int .u64 (c : Int), .int .u64 (d : Int)] 25)).alloc (.cells #[.int .u64 0, .int .u64 0] 25))
  have hb1 : BelW w W1 := by rw [HW1.out]; exact below_new (below_new (below_new (below_new (Below.refl _ _) _) _) _) _
  have hf0 : Fr W1 w.heap.size 25 [.int .u64 (o : Int), .int .u64 (z : Int)] := by rw [HW1.out]; exact Fr.alloc (Fr.alloc (Fr.alloc (Fr.made _ _ _ rfl) _) _) _
  have hf1 : Fr W1 (w.heap.size + 1) 25 [.int .u64 (a : Int), .int .u64 (b : Int)] := by rw [HW1.out]; exact Fr.alloc (Fr.alloc (Fr.made _ _ _ (by simp)) _) _
  have hf2 : Fr W1 (w.heap.size + 1 + 1) 25 [.int .u64 (c : Int), .int .u64 (d : Int)] := by rw [HW1.out]; exact Fr.alloc (Fr.made _ _ _ (by simp)) _
  have hfr : Fr W1 (w.heap.size + 1 + 1 + 1) 25 [.int .u64 0, .int .u64 0] := by rw [HW1.out]; exact Fr.made _ _ _ (by simp)
  obtain ⟨q, HQ⟩ := named w.heap.size
  obtain ⟨p, HP⟩ := named (q + 1)
  obtain ⟨s, HS⟩ := named (p + 1)
  obtain ⟨r, HR⟩ := named (s + 1)
  rw [← HQ.out] at hf0 hf1 hf2 hfr
  rw [← HP.out] at hf1 hf2 hfr
  rw [← HS.out] at hf2 hfr
  rw [← HR.out] at hfr
  have x0 := hf1.cell 0
  have x1 := hf1.cell 1
  have y0 := hf2.cell 0
  have y1 := hf2.cell 1
  have z0 := hfr.cell 0
  have z1 := hfr.cell 1
  have z2 := hfr.frozen 0
  have z3 := hfr.frozen 1
  have HM1 : Hid (Calls Tryd.prog 48 #[.int .u64 (a : Int), .int .u64 (c : Int), .pointer (some ⟨q, 0, none⟩)] W1.drew fun e w' => e = .returned (.int .u64 (muN o z a c : Int)) ∧ W1.drew = w') := Lib.hid (mux1_any o z a c q ho hz ha hc W1.drew (hf0.cell 0) (hf0.cell 1))
  have HM2 : Hid (Calls Tryd.prog 48 #[.int .u64 (b : Int), .int .u64 (d : Int), .pointer (some ⟨q, 0, none⟩)] W1.drew fun e w' => e = .returned (.int .u64 (muN o z b d : Int)) ∧ W1.drew = w') := Lib.hid (mux1_any o z b d q ho hz hb hd W1.drew (hf0.cell 0) (hf0.cell 1))
  obtain ⟨u, HU⟩ := named (muN o z a c)
  obtain ⟨v, HV⟩ := named (muN o z b d)
  rw [← HU.out] at HM1
  rw [← HV.out] at HM2
  rw [← HU.out, ← HV.out]
  have HFR := Lib.hid hfr
  have HB1 := Lib.hid hb1
  have hrl : w.heap.size ≤ r := by rw [HR.out, HS.out, HP.out, HQ.out]; omega
  clear hfr hb1 hf0 hf1 hf2
  unfold wv
  go_enter Tryd.func30, Tryd.ntmps30
  go_upto_region 1 with (fail)
  rw [← HW1.out, ← HQ.out]
  try rw [← HP.out]
  try rw [← HS.out]
  try rw [← HR.out]
  go_upto_region 2 with (fail)
  go_still_tail 13, (by kernel_rfl)
  still_call (HM1.out.mono fun _ _ h => ⟨h.1, h.2.symm⟩)
  repeat still_step
  still_call (HM2.out.mono fun _ _ h => ⟨h.1, h.2.symm⟩)
  repeat still_step
  refine wpStill_nil ?_
  go_wp2
  (try simp only [Exit.inBlock, Exit.then])
  refine bodyPost_ret (results_cell_row rfl _ _ _ _ _ _ _ rfl ((HFR.out.drew.set 0 _).set 1 _) Tryd.underlying25 rfl (by kernel_rfl)) rfl ?_
  exact ⟨rfl, BelW.set (BelW.set (BelW.drew HB1.out) hrl _) hrl _⟩
end Go.Proofs.YtemogllidmgbfaaDoor
