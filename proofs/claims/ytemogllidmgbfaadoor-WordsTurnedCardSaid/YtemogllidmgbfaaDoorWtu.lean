/- Words: the law's turned. -/
import Derived.Test.YtemogllidmgbfaaDoorM26
import Derived.Test.YtemogllidmgbfaaDoorM21
namespace Go.Proofs.YtemogllidmgbfaaDoor
open Go.RowKit

theorem rot_bits (a s : Nat) (ha : W64 a) : bits .or .u64 (IntKind.u64.wrap ((a : Int) * 2 ^ s)) ((a : Int) / 2 ^ (64 - s)) = ((rotN a s : Nat) : Int) := by
  have h1 : (2 : Int) ^ s = ((2 ^ s : Nat) : Int) := by rw [Int.natCast_pow]; rfl
  have h2 : (2 : Int) ^ (64 - s) = ((2 ^ (64 - s) : Nat) : Int) := by rw [Int.natCast_pow]; rfl
  have e1 : IntKind.u64.wrap ((a : Int) * 2 ^ s) = (((a * 2 ^ s) % 18446744073709551616 : Nat) : Int) := by
    rw [h1, IntKind.wrap_u64, ← Int.natCast_mul]
    omega
  have e2 : (a : Int) / 2 ^ (64 - s) = ((a / 2 ^ (64 - s) : Nat) : Int) := by rw [h2, Int.natCast_ediv]
  rw [e1, e2]
  exact u64_or_nat _ _ (Nat.mod_lt _ (by decide)) (Nat.lt_of_le_of_lt (Nat.div_le_self _ _) ha)
set_option maxHeartbeats 2000000 in
theorem turned_any (a b y : Nat) (ha : W64 a) (hb : W64 b) (hy : y < 256) (w : World) : Calls Tryd.prog 13 #[wv a b, .int .u64 (y : Int)] w fun e w' => e = .returned (wv (rotN a (y % 64)) (rotN b (y % 64))) ∧ BelW w w' := by
  obtain ⟨W1, HW1⟩ := named ((w.alloc (.cells #[.int .u64 (a : Int), .int .u64 (b : Int)] 25)).alloc (.cells #[.int .u64 0, .int .u64 0] 25))
  obtain ⟨hb1, hfp, hfr⟩ := two_boxes w a b HW1.out
  obtain ⟨q, HQ⟩ := named w.heap.size
  obtain ⟨r, HR⟩ := named (q + 1)
  rw [← HQ.out] at hfp hfr
  rw [← HR.out] at hfr
  have x0 := hfp.cell 0
  have x1 := hfp.cell 1
  have z0 := hfr.cell 0
  have z1 := hfr.cell 1
  have z2 := hfr.frozen 0
  have z3 := hfr.frozen 1
  have HFR := Lib.hid hfr
  have HB1 := Lib.hid hb1
  have hrl : w.heap.size ≤ r := by rw [HR.out, HQ.out]; omega
  clear hfr hb1 hfp
  unfold wv
  have hm : ((y : Int)).tmod 64 = ((y % 64 : Nat) : Int) := by rw [Int.tmod_eq_emod_of_nonneg (by omega)]; omega
  obtain ⟨s, HS⟩ := named (y % 64)
  have hs : s < 64 := by rw [HS.out]; omega
  rw [← HS.out] at hm
  rw [← HS.out]
  go_enter Tryd.func13, Tryd.ntmps13
  go_upto_region 1 with (fail)
  rw [← HW1.out, ← HQ.out, ← HR.out]
  go_wp2
  rw [rot_bits a s ha, rot_bits b s hb]
  (try simp only [Exit.inBlock, Exit.then])
  refine bodyPost_ret (results_cell_row rfl _ _ _ _ _ _ _ rfl ((HFR.out.set 0 _).set 1 _) Tryd.underlying25 rfl (by kernel_rfl)) rfl ?_
  exact ⟨rfl, Below.setCell (Below.setCell HB1.out hrl _) hrl _⟩
end Go.Proofs.YtemogllidmgbfaaDoor
