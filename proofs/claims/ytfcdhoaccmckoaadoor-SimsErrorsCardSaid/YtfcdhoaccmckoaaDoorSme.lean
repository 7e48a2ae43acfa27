/- sims.Run with an error. -/
import Derived.Test.YtfcdhoaccmckoaaDoorSmd
import Derived.Test.YtfcdhoaccmckoaaDoorSmb
import Derived.Test.YtfcdhoaccmckoaaDoorSrs
namespace Go.Proofs.YtfcdhoaccmckoaaDoor
open Go.RowKit

set_option maxRecDepth 100000 in
set_option maxHeartbeats 4000000 in
theorem run_bad (c : Ck) (z : Int) (hz : z ≠ 0) (A0 A1 A2 A3 Ai As : Option Addr) (n0 n1 n2 n3 ni ns c0 c1 c2 c3 ci cs : Nat) (w : World)
    (h : (∀ W, BelW w W → Calls Tryd.prog 31 #[.agg #[.slice A0 n0 c0, .slice A1 n1 c1, .slice A2 n2 c2, .slice A3 n3 c3]] W fun e w' => (∃ s, e = .returned (.tuple #[s, .int .i64 z])) ∧ BelW W w') ∨
      ((∀ W, BelW w W → Calls Tryd.prog 31 #[.agg #[.slice A0 n0 c0, .slice A1 n1 c1, .slice A2 n2 c2, .slice A3 n3 c3]] W fun e w' => (∃ s, e = .returned (.tuple #[s, .int .i64 0])) ∧ BelW W w') ∧
       ∀ W, BelW w W → Calls Tryd.prog 37 #[.agg #[.slice A0 n0 c0, .slice A1 n1 c1, .slice A2 n2 c2, .slice A3 n3 c3], .agg #[.slice Ai ni ci, .slice As ns cs]] W fun e w' => e = .returned (.int .i64 z) ∧ BelW W w')) :
    Calls Tryd.prog 12 #[.agg #[.slice A0 n0 c0, .slice A1 n1 c1, .slice A2 n2 c2, .slice A3 n3 c3], .agg #[.slice Ai ni ci, .slice As ns cs]] w
      fun e w' => e = .returned (.tuple #[.agg #[.slice none 0 0, .slice none 0 0], .slice none 0 0, .int .i64 z]) ∧ Below w.heap.size w w' := by
  obtain ⟨W1, HW1⟩ := named (((w.alloc (.cells #[.slice A0 n0 c0, .slice A1 n1 c1, .slice A2 n2 c2, .slice A3 n3 c3] 27)).alloc (.cells #[.slice Ai ni ci, .slice As ns cs] 30)).alloc (.cells #[.slice none 0 0, .slice none 0 0] 36))
  have hb1 : Below w.heap.size w W1 := by rw [HW1.out]; exact below_new (below_new (below_new (Below.refl _ _) _) _) _
  have hfc : Fr W1 w.heap.size 27 [.slice A0 n0 c0, .slice A1 n1 c1, .slice A2 n2 c2, .slice A3 n3 c3] := by rw [HW1.out]; exact Fr.alloc (Fr.alloc (Fr.made _ _ _ rfl) _) _
  have hfp : Fr W1 (w.heap.size + 1) 30 [.slice Ai ni ci, .slice As ns cs] := by rw [HW1.out]; exact Fr.alloc (Fr.made _ _ _ (by simp)) _
  have hfr : Fr W1 (w.heap.size + 1 + 1) 36 [.slice none 0 0, .slice none 0 0] := by rw [HW1.out]; exact Fr.made _ _ _ (by simp)
  have hz1 : W1.heap.size = w.heap.size + 1 + 1 + 1 := by rw [HW1.out]; simp
  have HCE : Hid (∀ W, BelW W1 W → W.cell? ⟨w.heap.size, 0, none⟩ = some (.slice A0 n0 c0) ∧ W.cell? ⟨w.heap.size, 1, none⟩ = some (.slice A1 n1 c1) ∧ W.cell? ⟨w.heap.size, 2, none⟩ = some (.slice A2 n2 c2) ∧ W.cell? ⟨w.heap.size, 3, none⟩ = some (.slice A3 n3 c3) ∧ W.cell? ⟨w.heap.size + 1, 0, none⟩ = some (.slice Ai ni ci) ∧ W.cell? ⟨w.heap.size + 1, 1, none⟩ = some (.slice As ns cs) ∧ W.cell? ⟨w.heap.size + 1 + 1, 0, none⟩ = some (.slice none 0 0) ∧ W.cell? ⟨w.heap.size + 1 + 1, 1, none⟩ = some (.slice none 0 0) ∧ W.frozen? ⟨w.heap.size + 1 + 1, 0, none⟩ = false ∧ W.frozen? ⟨w.heap.size + 1 + 1, 1, none⟩ = false) :=
    Lib.hid fun W h => ⟨(hfc.below h).cell 0, (hfc.below h).cell 1, (hfc.below h).cell 2, (hfc.below h).cell 3, (hfp.below h).cell 0, (hfp.below h).cell 1, (hfr.below h).cell 0, (hfr.below h).cell 1, (hfr.below h).frozen 0, (hfr.below h).frozen 1⟩
  have HFR : Hid (∀ W, BelW W1 W → Fr W (w.heap.size + 1 + 1) 36 [.slice none 0 0, .slice none 0 0]) := Lib.hid fun W h => hfr.below h
  have HB1 := Lib.hid hb1
  have HZ1 := Lib.hid hz1
  have hzz : (z != 0) = true := by simpa using hz
  have hzf : (z == 0) = false := by simpa using hz
  have hend : ∀ W, BelW W1 W → Below w.heap.size w ((W.setCell ⟨w.heap.size + 1 + 1, 0, none⟩ (.slice none 0 0)).setCell ⟨w.heap.size + 1 + 1, 1, none⟩ (.slice none 0 0)) := fun W hb =>
    ((joinB hb1 hb).setCell (by show w.heap.size ≤ w.heap.size + 1 + 1; omega) _).setCell (by show w.heap.size ≤ w.heap.size + 1 + 1; omega) _
  have HEND := Lib.hid hend
  obtain ⟨x0, x1, x2, x3, y0, y1, r0, r1, f0, f1⟩ := HCE.out W1 (Below.refl _ _)
  rcases h with h | ⟨h, h'⟩
  · have HOR := Lib.hid (h W1 hb1)
    clear h hfc hfp hfr hb1 hz1 hz hend
    go_enter Tryd.func12, Tryd.ntmps12
    go_upto_region 1 with (fail)
    rw [← HW1.out]
    go_wp2_with (go_at_call 31; (with_reducible refine HOR.out.mono ?_); rintro e w2 ⟨⟨s, rfl⟩, hb⟩; have HB2 := Lib.hid hb; clear x0 x1 x2 x3 y0 y1 r0 r1 f0 f1; obtain ⟨x0, x1, x2, x3, y0, y1, r0, r1, f0, f1⟩ := HCE.out _ hb; clear hb)
    have hq := ((HFR.out _ HB2.out).set 0 (.slice none 0 0)).set 1 (.slice none 0 0)
    (try simp only [Exit.inBlock, Exit.then])
    refine bodyPost_ret (results_row_tmp2 rfl _ _ _ _ _ _ _ rfl hq Tryd.underlying36 rfl (by kernel_rfl)) rfl ?_
    exact ⟨rfl, HEND.out _ HB2.out⟩
  · have HOR := Lib.hid (h W1 hb1)
    have HCP : Hid (∀ W, BelW W1 W → Calls Tryd.prog 37 #[.agg #[.slice A0 n0 c0, .slice A1 n1 c1, .slice A2 n2 c2, .slice A3 n3 c3], .agg #[.slice Ai ni ci, .slice As ns cs]] W fun e w' => e = .returned (.int .i64 z) ∧ BelW W w') := Lib.hid fun W hb => h' W (joinB hb1 hb)
    clear h h' hfc hfp hfr hb1 hz1 hz hend
    go_enter Tryd.func12, Tryd.ntmps12
    go_upto_region 1 with (fail)
    rw [← HW1.out]
    go_wp2_with (first
      | (go_at_call 31; (with_reducible refine HOR.out.mono ?_); rintro e w2 ⟨⟨s, rfl⟩, hb⟩; have HB2 := Lib.hid hb; clear x0 x1 x2 x3 y0 y1 r0 r1 f0 f1; obtain ⟨x0, x1, x2, x3, y0, y1, r0, r1, f0, f1⟩ := HCE.out _ hb; clear hb)
      | (go_at_call 37; (with_reducible refine (HCP.out _ HB2.out).mono ?_); rintro e w3 ⟨rfl, hb⟩; have HB3 := Lib.hid (joinB HB2.out hb); clear x0 x1 x2 x3 y0 y1 r0 r1 f0 f1 hb; obtain ⟨x0, x1, x2, x3, y0, y1, r0, r1, f0, f1⟩ := HCE.out _ HB3.out))
    have hq := ((HFR.out _ HB3.out).set 0 (.slice none 0 0)).set 1 (.slice none 0 0)
    (try simp only [Exit.inBlock, Exit.then])
    refine bodyPost_ret (results_row_tmp2 rfl _ _ _ _ _ _ _ rfl hq Tryd.underlying36 rfl (by kernel_rfl)) rfl ?_
    exact ⟨rfl, HEND.out _ HB3.out⟩
end Go.Proofs.YtfcdhoaccmckoaaDoor

