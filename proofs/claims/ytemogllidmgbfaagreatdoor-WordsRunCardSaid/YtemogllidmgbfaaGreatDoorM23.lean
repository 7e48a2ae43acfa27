/- The texts Wd2 Wev Wwo. -/
import Derived.Test.YtemogllidmgbfaaGreatDoorM22
import Derived.Test.YtemogllidmgbfaaGreatDoorM12
import Derived.Test.YtemogllidmgbfaaGreatDoorM16
namespace Go.Proofs.YtemogllidmgbfaaGreatDoor
open Go.RowKit

set_option maxRecDepth 100000 in
set_option maxHeartbeats 4000000 in
theorem dir_11 (l : List (Nat × Nat)) (A : Option Addr) (n cl : Nat) (w : World) (B : Nat) (hB : B ≤ w.heap.size) (hf : Ft w) (hs : Wd w B (.slice A n cl) l) (h1 : 3 ≤ n) :
    Calls Tryz.prog 27 #[.int .u8 11, .slice A n cl] w fun e w' => e = .returned (wv (dirW 11 l n).1 (dirW 11 l n).2) ∧ BelW w w' := by
  obtain ⟨W1, HW1⟩ := named (w.alloc (.cells #[.int .u64 0, .int .u64 0] 27))
  have hb1 : BelW w W1 := by rw [HW1.out]; exact below_new (Below.refl _ _) _
  have hfr : Fr W1 w.heap.size 27 [.int .u64 0, .int .u64 0] := by rw [HW1.out]; exact Fr.made _ _ _ rfl
  obtain ⟨r, HR⟩ := named w.heap.size
  rw [← HR.out] at hfr
  have hrl : w.heap.size ≤ r := by rw [HR.out]; exact Nat.le_refl _
  obtain ⟨A', b, o, c', e, hA, hle, hm, hc⟩ := id hs
  simp only [Value.slice.injEq] at e
  obtain ⟨rfl, hml, rfl⟩ := e
  obtain rfl := hA (by omega)
  have hw0 := hc 0 (by omega)
  have f0a : W1.cell? ⟨b, o, none⟩ = some (.int .u64 ((l.getD 0 (0, 0)).1 : Int)) := (Below.cell hb1 (p := ⟨b, o, none⟩) (Nat.lt_of_lt_of_le hw0.1 hB)).trans hw0.2.1
  have f0b : W1.cell? ⟨b, o + 1, none⟩ = some (.int .u64 ((l.getD 0 (0, 0)).2 : Int)) := (Below.cell hb1 (p := ⟨b, o + 1, none⟩) (Nat.lt_of_lt_of_le hw0.1 hB)).trans hw0.2.2.1
  have u0a := hw0.2.2.2.1
  have u0b := hw0.2.2.2.2
  have hw1 := hc 1 (by omega)
  have f1a : W1.cell? ⟨b, o + 2, none⟩ = some (.int .u64 ((l.getD 1 (0, 0)).1 : Int)) := (Below.cell hb1 (p := ⟨b, o + 2, none⟩) (Nat.lt_of_lt_of_le hw1.1 hB)).trans hw1.2.1
  have f1b : W1.cell? ⟨b, o + 2 + 1, none⟩ = some (.int .u64 ((l.getD 1 (0, 0)).2 : Int)) := (Below.cell hb1 (p := ⟨b, o + 2 + 1, none⟩) (Nat.lt_of_lt_of_le hw1.1 hB)).trans hw1.2.2.1
  have u1a := hw1.2.2.2.1
  have u1b := hw1.2.2.2.2
  have hw2 := hc 2 (by omega)
  have f2a : W1.cell? ⟨b, o + 4, none⟩ = some (.int .u64 ((l.getD 2 (0, 0)).1 : Int)) := (Below.cell hb1 (p := ⟨b, o + 4, none⟩) (Nat.lt_of_lt_of_le hw2.1 hB)).trans hw2.2.1
  have f2b : W1.cell? ⟨b, o + 4 + 1, none⟩ = some (.int .u64 ((l.getD 2 (0, 0)).2 : Int)) := (Below.cell hb1 (p := ⟨b, o + 4 + 1, none⟩) (Nat.lt_of_lt_of_le hw2.1 hB)).trans hw2.2.2.1
  have u2a := hw2.2.2.2.1
  have u2b := hw2.2.2.2.2
  have hbr : b ≠ r := by have := hw0.1; omega
  have hv : dirW 11 l n = (muN (rdW (l.getD 0 (0, 0))).1 (rdW (l.getD 0 (0, 0))).2 (rdW (l.getD 1 (0, 0))).1 (rdW (l.getD 2 (0, 0))).1, muN (rdW (l.getD 0 (0, 0))).1 (rdW (l.getD 0 (0, 0))).2 (rdW (l.getD 1 (0, 0))).2 (rdW (l.getD 2 (0, 0))).2) := rfl
  rw [hv]
  obtain ⟨x0, HX0⟩ := named (l.getD 0 (0, 0)).1
  obtain ⟨y0, HY0⟩ := named (l.getD 0 (0, 0)).2
  rw [← HX0.out] at f0a u0a
  rw [← HY0.out] at f0b u0b
  obtain ⟨x1, HX1⟩ := named (l.getD 1 (0, 0)).1
  obtain ⟨y1, HY1⟩ := named (l.getD 1 (0, 0)).2
  rw [← HX1.out] at f1a u1a
  rw [← HY1.out] at f1b u1b
  obtain ⟨x2, HX2⟩ := named (l.getD 2 (0, 0)).1
  obtain ⟨y2, HY2⟩ := named (l.getD 2 (0, 0)).2
  rw [← HX2.out] at f2a u2a
  rw [← HY2.out] at f2b u2b
  unfold rdW
  try simp only []
  rw [← HX0.out, ← HY0.out]
  rw [← HX1.out, ← HY1.out]
  rw [← HX2.out, ← HY2.out]
  have a0a := u0a.anot (b := y0)
  have a0b := u0b.anot (b := x0)
  have a1a := u1a.anot (b := y1)
  have a1b := u1b.anot (b := x1)
  have a2a := u2a.anot (b := y2)
  have a2b := u2b.anot (b := x2)
  have hm9 : ∀ W, Calls Tryz.prog 72 #[wv (anot x0 y0) (anot y0 x0), wv (anot x1 y1) (anot y1 x1), wv (anot x2 y2) (anot y2 x2)] W fun e w' => e = .returned (wv (muN (anot x0 y0) (anot y0 x0) (anot x1 y1) (anot x2 y2)) (muN (anot x0 y0) (anot y0 x0) (anot y1 x1) (anot y2 x2))) ∧ BelW W w' := fun W => wmux_any (anot x0 y0) (anot y0 x0) (anot x1 y1) (anot y1 x1) (anot x2 y2) (anot y2 x2) a0a a0b a1a a1b a2a a2b W
  have hre : ∀ a b W, W64 a → W64 b → Calls Tryz.prog 68 #[wv a b] W fun e w' => e = .returned (wv (anot a b) (anot b a)) ∧ BelW W w' := fun a b W ha hb => read_any a b ha hb W
  obtain ⟨va, HVA⟩ := named (muN (anot x0 y0) (anot y0 x0) (anot x1 y1) (anot x2 y2))
  obtain ⟨vb, HVB⟩ := named (muN (anot x0 y0) (anot y0 x0) (anot y1 x1) (anot y2 x2))
  rw [← HVA.out, ← HVB.out] at hm9
  rw [← HVA.out, ← HVB.out]
  have HFR := Lib.hid (fun W (h : BelW W1 W) => hfr.below h)
  have HB1 := Lib.hid hb1
  have HCE : Hid (∀ w', BelW W1 w' → w'.cell? ⟨b, o, none⟩ = some (.int .u64 (x0 : Int)) ∧ w'.cell? ⟨b, o + 1, none⟩ = some (.int .u64 (y0 : Int)) ∧ w'.cell? ⟨b, o + 2, none⟩ = some (.int .u64 (x1 : Int)) ∧ w'.cell? ⟨b, o + 2 + 1, none⟩ = some (.int .u64 (y1 : Int)) ∧ w'.cell? ⟨b, o + 4, none⟩ = some (.int .u64 (x2 : Int)) ∧ w'.cell? ⟨b, o + 4 + 1, none⟩ = some (.int .u64 (y2 : Int))) := Lib.hid fun w' h => ⟨(Below.cell h (p := ⟨b, o, none⟩) (cell_lt f0a)).trans f0a, (Below.cell h (p := ⟨b, o + 1, none⟩) (cell_lt f0b)).trans f0b, (Below.cell h (p := ⟨b, o + 2, none⟩) (cell_lt f1a)).trans f1a, (Below.cell h (p := ⟨b, o + 2 + 1, none⟩) (cell_lt f1b)).trans f1b, (Below.cell h (p := ⟨b, o + 4, none⟩) (cell_lt f2a)).trans f2a, (Below.cell h (p := ⟨b, o + 4 + 1, none⟩) (cell_lt f2b)).trans f2b⟩
  have HCS : Hid (∀ w', BelW W1 w' → ∀ u v, ((w'.setCell ⟨r, 0, none⟩ u).setCell ⟨r, 1, none⟩ v).cell? ⟨b, o, none⟩ = some (.int .u64 (x0 : Int)) ∧ ((w'.setCell ⟨r, 0, none⟩ u).setCell ⟨r, 1, none⟩ v).cell? ⟨b, o + 1, none⟩ = some (.int .u64 (y0 : Int)) ∧ ((w'.setCell ⟨r, 0, none⟩ u).setCell ⟨r, 1, none⟩ v).cell? ⟨b, o + 2, none⟩ = some (.int .u64 (x1 : Int)) ∧ ((w'.setCell ⟨r, 0, none⟩ u).setCell ⟨r, 1, none⟩ v).cell? ⟨b, o + 2 + 1, none⟩ = some (.int .u64 (y1 : Int)) ∧ ((w'.setCell ⟨r, 0, none⟩ u).setCell ⟨r, 1, none⟩ v).cell? ⟨b, o + 4, none⟩ = some (.int .u64 (x2 : Int)) ∧ ((w'.setCell ⟨r, 0, none⟩ u).setCell ⟨r, 1, none⟩ v).cell? ⟨b, o + 4 + 1, none⟩ = some (.int .u64 (y2 : Int))) := Lib.hid fun w' h u v => by
    obtain ⟨c0a, c0b, c1a, c1b, c2a, c2b⟩ := HCE.out w' h
    exact ⟨((World.cell?_setCell_other _ _ _ _ (by simp [hbr])).trans (World.cell?_setCell_other _ _ _ _ (by simp [hbr]))).trans c0a, ((World.cell?_setCell_other _ _ _ _ (by simp [hbr])).trans (World.cell?_setCell_other _ _ _ _ (by simp [hbr]))).trans c0b, ((World.cell?_setCell_other _ _ _ _ (by simp [hbr])).trans (World.cell?_setCell_other _ _ _ _ (by simp [hbr]))).trans c1a, ((World.cell?_setCell_other _ _ _ _ (by simp [hbr])).trans (World.cell?_setCell_other _ _ _ _ (by simp [hbr]))).trans c1b, ((World.cell?_setCell_other _ _ _ _ (by simp [hbr])).trans (World.cell?_setCell_other _ _ _ _ (by simp [hbr]))).trans c2a, ((World.cell?_setCell_other _ _ _ _ (by simp [hbr])).trans (World.cell?_setCell_other _ _ _ _ (by simp [hbr]))).trans c2b⟩
  clear hfr hb1 hf hs hc hm hle hA hw0 f0a f0b HX0 HY0 hw1 f1a f1b HX1 HY1 hw2 f2a f2b HX2 HY2 HVA HVB hv
  unfold wv at *
  have HMX := Lib.hid hm9
  have HRE := Lib.hid hre
  have hs0 : BelW W1 W1 := Below.refl _ _
  have hI0 : (0 : Int) < (l.length : Int) := by omega
  have hI1 : (1 : Int) < (l.length : Int) := by omega
  have hI2 : (2 : Int) < (l.length : Int) := by omega
  have hN0 : 0 < l.length := by omega
  clear hm9 hre
  go_enter Tryz.func27, Tryz.ntmps27
  go_upto_region 1 with (fail)
  rw [← HW1.out, ← HR.out]
  go_wp2
  go_region_held3 (fun w' => w'.cell? ⟨b, o, none⟩ = some (.int .u64 (x0 : Int)) ∧ w'.cell? ⟨b, o + 1, none⟩ = some (.int .u64 (y0 : Int)) ∧ w'.cell? ⟨b, o + 2, none⟩ = some (.int .u64 (x1 : Int)) ∧ w'.cell? ⟨b, o + 2 + 1, none⟩ = some (.int .u64 (y1 : Int)) ∧ w'.cell? ⟨b, o + 4, none⟩ = some (.int .u64 (x2 : Int)) ∧ w'.cell? ⟨b, o + 4 + 1, none⟩ = some (.int .u64 (y2 : Int)))
    ((first
      | (refine HCE.out _ ?_; first | (with_reducible assumption) | (refine BelW.drew ?_; with_reducible assumption))
      | (refine HCS.out _ ?_ _ _; first | (with_reducible assumption) | (refine BelW.drew ?_; with_reducible assumption))))
    (first
      | (go_at_call 68; (with_reducible refine Calls.mono (HRE.out _ _ _ ?_ ?_) ?_)
         · (with_reducible assumption)
         · (with_reducible assumption)
         rintro e wA ⟨rfl, hbA⟩
         have hsA : BelW W1 wA := (by refine BelW.next ?_ hbA; first | (with_reducible assumption) | (refine BelW.drew ?_; with_reducible assumption)))
      | (go_at_call 72; (with_reducible refine Calls.mono (HMX.out _) ?_)
         rintro e wM ⟨rfl, hbM⟩
         have hsM : BelW W1 wM := (by refine BelW.next ?_ hbM; first | (with_reducible assumption) | (refine BelW.drew ?_; with_reducible assumption))
         have hf2 := HFR.out _ hsM
         have z0 := hf2.cell 0
         have z1 := hf2.cell 1
         have z2 := hf2.frozen 0
         have z3 := hf2.frozen 1))
  (try simp only [Exit.inBlock, Exit.then])
  go_wp2
  (try simp only [Exit.inBlock, Exit.then])
  refine bodyPost_ret (results_cell_row rfl _ _ _ _ _ _ _ rfl ((hf2.set 0 _).set 1 _) Tryz.underlying27 rfl (by kernel_rfl)) rfl ?_
  exact ⟨rfl, BelW.set (BelW.set (joinB HB1.out hsM) hrl _) hrl _⟩
set_option maxRecDepth 100000 in
set_option maxHeartbeats 4000000 in
theorem dir_12 (l : List (Nat × Nat)) (A : Option Addr) (n cl : Nat) (w : World) (B : Nat) (hB : B ≤ w.heap.size) (hf : Ft w) (hs : Wd w B (.slice A n cl) l) (h1 : 2 ≤ n) :
    Calls Tryz.prog 27 #[.int .u8 12, .slice A n cl] w fun e w' => e = .returned (wv (dirW 12 l n).1 (dirW 12 l n).2) ∧ BelW w w' := by
  obtain ⟨W1, HW1⟩ := named (w.alloc (.cells #[.int .u64 0, .int .u64 0] 27))
  have hb1 : BelW w W1 := by rw [HW1.out]; exact below_new (Below.refl _ _) _
  have hfr : Fr W1 w.heap.size 27 [.int .u64 0, .int .u64 0] := by rw [HW1.out]; exact Fr.made _ _ _ rfl
  obtain ⟨r, HR⟩ := named w.heap.size
  rw [← HR.out] at hfr
  have hrl : w.heap.size ≤ r := by rw [HR.out]; exact Nat.le_refl _
  obtain ⟨A', b, o, c', e, hA, hle, hm, hc⟩ := id hs
  simp only [Value.slice.injEq] at e
  obtain ⟨rfl, hml, rfl⟩ := e
  obtain rfl := hA (by omega)
  have hw0 := hc 0 (by omega)
  have f0a : W1.cell? ⟨b, o, none⟩ = some (.int .u64 ((l.getD 0 (0, 0)).1 : Int)) := (Below.cell hb1 (p := ⟨b, o, none⟩) (Nat.lt_of_lt_of_le hw0.1 hB)).trans hw0.2.1
  have f0b : W1.cell? ⟨b, o + 1, none⟩ = some (.int .u64 ((l.getD 0 (0, 0)).2 : Int)) := (Below.cell hb1 (p := ⟨b, o + 1, none⟩) (Nat.lt_of_lt_of_le hw0.1 hB)).trans hw0.2.2.1
  have u0a := hw0.2.2.2.1
  have u0b := hw0.2.2.2.2
  have hw1 := hc 1 (by omega)
  have f1a : W1.cell? ⟨b, o + 2, none⟩ = some (.int .u64 ((l.getD 1 (0, 0)).1 : Int)) := (Below.cell hb1 (p := ⟨b, o + 2, none⟩) (Nat.lt_of_lt_of_le hw1.1 hB)).trans hw1.2.1
  have f1b : W1.cell? ⟨b, o + 2 + 1, none⟩ = some (.int .u64 ((l.getD 1 (0, 0)).2 : Int)) := (Below.cell hb1 (p := ⟨b, o + 2 + 1, none⟩) (Nat.lt_of_lt_of_le hw1.1 hB)).trans hw1.2.2.1
  have u1a := hw1.2.2.2.1
  have u1b := hw1.2.2.2.2
  have hbr : b ≠ r := by have := hw0.1; omega
  have hv : dirW 12 l n = (trN (rdW (l.getD 0 (0, 0))).2 (rdW (l.getD 0 (0, 0))).1 (rdW (l.getD 1 (0, 0))).1, trN (rdW (l.getD 0 (0, 0))).2 (rdW (l.getD 0 (0, 0))).1 (rdW (l.getD 1 (0, 0))).2) := rfl
  rw [hv]
  obtain ⟨x0, HX0⟩ := named (l.getD 0 (0, 0)).1
  obtain ⟨y0, HY0⟩ := named (l.getD 0 (0, 0)).2
  rw [← HX0.out] at f0a u0a
  rw [← HY0.out] at f0b u0b
  obtain ⟨x1, HX1⟩ := named (l.getD 1 (0, 0)).1
  obtain ⟨y1, HY1⟩ := named (l.getD 1 (0, 0)).2
  rw [← HX1.out] at f1a u1a
  rw [← HY1.out] at f1b u1b
  unfold rdW
  try simp only []
  rw [← HX0.out, ← HY0.out]
  rw [← HX1.out, ← HY1.out]
  have a0a := u0a.anot (b := y0)
  have a0b := u0b.anot (b := x0)
  have a1a := u1a.anot (b := y1)
  have a1b := u1b.anot (b := x1)
  have hm9 : ∀ W, Calls Tryz.prog 73 #[wv (anot x0 y0) (anot y0 x0), wv (anot x1 y1) (anot y1 x1)] W fun e w' => e = .returned (wv (trN (anot y0 x0) (anot x0 y0) (anot x1 y1)) (trN (anot y0 x0) (anot x0 y0) (anot y1 x1))) ∧ BelW W w' := fun W => wtri_any (anot x0 y0) (anot y0 x0) (anot x1 y1) (anot y1 x1) a0a a0b a1a a1b W
  have hre : ∀ a b W, W64 a → W64 b → Calls Tryz.prog 68 #[wv a b] W fun e w' => e = .returned (wv (anot a b) (anot b a)) ∧ BelW W w' := fun a b W ha hb => read_any a b ha hb W
  obtain ⟨va, HVA⟩ := named (trN (anot y0 x0) (anot x0 y0) (anot x1 y1))
  obtain ⟨vb, HVB⟩ := named (trN (anot y0 x0) (anot x0 y0) (anot y1 x1))
  rw [← HVA.out, ← HVB.out] at hm9
  rw [← HVA.out, ← HVB.out]
  have HFR := Lib.hid (fun W (h : BelW W1 W) => hfr.below h)
  have HB1 := Lib.hid hb1
  have HCE : Hid (∀ w', BelW W1 w' → w'.cell? ⟨b, o, none⟩ = some (.int .u64 (x0 : Int)) ∧ w'.cell? ⟨b, o + 1, none⟩ = some (.int .u64 (y0 : Int)) ∧ w'.cell? ⟨b, o + 2, none⟩ = some (.int .u64 (x1 : Int)) ∧ w'.cell? ⟨b, o + 2 + 1, none⟩ = some (.int .u64 (y1 : Int))) := Lib.hid fun w' h => ⟨(Below.cell h (p := ⟨b, o, none⟩) (cell_lt f0a)).trans f0a, (Below.cell h (p := ⟨b, o + 1, none⟩) (cell_lt f0b)).trans f0b, (Below.cell h (p := ⟨b, o + 2, none⟩) (cell_lt f1a)).trans f1a, (Below.cell h (p := ⟨b, o + 2 + 1, none⟩) (cell_lt f1b)).trans f1b⟩
  have HCS : Hid (∀ w', BelW W1 w' → ∀ u v, ((w'.setCell ⟨r, 0, none⟩ u).setCell ⟨r, 1, none⟩ v).cell? ⟨b, o, none⟩ = some (.int .u64 (x0 : Int)) ∧ ((w'.setCell ⟨r, 0, none⟩ u).setCell ⟨r, 1, none⟩ v).cell? ⟨b, o + 1, none⟩ = some (.int .u64 (y0 : Int)) ∧ ((w'.setCell ⟨r, 0, none⟩ u).setCell ⟨r, 1, none⟩ v).cell? ⟨b, o + 2, none⟩ = some (.int .u64 (x1 : Int)) ∧ ((w'.setCell ⟨r, 0, none⟩ u).setCell ⟨r, 1, none⟩ v).cell? ⟨b, o + 2 + 1, none⟩ = some (.int .u64 (y1 : Int))) := Lib.hid fun w' h u v => by
    obtain ⟨c0a, c0b, c1a, c1b⟩ := HCE.out w' h
    exact ⟨((World.cell?_setCell_other _ _ _ _ (by simp [hbr])).trans (World.cell?_setCell_other _ _ _ _ (by simp [hbr]))).trans c0a, ((World.cell?_setCell_other _ _ _ _ (by simp [hbr])).trans (World.cell?_setCell_other _ _ _ _ (by simp [hbr]))).trans c0b, ((World.cell?_setCell_other _ _ _ _ (by simp [hbr])).trans (World.cell?_setCell_other _ _ _ _ (by simp [hbr]))).trans c1a, ((World.cell?_setCell_other _ _ _ _ (by simp [hbr])).trans (World.cell?_setCell_other _ _ _ _ (by simp [hbr]))).trans c1b⟩
  clear hfr hb1 hf hs hc hm hle hA hw0 f0a f0b HX0 HY0 hw1 f1a f1b HX1 HY1 HVA HVB hv
  unfold wv at *
  have HMX := Lib.hid hm9
  have HRE := Lib.hid hre
  have hs0 : BelW W1 W1 := Below.refl _ _
  have hI0 : (0 : Int) < (l.length : Int) := by omega
  have hI1 : (1 : Int) < (l.length : Int) := by omega
  have hN0 : 0 < l.length := by omega
  clear hm9 hre
  go_enter Tryz.func27, Tryz.ntmps27
  go_upto_region 1 with (fail)
  rw [← HW1.out, ← HR.out]
  go_wp2
  go_region_held3 (fun w' => w'.cell? ⟨b, o, none⟩ = some (.int .u64 (x0 : Int)) ∧ w'.cell? ⟨b, o + 1, none⟩ = some (.int .u64 (y0 : Int)) ∧ w'.cell? ⟨b, o + 2, none⟩ = some (.int .u64 (x1 : Int)) ∧ w'.cell? ⟨b, o + 2 + 1, none⟩ = some (.int .u64 (y1 : Int)))
    ((first
      | (refine HCE.out _ ?_; first | (with_reducible assumption) | (refine BelW.drew ?_; with_reducible assumption))
      | (refine HCS.out _ ?_ _ _; first | (with_reducible assumption) | (refine BelW.drew ?_; with_reducible assumption))))
    (first
      | (go_at_call 68; (with_reducible refine Calls.mono (HRE.out _ _ _ ?_ ?_) ?_)
         · (with_reducible assumption)
         · (with_reducible assumption)
         rintro e wA ⟨rfl, hbA⟩
         have hsA : BelW W1 wA := (by refine BelW.next ?_ hbA; first | (with_reducible assumption) | (refine BelW.drew ?_; with_reducible assumption)))
      | (go_at_call 73; (with_reducible refine Calls.mono (HMX.out _) ?_)
         rintro e wM ⟨rfl, hbM⟩
         have hsM : BelW W1 wM := (by refine BelW.next ?_ hbM; first | (with_reducible assumption) | (refine BelW.drew ?_; with_reducible assumption))
         have hf2 := HFR.out _ hsM
         have z0 := hf2.cell 0
         have z1 := hf2.cell 1
         have z2 := hf2.frozen 0
         have z3 := hf2.frozen 1))
  (try simp only [Exit.inBlock, Exit.then])
  go_wp2
  (try simp only [Exit.inBlock, Exit.then])
  refine bodyPost_ret (results_cell_row rfl _ _ _ _ _ _ _ rfl ((hf2.set 0 _).set 1 _) Tryz.underlying27 rfl (by kernel_rfl)) rfl ?_
  exact ⟨rfl, BelW.set (BelW.set (joinB HB1.out hsM) hrl _) hrl _⟩
end Go.Proofs.YtemogllidmgbfaaGreatDoor

namespace Go.Proofs.YtemogllidmgbfaaGreatDoor
open Go.RowKit

theorem inv_invK (k : Int) : Proofs.YtemogllidmgbfaaGreatDoor.inv k = invK k := by
  unfold Proofs.YtemogllidmgbfaaGreatDoor.inv invK
  rw [Bool.eq_iff_iff]
  simp [or_assoc]
theorem in_range {k : Int} {n : Nat} (h0 : 0 ≤ k) (h : ¬ ((n : Int) < lo k ∨ Proofs.YtemogllidmgbfaaGreatDoor.hi k < n)) : k = 0 ∨ k = 1 ∨ k = 2 ∨ k = 3 ∨ k = 4 ∨ k = 5 ∨ k = 6 ∨ k = 7 ∨ k = 8 ∨ k = 9 ∨ k = 10 ∨ k = 11 ∨ k = 12 ∨ k = 13 ∨ k = 14 ∨ k = 15 := by
  by_cases h15 : 15 < k
  · have e : Proofs.YtemogllidmgbfaaGreatDoor.hi k = -1 := by simp [Proofs.YtemogllidmgbfaaGreatDoor.hi, h15]
    exact absurd (.inr (by omega)) h
  · omega
set_option maxRecDepth 100000 in
set_option maxHeartbeats 4000000 in
theorem dir_0 (l : List (Nat × Nat)) (A : Option Addr) (n cl : Nat) (w : World) (B : Nat) (hB : B ≤ w.heap.size) (hf : Ft w) (hs : Wd w B (.slice A n cl) l) :
    Calls Tryz.prog 27 #[.int .u8 0, .slice A n cl] w fun e w' => e = .returned (wv (fA (cln 2)) (fB (cln 2))) ∧ BelW w w' := by
  obtain ⟨W1, HW1⟩ := named (w.alloc (.cells #[.int .u64 0, .int .u64 0] 27))
  have hb1 : BelW w W1 := by rw [HW1.out]; exact below_new (Below.refl _ _) _
  have hfr : Fr W1 w.heap.size 27 [.int .u64 0, .int .u64 0] := by rw [HW1.out]; exact Fr.made _ _ _ rfl
  obtain ⟨r, HR⟩ := named w.heap.size
  rw [← HR.out] at hfr
  have hrl : w.heap.size ≤ r := by rw [HR.out]; exact Nat.le_refl _
  have HFR := Lib.hid hfr
  have HB1 := Lib.hid hb1
  have HC := Lib.hid (fill_any 2 (by decide) W1 (hf.below hb1))
  clear hfr hb1 hf hs
  unfold wv at *
  go_enter Tryz.func27, Tryz.ntmps27
  go_upto_region 1 with (fail)
  rw [← HW1.out, ← HR.out]
  go_wp2_with (go_at_call 22; (with_reducible refine HC.out.mono ?_); rintro e w2 ⟨rfl, hb2⟩; have HB2 : Hid (BelW W1 w2) := Lib.hid hb2; have hf2 := HFR.out.below hb2; have z0 := hf2.cell 0; have z1 := hf2.cell 1; have z2 := hf2.frozen 0; have z3 := hf2.frozen 1; have HF2 := Lib.hid hf2; clear hb2 hf2)
  (try simp only [Exit.inBlock, Exit.then])
  refine bodyPost_ret (results_cell_row rfl _ _ _ _ _ _ _ rfl ((HF2.out.set 0 _).set 1 _) Tryz.underlying27 rfl (by kernel_rfl)) rfl ?_
  exact ⟨rfl, BelW.set (BelW.set (joinB HB1.out HB2.out) hrl _) hrl _⟩
set_option maxRecDepth 100000 in
set_option maxHeartbeats 4000000 in
theorem dir_14 (l : List (Nat × Nat)) (A : Option Addr) (n cl : Nat) (w : World) (B : Nat) (hB : B ≤ w.heap.size) (hf : Ft w) (hs : Wd w B (.slice A n cl) l) :
    Calls Tryz.prog 27 #[.int .u8 14, .slice A n cl] w fun e w' => e = .returned (wv (fA (cln 2)) (fB (cln 2))) ∧ BelW w w' := by
  obtain ⟨W1, HW1⟩ := named (w.alloc (.cells #[.int .u64 0, .int .u64 0] 27))
  have hb1 : BelW w W1 := by rw [HW1.out]; exact below_new (Below.refl _ _) _
  have hfr : Fr W1 w.heap.size 27 [.int .u64 0, .int .u64 0] := by rw [HW1.out]; exact Fr.made _ _ _ rfl
  obtain ⟨r, HR⟩ := named w.heap.size
  rw [← HR.out] at hfr
  have hrl : w.heap.size ≤ r := by rw [HR.out]; exact Nat.le_refl _
  have HFR := Lib.hid hfr
  have HB1 := Lib.hid hb1
  have HC := Lib.hid (fill_any 2 (by decide) W1 (hf.below hb1))
  clear hfr hb1 hf hs
  unfold wv at *
  go_enter Tryz.func27, Tryz.ntmps27
  go_upto_region 1 with (fail)
  rw [← HW1.out, ← HR.out]
  go_wp2_with (go_at_call 22; (with_reducible refine HC.out.mono ?_); rintro e w2 ⟨rfl, hb2⟩; have HB2 : Hid (BelW W1 w2) := Lib.hid hb2; have hf2 := HFR.out.below hb2; have z0 := hf2.cell 0; have z1 := hf2.cell 1; have z2 := hf2.frozen 0; have z3 := hf2.frozen 1; have HF2 := Lib.hid hf2; clear hb2 hf2)
  (try simp only [Exit.inBlock, Exit.then])
  refine bodyPost_ret (results_cell_row rfl _ _ _ _ _ _ _ rfl ((HF2.out.set 0 _).set 1 _) Tryz.underlying27 rfl (by kernel_rfl)) rfl ?_
  exact ⟨rfl, BelW.set (BelW.set (joinB HB1.out HB2.out) hrl _) hrl _⟩
set_option maxRecDepth 100000 in
set_option maxHeartbeats 4000000 in
theorem dir_15 (l : List (Nat × Nat)) (A : Option Addr) (n cl : Nat) (w : World) (B : Nat) (hB : B ≤ w.heap.size) (hf : Ft w) (hs : Wd w B (.slice A n cl) l) :
    Calls Tryz.prog 27 #[.int .u8 15, .slice A n cl] w fun e w' => e = .returned (wv (fA (cln 2)) (fB (cln 2))) ∧ BelW w w' := by
  obtain ⟨W1, HW1⟩ := named (w.alloc (.cells #[.int .u64 0, .int .u64 0] 27))
  have hb1 : BelW w W1 := by rw [HW1.out]; exact below_new (Below.refl _ _) _
  have hfr : Fr W1 w.heap.size 27 [.int .u64 0, .int .u64 0] := by rw [HW1.out]; exact Fr.made _ _ _ rfl
  obtain ⟨r, HR⟩ := named w.heap.size
  rw [← HR.out] at hfr
  have hrl : w.heap.size ≤ r := by rw [HR.out]; exact Nat.le_refl _
  have HFR := Lib.hid hfr
  have HB1 := Lib.hid hb1
  have HC := Lib.hid (fill_any 2 (by decide) W1 (hf.below hb1))
  clear hfr hb1 hf hs
  unfold wv at *
  go_enter Tryz.func27, Tryz.ntmps27
  go_upto_region 1 with (fail)
  rw [← HW1.out, ← HR.out]
  go_wp2_with (go_at_call 22; (with_reducible refine HC.out.mono ?_); rintro e w2 ⟨rfl, hb2⟩; have HB2 : Hid (BelW W1 w2) := Lib.hid hb2; have hf2 := HFR.out.below hb2; have z0 := hf2.cell 0; have z1 := hf2.cell 1; have z2 := hf2.frozen 0; have z3 := hf2.frozen 1; have HF2 := Lib.hid hf2; clear hb2 hf2)
  (try simp only [Exit.inBlock, Exit.then])
  refine bodyPost_ret (results_cell_row rfl _ _ _ _ _ _ _ rfl ((HF2.out.set 0 _).set 1 _) Tryz.underlying27 rfl (by kernel_rfl)) rfl ?_
  exact ⟨rfl, BelW.set (BelW.set (joinB HB1.out HB2.out) hrl _) hrl _⟩
theorem dir_all (k : Int) (h0 : 0 ≤ k) (l : List (Nat × Nat)) (A : Option Addr) (n cl : Nat) (w : World) (B : Nat) (hB : B ≤ w.heap.size) (hf : Ft w) (hs : Wd w B (.slice A n cl) l) (hr : ¬ ((n : Int) < lo k ∨ Proofs.YtemogllidmgbfaaGreatDoor.hi k < n)) :
    Calls Tryz.prog 27 #[.int .u8 k, .slice A n cl] w fun e w' => e = .returned (wv (dirW k l n).1 (dirW k l n).2) ∧ BelW w w' := by
  rcases in_range h0 hr with rfl | rfl | rfl | rfl | rfl | rfl | rfl | rfl | rfl | rfl | rfl | rfl | rfl | rfl | rfl | rfl
  · exact dir_0 l A n cl w B hB hf hs
  · exact dir_1 l A n cl w B hB hf hs
  · exact dir_2 l A n cl w B hB hf hs
  · exact dir_3 l A n cl w B hB hf hs (by have : lo 3 = 1 := by decide
                                          omega)
  · exact dir_4 l A n cl w B hB hf hs (by have : lo 4 = 1 := by decide
                                          omega)
  · exact dir_5 l A n cl w B hB hf hs
  · exact dir_6 l A n cl w B hB hf hs
  · exact dir_7 l A n cl w B hB hf hs
  · exact dir_8 l A n cl w B hB hf hs
  · exact dir_9 l A n cl w B hB hf hs
  · exact dir_10 l A n cl w B hB hf hs
  · exact dir_11 l A n cl w B hB hf hs (by have : lo 11 = 3 := by decide
                                           omega)
  · exact dir_12 l A n cl w B hB hf hs (by have : lo 12 = 2 := by decide
                                           omega)
  · exact dir_13 l A n cl w B hB hf hs
  · exact dir_14 l A n cl w B hB hf hs
  · exact dir_15 l A n cl w B hB hf hs

set_option maxRecDepth 100000 in
set_option maxHeartbeats 4000000 in
theorem weval_any (k : Int) (h0 : 0 ≤ k) (l : List (Nat × Nat)) (A : Option Addr) (n cl : Nat) (w : World) (B : Nat) (hB : B ≤ w.heap.size) (hT : Lg.Tabs w) (hf : Ft w) (hs : Wd w B (.slice A n cl) l) :
    Calls Tryz.prog 8 #[.int .u8 k, .slice A n cl] w fun e w' => e = .returned (wv (evW k l).1 (evW k l).2) ∧ BelW w w' := by
  obtain ⟨A', b, o, c', e, -, -, hm, -⟩ := id hs
  simp only [Value.slice.injEq] at e
  obtain ⟨rfl, hml, rfl⟩ := e
  obtain ⟨W1, HW1⟩ := named (w.alloc (.cells #[.int .u64 0, .int .u64 0] 27))
  have hb1 : BelW w W1 := by rw [HW1.out]; exact below_new (Below.refl _ _) _
  have hfr : Fr W1 w.heap.size 27 [.int .u64 0, .int .u64 0] := by rw [HW1.out]; exact Fr.made _ _ _ rfl
  obtain ⟨r, HR⟩ := named w.heap.size
  rw [← HR.out] at hfr
  have hrl : w.heap.size ≤ r := by rw [HR.out]; exact Nat.le_refl _
  have HFN := Lib.hid (Lg.fanin_any k h0 W1 (hT.below hb1))
  have HFI := Lib.hid (fun W (h : BelW W1 W) => fill_any 2 (by decide) W (hf.below (joinB hb1 h)))
  have HDI : Hid (¬ ((n : Int) < lo k ∨ Proofs.YtemogllidmgbfaaGreatDoor.hi k < n) → ∀ W, BelW W1 W → Calls Tryz.prog 27 #[.int .u8 k, .slice A n cl] W fun e w' => e = .returned (wv (dirW k l n).1 (dirW k l n).2) ∧ BelW W w') := Lib.hid fun hr W h =>
    dir_all k h0 l A n cl W B (Nat.le_trans hB (Below.size (joinB hb1 h))) (hf.below (joinB hb1 h)) (Arr.keep stays_word hs (Nat.le_refl _) fun _ hp => Below.cell (joinB hb1 h) (Nat.lt_of_lt_of_le hp hB)) hr
  have HIV := Lib.hid (fun w => Lg.inverts_any k w)
  have HE : Hid (evW k l = if (n : Int) < lo k ∨ Proofs.YtemogllidmgbfaaGreatDoor.hi k < n then (fA 2, fB 2) else if Proofs.YtemogllidmgbfaaGreatDoor.inv k = true then ((dirW k l n).2, (dirW k l n).1) else dirW k l n) := Lib.hid (by rw [inv_invK, hml]; rfl)
  have HFR := Lib.hid (fun W (h : BelW W1 W) => hfr.below h)
  have HB1 := Lib.hid hb1
  unfold maxLen at hm
  rw [← hml] at hm
  clear hT hf hs hfr hb1 hml
  obtain ⟨lok, HLO⟩ := named (lo k)
  obtain ⟨hik, HHI⟩ := named (Proofs.YtemogllidmgbfaaGreatDoor.hi k)
  obtain ⟨iv, HINV⟩ := named (Proofs.YtemogllidmgbfaaGreatDoor.inv k)
  obtain ⟨da, HDA⟩ := named (dirW k l n).1
  obtain ⟨db, HDB⟩ := named (dirW k l n).2
  rw [← HLO.out, ← HHI.out] at HFN HDI HE
  rw [← HINV.out] at HIV HE
  have hpr : dirW k l n = (da, db) := Prod.ext HDA.out.symm HDB.out.symm
  rw [hpr] at HDI HE
  obtain ⟨ev, HEV⟩ := named (evW k l)
  rw [← HEV.out] at HE
  rw [← HEV.out]
  have hs0 : BelW W1 W1 := Below.refl _ _
  clear HLO HHI HINV HDA HDB hpr HEV
  unfold wv at *
  go_enter Tryz.func8, Tryz.ntmps8
  go_upto_region 1 with (fail)
  rw [← HW1.out, ← HR.out]
  by_cases hr : (n : Int) < lok ∨ hik < n
  · have he : ev = (fA 2, fB 2) := by rw [HE.out, if_pos hr]
    have e2 : cln 2 = 2 := by decide
    rw [e2] at HFI
    have HEE := Lib.hid he
    by_cases hr1 : (n : Int) < lok
    all_goals
      first | (have hr2 : hik < n := by omega) | skip
      clear he hr
      go_wp2_with (first
        | (go_at_call 26; (with_reducible refine HFN.out.mono ?_); rintro e w2 ⟨rfl, q2, rfl⟩; have hs2 : BelW W1 (W1.drewN q2) := below_drewN hs0 q2)
        | (go_at_call 22; (with_reducible refine (HFI.out _ hs2).mono ?_); rintro e w3 ⟨rfl, hb3⟩; have hs3 : BelW W1 w3 := joinB hs2 hb3; have hf2 := HFR.out _ hs3; have z0 := hf2.cell 0; have z1 := hf2.cell 1; have z2 := hf2.frozen 0; have z3 := hf2.frozen 1; have HF2 := Lib.hid hf2; clear hb3 hf2))
      (try simp only [Exit.inBlock, Exit.then])
      refine bodyPost_ret (results_cell_row rfl _ _ _ _ _ _ _ rfl ((HF2.out.set 0 _).set 1 _) Tryz.underlying27 rfl (by kernel_rfl)) rfl ?_
      exact ⟨by rw [HEE.out]; rfl, BelW.set (BelW.set (joinB HB1.out hs3) hrl _) hrl _⟩
  · have hr1 : ¬ (n : Int) < lok := by omega
    have hr2 : ¬ hik < (n : Int) := by omega
    have HD := Lib.hid (HDI.out hr)
    have he : ev = if iv = true then (db, da) else (da, db) := by rw [HE.out, if_neg hr]
    have HEE := Lib.hid he
    clear he hr HE HDI
    go_upto_region 5 with (first
      | (go_at_call 26; (with_reducible refine HFN.out.mono ?_); rintro e w2 ⟨rfl, q2, rfl⟩; have hs2 : BelW W1 (W1.drewN q2) := below_drewN hs0 q2)
      | (go_at_call 27; (with_reducible refine (HD.out _ hs2).mono ?_); rintro e w3 ⟨rfl, hb3⟩; have hs3 : BelW W1 w3 := joinB hs2 hb3; clear hb3))
    obtain ⟨V3, HV3⟩ := named (w3.alloc (.cells #[.int .u64 (da : Int), .int .u64 (db : Int)] 27))
    have hn3 : BelW w3 V3 := by rw [HV3.out]; exact below_new (Below.refl _ _) _
    have hfv : Fr V3 w3.heap.size 27 [.int .u64 (da : Int), .int .u64 (db : Int)] := by rw [HV3.out]; exact Fr.made _ _ _ rfl
    have hrw : r < w3.heap.size := Nat.lt_of_lt_of_le (HFR.out W1 hs0).lt (Below.size hs3)
    obtain ⟨q, HQ⟩ := named w3.heap.size
    rw [← HQ.out] at hfv hrw
    rw [← HV3.out, ← HQ.out]
    have hsV : BelW W1 V3 := joinB hs3 hn3
    have hfr := HFR.out V3 hsV
    have hql : w.heap.size ≤ q := by omega
    have hqr : q ≠ r := by omega
    have hrq : r ≠ q := by omega
    have d0 := hfv.cell 0
    have d1 := hfv.cell 1
    have d2 := hfv.frozen 0
    have d3 := hfv.frozen 1
    have z0 := hfr.cell 0
    have z1 := hfr.cell 1
    have z2 := hfr.frozen 0
    have z3 := hfr.frozen 1
    have HF3 := Lib.hid hfr
    have HSV := Lib.hid hsV
    clear hn3 hfv hfr hsV hs3 hs0 HV3 HQ
    cases iv
    · have hev : ev = (da, db) := HEE.out
      have HEV := Lib.hid hev
      clear hev HEE
      go_wp2_with (go_at_call 28; (with_reducible refine (HIV.out _).mono ?_); rintro e w4 ⟨rfl, rfl⟩)
      (try simp only [Exit.inBlock, Exit.then])
      refine bodyPost_ret (results_cell_row rfl _ _ _ _ _ _ _ rfl ((HF3.out.set 0 _).set 1 _) Tryz.underlying27 rfl (by kernel_rfl)) rfl ?_
      exact ⟨by rw [HEV.out]; rfl, BelW.set (BelW.set (joinB HB1.out HSV.out) hrl _) hrl _⟩
    · have hev : ev = (db, da) := HEE.out
      have HEV := Lib.hid hev
      clear hev HEE
      go_wp2_with (go_at_call 28; (with_reducible refine (HIV.out _).mono ?_); rintro e w4 ⟨rfl, rfl⟩)
      (try simp only [Exit.inBlock, Exit.then])
      have hq9 := (((HF3.out.other (a := ⟨q, 0, none⟩) hqr (.int .u64 (db : Int))).other (a := ⟨q, 1, none⟩) hqr (.int .u64 (da : Int))).set 0 (.int .u64 (db : Int))).set 1 (.int .u64 (da : Int))
      refine bodyPost_ret (results_cell_row rfl _ _ _ _ _ _ _ rfl hq9 Tryz.underlying27 rfl (by kernel_rfl)) rfl ?_
      exact ⟨by rw [HEV.out]; rfl, BelW.set (BelW.set (BelW.set (BelW.set (joinB HB1.out HSV.out) hql _) hql _) hrl _) hrl _⟩
end Go.Proofs.YtemogllidmgbfaaGreatDoor

namespace Go.Proofs.YtemogllidmgbfaaGreatDoor
open Go.RowKit

/-- The cells of a list of words. -/
def flatW : List (Nat × Nat) → List Value
  | [] => []
  | x :: l => .int .u64 (x.1 : Int) :: .int .u64 (x.2 : Int) :: flatW l
theorem flatW_len (l : List (Nat × Nat)) : (flatW l).length = l.length * 2 := by
  induction l with
  | nil => rfl
  | cons x l ih => simp [flatW, ih]; omega
theorem flatW_get (l : List (Nat × Nat)) (k : Nat) : (flatW l)[k * 2]? = l[k]?.map (fun x => .int .u64 (x.1 : Int)) ∧ (flatW l)[k * 2 + 1]? = l[k]?.map (fun x => .int .u64 (x.2 : Int)) := by
  induction l generalizing k with
  | nil => simp [flatW]
  | cons x l ih =>
    cases k with
    | zero => simp [flatW]
    | succ k =>
      have e1 : (k + 1) * 2 = k * 2 + 1 + 1 := by omega
      have e2 : (k + 1) * 2 + 1 = k * 2 + 1 + 1 + 1 := by omega
      rw [e1]
      simp only [flatW, List.getElem?_cons_succ]
      exact ih k
theorem flatW_set (l : List (Nat × Nat)) (k : Nat) (x : Nat × Nat) : ((flatW l).set (k * 2) (.int .u64 (x.1 : Int))).set (k * 2 + 1) (.int .u64 (x.2 : Int)) = flatW (l.set k x) := by
  induction l generalizing k with
  | nil => simp [flatW]
  | cons y l ih =>
    cases k with
    | zero => simp [flatW]
    | succ k =>
      have e1 : (k + 1) * 2 = k * 2 + 1 + 1 := by omega
      rw [e1]
      simp only [flatW, List.set_cons_succ]
      rw [ih k]
theorem flatW_zero (n : Nat) : (madeCells #[Value.int .u64 0, Value.int .u64 0] (n * 2)).toList = flatW (List.replicate n (0, 0)) := by
  apply List.ext_getElem?
  intro j
  by_cases hj : j < n * 2
  · obtain ⟨k, hk⟩ : ∃ k, j = k * 2 ∨ j = k * 2 + 1 := ⟨j / 2, by omega⟩
    have hkn : k < n := by omega
    rcases hk with rfl | rfl
    · rw [(flatW_get _ k).1]
      simp [madeCells, hj, hkn]
    · rw [(flatW_get _ k).2]
      have : (k * 2 + 1) % 2 = 1 := by omega
      simp [madeCells, hj, hkn, this]
  · rw [List.getElem?_eq_none (by simp [madeCells]; omega), List.getElem?_eq_none (by rw [flatW_len]; simp; omega)]
/-- Block g is the row of the words l. -/
def WRow (w : World) (g : Nat) (l : List (Nat × Nat)) : Prop := Fr w g 27 (flatW l) ∧ l.length ≤ maxLen
theorem WRow.lt {w : World} {g : Nat} {l : List (Nat × Nat)} (h : WRow w g l) : g < w.heap.size := h.1.lt
theorem WRow.below {w w' : World} {g : Nat} {l : List (Nat × Nat)} (h : WRow w g l) (hb : BelW w w') : WRow w' g l := ⟨h.1.below hb, h.2⟩
theorem WRow.cell {w : World} {g : Nat} {l : List (Nat × Nat)} (h : WRow w g l) {k : Nat} (hk : k < l.length) :
    w.cell? ⟨g, k * 2, none⟩ = some (.int .u64 ((l.getD k (0, 0)).1 : Int)) ∧ w.cell? ⟨g, k * 2 + 1, none⟩ = some (.int .u64 ((l.getD k (0, 0)).2 : Int)) := by
  have e : l[k]? = some (l.getD k (0, 0)) := by rw [List.getD_eq_getElem?_getD, List.getElem?_eq_getElem hk]; rfl
  rw [h.1.cell, h.1.cell, (flatW_get l k).1, (flatW_get l k).2, e]
  exact ⟨rfl, rfl⟩
theorem WRow.frozen {w : World} {g : Nat} {l : List (Nat × Nat)} (h : WRow w g l) (j : Nat) : w.frozen? ⟨g, j, none⟩ = false := h.1.frozen j
theorem WRow.set {w : World} {g : Nat} {l : List (Nat × Nat)} (h : WRow w g l) (k : Nat) (x : Nat × Nat) :
    WRow ((w.setCell ⟨g, k * 2, none⟩ (.int .u64 (x.1 : Int))).setCell ⟨g, k * 2 + 1, none⟩ (.int .u64 (x.2 : Int))) g (l.set k x) := by
  refine ⟨?_, by rw [List.length_set]; exact h.2⟩
  rw [← flatW_set]
  exact (h.1.set _ _).set _ _
theorem WRow.wd {w : World} {g : Nat} {l : List (Nat × Nat)} (h : WRow w g l) (hv : ∀ k, k < l.length → W64 (l.getD k (0, 0)).1 ∧ W64 (l.getD k (0, 0)).2) : Wd w w.heap.size (.slice (some ⟨g, 0, none⟩) l.length l.length) l :=
  ⟨_, g, 0, _, rfl, fun _ => rfl, Nat.le_refl _, h.2, fun k hk => ⟨h.lt, by
    obtain ⟨h1, h2⟩ := h.cell hk
    rw [Nat.zero_add]
    exact ⟨h1, h2, (hv k hk).1, (hv k hk).2⟩⟩⟩
theorem WRow.of {w : World} {B g n : Nat} {l : List (Nat × Nat)} (h : w.ownsRow B 27 2 (.slice (some ⟨g, 0, none⟩) n n) n (flatW l)) (hl : l.length = n) : WRow w g l := by
  subst hl
  rcases h.2 with ⟨e, -⟩ | ⟨g', cap, cur, e, hb', hg', hle, hmx, hs', ht'⟩
  · cases e
  · simp only [Value.slice.injEq, Option.some.injEq, Addr.mk.injEq] at e
    obtain ⟨⟨rfl, -⟩, -, rfl⟩ := e
    refine ⟨?_, hmx⟩
    unfold Fr
    rw [hg']
    have e : cur.toList = flatW l := by rw [← ht', List.take_of_length_le (by simp [hs'])]
    rw [← e, Array.toArray_toList]
theorem info_word : (Tryz.prog.info? 27).map (fun i => (i.zero, i.size, i.bytes)) = some (some (.agg #[.int .u64 0, .int .u64 0]), 2, 16) := by kernel_rfl
/-- The first k of m words picked. -/
def pkW (nets : List (Nat × Nat)) (L : List Int) (m k : Nat) : List (Nat × Nat) := (List.range m).map fun i => if i < k then nets.getD (L.getD i 0).toNat (0, 0) else (0, 0)
theorem pkW_len (nets : List (Nat × Nat)) (L : List Int) (m k : Nat) : (pkW nets L m k).length = m := by simp [pkW]
theorem pkW_zero (nets : List (Nat × Nat)) (L : List Int) (m : Nat) : pkW nets L m 0 = List.replicate m (0, 0) := by
  apply List.ext_getElem?
  intro i
  by_cases h : i < m
  · simp [pkW, h]
  · rw [List.getElem?_eq_none (by rw [pkW_len]; omega), List.getElem?_eq_none (by simp; omega)]
theorem pkW_succ {nets : List (Nat × Nat)} {L : List Int} {m k : Nat} (hk : k < m) : pkW nets L m (k + 1) = (pkW nets L m k).set k (nets.getD (L.getD k 0).toNat (0, 0)) := by
  apply List.ext_getElem?
  intro i
  rw [List.getElem?_set, pkW_len]
  by_cases h : i < m
  · by_cases e : k = i
    · subst e; simp [pkW, h]
    · rw [if_neg e]
      have : (i < k + 1) = (i < k) := by rw [eq_iff_iff]; omega
      simp [pkW, h, this]
  · rw [List.getElem?_eq_none (by rw [pkW_len]; omega)]
    by_cases e : k = i
    · omega
    · rw [if_neg e, List.getElem?_eq_none (by rw [pkW_len]; omega)]
theorem pkW_all (nets : List (Nat × Nat)) (L : List Int) : pkW nets L L.length L.length = L.map fun x => nets.getD x.toNat (0, 0) := by
  apply List.ext_getElem?
  intro i
  by_cases h : i < L.length
  · simp [pkW, h, List.getD_eq_getElem?_getD]
  · rw [List.getElem?_eq_none (by rw [pkW_len]; omega), List.getElem?_eq_none (by simp; omega)]
set_option maxRecDepth 100000 in
set_option maxHeartbeats 4000000 in
theorem wordsof_any (nets : List (Nat × Nat)) (L : List Int) (A : Option Addr) (n cl : Nat) (v : Value) (w : World) (B : Nat) (hB : B ≤ w.heap.size) (hs : Wd w B (.slice A n cl) nets) (hi : Is w B v L) (hin : ∀ k, k < L.length → 0 ≤ L.getD k 0 ∧ L.getD k 0 < (n : Int)) (hsz : L.length ≤ 1000000) :
    Calls Tryz.prog 85 #[.slice A n cl, v] w fun e w' => ∃ g, e = .returned (.slice (some ⟨g, 0, none⟩) L.length L.length) ∧ WRow w' g (L.map fun x => nets.getD x.toNat (0, 0)) ∧ w.heap.size ≤ g ∧ BelW w w' := by
  obtain ⟨A', b, o, c', e, hA, -, -, hc⟩ := id hs
  simp only [Value.slice.injEq] at e
  obtain ⟨rfl, hml, rfl⟩ := e
  rw [← hml] at hA hc
  obtain ⟨A2, b2, o2, c2, rfl, hA2, -, -, hc2⟩ := hi.opens
  obtain ⟨m, HM⟩ := named L.length
  have HPA := Lib.hid (show pkW nets L m m = L.map fun x => nets.getD x.toNat (0, 0) by rw [HM.out]; exact pkW_all nets L)
  rw [← HM.out] at hA2 hc2 hin hsz
  rw [← HM.out, ← HPA.out]
  have HA := Lib.hid hA
  have HA2 := Lib.hid hA2
  have HC : Hid (∀ W, BelW w W → ∀ k, k < n → W.cell? ⟨b, o + k * 2, none⟩ = some (.int .u64 ((nets.getD k (0, 0)).1 : Int)) ∧ W.cell? ⟨b, o + k * 2 + 1, none⟩ = some (.int .u64 ((nets.getD k (0, 0)).2 : Int))) := Lib.hid fun W h k hk => by
    obtain ⟨hb, h0, h1, h2, h3⟩ := hc k hk
    exact ⟨(Below.cell h (p := ⟨b, _, none⟩) (Nat.lt_of_lt_of_le hb hB)).trans h0, (Below.cell h (p := ⟨b, _, none⟩) (Nat.lt_of_lt_of_le hb hB)).trans h1⟩
  have HC2 : Hid (∀ W, BelW w W → ∀ k, k < m → ∃ y : Nat, (L.getD k 0).toNat = y ∧ y < n ∧ W.cell? ⟨b2, o2 + k, none⟩ = some (.int .i64 (y : Int))) := Lib.hid fun W h k hk => by
    obtain ⟨hb, h0⟩ := hc2 k hk
    obtain ⟨p0, p1⟩ := hin k hk
    refine ⟨(L.getD k 0).toNat, rfl, by omega, ?_⟩
    rw [Int.toNat_of_nonneg p0]
    exact (Below.cell h (p := ⟨b2, _, none⟩) (Nat.lt_of_lt_of_le hb hB)).trans h0
  obtain ⟨i0, hi0, hz0, hz1, hz2⟩ := info_parts info_word
  have HI := Lib.hid (And.intro hi0 (And.intro hz0 (And.intro hz1 hz2)))
  clear hi0 hz0 hz1 hz2 hs hi hA hc hml hA2 hc2 hin
  go_enter Tryz.func85, Tryz.ntmps85
  go_wp2_with (at_make; refine wpList_make_full _ rfl _ _ 23 rfl w.heap.size 27 i0 (.agg #[.int .u64 0, .int .u64 0]) 2 Tryz.underlying23 HI.out.1 HI.out.2.1 HI.out.2.2.1 .i64 .i64 _ _ m rfl rfl rfl rfl ?b2 ?b3 ?b4 ?_)
  case b2 => rw [HI.out.2.2.2]; omega
  case b3 => unfold maxLen; omega
  case b4 => exact Nat.le_refl _
  intro w1 hown hgr
  rw [flatW_zero] at hown
  have hv : WRow w1 w.heap.size (List.replicate m (0, 0)) := WRow.of hown (by simp)
  have hb : BelW w w1 := (Below.refl _ _).grown hgr (Nat.le_refl _) (fun k h => by cases h)
  have HV := Lib.hid hv
  have HB := Lib.hid hb
  obtain ⟨g, HG⟩ := named w.heap.size
  rw [← HG.out] at HV
  rw [← HG.out]
  have hgl : w.heap.size ≤ g := by rw [HG.out]; exact Nat.le_refl _
  clear hown hgr hv hb
  go_wp2
  go_loopw [13] (fun j wr => ∃ k : Nat, k ≤ m ∧ j = .int .i64 k ∧ WRow wr g (pkW nets L m k) ∧ BelW w wr) (fun j _ => m - (intOf j).toNat)
  case atStart => exact ⟨0, Nat.zero_le _, rfl, by rw [pkW_zero]; exact HV.out, HB.out⟩
  case round =>
    obtain ⟨k, hk, rfl, hv, hb⟩ := hrel
    have HVR := Lib.hid hv
    have HBR := Lib.hid hb
    by_cases hlt : k < m
    · obtain rfl := HA2.out (by omega)
      obtain ⟨y, hy, hyn, f2⟩ := HC2.out wr hb k hlt
      obtain rfl := HA.out (by omega)
      obtain ⟨f0, f1⟩ := HC.out wr hb y hyn
      have hgw : g < wr.heap.size := hv.lt
      have HNL := Lib.hid (pkW_succ (nets := nets) (L := L) hlt)
      rw [hy] at HNL
      have HLO := Lib.hid (show k < (pkW nets L m k).length by rw [pkW_len]; exact hlt)
      obtain ⟨p, HP⟩ := named (nets.getD y (0, 0))
      rw [← HP.out] at f0 f1 HNL
      obtain ⟨q0, q1⟩ := hv.cell HLO.out
      have q2 := hv.frozen (k * 2)
      have q3 := hv.frozen (k * 2 + 1)
      clear hv hb hy
      go_wp2
      go_roundw
      case rel => exact ⟨k + 1, by omega, by go_num, by rw [HNL.out]; exact HVR.out.set k p, BelW.set (BelW.set HBR.out hgl _) hgl _⟩
      case measure => simp [intOf]; omega
    · obtain rfl : m = k := by omega
      clear hv hb
      go_wp2
      go_ret
      exact ⟨g, rfl, HVR.out, hgl, HBR.out⟩
end Go.Proofs.YtemogllidmgbfaaGreatDoor
