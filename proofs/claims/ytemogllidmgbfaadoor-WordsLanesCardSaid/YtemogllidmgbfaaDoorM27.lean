/- The texts Wd2 Wev. -/
import Derived.Test.YtemogllidmgbfaaDoorM26
import Derived.Test.YtemogllidmgbfaaDoorM14
namespace Go.Proofs.YtemogllidmgbfaaDoor
open Go.RowKit

set_option maxRecDepth 100000 in
set_option maxHeartbeats 4000000 in
theorem dir_11 (l : List (Nat × Nat)) (A : Option Addr) (n cl : Nat) (w : World) (B : Nat) (hB : B ≤ w.heap.size) (hf : Ft w) (hs : Wd w B (.slice A n cl) l) (h1 : 3 ≤ n) :
    Calls Tryd.prog 20 #[.int .u8 11, .slice A n cl] w fun e w' => e = .returned (wv (dirW 11 l n).1 (dirW 11 l n).2) ∧ BelW w w' := by
  obtain ⟨W1, HW1⟩ := named (w.alloc (.cells #[.int .u64 0, .int .u64 0] 25))
  have hb1 : BelW w W1 := by rw [HW1.out]; exact below_new (Below.refl _ _) _
  have hfr : Fr W1 w.heap.size 25 [.int .u64 0, .int .u64 0] := by rw [HW1.out]; exact Fr.made _ _ _ rfl
  obtain ⟨r, HR⟩ := named w.heap.size
  rw [← HR.out] at hfr
  have hrl : w.heap.size ≤ r := by rw [HR.out]; exact Nat.le_refl _
  obtain ⟨A', b, o, c', e, hA, hle, hm, hc⟩ := id hs
  simp only [Value.slice.injEq] at e
  obtain ⟨rfl, hml, rfl⟩ := e
  obtain rfl := hA (by omega)
  have hw0 := hc 0 (by omega)
  have f0a : W1.cell? ⟨b, o, none⟩ = some (.int .u64 ((l.getD 0 (0, 0)).1 : Int)) := (Below.cell hb1 (p := ⟨b, o, none⟩) (Nat.lt_of_lt_of_le hw0.1 hB)).trans hw0.2.1
  have f0b : W1.cell? ⟨b, o + 1, none⟩ = some (.int .u64 ((l.getD 0 (0, 0)).2 : Int)) := (Below.cell hb1 (p := ⟨b, o + 1, none⟩) (Nat.lt_of_lt_of_le hw0.1 hB)).trans hw0.2.2.1
  have u0a := hw0.2.2.2.1
  have u0b := hw0.2.2.2.2
  have hw1 := hc 1 (by omega)
  have f1a : W1.cell? ⟨b, o + 2, none⟩ = some (.int .u64 ((l.getD 1 (0, 0)).1 : Int)) := (Below.cell hb1 (p := ⟨b, o + 2, none⟩) (Nat.lt_of_lt_of_le hw1.1 hB)).trans hw1.2.1
  have f1b : W1.cell? ⟨b, o + 2 + 1, none⟩ = some (.int .u64 ((l.getD 1 (0, 0)).2 : Int)) := (Below.cell hb1 (p := ⟨b, o + 2 + 1, none⟩) (Nat.lt_of_lt_of_le hw1.1 hB)).trans hw1.2.2.1
  have u1a := hw1.2.2.2.1
  have u1b := hw1.2.2.2.2
  have hw2 := hc 2 (by omega)
  have f2a : W1.cell? ⟨b, o + 4, none⟩ = some (.int .u64 ((l.getD 2 (0, 0)).1 : Int)) := (Below.cell hb1 (p := ⟨b, o + 4, none⟩) (Nat.lt_of_lt_of_le hw2.1 hB)).trans hw2.2.1
  have f2b : W1.cell? ⟨b, o + 4 + 1, none⟩ = some (.int .u64 ((l.getD 2 (0, 0)).2 : Int)) := (Below.cell hb1 (p := ⟨b, o + 4 + 1, none⟩) (Nat.lt_of_lt_of_le hw2.1 hB)).trans hw2.2.2.1
  have u2a := hw2.2.2.2.1
  have u2b := hw2.2.2.2.2
  have hbr : b ≠ r := by have := hw0.1; omega
  have hv : dirW 11 l n = (muN (rdW (l.getD 0 (0, 0))).1 (rdW (l.getD 0 (0, 0))).2 (rdW (l.getD 1 (0, 0))).1 (rdW (l.getD 2 (0, 0))).1, muN (rdW (l.getD 0 (0, 0))).1 (rdW (l.getD 0 (0, 0))).2 (rdW (l.getD 1 (0, 0))).2 (rdW (l.getD 2 (0, 0))).2) := rfl
  rw [hv]
  obtain ⟨x0, HX0⟩ := named (l.getD 0 (0, 0)).1
  obtain ⟨y0, HY0⟩ := named (l.getD 0 (0, 0)).2
  rw [← HX0.out] at f0a u0a
  rw [← HY0.out] at f0b u0b
  obtain ⟨x1, HX1⟩ := named (l.getD 1 (0, 0)).1
  obtain ⟨y1, HY1⟩ := named (l.getD 1 (0, 0)).2
  rw [← HX1.out] at f1a u1a
  rw [← HY1.out] at f1b u1b
  obtain ⟨x2, HX2⟩ := named (l.getD 2 (0, 0)).1
  obtain ⟨y2, HY2⟩ := named (l.getD 2 (0, 0)).2
  rw [← HX2.out] at f2a u2a
  rw [← HY2.out] at f2b u2b
  unfold rdW
  try simp only []
  rw [← HX0.out, ← HY0.out]
  rw [← HX1.out, ← HY1.out]
  rw [← HX2.out, ← HY2.out]
  have a0a := u0a.anot (b := y0)
  have a0b := u0b.anot (b := x0)
  have a1a := u1a.anot (b := y1)
  have a1b := u1b.anot (b := x1)
  have a2a := u2a.anot (b := y2)
  have a2b := u2b.anot (b := x2)
  have hm9 : ∀ W, Calls Tryd.prog 30 #[wv (anot x0 y0) (anot y0 x0), wv (anot x1 y1) (anot y1 x1), wv (anot x2 y2) (anot y2 x2)] W fun e w' => e = .returned (wv (muN (anot x0 y0) (anot y0 x0) (anot x1 y1) (anot x2 y2)) (muN (anot x0 y0) (anot y0 x0) (anot y1 x1) (anot y2 x2))) ∧ BelW W w' := fun W => wmux_any (anot x0 y0) (anot y0 x0) (anot x1 y1) (anot y1 x1) (anot x2 y2) (anot y2 x2) a0a a0b a1a a1b a2a a2b W
  have hre : ∀ a b W, W64 a → W64 b → Calls Tryd.prog 26 #[wv a b] W fun e w' => e = .returned (wv (anot a b) (anot b a)) ∧ BelW W w' := fun a b W ha hb => read_any a b ha hb W
  obtain ⟨va, HVA⟩ := named (muN (anot x0 y0) (anot y0 x0) (anot x1 y1) (anot x2 y2))
  obtain ⟨vb, HVB⟩ := named (muN (anot x0 y0) (anot y0 x0) (anot y1 x1) (anot y2 x2))
  rw [← HVA.out, ← HVB.out] at hm9
  rw [← HVA.out, ← HVB.out]
  have HFR := Lib.hid (fun W (h : BelW W1 W) => hfr.below h)
  have HB1 := Lib.hid hb1
  have HCE : Hid (∀ w', BelW W1 w' → w'.cell? ⟨b, o, none⟩ = some (.int .u64 (x0 : Int)) ∧ w'.cell? ⟨b, o + 1, none⟩ = some (.int .u64 (y0 : Int)) ∧ w'.cell? ⟨b, o + 2, none⟩ = some (.int .u64 (x1 : Int)) ∧ w'.cell? ⟨b, o + 2 + 1, none⟩ = some (.int .u64 (y1 : Int)) ∧ w'.cell? ⟨b, o + 4, none⟩ = some (.int .u64 (x2 : Int)) ∧ w'.cell? ⟨b, o + 4 + 1, none⟩ = some (.int .u64 (y2 : Int))) := Lib.hid fun w' h => ⟨(Below.cell h (p := ⟨b, o, none⟩) (cell_lt f0a)).trans f0a, (Below.cell h (p := ⟨b, o + 1, none⟩) (cell_lt f0b)).trans f0b, (Below.cell h (p := ⟨b, o + 2, none⟩) (cell_lt f1a)).trans f1a, (Below.cell h (p := ⟨b, o + 2 + 1, none⟩) (cell_lt f1b)).trans f1b, (Below.cell h (p := ⟨b, o + 4, none⟩) (cell_lt f2a)).trans f2a, (Below.cell h (p := ⟨b, o + 4 + 1, none⟩) (cell_lt f2b)).trans f2b⟩
  have HCS : Hid (∀ w', BelW W1 w' → ∀ u v, ((w'.setCell ⟨r, 0, none⟩ u).setCell ⟨r, 1, none⟩ v).cell? ⟨b, o, none⟩ = some (.int .u64 (x0 : Int)) ∧ ((w'.setCell ⟨r, 0, none⟩ u).setCell ⟨r, 1, none⟩ v).cell? ⟨b, o + 1, none⟩ = some (.int .u64 (y0 : Int)) ∧ ((w'.setCell ⟨r, 0, none⟩ u).setCell ⟨r, 1, none⟩ v).cell? ⟨b, o + 2, none⟩ = some (.int .u64 (x1 : Int)) ∧ ((w'.setCell ⟨r, 0, none⟩ u).setCell ⟨r, 1, none⟩ v).cell? ⟨b, o + 2 + 1, none⟩ = some (.int .u64 (y1 : Int)) ∧ ((w'.setCell ⟨r, 0, none⟩ u).setCell ⟨r, 1, none⟩ v).cell? ⟨b, o + 4, none⟩ = some (.int .u64 (x2 : Int)) ∧ ((w'.setCell ⟨r, 0, none⟩ u).setCell ⟨r, 1, none⟩ v).cell? ⟨b, o + 4 + 1, none⟩ = some (.int .u64 (y2 : Int))) := Lib.hid fun w' h u v => by
    obtain ⟨c0a, c0b, c1a, c1b, c2a, c2b⟩ := HCE.out w' h
    exact ⟨((World.cell?_setCell_other _ _ _ _ (by simp [hbr])).trans (World.cell?_setCell_other _ _ _ _ (by simp [hbr]))).trans c0a, ((World.cell?_setCell_other _ _ _ _ (by simp [hbr])).trans (World.cell?_setCell_other _ _ _ _ (by simp [hbr]))).trans c0b, ((World.cell?_setCell_other _ _ _ _ (by simp [hbr])).trans (World.cell?_setCell_other _ _ _ _ (by simp [hbr]))).trans c1a, ((World.cell?_setCell_other _ _ _ _ (by simp [hbr])).trans (World.cell?_setCell_other _ _ _ _ (by simp [hbr]))).trans c1b, ((World.cell?_setCell_other _ _ _ _ (by simp [hbr])).trans (World.cell?_setCell_other _ _ _ _ (by simp [hbr]))).trans c2a, ((World.cell?_setCell_other _ _ _ _ (by simp [hbr])).trans (World.cell?_setCell_other _ _ _ _ (by simp [hbr]))).trans c2b⟩
  clear hfr hb1 hf hs hc hm hle hA hw0 f0a f0b HX0 HY0 hw1 f1a f1b HX1 HY1 hw2 f2a f2b HX2 HY2 HVA HVB hv
  unfold wv at *
  have HMX := Lib.hid hm9
  have HRE := Lib.hid hre
  have hs0 : BelW W1 W1 := Below.refl _ _
  have hI0 : (0 : Int) < (l.length : Int) := by omega
  have hI1 : (1 : Int) < (l.length : Int) := by omega
  have hI2 : (2 : Int) < (l.length : Int) := by omega
  have hN0 : 0 < l.length := by omega
  clear hm9 hre
  go_enter Tryd.func20, Tryd.ntmps20
  go_upto_region 1 with (fail)
  rw [← HW1.out, ← HR.out]
  go_wp2
  go_region_held3 (fun w' => w'.cell? ⟨b, o, none⟩ = some (.int .u64 (x0 : Int)) ∧ w'.cell? ⟨b, o + 1, none⟩ = some (.int .u64 (y0 : Int)) ∧ w'.cell? ⟨b, o + 2, none⟩ = some (.int .u64 (x1 : Int)) ∧ w'.cell? ⟨b, o + 2 + 1, none⟩ = some (.int .u64 (y1 : Int)) ∧ w'.cell? ⟨b, o + 4, none⟩ = some (.int .u64 (x2 : Int)) ∧ w'.cell? ⟨b, o + 4 + 1, none⟩ = some (.int .u64 (y2 : Int)))
    ((first
      | (refine HCE.out _ ?_; first | (with_reducible assumption) | (refine BelW.drew ?_; with_reducible assumption))
      | (refine HCS.out _ ?_ _ _; first | (with_reducible assumption) | (refine BelW.drew ?_; with_reducible assumption))))
    (first
      | (go_at_call 26; (with_reducible refine Calls.mono (HRE.out _ _ _ ?_ ?_) ?_)
         · (with_reducible assumption)
         · (with_reducible assumption)
         rintro e wA ⟨rfl, hbA⟩
         have hsA : BelW W1 wA := (by refine BelW.next ?_ hbA; first | (with_reducible assumption) | (refine BelW.drew ?_; with_reducible assumption)))
      | (go_at_call 30; (with_reducible refine Calls.mono (HMX.out _) ?_)
         rintro e wM ⟨rfl, hbM⟩
         have hsM : BelW W1 wM := (by refine BelW.next ?_ hbM; first | (with_reducible assumption) | (refine BelW.drew ?_; with_reducible assumption))
         have hf2 := HFR.out _ hsM
         have z0 := hf2.cell 0
         have z1 := hf2.cell 1
         have z2 := hf2.frozen 0
         have z3 := hf2.frozen 1))
  (try simp only [Exit.inBlock, Exit.then])
  go_wp2
  (try simp only [Exit.inBlock, Exit.then])
  refine bodyPost_ret (results_cell_row rfl _ _ _ _ _ _ _ rfl ((hf2.set 0 _).set 1 _) Tryd.underlying25 rfl (by kernel_rfl)) rfl ?_
  exact ⟨rfl, BelW.set (BelW.set (joinB HB1.out hsM) hrl _) hrl _⟩
set_option maxRecDepth 100000 in
set_option maxHeartbeats 4000000 in
theorem dir_12 (l : List (Nat × Nat)) (A : Option Addr) (n cl : Nat) (w : World) (B : Nat) (hB : B ≤ w.heap.size) (hf : Ft w) (hs : Wd w B (.slice A n cl) l) (h1 : 2 ≤ n) :
    Calls Tryd.prog 20 #[.int .u8 12, .slice A n cl] w fun e w' => e = .returned (wv (dirW 12 l n).1 (dirW 12 l n).2) ∧ BelW w w' := by
  obtain ⟨W1, HW1⟩ := named (w.alloc (.cells #[.int .u64 0, .int .u64 0] 25))
  have hb1 : BelW w W1 := by rw [HW1.out]; exact below_new (Below.refl _ _) _
  have hfr : Fr W1 w.heap.size 25 [.int .u64 0, .int .u64 0] := by rw [HW1.out]; exact Fr.made _ _ _ rfl
  obtain ⟨r, HR⟩ := named w.heap.size
  rw [← HR.out] at hfr
  have hrl : w.heap.size ≤ r := by rw [HR.out]; exact Nat.le_refl _
  obtain ⟨A', b, o, c', e, hA, hle, hm, hc⟩ := id hs
  simp only [Value.slice.injEq] at e
  obtain ⟨rfl, hml, rfl⟩ := e
  obtain rfl := hA (by omega)
  have hw0 := hc 0 (by omega)
  have f0a : W1.cell? ⟨b, o, none⟩ = some (.int .u64 ((l.getD 0 (0, 0)).1 : Int)) := (Below.cell hb1 (p := ⟨b, o, none⟩) (Nat.lt_of_lt_of_le hw0.1 hB)).trans hw0.2.1
  have f0b : W1.cell? ⟨b, o + 1, none⟩ = some (.int .u64 ((l.getD 0 (0, 0)).2 : Int)) := (Below.cell hb1 (p := ⟨b, o + 1, none⟩) (Nat.lt_of_lt_of_le hw0.1 hB)).trans hw0.2.2.1
  have u0a := hw0.2.2.2.1
  have u0b := hw0.2.2.2.2
  have hw1 := hc 1 (by omega)
  have f1a : W1.cell? ⟨b, o + 2, none⟩ = some (.int .u64 ((l.getD 1 (0, 0)).1 : Int)) := (Below.cell hb1 (p := ⟨b, o + 2, none⟩) (Nat.lt_of_lt_of_le hw1.1 hB)).trans hw1.2.1
  have f1b : W1.cell? ⟨b, o + 2 + 1, none⟩ = some (.int .u64 ((l.getD 1 (0, 0)).2 : Int)) := (Below.cell hb1 (p := ⟨b, o + 2 + 1, none⟩) (Nat.lt_of_lt_of_le hw1.1 hB)).trans hw1.2.2.1
  have u1a := hw1.2.2.2.1
  have u1b := hw1.2.2.2.2
  have hbr : b ≠ r := by have := hw0.1; omega
  have hv : dirW 12 l n = (trN (rdW (l.getD 0 (0, 0))).2 (rdW (l.getD 0 (0, 0))).1 (rdW (l.getD 1 (0, 0))).1, trN (rdW (l.getD 0 (0, 0))).2 (rdW (l.getD 0 (0, 0))).1 (rdW (l.getD 1 (0, 0))).2) := rfl
  rw [hv]
  obtain ⟨x0, HX0⟩ := named (l.getD 0 (0, 0)).1
  obtain ⟨y0, HY0⟩ := named (l.getD 0 (0, 0)).2
  rw [← HX0.out] at f0a u0a
  rw [← HY0.out] at f0b u0b
  obtain ⟨x1, HX1⟩ := named (l.getD 1 (0, 0)).1
  obtain ⟨y1, HY1⟩ := named (l.getD 1 (0, 0)).2
  rw [← HX1.out] at f1a u1a
  rw [← HY1.out] at f1b u1b
  unfold rdW
  try simp only []
  rw [← HX0.out, ← HY0.out]
  rw [← HX1.out, ← HY1.out]
  have a0a := u0a.anot (b := y0)
  have a0b := u0b.anot (b := x0)
  have a1a := u1a.anot (b := y1)
  have a1b := u1b.anot (b := x1)
  have hm9 : ∀ W, Calls Tryd.prog 31 #[wv (anot x0 y0) (anot y0 x0), wv (anot x1 y1) (anot y1 x1)] W fun e w' => e = .returned (wv (trN (anot y0 x0) (anot x0 y0) (anot x1 y1)) (trN (anot y0 x0) (anot x0 y0) (anot y1 x1))) ∧ BelW W w' := fun W => wtri_any (anot x0 y0) (anot y0 x0) (anot x1 y1) (anot y1 x1) a0a a0b a1a a1b W
  have hre : ∀ a b W, W64 a → W64 b → Calls Tryd.prog 26 #[wv a b] W fun e w' => e = .returned (wv (anot a b) (anot b a)) ∧ BelW W w' := fun a b W ha hb => read_any a b ha hb W
  obtain ⟨va, HVA⟩ := named (trN (anot y0 x0) (anot x0 y0) (anot x1 y1))
  obtain ⟨vb, HVB⟩ := named (trN (anot y0 x0) (anot x0 y0) (anot y1 x1))
  rw [← HVA.out, ← HVB.out] at hm9
  rw [← HVA.out, ← HVB.out]
  have HFR := Lib.hid (fun W (h : BelW W1 W) => hfr.below h)
  have HB1 := Lib.hid hb1
  have HCE : Hid (∀ w', BelW W1 w' → w'.cell? ⟨b, o, none⟩ = some (.int .u64 (x0 : Int)) ∧ w'.cell? ⟨b, o + 1, none⟩ = some (.int .u64 (y0 : Int)) ∧ w'.cell? ⟨b, o + 2, none⟩ = some (.int .u64 (x1 : Int)) ∧ w'.cell? ⟨b, o + 2 + 1, none⟩ = some (.int .u64 (y1 : Int))) := Lib.hid fun w' h => ⟨(Below.cell h (p := ⟨b, o, none⟩) (cell_lt f0a)).trans f0a, (Below.cell h (p := ⟨b, o + 1, none⟩) (cell_lt f0b)).trans f0b, (Below.cell h (p := ⟨b, o + 2, none⟩) (cell_lt f1a)).trans f1a, (Below.cell h (p := ⟨b, o + 2 + 1, none⟩) (cell_lt f1b)).trans f1b⟩
  have HCS : Hid (∀ w', BelW W1 w' → ∀ u v, ((w'.setCell ⟨r, 0, none⟩ u).setCell ⟨r, 1, none⟩ v).cell? ⟨b, o, none⟩ = some (.int .u64 (x0 : Int)) ∧ ((w'.setCell ⟨r, 0, none⟩ u).setCell ⟨r, 1, none⟩ v).cell? ⟨b, o + 1, none⟩ = some (.int .u64 (y0 : Int)) ∧ ((w'.setCell ⟨r, 0, none⟩ u).setCell ⟨r, 1, none⟩ v).cell? ⟨b, o + 2, none⟩ = some (.int .u64 (x1 : Int)) ∧ ((w'.setCell ⟨r, 0, none⟩ u).setCell ⟨r, 1, none⟩ v).cell? ⟨b, o + 2 + 1, none⟩ = some (.int .u64 (y1 : Int))) := Lib.hid fun w' h u v => by
    obtain ⟨c0a, c0b, c1a, c1b⟩ := HCE.out w' h
    exact ⟨((World.cell?_setCell_other _ _ _ _ (by simp [hbr])).trans (World.cell?_setCell_other _ _ _ _ (by simp [hbr]))).trans c0a, ((World.cell?_setCell_other _ _ _ _ (by simp [hbr])).trans (World.cell?_setCell_other _ _ _ _ (by simp [hbr]))).trans c0b, ((World.cell?_setCell_other _ _ _ _ (by simp [hbr])).trans (World.cell?_setCell_other _ _ _ _ (by simp [hbr]))).trans c1a, ((World.cell?_setCell_other _ _ _ _ (by simp [hbr])).trans (World.cell?_setCell_other _ _ _ _ (by simp [hbr]))).trans c1b⟩
  clear hfr hb1 hf hs hc hm hle hA hw0 f0a f0b HX0 HY0 hw1 f1a f1b HX1 HY1 HVA HVB hv
  unfold wv at *
  have HMX := Lib.hid hm9
  have HRE := Lib.hid hre
  have hs0 : BelW W1 W1 := Below.refl _ _
  have hI0 : (0 : Int) < (l.length : Int) := by omega
  have hI1 : (1 : Int) < (l.length : Int) := by omega
  have hN0 : 0 < l.length := by omega
  clear hm9 hre
  go_enter Tryd.func20, Tryd.ntmps20
  go_upto_region 1 with (fail)
  rw [← HW1.out, ← HR.out]
  go_wp2
  go_region_held3 (fun w' => w'.cell? ⟨b, o, none⟩ = some (.int .u64 (x0 : Int)) ∧ w'.cell? ⟨b, o + 1, none⟩ = some (.int .u64 (y0 : Int)) ∧ w'.cell? ⟨b, o + 2, none⟩ = some (.int .u64 (x1 : Int)) ∧ w'.cell? ⟨b, o + 2 + 1, none⟩ = some (.int .u64 (y1 : Int)))
    ((first
      | (refine HCE.out _ ?_; first | (with_reducible assumption) | (refine BelW.drew ?_; with_reducible assumption))
      | (refine HCS.out _ ?_ _ _; first | (with_reducible assumption) | (refine BelW.drew ?_; with_reducible assumption))))
    (first
      | (go_at_call 26; (with_reducible refine Calls.mono (HRE.out _ _ _ ?_ ?_) ?_)
         · (with_reducible assumption)
         · (with_reducible assumption)
         rintro e wA ⟨rfl, hbA⟩
         have hsA : BelW W1 wA := (by refine BelW.next ?_ hbA; first | (with_reducible assumption) | (refine BelW.drew ?_; with_reducible assumption)))
      | (go_at_call 31; (with_reducible refine Calls.mono (HMX.out _) ?_)
         rintro e wM ⟨rfl, hbM⟩
         have hsM : BelW W1 wM := (by refine BelW.next ?_ hbM; first | (with_reducible assumption) | (refine BelW.drew ?_; with_reducible assumption))
         have hf2 := HFR.out _ hsM
         have z0 := hf2.cell 0
         have z1 := hf2.cell 1
         have z2 := hf2.frozen 0
         have z3 := hf2.frozen 1))
  (try simp only [Exit.inBlock, Exit.then])
  go_wp2
  (try simp only [Exit.inBlock, Exit.then])
  refine bodyPost_ret (results_cell_row rfl _ _ _ _ _ _ _ rfl ((hf2.set 0 _).set 1 _) Tryd.underlying25 rfl (by kernel_rfl)) rfl ?_
  exact ⟨rfl, BelW.set (BelW.set (joinB HB1.out hsM) hrl _) hrl _⟩
end Go.Proofs.YtemogllidmgbfaaDoor

namespace Go.Proofs.YtemogllidmgbfaaDoor
open Go.RowKit

theorem inv_invK (k : Int) : Proofs.YtemogllidmgbfaaDoor.inv k = invK k := by
  unfold Proofs.YtemogllidmgbfaaDoor.inv invK
  rw [Bool.eq_iff_iff]
  simp [or_assoc]
theorem in_range {k : Int} {n : Nat} (h0 : 0 ≤ k) (h : ¬ ((n : Int) < lo k ∨ Proofs.YtemogllidmgbfaaDoor.hi k < n)) : k = 0 ∨ k = 1 ∨ k = 2 ∨ k = 3 ∨ k = 4 ∨ k = 5 ∨ k = 6 ∨ k = 7 ∨ k = 8 ∨ k = 9 ∨ k = 10 ∨ k = 11 ∨ k = 12 ∨ k = 13 ∨ k = 14 ∨ k = 15 := by
  by_cases h15 : 15 < k
  · have e : Proofs.YtemogllidmgbfaaDoor.hi k = -1 := by simp [Proofs.YtemogllidmgbfaaDoor.hi, h15]
    exact absurd (.inr (by omega)) h
  · omega
set_option maxRecDepth 100000 in
set_option maxHeartbeats 4000000 in
theorem dir_0 (l : List (Nat × Nat)) (A : Option Addr) (n cl : Nat) (w : World) (B : Nat) (hB : B ≤ w.heap.size) (hf : Ft w) (hs : Wd w B (.slice A n cl) l) :
    Calls Tryd.prog 20 #[.int .u8 0, .slice A n cl] w fun e w' => e = .returned (wv (fA (cln 2)) (fB (cln 2))) ∧ BelW w w' := by
  obtain ⟨W1, HW1⟩ := named (w.alloc (.cells #[.int .u64 0, .int .u64 0] 25))
  have hb1 : BelW w W1 := by rw [HW1.out]; exact below_new (Below.refl _ _) _
  have hfr : Fr W1 w.heap.size 25 [.int .u64 0, .int .u64 0] := by rw [HW1.out]; exact Fr.made _ _ _ rfl
  obtain ⟨r, HR⟩ := named w.heap.size
  rw [← HR.out] at hfr
  have hrl : w.heap.size ≤ r := by rw [HR.out]; exact Nat.le_refl _
  have HFR := Lib.hid hfr
  have HB1 := Lib.hid hb1
  have HC := Lib.hid (fill_any 2 (by decide) W1 (hf.below hb1))
  clear hfr hb1 hf hs
  unfold wv at *
  go_enter Tryd.func20, Tryd.ntmps20
  go_upto_region 1 with (fail)
  rw [← HW1.out, ← HR.out]
  go_wp2_with (go_at_call 8; (with_reducible refine HC.out.mono ?_); rintro e w2 ⟨rfl, hb2⟩; have HB2 : Hid (BelW W1 w2) := Lib.hid hb2; have hf2 := HFR.out.below hb2; have z0 := hf2.cell 0; have z1 := hf2.cell 1; have z2 := hf2.frozen 0; have z3 := hf2.frozen 1; have HF2 := Lib.hid hf2; clear hb2 hf2)
  (try simp only [Exit.inBlock, Exit.then])
  refine bodyPost_ret (results_cell_row rfl _ _ _ _ _ _ _ rfl ((HF2.out.set 0 _).set 1 _) Tryd.underlying25 rfl (by kernel_rfl)) rfl ?_
  exact ⟨rfl, BelW.set (BelW.set (joinB HB1.out HB2.out) hrl _) hrl _⟩
set_option maxRecDepth 100000 in
set_option maxHeartbeats 4000000 in
theorem dir_14 (l : List (Nat × Nat)) (A : Option Addr) (n cl : Nat) (w : World) (B : Nat) (hB : B ≤ w.heap.size) (hf : Ft w) (hs : Wd w B (.slice A n cl) l) :
    Calls Tryd.prog 20 #[.int .u8 14, .slice A n cl] w fun e w' => e = .returned (wv (fA (cln 2)) (fB (cln 2))) ∧ BelW w w' := by
  obtain ⟨W1, HW1⟩ := named (w.alloc (.cells #[.int .u64 0, .int .u64 0] 25))
  have hb1 : BelW w W1 := by rw [HW1.out]; exact below_new (Below.refl _ _) _
  have hfr : Fr W1 w.heap.size 25 [.int .u64 0, .int .u64 0] := by rw [HW1.out]; exact Fr.made _ _ _ rfl
  obtain ⟨r, HR⟩ := named w.heap.size
  rw [← HR.out] at hfr
  have hrl : w.heap.size ≤ r := by rw [HR.out]; exact Nat.le_refl _
  have HFR := Lib.hid hfr
  have HB1 := Lib.hid hb1
  have HC := Lib.hid (fill_any 2 (by decide) W1 (hf.below hb1))
  clear hfr hb1 hf hs
  unfold wv at *
  go_enter Tryd.func20, Tryd.ntmps20
  go_upto_region 1 with (fail)
  rw [← HW1.out, ← HR.out]
  go_wp2_with (go_at_call 8; (with_reducible refine HC.out.mono ?_); rintro e w2 ⟨rfl, hb2⟩; have HB2 : Hid (BelW W1 w2) := Lib.hid hb2; have hf2 := HFR.out.below hb2; have z0 := hf2.cell 0; have z1 := hf2.cell 1; have z2 := hf2.frozen 0; have z3 := hf2.frozen 1; have HF2 := Lib.hid hf2; clear hb2 hf2)
  (try simp only [Exit.inBlock, Exit.then])
  refine bodyPost_ret (results_cell_row rfl _ _ _ _ _ _ _ rfl ((HF2.out.set 0 _).set 1 _) Tryd.underlying25 rfl (by kernel_rfl)) rfl ?_
  exact ⟨rfl, BelW.set (BelW.set (joinB HB1.out HB2.out) hrl _) hrl _⟩
set_option maxRecDepth 100000 in
set_option maxHeartbeats 4000000 in
theorem dir_15 (l : List (Nat × Nat)) (A : Option Addr) (n cl : Nat) (w : World) (B : Nat) (hB : B ≤ w.heap.size) (hf : Ft w) (hs : Wd w B (.slice A n cl) l) :
    Calls Tryd.prog 20 #[.int .u8 15, .slice A n cl] w fun e w' => e = .returned (wv (fA (cln 2)) (fB (cln 2))) ∧ BelW w w' := by
  obtain ⟨W1, HW1⟩ := named (w.alloc (.cells #[.int .u64 0, .int .u64 0] 25))
  have hb1 : BelW w W1 := by rw [HW1.out]; exact below_new (Below.refl _ _) _
  have hfr : Fr W1 w.heap.size 25 [.int .u64 0, .int .u64 0] := by rw [HW1.out]; exact Fr.made _ _ _ rfl
  obtain ⟨r, HR⟩ := named w.heap.size
  rw [← HR.out] at hfr
  have hrl : w.heap.size ≤ r := by rw [HR.out]; exact Nat.le_refl _
  have HFR := Lib.hid hfr
  have HB1 := Lib.hid hb1
  have HC := Lib.hid (fill_any 2 (by decide) W1 (hf.below hb1))
  clear hfr hb1 hf hs
  unfold wv at *
  go_enter Tryd.func20, Tryd.ntmps20
  go_upto_region 1 with (fail)
  rw [← HW1.out, ← HR.out]
  go_wp2_with (go_at_call 8; (with_reducible refine HC.out.mono ?_); rintro e w2 ⟨rfl, hb2⟩; have HB2 : Hid (BelW W1 w2) := Lib.hid hb2; have hf2 := HFR.out.below hb2; have z0 := hf2.cell 0; have z1 := hf2.cell 1; have z2 := hf2.frozen 0; have z3 := hf2.frozen 1; have HF2 := Lib.hid hf2; clear hb2 hf2)
  (try simp only [Exit.inBlock, Exit.then])
  refine bodyPost_ret (results_cell_row rfl _ _ _ _ _ _ _ rfl ((HF2.out.set 0 _).set 1 _) Tryd.underlying25 rfl (by kernel_rfl)) rfl ?_
  exact ⟨rfl, BelW.set (BelW.set (joinB HB1.out HB2.out) hrl _) hrl _⟩
theorem dir_all (k : Int) (h0 : 0 ≤ k) (l : List (Nat × Nat)) (A : Option Addr) (n cl : Nat) (w : World) (B : Nat) (hB : B ≤ w.heap.size) (hf : Ft w) (hs : Wd w B (.slice A n cl) l) (hr : ¬ ((n : Int) < lo k ∨ Proofs.YtemogllidmgbfaaDoor.hi k < n)) :
    Calls Tryd.prog 20 #[.int .u8 k, .slice A n cl] w fun e w' => e = .returned (wv (dirW k l n).1 (dirW k l n).2) ∧ BelW w w' := by
  rcases in_range h0 hr with rfl | rfl | rfl | rfl | rfl | rfl | rfl | rfl | rfl | rfl | rfl | rfl | rfl | rfl | rfl | rfl
  · exact dir_0 l A n cl w B hB hf hs
  · exact dir_1 l A n cl w B hB hf hs
  · exact dir_2 l A n cl w B hB hf hs
  · exact dir_3 l A n cl w B hB hf hs (by have : lo 3 = 1 := by decide
                                          omega)
  · exact dir_4 l A n cl w B hB hf hs (by have : lo 4 = 1 := by decide
                                          omega)
  · exact dir_5 l A n cl w B hB hf hs
  · exact dir_6 l A n cl w B hB hf hs
  · exact dir_7 l A n cl w B hB hf hs
  · exact dir_8 l A n cl w B hB hf hs
  · exact dir_9 l A n cl w B hB hf hs
  · exact dir_10 l A n cl w B hB hf hs
  · exact dir_11 l A n cl w B hB hf hs (by have : lo 11 = 3 := by decide
                                           omega)
  · exact dir_12 l A n cl w B hB hf hs (by have : lo 12 = 2 := by decide
                                           omega)
  · exact dir_13 l A n cl w B hB hf hs
  · exact dir_14 l A n cl w B hB hf hs
  · exact dir_15 l A n cl w B hB hf hs

set_option maxRecDepth 100000 in
set_option maxHeartbeats 4000000 in
theorem weval_any (k : Int) (h0 : 0 ≤ k) (l : List (Nat × Nat)) (A : Option Addr) (n cl : Nat) (w : World) (B : Nat) (hB : B ≤ w.heap.size) (hT : Lg.Tabs w) (hf : Ft w) (hs : Wd w B (.slice A n cl) l) :
    Calls Tryd.prog 14 #[.int .u8 k, .slice A n cl] w fun e w' => e = .returned (wv (evW k l).1 (evW k l).2) ∧ BelW w w' := by
  obtain ⟨A', b, o, c', e, -, -, hm, -⟩ := id hs
  simp only [Value.slice.injEq] at e
  obtain ⟨rfl, hml, rfl⟩ := e
  obtain ⟨W1, HW1⟩ := named (w.alloc (.cells #[.int .u64 0, .int .u64 0] 25))
  have hb1 : BelW w W1 := by rw [HW1.out]; exact below_new (Below.refl _ _) _
  have hfr : Fr W1 w.heap.size 25 [.int .u64 0, .int .u64 0] := by rw [HW1.out]; exact Fr.made _ _ _ rfl
  obtain ⟨r, HR⟩ := named w.heap.size
  rw [← HR.out] at hfr
  have hrl : w.heap.size ≤ r := by rw [HR.out]; exact Nat.le_refl _
  have HFN := Lib.hid (Lg.fanin_any k h0 W1 (hT.below hb1))
  have HFI := Lib.hid (fun W (h : BelW W1 W) => fill_any 2 (by decide) W (hf.below (joinB hb1 h)))
  have HDI : Hid (¬ ((n : Int) < lo k ∨ Proofs.YtemogllidmgbfaaDoor.hi k < n) → ∀ W, BelW W1 W → Calls Tryd.prog 20 #[.int .u8 k, .slice A n cl] W fun e w' => e = .returned (wv (dirW k l n).1 (dirW k l n).2) ∧ BelW W w') := Lib.hid fun hr W h =>
    dir_all k h0 l A n cl W B (Nat.le_trans hB (Below.size (joinB hb1 h))) (hf.below (joinB hb1 h)) (Arr.keep stays_word hs (Nat.le_refl _) fun _ hp => Below.cell (joinB hb1 h) (Nat.lt_of_lt_of_le hp hB)) hr
  have HIV := Lib.hid (fun w => Lg.inverts_any k w)
  have HE : Hid (evW k l = if (n : Int) < lo k ∨ Proofs.YtemogllidmgbfaaDoor.hi k < n then (fA 2, fB 2) else if Proofs.YtemogllidmgbfaaDoor.inv k = true then ((dirW k l n).2, (dirW k l n).1) else dirW k l n) := Lib.hid (by rw [inv_invK, hml]; rfl)
  have HFR := Lib.hid (fun W (h : BelW W1 W) => hfr.below h)
  have HB1 := Lib.hid hb1
  unfold maxLen at hm
  rw [← hml] at hm
  clear hT hf hs hfr hb1 hml
  obtain ⟨lok, HLO⟩ := named (lo k)
  obtain ⟨hik, HHI⟩ := named (Proofs.YtemogllidmgbfaaDoor.hi k)
  obtain ⟨iv, HINV⟩ := named (Proofs.YtemogllidmgbfaaDoor.inv k)
  obtain ⟨da, HDA⟩ := named (dirW k l n).1
  obtain ⟨db, HDB⟩ := named (dirW k l n).2
  rw [← HLO.out, ← HHI.out] at HFN HDI HE
  rw [← HINV.out] at HIV HE
  have hpr : dirW k l n = (da, db) := Prod.ext HDA.out.symm HDB.out.symm
  rw [hpr] at HDI HE
  obtain ⟨ev, HEV⟩ := named (evW k l)
  rw [← HEV.out] at HE
  rw [← HEV.out]
  have hs0 : BelW W1 W1 := Below.refl _ _
  clear HLO HHI HINV HDA HDB hpr HEV
  unfold wv at *
  go_enter Tryd.func14, Tryd.ntmps14
  go_upto_region 1 with (fail)
  rw [← HW1.out, ← HR.out]
  by_cases hr : (n : Int) < lok ∨ hik < n
  · have he : ev = (fA 2, fB 2) := by rw [HE.out, if_pos hr]
    have e2 : cln 2 = 2 := by decide
    rw [e2] at HFI
    have HEE := Lib.hid he
    by_cases hr1 : (n : Int) < lok
    all_goals
      first | (have hr2 : hik < n := by omega) | skip
      clear he hr
      go_wp2_with (first
        | (go_at_call 19; (with_reducible refine HFN.out.mono ?_); rintro e w2 ⟨rfl, q2, rfl⟩; have hs2 : BelW W1 (W1.drewN q2) := below_drewN hs0 q2)
        | (go_at_call 8; (with_reducible refine (HFI.out _ hs2).mono ?_); rintro e w3 ⟨rfl, hb3⟩; have hs3 : BelW W1 w3 := joinB hs2 hb3; have hf2 := HFR.out _ hs3; have z0 := hf2.cell 0; have z1 := hf2.cell 1; have z2 := hf2.frozen 0; have z3 := hf2.frozen 1; have HF2 := Lib.hid hf2; clear hb3 hf2))
      (try simp only [Exit.inBlock, Exit.then])
      refine bodyPost_ret (results_cell_row rfl _ _ _ _ _ _ _ rfl ((HF2.out.set 0 _).set 1 _) Tryd.underlying25 rfl (by kernel_rfl)) rfl ?_
      exact ⟨by rw [HEE.out]; rfl, BelW.set (BelW.set (joinB HB1.out hs3) hrl _) hrl _⟩
  · have hr1 : ¬ (n : Int) < lok := by omega
    have hr2 : ¬ hik < (n : Int) := by omega
    have HD := Lib.hid (HDI.out hr)
    have he : ev = if iv = true then (db, da) else (da, db) := by rw [HE.out, if_neg hr]
    have HEE := Lib.hid he
    clear he hr HE HDI
    go_upto_region 5 with (first
      | (go_at_call 19; (with_reducible refine HFN.out.mono ?_); rintro e w2 ⟨rfl, q2, rfl⟩; have hs2 : BelW W1 (W1.drewN q2) := below_drewN hs0 q2)
      | (go_at_call 20; (with_reducible refine (HD.out _ hs2).mono ?_); rintro e w3 ⟨rfl, hb3⟩; have hs3 : BelW W1 w3 := joinB hs2 hb3; clear hb3))
    obtain ⟨V3, HV3⟩ := named (w3.alloc (.cells #[.int .u64 (da : Int), .int .u64 (db : Int)] 25))
    have hn3 : BelW w3 V3 := by rw [HV3.out]; exact below_new (Below.refl _ _) _
    have hfv : Fr V3 w3.heap.size 25 [.int .u64 (da : Int), .int .u64 (db : Int)] := by rw [HV3.out]; exact Fr.made _ _ _ rfl
    have hrw : r < w3.heap.size := Nat.lt_of_lt_of_le (HFR.out W1 hs0).lt (Below.size hs3)
    obtain ⟨q, HQ⟩ := named w3.heap.size
    rw [← HQ.out] at hfv hrw
    rw [← HV3.out, ← HQ.out]
    have hsV : BelW W1 V3 := joinB hs3 hn3
    have hfr := HFR.out V3 hsV
    have hql : w.heap.size ≤ q := by omega
    have hqr : q ≠ r := by omega
    have hrq : r ≠ q := by omega
    have d0 := hfv.cell 0
    have d1 := hfv.cell 1
    have d2 := hfv.frozen 0
    have d3 := hfv.frozen 1
    have z0 := hfr.cell 0
    have z1 := hfr.cell 1
    have z2 := hfr.frozen 0
    have z3 := hfr.frozen 1
    have HF3 := Lib.hid hfr
    have HSV := Lib.hid hsV
    clear hn3 hfv hfr hsV hs3 hs0 HV3 HQ
    cases iv
    · have hev : ev = (da, db) := HEE.out
      have HEV := Lib.hid hev
      clear hev HEE
      go_wp2_with (go_at_call 21; (with_reducible refine (HIV.out _).mono ?_); rintro e w4 ⟨rfl, rfl⟩)
      (try simp only [Exit.inBlock, Exit.then])
      refine bodyPost_ret (results_cell_row rfl _ _ _ _ _ _ _ rfl ((HF3.out.set 0 _).set 1 _) Tryd.underlying25 rfl (by kernel_rfl)) rfl ?_
      exact ⟨by rw [HEV.out]; rfl, BelW.set (BelW.set (joinB HB1.out HSV.out) hrl _) hrl _⟩
    · have hev : ev = (db, da) := HEE.out
      have HEV := Lib.hid hev
      clear hev HEE
      go_wp2_with (go_at_call 21; (with_reducible refine (HIV.out _).mono ?_); rintro e w4 ⟨rfl, rfl⟩)
      (try simp only [Exit.inBlock, Exit.then])
      have hq9 := (((HF3.out.other (a := ⟨q, 0, none⟩) hqr (.int .u64 (db : Int))).other (a := ⟨q, 1, none⟩) hqr (.int .u64 (da : Int))).set 0 (.int .u64 (db : Int))).set 1 (.int .u64 (da : Int))
      refine bodyPost_ret (results_cell_row rfl _ _ _ _ _ _ _ rfl hq9 Tryd.underlying25 rfl (by kernel_rfl)) rfl ?_
      exact ⟨by rw [HEV.out]; rfl, BelW.set (BelW.set (BelW.set (BelW.set (joinB HB1.out HSV.out) hql _) hql _) hrl _) hrl _⟩
end Go.Proofs.YtemogllidmgbfaaDoor
