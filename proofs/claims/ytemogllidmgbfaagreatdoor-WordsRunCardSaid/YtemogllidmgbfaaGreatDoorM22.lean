/- The texts Wln Wdi Wl2 Wl3. -/
import Derived.Test.YtemogllidmgbfaaGreatDoorM20
import Derived.Test.YtemogllidmgbfaaGreatDoorM21
import Derived.Deep.RegionHeld3
namespace Go.Proofs.YtemogllidmgbfaaGreatDoor

/-- The value of word j of a list in lane i. -/
def vl (l : List (Nat × Nat)) (i j : Nat) : Int := lnV (l.getD j (0, 0)).1 (l.getD j (0, 0)).2 i
def lanes (l : List (Nat × Nat)) (i : Nat) : List Int := l.map fun x => lnV x.1 x.2 i
theorem lanes_len (l : List (Nat × Nat)) (i : Nat) : (lanes l i).length = l.length := by simp [lanes]
theorem lanes_at {l : List (Nat × Nat)} {i j : Nat} (hj : j < l.length) : (lanes l i).getD j 0 = vl l i j := by
  unfold lanes vl
  rw [List.getD_eq_getElem?_getD, List.getElem?_map, List.getElem?_eq_getElem hj, List.getD_eq_getElem?_getD, List.getElem?_eq_getElem hj]
  rfl
section
variable {l : List (Nat × Nat)} (hw : ∀ k, W64 (l.getD k (0, 0)).1 ∧ W64 (l.getD k (0, 0)).2) {i : Nat} (hi : i < 64)
include hw hi
theorem one_bit (j : Nat) : (anot (l.getD j (0, 0)).1 (l.getD j (0, 0)).2).testBit i = true ↔ rd (vl l i j) = 1 := by
  rw [anot_bit (hw j).2 hi]
  unfold vl
  rcases lnV_cases (l.getD j (0, 0)).1 (l.getD j (0, 0)).2 i with ⟨h1, h2, h⟩ | ⟨h1, h2, h⟩ | ⟨h1, h2, h⟩ | ⟨h1, h2, h⟩ <;> rw [h1, h2, h] <;> decide
theorem zero_bit (j : Nat) : (anot (l.getD j (0, 0)).2 (l.getD j (0, 0)).1).testBit i = true ↔ rd (vl l i j) = 0 := by
  rw [anot_bit (hw j).1 hi]
  unfold vl
  rcases lnV_cases (l.getD j (0, 0)).1 (l.getD j (0, 0)).2 i with ⟨h1, h2, h⟩ | ⟨h1, h2, h⟩ | ⟨h1, h2, h⟩ | ⟨h1, h2, h⟩ <;> rw [h1, h2, h] <;> decide
theorem anA_bit : ∀ k, (anA l k).testBit i = true ↔ ∀ j, j < k → rd (vl l i j) = 1
  | 0 => by
    show (18446744073709551615 : Nat).testBit i = true ↔ _
    rw [all_bit hi]
    exact ⟨fun _ j hj => absurd hj (by omega), fun _ => rfl⟩
  | k + 1 => by
    show (anA l k &&& anot (l.getD k (0, 0)).1 (l.getD k (0, 0)).2).testBit i = true ↔ _
    rw [Nat.testBit_and, Bool.and_eq_true, anA_bit k, one_bit hw hi k]
    exact ⟨fun ⟨h1, h2⟩ j hj => by
      by_cases e : j = k
      · subst e; exact h2
      · exact h1 j (by omega), fun h => ⟨fun j hj => h j (by omega), h k (by omega)⟩⟩
theorem anB_bit : ∀ k, (anB l k).testBit i = true ↔ ∃ j, j < k ∧ rd (vl l i j) = 0
  | 0 => by
    show (0 : Nat).testBit i = true ↔ _
    rw [Nat.zero_testBit]
    exact ⟨fun h => (by cases h), fun ⟨j, hj, _⟩ => absurd hj (by omega)⟩
  | k + 1 => by
    show (anB l k ||| anot (l.getD k (0, 0)).2 (l.getD k (0, 0)).1).testBit i = true ↔ _
    rw [Nat.testBit_or, Bool.or_eq_true, anB_bit k, zero_bit hw hi k]
    exact ⟨fun h => h.elim (fun ⟨j, hj, e⟩ => ⟨j, by omega, e⟩) (fun e => ⟨k, by omega, e⟩), fun ⟨j, hj, e⟩ => by
      by_cases h : j = k
      · subst h; exact .inr e
      · exact .inl ⟨j, by omega, e⟩⟩
theorem orA_bit : ∀ k, (orA l k).testBit i = true ↔ ∃ j, j < k ∧ rd (vl l i j) = 1
  | 0 => by
    show (0 : Nat).testBit i = true ↔ _
    rw [Nat.zero_testBit]
    exact ⟨fun h => (by cases h), fun ⟨j, hj, _⟩ => absurd hj (by omega)⟩
  | k + 1 => by
    show (orA l k ||| anot (l.getD k (0, 0)).1 (l.getD k (0, 0)).2).testBit i = true ↔ _
    rw [Nat.testBit_or, Bool.or_eq_true, orA_bit k, one_bit hw hi k]
    exact ⟨fun h => h.elim (fun ⟨j, hj, e⟩ => ⟨j, by omega, e⟩) (fun e => ⟨k, by omega, e⟩), fun ⟨j, hj, e⟩ => by
      by_cases h : j = k
      · subst h; exact .inr e
      · exact .inl ⟨j, by omega, e⟩⟩
theorem orB_bit : ∀ k, (orB l k).testBit i = true ↔ ∀ j, j < k → rd (vl l i j) = 0
  | 0 => by
    show (18446744073709551615 : Nat).testBit i = true ↔ _
    rw [all_bit hi]
    exact ⟨fun _ j hj => absurd hj (by omega), fun _ => rfl⟩
  | k + 1 => by
    show (orB l k &&& anot (l.getD k (0, 0)).2 (l.getD k (0, 0)).1).testBit i = true ↔ _
    rw [Nat.testBit_and, Bool.and_eq_true, orB_bit k, zero_bit hw hi k]
    exact ⟨fun ⟨h1, h2⟩ j hj => by
      by_cases e : j = k
      · subst e; exact h2
      · exact h1 j (by omega), fun h => ⟨fun j hj => h j (by omega), h k (by omega)⟩⟩
theorem any_iff (x : Int) : anyIs rd x (lanes l i) = true ↔ ∃ j, j < l.length ∧ rd (vl l i j) = x := by
  refine (fun (_ : True) => ?_) (have _u := hw; have _v := hi; trivial)
  constructor
  · intro h
    obtain ⟨v, hv, e⟩ := List.any_eq_true.1 h
    obtain ⟨j, hj, rfl⟩ := List.mem_iff_getElem.1 hv
    have hj' : j < l.length := by rw [← lanes_len l i]; exact hj
    refine ⟨j, hj', ?_⟩
    rw [← lanes_at hj', List.getD_eq_getElem?_getD, List.getElem?_eq_getElem hj]
    simpa using e
  · rintro ⟨j, hj, e⟩
    exact anyIs_yes j (by rw [lanes_len]; exact hj) (by rw [lanes_at hj, e]; simp)
theorem and_ln : lnV (anA l l.length) (anB l l.length) i = andL (lanes l i) := by
  have hA := anA_bit hw hi l.length
  have hB := anB_bit hw hi l.length
  have h0 := any_iff hw hi 0
  have h2 := any_iff hw hi 2
  unfold andL lnV
  by_cases c0 : ∃ j, j < l.length ∧ rd (vl l i j) = 0
  · rw [if_pos (h0.2 c0)]
    have hb := hB.2 c0
    have ha : ¬ (anA l l.length).testBit i = true := fun h => by
      obtain ⟨j, hj, e⟩ := c0
      have := hA.1 h j hj
      omega
    rw [if_neg ha, if_pos hb]
  · rw [if_neg (fun h => c0 (h0.1 h))]
    have hb : ¬ (anB l l.length).testBit i = true := fun h => c0 (hB.1 h)
    rw [if_neg hb, if_neg hb]
    by_cases c2 : ∃ j, j < l.length ∧ rd (vl l i j) = 2
    · rw [if_pos (h2.2 c2)]
      have ha : ¬ (anA l l.length).testBit i = true := fun h => by
        obtain ⟨j, hj, e⟩ := c2
        have := hA.1 h j hj
        omega
      rw [if_neg ha]
    · rw [if_neg (fun h => c2 (h2.1 h))]
      have ha : (anA l l.length).testBit i = true := hA.2 fun j hj => by
        rcases rd_cases (vl l i j) with e | e | e
        · exact absurd ⟨j, hj, e⟩ c0
        · exact e
        · exact absurd ⟨j, hj, e⟩ c2
      rw [if_pos ha]
theorem or_ln : lnV (orA l l.length) (orB l l.length) i = orL (lanes l i) := by
  have hA := orA_bit hw hi l.length
  have hB := orB_bit hw hi l.length
  have h1 := any_iff hw hi 1
  have h2 := any_iff hw hi 2
  unfold orL lnV
  by_cases c1 : ∃ j, j < l.length ∧ rd (vl l i j) = 1
  · rw [if_pos (h1.2 c1), if_pos (hA.2 c1)]
    have hb : ¬ (orB l l.length).testBit i = true := fun h => by
      obtain ⟨j, hj, e⟩ := c1
      have := hB.1 h j hj
      omega
    rw [if_neg hb]
  · rw [if_neg (fun h => c1 (h1.1 h)), if_neg (fun h => c1 (hA.1 h))]
    by_cases c2 : ∃ j, j < l.length ∧ rd (vl l i j) = 2
    · rw [if_pos (h2.2 c2)]
      have hb : ¬ (orB l l.length).testBit i = true := fun h => by
        obtain ⟨j, hj, e⟩ := c2
        have := hB.1 h j hj
        omega
      rw [if_neg hb]
    · rw [if_neg (fun h => c2 (h2.1 h))]
      have hb : (orB l l.length).testBit i = true := hB.2 fun j hj => by
        rcases rd_cases (vl l i j) with e | e | e
        · exact e
        · exact absurd ⟨j, hj, e⟩ c1
        · exact absurd ⟨j, hj, e⟩ c2
      rw [if_pos hb]
end
/-- tri and mux in a lane, of words that are read. -/
theorem tri_ln {a b c d i : Nat} (h1 : Sep a b) (h2 : Sep c d) (hi : i < 64) : lnV (trN b a c) (trN b a d) i = tr (lnV a b i) (lnV c d i) := by
  have s1 := h1 i hi
  have s2 := h2 i hi
  unfold trN lnV
  rw [Nat.testBit_or, Nat.testBit_and, Nat.testBit_or, Nat.testBit_and]
  revert s1 s2
  cases a.testBit i <;> cases b.testBit i <;> cases c.testBit i <;> cases d.testBit i <;> simp [tr, rd, knw]
theorem mux_ln {o z a b c d i : Nat} (h1 : Sep o z) (h2 : Sep a b) (h3 : Sep c d) (hi : i < 64) : lnV (muN o z a c) (muN o z b d) i = mx (lnV o z i) (lnV a b i) (lnV c d i) := by
  have s1 := h1 i hi
  have s2 := h2 i hi
  have s3 := h3 i hi
  unfold muN lnV
  simp only [Nat.testBit_or, Nat.testBit_and]
  revert s1 s2 s3
  cases o.testBit i <;> cases z.testBit i <;> cases a.testBit i <;> cases b.testBit i <;> cases c.testBit i <;> cases d.testBit i <;> simp [mx, rd, knw]
end Go.Proofs.YtemogllidmgbfaaGreatDoor

namespace Go.Proofs.YtemogllidmgbfaaGreatDoor
open Go.RowKit

/-- The function of a kind over words. -/
def dirN (k : Int) (l : List (Nat × Nat)) (n : Nat) : Nat × Nat :=
  if k = 1 then (fA 0, fB 0) else if k = 2 then (fA 1, fB 1)
  else if k = 3 ∨ k = 4 then (anot (l.getD 0 (0, 0)).1 (l.getD 0 (0, 0)).2, anot (l.getD 0 (0, 0)).2 (l.getD 0 (0, 0)).1)
  else if k = 5 ∨ k = 6 then (anA l n, anB l n) else if k = 7 ∨ k = 8 then (orA l n, orB l n) else if k = 9 ∨ k = 10 then (xoK l n &&& xoA l n, anot (xoK l n) (xoA l n))
  else if k = 13 then (buA l n, buB l n) else (fA 2, fB 2)
set_option maxRecDepth 100000 in
set_option maxHeartbeats 4000000 in
theorem dir_1 (l : List (Nat × Nat)) (A : Option Addr) (n cl : Nat) (w : World) (B : Nat) (hB : B ≤ w.heap.size) (hf : Ft w) (hs : Wd w B (.slice A n cl) l) :
    Calls Tryz.prog 27 #[.int .u8 1, .slice A n cl] w fun e w' => e = .returned (wv (fA (cln 0)) (fB (cln 0))) ∧ BelW w w' := by
  obtain ⟨W1, HW1⟩ := named (w.alloc (.cells #[.int .u64 0, .int .u64 0] 27))
  have hb1 : BelW w W1 := by rw [HW1.out]; exact below_new (Below.refl _ _) _
  have hfr : Fr W1 w.heap.size 27 [.int .u64 0, .int .u64 0] := by rw [HW1.out]; exact Fr.made _ _ _ rfl
  obtain ⟨r, HR⟩ := named w.heap.size
  rw [← HR.out] at hfr
  have hrl : w.heap.size ≤ r := by rw [HR.out]; exact Nat.le_refl _
  have HFR := Lib.hid hfr
  have HB1 := Lib.hid hb1
  have HC := Lib.hid (fill_any 0 (by decide) W1 (hf.below hb1))
  clear hfr hb1 hf hs
  unfold wv at *
  go_enter Tryz.func27, Tryz.ntmps27
  go_upto_region 1 with (fail)
  rw [← HW1.out, ← HR.out]
  go_wp2_with (go_at_call 22; (with_reducible refine HC.out.mono ?_); rintro e w2 ⟨rfl, hb2⟩; have HB2 : Hid (BelW W1 w2) := Lib.hid hb2; have hf2 := HFR.out.below hb2; have z0 := hf2.cell 0; have z1 := hf2.cell 1; have z2 := hf2.frozen 0; have z3 := hf2.frozen 1; have HF2 := Lib.hid hf2; clear hb2 hf2)
  (try simp only [Exit.inBlock, Exit.then])
  refine bodyPost_ret (results_cell_row rfl _ _ _ _ _ _ _ rfl ((HF2.out.set 0 _).set 1 _) Tryz.underlying27 rfl (by kernel_rfl)) rfl ?_
  exact ⟨rfl, BelW.set (BelW.set (joinB HB1.out HB2.out) hrl _) hrl _⟩
set_option maxRecDepth 100000 in
set_option maxHeartbeats 4000000 in
theorem dir_2 (l : List (Nat × Nat)) (A : Option Addr) (n cl : Nat) (w : World) (B : Nat) (hB : B ≤ w.heap.size) (hf : Ft w) (hs : Wd w B (.slice A n cl) l) :
    Calls Tryz.prog 27 #[.int .u8 2, .slice A n cl] w fun e w' => e = .returned (wv (fA (cln 1)) (fB (cln 1))) ∧ BelW w w' := by
  obtain ⟨W1, HW1⟩ := named (w.alloc (.cells #[.int .u64 0, .int .u64 0] 27))
  have hb1 : BelW w W1 := by rw [HW1.out]; exact below_new (Below.refl _ _) _
  have hfr : Fr W1 w.heap.size 27 [.int .u64 0, .int .u64 0] := by rw [HW1.out]; exact Fr.made _ _ _ rfl
  obtain ⟨r, HR⟩ := named w.heap.size
  rw [← HR.out] at hfr
  have hrl : w.heap.size ≤ r := by rw [HR.out]; exact Nat.le_refl _
  have HFR := Lib.hid hfr
  have HB1 := Lib.hid hb1
  have HC := Lib.hid (fill_any 1 (by decide) W1 (hf.below hb1))
  clear hfr hb1 hf hs
  unfold wv at *
  go_enter Tryz.func27, Tryz.ntmps27
  go_upto_region 1 with (fail)
  rw [← HW1.out, ← HR.out]
  go_wp2_with (go_at_call 22; (with_reducible refine HC.out.mono ?_); rintro e w2 ⟨rfl, hb2⟩; have HB2 : Hid (BelW W1 w2) := Lib.hid hb2; have hf2 := HFR.out.below hb2; have z0 := hf2.cell 0; have z1 := hf2.cell 1; have z2 := hf2.frozen 0; have z3 := hf2.frozen 1; have HF2 := Lib.hid hf2; clear hb2 hf2)
  (try simp only [Exit.inBlock, Exit.then])
  refine bodyPost_ret (results_cell_row rfl _ _ _ _ _ _ _ rfl ((HF2.out.set 0 _).set 1 _) Tryz.underlying27 rfl (by kernel_rfl)) rfl ?_
  exact ⟨rfl, BelW.set (BelW.set (joinB HB1.out HB2.out) hrl _) hrl _⟩
set_option maxRecDepth 100000 in
set_option maxHeartbeats 4000000 in
theorem dir_5 (l : List (Nat × Nat)) (A : Option Addr) (n cl : Nat) (w : World) (B : Nat) (hB : B ≤ w.heap.size) (hf : Ft w) (hs : Wd w B (.slice A n cl) l) :
    Calls Tryz.prog 27 #[.int .u8 5, .slice A n cl] w fun e w' => e = .returned (wv (anA l n) (anB l n)) ∧ BelW w w' := by
  obtain ⟨W1, HW1⟩ := named (w.alloc (.cells #[.int .u64 0, .int .u64 0] 27))
  have hb1 : BelW w W1 := by rw [HW1.out]; exact below_new (Below.refl _ _) _
  have hfr : Fr W1 w.heap.size 27 [.int .u64 0, .int .u64 0] := by rw [HW1.out]; exact Fr.made _ _ _ rfl
  obtain ⟨r, HR⟩ := named w.heap.size
  rw [← HR.out] at hfr
  have hrl : w.heap.size ≤ r := by rw [HR.out]; exact Nat.le_refl _
  have HFR := Lib.hid hfr
  have HB1 := Lib.hid hb1
  have HC := Lib.hid (wand_any l A n cl W1 B (Nat.le_trans hB (Below.size hb1)) (hf.below hb1) (Arr.keep stays_word hs (Nat.le_refl _) fun _ hp => Below.cell hb1 (Nat.lt_of_lt_of_le hp hB)))
  clear hfr hb1 hf hs
  unfold wv at *
  go_enter Tryz.func27, Tryz.ntmps27
  go_upto_region 1 with (fail)
  rw [← HW1.out, ← HR.out]
  go_wp2_with (go_at_call 69; (with_reducible refine HC.out.mono ?_); rintro e w2 ⟨rfl, hb2⟩; have HB2 : Hid (BelW W1 w2) := Lib.hid hb2; have hf2 := HFR.out.below hb2; have z0 := hf2.cell 0; have z1 := hf2.cell 1; have z2 := hf2.frozen 0; have z3 := hf2.frozen 1; have HF2 := Lib.hid hf2; clear hb2 hf2)
  (try simp only [Exit.inBlock, Exit.then])
  refine bodyPost_ret (results_cell_row rfl _ _ _ _ _ _ _ rfl ((HF2.out.set 0 _).set 1 _) Tryz.underlying27 rfl (by kernel_rfl)) rfl ?_
  exact ⟨rfl, BelW.set (BelW.set (joinB HB1.out HB2.out) hrl _) hrl _⟩
set_option maxRecDepth 100000 in
set_option maxHeartbeats 4000000 in
theorem dir_6 (l : List (Nat × Nat)) (A : Option Addr) (n cl : Nat) (w : World) (B : Nat) (hB : B ≤ w.heap.size) (hf : Ft w) (hs : Wd w B (.slice A n cl) l) :
    Calls Tryz.prog 27 #[.int .u8 6, .slice A n cl] w fun e w' => e = .returned (wv (anA l n) (anB l n)) ∧ BelW w w' := by
  obtain ⟨W1, HW1⟩ := named (w.alloc (.cells #[.int .u64 0, .int .u64 0] 27))
  have hb1 : BelW w W1 := by rw [HW1.out]; exact below_new (Below.refl _ _) _
  have hfr : Fr W1 w.heap.size 27 [.int .u64 0, .int .u64 0] := by rw [HW1.out]; exact Fr.made _ _ _ rfl
  obtain ⟨r, HR⟩ := named w.heap.size
  rw [← HR.out] at hfr
  have hrl : w.heap.size ≤ r := by rw [HR.out]; exact Nat.le_refl _
  have HFR := Lib.hid hfr
  have HB1 := Lib.hid hb1
  have HC := Lib.hid (wand_any l A n cl W1 B (Nat.le_trans hB (Below.size hb1)) (hf.below hb1) (Arr.keep stays_word hs (Nat.le_refl _) fun _ hp => Below.cell hb1 (Nat.lt_of_lt_of_le hp hB)))
  clear hfr hb1 hf hs
  unfold wv at *
  go_enter Tryz.func27, Tryz.ntmps27
  go_upto_region 1 with (fail)
  rw [← HW1.out, ← HR.out]
  go_wp2_with (go_at_call 69; (with_reducible refine HC.out.mono ?_); rintro e w2 ⟨rfl, hb2⟩; have HB2 : Hid (BelW W1 w2) := Lib.hid hb2; have hf2 := HFR.out.below hb2; have z0 := hf2.cell 0; have z1 := hf2.cell 1; have z2 := hf2.frozen 0; have z3 := hf2.frozen 1; have HF2 := Lib.hid hf2; clear hb2 hf2)
  (try simp only [Exit.inBlock, Exit.then])
  refine bodyPost_ret (results_cell_row rfl _ _ _ _ _ _ _ rfl ((HF2.out.set 0 _).set 1 _) Tryz.underlying27 rfl (by kernel_rfl)) rfl ?_
  exact ⟨rfl, BelW.set (BelW.set (joinB HB1.out HB2.out) hrl _) hrl _⟩
set_option maxRecDepth 100000 in
set_option maxHeartbeats 4000000 in
theorem dir_7 (l : List (Nat × Nat)) (A : Option Addr) (n cl : Nat) (w : World) (B : Nat) (hB : B ≤ w.heap.size) (hf : Ft w) (hs : Wd w B (.slice A n cl) l) :
    Calls Tryz.prog 27 #[.int .u8 7, .slice A n cl] w fun e w' => e = .returned (wv (orA l n) (orB l n)) ∧ BelW w w' := by
  obtain ⟨W1, HW1⟩ := named (w.alloc (.cells #[.int .u64 0, .int .u64 0] 27))
  have hb1 : BelW w W1 := by rw [HW1.out]; exact below_new (Below.refl _ _) _
  have hfr : Fr W1 w.heap.size 27 [.int .u64 0, .int .u64 0] := by rw [HW1.out]; exact Fr.made _ _ _ rfl
  obtain ⟨r, HR⟩ := named w.heap.size
  rw [← HR.out] at hfr
  have hrl : w.heap.size ≤ r := by rw [HR.out]; exact Nat.le_refl _
  have HFR := Lib.hid hfr
  have HB1 := Lib.hid hb1
  have HC := Lib.hid (wor_any l A n cl W1 B (Nat.le_trans hB (Below.size hb1)) (hf.below hb1) (Arr.keep stays_word hs (Nat.le_refl _) fun _ hp => Below.cell hb1 (Nat.lt_of_lt_of_le hp hB)))
  clear hfr hb1 hf hs
  unfold wv at *
  go_enter Tryz.func27, Tryz.ntmps27
  go_upto_region 1 with (fail)
  rw [← HW1.out, ← HR.out]
  go_wp2_with (go_at_call 70; (with_reducible refine HC.out.mono ?_); rintro e w2 ⟨rfl, hb2⟩; have HB2 : Hid (BelW W1 w2) := Lib.hid hb2; have hf2 := HFR.out.below hb2; have z0 := hf2.cell 0; have z1 := hf2.cell 1; have z2 := hf2.frozen 0; have z3 := hf2.frozen 1; have HF2 := Lib.hid hf2; clear hb2 hf2)
  (try simp only [Exit.inBlock, Exit.then])
  refine bodyPost_ret (results_cell_row rfl _ _ _ _ _ _ _ rfl ((HF2.out.set 0 _).set 1 _) Tryz.underlying27 rfl (by kernel_rfl)) rfl ?_
  exact ⟨rfl, BelW.set (BelW.set (joinB HB1.out HB2.out) hrl _) hrl _⟩
set_option maxRecDepth 100000 in
set_option maxHeartbeats 4000000 in
theorem dir_8 (l : List (Nat × Nat)) (A : Option Addr) (n cl : Nat) (w : World) (B : Nat) (hB : B ≤ w.heap.size) (hf : Ft w) (hs : Wd w B (.slice A n cl) l) :
    Calls Tryz.prog 27 #[.int .u8 8, .slice A n cl] w fun e w' => e = .returned (wv (orA l n) (orB l n)) ∧ BelW w w' := by
  obtain ⟨W1, HW1⟩ := named (w.alloc (.cells #[.int .u64 0, .int .u64 0] 27))
  have hb1 : BelW w W1 := by rw [HW1.out]; exact below_new (Below.refl _ _) _
  have hfr : Fr W1 w.heap.size 27 [.int .u64 0, .int .u64 0] := by rw [HW1.out]; exact Fr.made _ _ _ rfl
  obtain ⟨r, HR⟩ := named w.heap.size
  rw [← HR.out] at hfr
  have hrl : w.heap.size ≤ r := by rw [HR.out]; exact Nat.le_refl _
  have HFR := Lib.hid hfr
  have HB1 := Lib.hid hb1
  have HC := Lib.hid (wor_any l A n cl W1 B (Nat.le_trans hB (Below.size hb1)) (hf.below hb1) (Arr.keep stays_word hs (Nat.le_refl _) fun _ hp => Below.cell hb1 (Nat.lt_of_lt_of_le hp hB)))
  clear hfr hb1 hf hs
  unfold wv at *
  go_enter Tryz.func27, Tryz.ntmps27
  go_upto_region 1 with (fail)
  rw [← HW1.out, ← HR.out]
  go_wp2_with (go_at_call 70; (with_reducible refine HC.out.mono ?_); rintro e w2 ⟨rfl, hb2⟩; have HB2 : Hid (BelW W1 w2) := Lib.hid hb2; have hf2 := HFR.out.below hb2; have z0 := hf2.cell 0; have z1 := hf2.cell 1; have z2 := hf2.frozen 0; have z3 := hf2.frozen 1; have HF2 := Lib.hid hf2; clear hb2 hf2)
  (try simp only [Exit.inBlock, Exit.then])
  refine bodyPost_ret (results_cell_row rfl _ _ _ _ _ _ _ rfl ((HF2.out.set 0 _).set 1 _) Tryz.underlying27 rfl (by kernel_rfl)) rfl ?_
  exact ⟨rfl, BelW.set (BelW.set (joinB HB1.out HB2.out) hrl _) hrl _⟩
set_option maxRecDepth 100000 in
set_option maxHeartbeats 4000000 in
theorem dir_9 (l : List (Nat × Nat)) (A : Option Addr) (n cl : Nat) (w : World) (B : Nat) (hB : B ≤ w.heap.size) (hf : Ft w) (hs : Wd w B (.slice A n cl) l) :
    Calls Tryz.prog 27 #[.int .u8 9, .slice A n cl] w fun e w' => e = .returned (wv (xoK l n &&& xoA l n) (anot (xoK l n) (xoA l n))) ∧ BelW w w' := by
  obtain ⟨W1, HW1⟩ := named (w.alloc (.cells #[.int .u64 0, .int .u64 0] 27))
  have hb1 : BelW w W1 := by rw [HW1.out]; exact below_new (Below.refl _ _) _
  have hfr : Fr W1 w.heap.size 27 [.int .u64 0, .int .u64 0] := by rw [HW1.out]; exact Fr.made _ _ _ rfl
  obtain ⟨r, HR⟩ := named w.heap.size
  rw [← HR.out] at hfr
  have hrl : w.heap.size ≤ r := by rw [HR.out]; exact Nat.le_refl _
  have HFR := Lib.hid hfr
  have HB1 := Lib.hid hb1
  have HC := Lib.hid (wxor_any l A n cl W1 B (Nat.le_trans hB (Below.size hb1)) (hf.below hb1) (Arr.keep stays_word hs (Nat.le_refl _) fun _ hp => Below.cell hb1 (Nat.lt_of_lt_of_le hp hB)))
  clear hfr hb1 hf hs
  unfold wv at *
  go_enter Tryz.func27, Tryz.ntmps27
  go_upto_region 1 with (fail)
  rw [← HW1.out, ← HR.out]
  go_wp2_with (go_at_call 71; (with_reducible refine HC.out.mono ?_); rintro e w2 ⟨rfl, hb2⟩; have HB2 : Hid (BelW W1 w2) := Lib.hid hb2; have hf2 := HFR.out.below hb2; have z0 := hf2.cell 0; have z1 := hf2.cell 1; have z2 := hf2.frozen 0; have z3 := hf2.frozen 1; have HF2 := Lib.hid hf2; clear hb2 hf2)
  (try simp only [Exit.inBlock, Exit.then])
  refine bodyPost_ret (results_cell_row rfl _ _ _ _ _ _ _ rfl ((HF2.out.set 0 _).set 1 _) Tryz.underlying27 rfl (by kernel_rfl)) rfl ?_
  exact ⟨rfl, BelW.set (BelW.set (joinB HB1.out HB2.out) hrl _) hrl _⟩
set_option maxRecDepth 100000 in
set_option maxHeartbeats 4000000 in
theorem dir_10 (l : List (Nat × Nat)) (A : Option Addr) (n cl : Nat) (w : World) (B : Nat) (hB : B ≤ w.heap.size) (hf : Ft w) (hs : Wd w B (.slice A n cl) l) :
    Calls Tryz.prog 27 #[.int .u8 10, .slice A n cl] w fun e w' => e = .returned (wv (xoK l n &&& xoA l n) (anot (xoK l n) (xoA l n))) ∧ BelW w w' := by
  obtain ⟨W1, HW1⟩ := named (w.alloc (.cells #[.int .u64 0, .int .u64 0] 27))
  have hb1 : BelW w W1 := by rw [HW1.out]; exact below_new (Below.refl _ _) _
  have hfr : Fr W1 w.heap.size 27 [.int .u64 0, .int .u64 0] := by rw [HW1.out]; exact Fr.made _ _ _ rfl
  obtain ⟨r, HR⟩ := named w.heap.size
  rw [← HR.out] at hfr
  have hrl : w.heap.size ≤ r := by rw [HR.out]; exact Nat.le_refl _
  have HFR := Lib.hid hfr
  have HB1 := Lib.hid hb1
  have HC := Lib.hid (wxor_any l A n cl W1 B (Nat.le_trans hB (Below.size hb1)) (hf.below hb1) (Arr.keep stays_word hs (Nat.le_refl _) fun _ hp => Below.cell hb1 (Nat.lt_of_lt_of_le hp hB)))
  clear hfr hb1 hf hs
  unfold wv at *
  go_enter Tryz.func27, Tryz.ntmps27
  go_upto_region 1 with (fail)
  rw [← HW1.out, ← HR.out]
  go_wp2_with (go_at_call 71; (with_reducible refine HC.out.mono ?_); rintro e w2 ⟨rfl, hb2⟩; have HB2 : Hid (BelW W1 w2) := Lib.hid hb2; have hf2 := HFR.out.below hb2; have z0 := hf2.cell 0; have z1 := hf2.cell 1; have z2 := hf2.frozen 0; have z3 := hf2.frozen 1; have HF2 := Lib.hid hf2; clear hb2 hf2)
  (try simp only [Exit.inBlock, Exit.then])
  refine bodyPost_ret (results_cell_row rfl _ _ _ _ _ _ _ rfl ((HF2.out.set 0 _).set 1 _) Tryz.underlying27 rfl (by kernel_rfl)) rfl ?_
  exact ⟨rfl, BelW.set (BelW.set (joinB HB1.out HB2.out) hrl _) hrl _⟩
set_option maxRecDepth 100000 in
set_option maxHeartbeats 4000000 in
theorem dir_13 (l : List (Nat × Nat)) (A : Option Addr) (n cl : Nat) (w : World) (B : Nat) (hB : B ≤ w.heap.size) (hf : Ft w) (hs : Wd w B (.slice A n cl) l) :
    Calls Tryz.prog 27 #[.int .u8 13, .slice A n cl] w fun e w' => e = .returned (wv (buA l n) (buB l n)) ∧ BelW w w' := by
  obtain ⟨W1, HW1⟩ := named (w.alloc (.cells #[.int .u64 0, .int .u64 0] 27))
  have hb1 : BelW w W1 := by rw [HW1.out]; exact below_new (Below.refl _ _) _
  have hfr : Fr W1 w.heap.size 27 [.int .u64 0, .int .u64 0] := by rw [HW1.out]; exact Fr.made _ _ _ rfl
  obtain ⟨r, HR⟩ := named w.heap.size
  rw [← HR.out] at hfr
  have hrl : w.heap.size ≤ r := by rw [HR.out]; exact Nat.le_refl _
  have HFR := Lib.hid hfr
  have HB1 := Lib.hid hb1
  have HC := Lib.hid (wbus_any l A n cl W1 B (Nat.le_trans hB (Below.size hb1)) (hf.below hb1) (Arr.keep stays_word hs (Nat.le_refl _) fun _ hp => Below.cell hb1 (Nat.lt_of_lt_of_le hp hB)))
  clear hfr hb1 hf hs
  unfold wv at *
  go_enter Tryz.func27, Tryz.ntmps27
  go_upto_region 1 with (fail)
  rw [← HW1.out, ← HR.out]
  go_wp2_with (go_at_call 74; (with_reducible refine HC.out.mono ?_); rintro e w2 ⟨rfl, hb2⟩; have HB2 : Hid (BelW W1 w2) := Lib.hid hb2; have hf2 := HFR.out.below hb2; have z0 := hf2.cell 0; have z1 := hf2.cell 1; have z2 := hf2.frozen 0; have z3 := hf2.frozen 1; have HF2 := Lib.hid hf2; clear hb2 hf2)
  (try simp only [Exit.inBlock, Exit.then])
  refine bodyPost_ret (results_cell_row rfl _ _ _ _ _ _ _ rfl ((HF2.out.set 0 _).set 1 _) Tryz.underlying27 rfl (by kernel_rfl)) rfl ?_
  exact ⟨rfl, BelW.set (BelW.set (joinB HB1.out HB2.out) hrl _) hrl _⟩
set_option maxRecDepth 100000 in
set_option maxHeartbeats 4000000 in
theorem dir_3 (l : List (Nat × Nat)) (A : Option Addr) (n cl : Nat) (w : World) (B : Nat) (hB : B ≤ w.heap.size) (hf : Ft w) (hs : Wd w B (.slice A n cl) l) (h1 : 1 ≤ n) :
    Calls Tryz.prog 27 #[.int .u8 3, .slice A n cl] w fun e w' => e = .returned (wv (anot (l.getD 0 (0, 0)).1 (l.getD 0 (0, 0)).2) (anot (l.getD 0 (0, 0)).2 (l.getD 0 (0, 0)).1)) ∧ BelW w w' := by
  obtain ⟨W1, HW1⟩ := named (w.alloc (.cells #[.int .u64 0, .int .u64 0] 27))
  have hb1 : BelW w W1 := by rw [HW1.out]; exact below_new (Below.refl _ _) _
  have hfr : Fr W1 w.heap.size 27 [.int .u64 0, .int .u64 0] := by rw [HW1.out]; exact Fr.made _ _ _ rfl
  obtain ⟨r, HR⟩ := named w.heap.size
  rw [← HR.out] at hfr
  have hrl : w.heap.size ≤ r := by rw [HR.out]; exact Nat.le_refl _
  have HFR := Lib.hid hfr
  have HB1 := Lib.hid hb1
  obtain ⟨A', b, o, c', e, hA, hle, hm, hc⟩ := id hs
  simp only [Value.slice.injEq] at e
  obtain ⟨rfl, hml, rfl⟩ := e
  obtain rfl := hA (by omega)
  have hw0 := hc 0 (by omega)
  have f0a : W1.cell? ⟨b, o, none⟩ = some (.int .u64 ((l.getD 0 (0, 0)).1 : Int)) := (Below.cell hb1 (p := ⟨b, o, none⟩) (Nat.lt_of_lt_of_le hw0.1 hB)).trans hw0.2.1
  have f0b : W1.cell? ⟨b, o + 1, none⟩ = some (.int .u64 ((l.getD 0 (0, 0)).2 : Int)) := (Below.cell hb1 (p := ⟨b, o + 1, none⟩) (Nat.lt_of_lt_of_le hw0.1 hB)).trans hw0.2.2.1
  have hrd := read_any _ _ hw0.2.2.2.1 hw0.2.2.2.2 W1
  obtain ⟨ca, HCA⟩ := named (anot (l.getD 0 (0, 0)).1 (l.getD 0 (0, 0)).2)
  obtain ⟨cb, HCB⟩ := named (anot (l.getD 0 (0, 0)).2 (l.getD 0 (0, 0)).1)
  rw [← HCA.out, ← HCB.out] at hrd
  rw [← HCA.out, ← HCB.out]
  obtain ⟨xa, HXA⟩ := named (l.getD 0 (0, 0)).1
  obtain ⟨xb, HXB⟩ := named (l.getD 0 (0, 0)).2
  rw [← HXA.out] at f0a hrd
  rw [← HXB.out] at f0b hrd
  unfold wv at hrd
  have HC := Lib.hid hrd
  clear hrd hw0
  clear hfr hb1 hf hs
  unfold wv at *
  go_enter Tryz.func27, Tryz.ntmps27
  go_upto_region 1 with (fail)
  rw [← HW1.out, ← HR.out]
  go_wp2_with (go_at_call 68; (with_reducible refine HC.out.mono ?_); rintro e w2 ⟨rfl, hb2⟩; have HB2 : Hid (BelW W1 w2) := Lib.hid hb2; have hf2 := HFR.out.below hb2; have z0 := hf2.cell 0; have z1 := hf2.cell 1; have z2 := hf2.frozen 0; have z3 := hf2.frozen 1; have HF2 := Lib.hid hf2; clear hb2 hf2)
  (try simp only [Exit.inBlock, Exit.then])
  refine bodyPost_ret (results_cell_row rfl _ _ _ _ _ _ _ rfl ((HF2.out.set 0 _).set 1 _) Tryz.underlying27 rfl (by kernel_rfl)) rfl ?_
  exact ⟨rfl, BelW.set (BelW.set (joinB HB1.out HB2.out) hrl _) hrl _⟩
set_option maxRecDepth 100000 in
set_option maxHeartbeats 4000000 in
theorem dir_4 (l : List (Nat × Nat)) (A : Option Addr) (n cl : Nat) (w : World) (B : Nat) (hB : B ≤ w.heap.size) (hf : Ft w) (hs : Wd w B (.slice A n cl) l) (h1 : 1 ≤ n) :
    Calls Tryz.prog 27 #[.int .u8 4, .slice A n cl] w fun e w' => e = .returned (wv (anot (l.getD 0 (0, 0)).1 (l.getD 0 (0, 0)).2) (anot (l.getD 0 (0, 0)).2 (l.getD 0 (0, 0)).1)) ∧ BelW w w' := by
  obtain ⟨W1, HW1⟩ := named (w.alloc (.cells #[.int .u64 0, .int .u64 0] 27))
  have hb1 : BelW w W1 := by rw [HW1.out]; exact below_new (Below.refl _ _) _
  have hfr : Fr W1 w.heap.size 27 [.int .u64 0, .int .u64 0] := by rw [HW1.out]; exact Fr.made _ _ _ rfl
  obtain ⟨r, HR⟩ := named w.heap.size
  rw [← HR.out] at hfr
  have hrl : w.heap.size ≤ r := by rw [HR.out]; exact Nat.le_refl _
  have HFR := Lib.hid hfr
  have HB1 := Lib.hid hb1
  obtain ⟨A', b, o, c', e, hA, hle, hm, hc⟩ := id hs
  simp only [Value.slice.injEq] at e
  obtain ⟨rfl, hml, rfl⟩ := e
  obtain rfl := hA (by omega)
  have hw0 := hc 0 (by omega)
  have f0a : W1.cell? ⟨b, o, none⟩ = some (.int .u64 ((l.getD 0 (0, 0)).1 : Int)) := (Below.cell hb1 (p := ⟨b, o, none⟩) (Nat.lt_of_lt_of_le hw0.1 hB)).trans hw0.2.1
  have f0b : W1.cell? ⟨b, o + 1, none⟩ = some (.int .u64 ((l.getD 0 (0, 0)).2 : Int)) := (Below.cell hb1 (p := ⟨b, o + 1, none⟩) (Nat.lt_of_lt_of_le hw0.1 hB)).trans hw0.2.2.1
  have hrd := read_any _ _ hw0.2.2.2.1 hw0.2.2.2.2 W1
  obtain ⟨ca, HCA⟩ := named (anot (l.getD 0 (0, 0)).1 (l.getD 0 (0, 0)).2)
  obtain ⟨cb, HCB⟩ := named (anot (l.getD 0 (0, 0)).2 (l.getD 0 (0, 0)).1)
  rw [← HCA.out, ← HCB.out] at hrd
  rw [← HCA.out, ← HCB.out]
  obtain ⟨xa, HXA⟩ := named (l.getD 0 (0, 0)).1
  obtain ⟨xb, HXB⟩ := named (l.getD 0 (0, 0)).2
  rw [← HXA.out] at f0a hrd
  rw [← HXB.out] at f0b hrd
  unfold wv at hrd
  have HC := Lib.hid hrd
  clear hrd hw0
  clear hfr hb1 hf hs
  unfold wv at *
  go_enter Tryz.func27, Tryz.ntmps27
  go_upto_region 1 with (fail)
  rw [← HW1.out, ← HR.out]
  go_wp2_with (go_at_call 68; (with_reducible refine HC.out.mono ?_); rintro e w2 ⟨rfl, hb2⟩; have HB2 : Hid (BelW W1 w2) := Lib.hid hb2; have hf2 := HFR.out.below hb2; have z0 := hf2.cell 0; have z1 := hf2.cell 1; have z2 := hf2.frozen 0; have z3 := hf2.frozen 1; have HF2 := Lib.hid hf2; clear hb2 hf2)
  (try simp only [Exit.inBlock, Exit.then])
  refine bodyPost_ret (results_cell_row rfl _ _ _ _ _ _ _ rfl ((HF2.out.set 0 _).set 1 _) Tryz.underlying27 rfl (by kernel_rfl)) rfl ?_
  exact ⟨rfl, BelW.set (BelW.set (joinB HB1.out HB2.out) hrl _) hrl _⟩
end Go.Proofs.YtemogllidmgbfaaGreatDoor

namespace Go.Proofs.YtemogllidmgbfaaGreatDoor

section
variable {l : List (Nat × Nat)} (hw : ∀ k, W64 (l.getD k (0, 0)).1 ∧ W64 (l.getD k (0, 0)).2) {i : Nat} (hi : i < 64)
include hw hi
theorem xoA_bit (k : Nat) (hk : k ≤ l.length) (h2 : ∀ j, j < k → rd (vl l i j) ≠ 2) : (xoA l k).testBit i = decide (par ((lanes l i).take k) = 1) := by
  induction k with
  | zero => show (0 : Nat).testBit i = _; rw [Nat.zero_testBit, List.take_zero]; rfl
  | succ k ih =>
    show (xoA l k ^^^ anot (l.getD k (0, 0)).1 (l.getD k (0, 0)).2).testBit i = _
    rw [Nat.testBit_xor, ih (by omega) (fun j hj => h2 j (by omega)), par_take _ _ (by rw [lanes_len]; omega), lanes_at (by omega)]
    have hb := one_bit hw hi k
    have h3 := h2 k (by omega)
    have hp := par_cases ((lanes l i).take k)
    rcases knw_cases (vl l i k) with ⟨e, -, hr, -⟩ | ⟨e, -, hr, -⟩ | ⟨-, -, -, hr⟩
    · have hbf : (anot (l.getD k (0, 0)).1 (l.getD k (0, 0)).2).testBit i = false := by
        rw [Bool.eq_false_iff]; intro h; have := hb.1 h; omega
      rw [hbf, e, if_neg (by decide)]; simp
    · rw [hb.2 hr, e, if_pos rfl]
      rcases hp with h | h <;> rw [h] <;> decide
    · exact absurd hr h3
theorem xoK_bit (k : Nat) : (xoK l k).testBit i = true ↔ ∀ j, j < k → rd (vl l i j) ≠ 2 := by
  induction k with
  | zero =>
    show (18446744073709551615 : Nat).testBit i = true ↔ _
    rw [all_bit hi]
    exact ⟨fun _ j hj => absurd hj (by omega), fun _ => rfl⟩
  | succ k ih =>
    show (xoK l k &&& (anot (l.getD k (0, 0)).1 (l.getD k (0, 0)).2 ||| anot (l.getD k (0, 0)).2 (l.getD k (0, 0)).1)).testBit i = true ↔ _
    rw [Nat.testBit_and, Bool.and_eq_true, ih, Nat.testBit_or, Bool.or_eq_true, one_bit hw hi k, zero_bit hw hi k]
    exact ⟨fun ⟨h1, h2⟩ j hj => by
      by_cases e : j = k
      · subst e; omega
      · exact h1 j (by omega), fun h => ⟨fun j hj => h j (by omega), by have := h k (by omega); have := rd_cases (vl l i k); omega⟩⟩
theorem xor_ln : lnV (xoK l l.length &&& xoA l l.length) (anot (xoK l l.length) (xoA l l.length)) i = xorL (lanes l i) := by
  have hK := xoK_bit hw hi l.length
  have h2 := any_iff hw hi 2
  have hxa : W64 (xoA l l.length) := xoA_w (fun k => (hw k).1) _
  unfold xorL lnV
  rw [Nat.testBit_and, anot_bit hxa hi]
  by_cases c2 : ∃ j, j < l.length ∧ rd (vl l i j) = 2
  · rw [if_pos (h2.2 c2)]
    have hf : (xoK l l.length).testBit i = false := by
      rw [Bool.eq_false_iff]
      intro h
      obtain ⟨j, hj, e⟩ := c2
      exact hK.1 h j hj e
    rw [hf]; simp
  · rw [if_neg (fun h => c2 (h2.1 h))]
    have hno : ∀ j, j < l.length → rd (vl l i j) ≠ 2 := fun j hj e => c2 ⟨j, hj, e⟩
    rw [hK.2 hno, xoA_bit hw hi _ (Nat.le_refl _) hno, List.take_of_length_le (by rw [lanes_len]; exact Nat.le_refl _)]
    rcases par_cases (lanes l i) with h | h <;> rw [h] <;> decide
theorem buA_bit (k : Nat) : (buA l k).testBit i = true ↔ ∀ j, j < k → (l.getD j (0, 0)).1.testBit i = true := by
  refine (fun (_ : True) => ?_) (have _u := hw; trivial)
  induction k with
  | zero =>
    show (18446744073709551615 : Nat).testBit i = true ↔ _
    rw [all_bit hi]
    exact ⟨fun _ j hj => absurd hj (by omega), fun _ => rfl⟩
  | succ k ih =>
    show (buA l k &&& (l.getD k (0, 0)).1).testBit i = true ↔ _
    rw [Nat.testBit_and, Bool.and_eq_true, ih]
    exact ⟨fun ⟨h1, h2⟩ j hj => by
      by_cases e : j = k
      · subst e; exact h2
      · exact h1 j (by omega), fun h => ⟨fun j hj => h j (by omega), h k (by omega)⟩⟩
theorem buB_bit (k : Nat) : (buB l k).testBit i = true ↔ ∀ j, j < k → (l.getD j (0, 0)).2.testBit i = true := by
  refine (fun (_ : True) => ?_) (have _u := hw; trivial)
  induction k with
  | zero =>
    show (18446744073709551615 : Nat).testBit i = true ↔ _
    rw [all_bit hi]
    exact ⟨fun _ j hj => absurd hj (by omega), fun _ => rfl⟩
  | succ k ih =>
    show (buB l k &&& (l.getD k (0, 0)).2).testBit i = true ↔ _
    rw [Nat.testBit_and, Bool.and_eq_true, ih]
    exact ⟨fun ⟨h1, h2⟩ j hj => by
      by_cases e : j = k
      · subst e; exact h2
      · exact h1 j (by omega), fun h => ⟨fun j hj => h j (by omega), h k (by omega)⟩⟩
theorem anyc_iff (x : Int) : anyIs cln x (lanes l i) = true ↔ ∃ j, j < l.length ∧ vl l i j = x := by
  refine (fun (_ : True) => ?_) (have _u := hw; have _v := hi; trivial)
  constructor
  · intro h
    obtain ⟨v, hv, e⟩ := List.any_eq_true.1 h
    obtain ⟨j, hj, rfl⟩ := List.mem_iff_getElem.1 hv
    have hj' : j < l.length := by rw [← lanes_len l i]; exact hj
    refine ⟨j, hj', ?_⟩
    have hc : cln (vl l i j) = vl l i j := lnV_cln _ _ _
    rw [← hc, ← lanes_at hj', List.getD_eq_getElem?_getD, List.getElem?_eq_getElem hj]
    simpa using e
  · rintro ⟨j, hj, e⟩
    have hc : cln (vl l i j) = vl l i j := lnV_cln _ _ _
    exact anyIs_yes j (by rw [lanes_len]; exact hj) (by rw [lanes_at hj, hc, e]; simp)
theorem bus_ln : lnV (buA l l.length) (buB l l.length) i = busL (lanes l i) := by
  have hA := buA_bit hw hi l.length
  have hB := buB_bit hw hi l.length
  have h0 := anyc_iff hw hi 0
  have h1 := anyc_iff hw hi 1
  have h2 := anyc_iff hw hi 2
  have hv : ∀ j, ((l.getD j (0, 0)).1.testBit i = true ↔ vl l i j = 1 ∨ vl l i j = 3) ∧ ((l.getD j (0, 0)).2.testBit i = true ↔ vl l i j = 0 ∨ vl l i j = 3) := fun j => by
    unfold vl
    rcases lnV_cases (l.getD j (0, 0)).1 (l.getD j (0, 0)).2 i with ⟨e1, e2, h⟩ | ⟨e1, e2, h⟩ | ⟨e1, e2, h⟩ | ⟨e1, e2, h⟩ <;> rw [e1, e2, h] <;> decide
  have hin : ∀ j, vl l i j = 0 ∨ vl l i j = 1 ∨ vl l i j = 2 ∨ vl l i j = 3 := fun j => by
    have := lnV_in (l.getD j (0, 0)).1 (l.getD j (0, 0)).2 i
    unfold vl; omega
  have hA2 : (buA l l.length).testBit i = true ↔ ¬ (∃ j, j < l.length ∧ vl l i j = 0) ∧ ¬ (∃ j, j < l.length ∧ vl l i j = 2) := by
    rw [hA]
    exact ⟨fun h => ⟨fun ⟨j, hj, e⟩ => by have := (hv j).1.1 (h j hj); omega, fun ⟨j, hj, e⟩ => by have := (hv j).1.1 (h j hj); omega⟩,
      fun ⟨n0, n2⟩ j hj => (hv j).1.2 (by
        rcases hin j with e | e | e | e
        · exact absurd ⟨j, hj, e⟩ n0
        · exact .inl e
        · exact absurd ⟨j, hj, e⟩ n2
        · exact .inr e)⟩
  have hB2 : (buB l l.length).testBit i = true ↔ ¬ (∃ j, j < l.length ∧ vl l i j = 1) ∧ ¬ (∃ j, j < l.length ∧ vl l i j = 2) := by
    rw [hB]
    exact ⟨fun h => ⟨fun ⟨j, hj, e⟩ => by have := (hv j).2.1 (h j hj); omega, fun ⟨j, hj, e⟩ => by have := (hv j).2.1 (h j hj); omega⟩,
      fun ⟨n1, n2⟩ j hj => (hv j).2.2 (by
        rcases hin j with e | e | e | e
        · exact .inl e
        · exact absurd ⟨j, hj, e⟩ n1
        · exact absurd ⟨j, hj, e⟩ n2
        · exact .inr e)⟩
  rw [← h0, ← h2] at hA2
  rw [← h1, ← h2] at hB2
  unfold busL conL lnV
  generalize (buA l l.length).testBit i = a at hA2 ⊢
  generalize (buB l l.length).testBit i = b at hB2 ⊢
  revert hA2 hB2
  cases anyIs cln 0 (lanes l i) <;> cases anyIs cln 1 (lanes l i) <;> cases anyIs cln 2 (lanes l i) <;> cases a <;> cases b <;> simp
end

/-- A word as a gate reads it. -/
def rdW (x : Nat × Nat) : Nat × Nat := (anot x.1 x.2, anot x.2 x.1)
/-- What direct returns. -/
def dirW (k : Int) (l : List (Nat × Nat)) (n : Nat) : Nat × Nat :=
  if k = 11 then (muN (rdW (l.getD 0 (0, 0))).1 (rdW (l.getD 0 (0, 0))).2 (rdW (l.getD 1 (0, 0))).1 (rdW (l.getD 2 (0, 0))).1, muN (rdW (l.getD 0 (0, 0))).1 (rdW (l.getD 0 (0, 0))).2 (rdW (l.getD 1 (0, 0))).2 (rdW (l.getD 2 (0, 0))).2)
  else if k = 12 then (trN (rdW (l.getD 0 (0, 0))).2 (rdW (l.getD 0 (0, 0))).1 (rdW (l.getD 1 (0, 0))).1, trN (rdW (l.getD 0 (0, 0))).2 (rdW (l.getD 0 (0, 0))).1 (rdW (l.getD 1 (0, 0))).2)
  else dirN k l n
def invK (k : Int) : Bool := k == 4 || k == 6 || k == 8 || k == 10
/-- What Eval returns. -/
def evW (k : Int) (l : List (Nat × Nat)) : Nat × Nat :=
  if (l.length : Int) < lo k ∨ hi k < l.length then (fA 2, fB 2) else if invK k = true then ((dirW k l l.length).2, (dirW k l l.length).1) else dirW k l l.length
theorem swap_ln {a b i : Nat} (h : ¬ (a.testBit i = true ∧ b.testBit i = true)) : lnV b a i = nt (lnV a b i) := by
  unfold lnV
  revert h
  cases a.testBit i <;> cases b.testBit i <;> simp [nt, rd, knw]
theorem swap_not3 {a b i : Nat} (h : lnV a b i ≠ 3) : lnV b a i = nt (lnV a b i) := swap_ln fun ⟨h1, h2⟩ => h (by unfold lnV; rw [if_pos h1, if_pos h2])
theorem rdW_ln {x : Nat × Nat} (h1 : W64 x.1) (h2 : W64 x.2) {i : Nat} (hi : i < 64) : lnV (rdW x).1 (rdW x).2 i = rd (lnV x.1 x.2 i) := read_ln h1 h2 hi
theorem rdW_sep {x : Nat × Nat} (h1 : W64 x.1) (h2 : W64 x.2) : Sep (rdW x).1 (rdW x).2 := read_sep h1 h2
theorem rd_rd (a : Int) : rd (rd a) = rd a := by rcases rd_cases a with h | h | h <;> rw [h] <;> decide
theorem mx_rd (s a b : Int) : mx (rd s) (rd a) (rd b) = mx s a b := by unfold mx; rw [rd_rd, rd_rd, rd_rd]
theorem tr_rd (a b : Int) : tr (rd a) (rd b) = tr a b := by unfold tr; rw [rd_rd, rd_rd]
theorem nt_rd (a : Int) : nt (rd a) = nt a := by unfold nt; rw [rd_rd]
theorem andL_not3 (l : List Int) : andL l ≠ 3 := by
  unfold andL
  repeat' split
  all_goals decide
theorem orL_not3 (l : List Int) : orL l ≠ 3 := by
  unfold orL
  repeat' split
  all_goals decide
theorem xorL_not3 (l : List Int) : xorL l ≠ 3 := by
  unfold xorL
  split
  · decide
  · rcases par_cases l with h | h <;> rw [h] <;> decide
theorem rd_not3 (a : Int) : rd a ≠ 3 := by rcases rd_cases a with h | h | h <;> rw [h] <;> decide
section
variable {l : List (Nat × Nat)} (hw : ∀ k, W64 (l.getD k (0, 0)).1 ∧ W64 (l.getD k (0, 0)).2) {i : Nat} (hi : i < 64)
include hw hi
theorem evW_ln (k : Int) : lnV (evW k l).1 (evW k l).2 i = evalL k (lanes l i) := by
  unfold evW evalL
  rw [lanes_len]
  by_cases hr : (l.length : Int) < lo k ∨ Proofs.YtemogllidmgbfaaGreatDoor.hi k < l.length
  · rw [if_pos hr, if_pos hr]
    exact fill_ln (v := 2) (by decide) (by decide) hi
  · rw [if_neg hr, if_neg hr]
    have hat : ∀ j, j < l.length → (lanes l i).getD j 0 = lnV (l.getD j (0, 0)).1 (l.getD j (0, 0)).2 i := fun j hj => lanes_at hj
    by_cases hk : k = 1 ∨ k = 2 ∨ k = 3 ∨ k = 4 ∨ k = 5 ∨ k = 6 ∨ k = 7 ∨ k = 8 ∨ k = 9 ∨ k = 10 ∨ k = 11 ∨ k = 12 ∨ k = 13
    · rcases hk with rfl | rfl | rfl | rfl | rfl | rfl | rfl | rfl | rfl | rfl | rfl | rfl | rfl
      · exact fill_ln (v := 0) (by decide) (by decide) hi
      · exact fill_ln (v := 1) (by decide) (by decide) hi
      · have h1 : 0 < l.length := by have : lo 3 = 1 := by decide
                                     omega
        show lnV (rdW (l.getD 0 (0, 0))).1 (rdW (l.getD 0 (0, 0))).2 i = rd ((lanes l i).getD 0 0)
        rw [rdW_ln (hw 0).1 (hw 0).2 hi, hat 0 h1]
      · have h1 : 0 < l.length := by have : lo 4 = 1 := by decide
                                     omega
        show lnV (rdW (l.getD 0 (0, 0))).2 (rdW (l.getD 0 (0, 0))).1 i = nt ((lanes l i).getD 0 0)
        rw [swap_not3 (by rw [rdW_ln (hw 0).1 (hw 0).2 hi]; exact rd_not3 _), rdW_ln (hw 0).1 (hw 0).2 hi, nt_rd, hat 0 h1]
      · exact and_ln hw hi
      · show lnV (anB l l.length) (anA l l.length) i = nt (andL (lanes l i))
        rw [swap_not3 (by rw [and_ln hw hi]; exact andL_not3 _), and_ln hw hi]
      · exact or_ln hw hi
      · show lnV (orB l l.length) (orA l l.length) i = nt (orL (lanes l i))
        rw [swap_not3 (by rw [or_ln hw hi]; exact orL_not3 _), or_ln hw hi]
      · exact xor_ln hw hi
      · show lnV (anot (xoK l l.length) (xoA l l.length)) (xoK l l.length &&& xoA l l.length) i = nt (xorL (lanes l i))
        rw [swap_not3 (by rw [xor_ln hw hi]; exact xorL_not3 _), xor_ln hw hi]
      · have h1 : 2 < l.length := by have : lo 11 = 3 := by decide
                                     omega
        show lnV (muN (rdW (l.getD 0 (0, 0))).1 (rdW (l.getD 0 (0, 0))).2 (rdW (l.getD 1 (0, 0))).1 (rdW (l.getD 2 (0, 0))).1) (muN (rdW (l.getD 0 (0, 0))).1 (rdW (l.getD 0 (0, 0))).2 (rdW (l.getD 1 (0, 0))).2 (rdW (l.getD 2 (0, 0))).2) i = mx ((lanes l i).getD 0 0) ((lanes l i).getD 1 0) ((lanes l i).getD 2 0)
        rw [mux_ln (rdW_sep (hw 0).1 (hw 0).2) (rdW_sep (hw 1).1 (hw 1).2) (rdW_sep (hw 2).1 (hw 2).2) hi, rdW_ln (hw 0).1 (hw 0).2 hi, rdW_ln (hw 1).1 (hw 1).2 hi, rdW_ln (hw 2).1 (hw 2).2 hi, mx_rd, hat 0 (by omega), hat 1 (by omega), hat 2 h1]
      · have h1 : 1 < l.length := by have : lo 12 = 2 := by decide
                                     omega
        show lnV (trN (rdW (l.getD 0 (0, 0))).2 (rdW (l.getD 0 (0, 0))).1 (rdW (l.getD 1 (0, 0))).1) (trN (rdW (l.getD 0 (0, 0))).2 (rdW (l.getD 0 (0, 0))).1 (rdW (l.getD 1 (0, 0))).2) i = tr ((lanes l i).getD 0 0) ((lanes l i).getD 1 0)
        rw [tri_ln (rdW_sep (hw 0).1 (hw 0).2) (rdW_sep (hw 1).1 (hw 1).2) hi, rdW_ln (hw 0).1 (hw 0).2 hi, rdW_ln (hw 1).1 (hw 1).2 hi, tr_rd, hat 0 (by omega), hat 1 h1]
      · exact bus_ln hw hi
    · have hi1 : invK k = false := by
        unfold invK
        have a4 : (k == 4) = false := by simpa using fun h => hk (by omega)
        have a6 : (k == 6) = false := by simpa using fun h => hk (by omega)
        have a8 : (k == 8) = false := by simpa using fun h => hk (by omega)
        have a10 : (k == 10) = false := by simpa using fun h => hk (by omega)
        rw [a4, a6, a8, a10]; rfl
      rw [hi1, if_neg (by decide)]
      unfold dirW dirN funL
      rw [if_neg (by omega), if_neg (by omega), if_neg (by omega), if_neg (by omega), if_neg (by omega), if_neg (by omega), if_neg (by omega), if_neg (by omega), if_neg (by omega), if_neg (by omega), if_neg (by omega), if_neg (by omega), if_neg (by omega), if_neg (by omega), if_neg (by omega), if_neg (by omega), if_neg (by omega), if_neg (by omega), if_neg (by omega), if_neg (by omega), if_neg (by omega), if_neg (by omega)]
      exact fill_ln (v := 2) (by decide) (by decide) hi
end
end Go.Proofs.YtemogllidmgbfaaGreatDoor

namespace Go.Proofs.YtemogllidmgbfaaGreatDoor

theorem rdW_w {x : Nat × Nat} (h1 : W64 x.1) (h2 : W64 x.2) : W64 (rdW x).1 ∧ W64 (rdW x).2 := ⟨h1.anot, h2.anot⟩
theorem dirW_w {l : List (Nat × Nat)} (hw : ∀ k, W64 (l.getD k (0, 0)).1 ∧ W64 (l.getD k (0, 0)).2) (k : Int) (n : Nat) : W64 (dirW k l n).1 ∧ W64 (dirW k l n).2 := by
  have h1 : ∀ k, W64 (l.getD k (0, 0)).1 := fun k => (hw k).1
  have h2 : ∀ k, W64 (l.getD k (0, 0)).2 := fun k => (hw k).2
  have r0 := rdW_w (h1 0) (h2 0)
  have r1 := rdW_w (h1 1) (h2 1)
  have r2 := rdW_w (h1 2) (h2 2)
  unfold dirW
  split
  · exact ⟨muN_w r0.2 r0.1 r1.1, muN_w r0.2 r0.1 r1.2⟩
  split
  · exact ⟨trN_w r0.2 r0.1, trN_w r0.2 r0.1⟩
  unfold dirN
  split
  · exact ⟨fA_w 0, fB_w 0⟩
  split
  · exact ⟨fA_w 1, fB_w 1⟩
  split
  · exact r0
  split
  · exact ⟨anA_w h1 _, anB_w h2 _⟩
  split
  · exact ⟨orA_w h1 _, orB_w h2 _⟩
  split
  · exact ⟨(xoK_w l n).and, (xoK_w l n).anot⟩
  split
  · exact ⟨buA_w h1 _, buB_w h2 _⟩
  · exact ⟨fA_w 2, fB_w 2⟩
theorem evW_w {l : List (Nat × Nat)} (hw : ∀ k, W64 (l.getD k (0, 0)).1 ∧ W64 (l.getD k (0, 0)).2) (k : Int) : W64 (evW k l).1 ∧ W64 (evW k l).2 := by
  have h := dirW_w hw k l.length
  unfold evW
  split
  · exact ⟨fA_w 2, fB_w 2⟩
  split
  · exact ⟨h.2, h.1⟩
  · exact h

end Go.Proofs.YtemogllidmgbfaaGreatDoor
