/- The texts Wmu Wln. -/
import Derived.Test.YtemogllidmgbfaaGreatDoorM17
import Derived.Laws.EntriesVeiled
import Derived.StillTailTactics
namespace Go.Proofs.YtemogllidmgbfaaGreatDoor
open Go.RowKit

/-- What mux chooses of two numbers: o, z the selector's. -/
def muN (o z a b : Nat) : Nat := (z &&& a ||| o &&& b) ||| a &&& b
theorem muN_w {o z a b : Nat} (hz : W64 z) (ho : W64 o) (ha : W64 a) : W64 (muN o z a b) := (hz.and.or ho.and).or ha.and
set_option maxHeartbeats 2000000 in
theorem mux1_any (o z a b q : Nat) (ho : W64 o) (hz : W64 z) (ha : W64 a) (hb : W64 b) (w : World) (h0 : w.cell? ⟨q, 0, none⟩ = some (.int .u64 (o : Int))) (h1 : w.cell? ⟨q, 1, none⟩ = some (.int .u64 (z : Int))) :
    Calls Tryz.prog 97 #[.int .u64 (a : Int), .int .u64 (b : Int), .pointer (some ⟨q, 0, none⟩)] w fun e w' => e = .returned (.int .u64 (muN o z a b : Int)) ∧ w = w' := by
  have e1 : bits .and .u64 (z : Int) (a : Int) = ((z &&& a : Nat) : Int) := u64_and_nat z a hz ha
  have e2 : bits .and .u64 (o : Int) (b : Int) = ((o &&& b : Nat) : Int) := u64_and_nat o b ho hb
  have e3 : bits .or .u64 ((z &&& a : Nat) : Int) ((o &&& b : Nat) : Int) = ((z &&& a ||| o &&& b : Nat) : Int) := u64_or_nat _ _ hz.and ho.and
  have e4 : bits .and .u64 (a : Int) (b : Int) = ((a &&& b : Nat) : Int) := u64_and_nat a b ha hb
  have e5 : bits .or .u64 ((z &&& a ||| o &&& b : Nat) : Int) ((a &&& b : Nat) : Int) = (muN o z a b : Int) := u64_or_nat _ _ (hz.and.or ho.and) ha.and
  obtain ⟨y, HY⟩ := named (muN o z a b)
  rw [← HY.out] at e5
  rw [← HY.out]
  obtain ⟨c, HC⟩ := named (z &&& a ||| o &&& b)
  rw [← HC.out] at e3 e5
  obtain ⟨d, HD⟩ := named (z &&& a)
  rw [← HD.out] at e1 e3
  obtain ⟨f, HF⟩ := named (o &&& b)
  rw [← HF.out] at e2 e3
  obtain ⟨g, HG⟩ := named (a &&& b)
  rw [← HG.out] at e4 e5
  go_enter Tryz.func97, Tryz.ntmps97
  go_wp2
  go_ret
  exact ⟨rfl, rfl⟩
set_option maxRecDepth 100000 in
set_option maxHeartbeats 4000000 in
theorem wmux_any (o z a b c d : Nat) (ho : W64 o) (hz : W64 z) (ha : W64 a) (hb : W64 b) (hc : W64 c) (hd : W64 d) (w : World) :
    Calls Tryz.prog 72 #[wv o z, wv a b, wv c d] w fun e w' => e = .returned (wv (muN o z a c) (muN o z b d)) ∧ BelW w w' := by
  obtain ⟨W1, HW1⟩ := named ((((w.alloc (.cells #[.int .u64 (o : Int), .int .u64 (z : Int)] 27)).alloc (.cells #[.int .u64 (a : Int), .int .u64 (b : Int)] 27)).alloc (.cells #[.int .u64 (c : Int), .int .u64 (d : Int)] 27)).alloc (.cells #[.int .u64 0, .int .u64 0] 27))
  have hb1 : BelW w W1 := by rw [HW1.out]; exact below_new (below_new (below_new (below_new (Below.refl _ _) _) _) _) _
  have hf0 : Fr W1 w.heap.size 27 [.int .u64 (o : Int), .int .u64 (z : Int)] := by rw [HW1.out]; exact Fr.alloc (Fr.alloc (Fr.alloc (Fr.made _ _ _ rfl) _) _) _
  have hf1 : Fr W1 (w.heap.size + 1) 27 [.int .u64 (a : Int), .int .u64 (b : Int)] := by rw [HW1.out]; exact Fr.alloc (Fr.alloc (Fr.made _ _ _ (by simp)) _) _
  have hf2 : Fr W1 (w.heap.size + 1 + 1) 27 [.int .u64 (c : Int), .int .u64 (d : Int)] := by rw [HW1.out]; exact Fr.alloc (Fr.made _ _ _ (by simp)) _
  have hfr : Fr W1 (w.heap.size + 1 + 1 + 1) 27 [.int .u64 0, .int .u64 0] := by rw [HW1.out]; exact Fr.made _ _ _ (by simp)
  obtain ⟨q, HQ⟩ := named w.heap.size
  obtain ⟨p, HP⟩ := named (q + 1)
  obtain ⟨s, HS⟩ := named (p + 1)
  obtain ⟨r, HR⟩ := named (s + 1)
  rw [← HQ.out] at hf0 hf1 hf2 hfr
  rw [← HP.out] at hf1 hf2 hfr
  rw [← HS.out] at hf2 hfr
  rw [← HR.out] at hfr
  have x0 := hf1.cell 0
  have x1 := hf1.cell 1
  have y0 := hf2.cell 0
  have y1 := hf2.cell 1
  have z0 := hfr.cell 0
  have z1 := hfr.cell 1
  have z2 := hfr.frozen 0
  have z3 := hfr.frozen 1
  have HM1 : Hid (Calls Tryz.prog 97 #[.int .u64 (a : Int), .int .u64 (c : Int), .pointer (some ⟨q, 0, none⟩)] W1.drew fun e w' => e = .returned (.int .u64 (muN o z a c : Int)) ∧ W1.drew = w') := Lib.hid (mux1_any o z a c q ho hz ha hc W1.drew (hf0.cell 0) (hf0.cell 1))
  have HM2 : Hid (Calls Tryz.prog 97 #[.int .u64 (b : Int), .int .u64 (d : Int), .pointer (some ⟨q, 0, none⟩)] W1.drew fun e w' => e = .returned (.int .u64 (muN o z b d : Int)) ∧ W1.drew = w') := Lib.hid (mux1_any o z b d q ho hz hb hd W1.drew (hf0.cell 0) (hf0.cell 1))
  obtain ⟨u, HU⟩ := named (muN o z a c)
  obtain ⟨v, HV⟩ := named (muN o z b d)
  rw [← HU.out] at HM1
  rw [← HV.out] at HM2
  rw [← HU.out, ← HV.out]
  have HFR := Lib.hid hfr
  have HB1 := Lib.hid hb1
  have hrl : w.heap.size ≤ r := by rw [HR.out, HS.out, HP.out, HQ.out]; omega
  clear hfr hb1 hf0 hf1 hf2
  unfold wv
  go_enter Tryz.func72, Tryz.ntmps72
  go_upto_region 1 with (fail)
  rw [← HW1.out, ← HQ.out]
  try rw [← HP.out]
  try rw [← HS.out]
  try rw [← HR.out]
  go_upto_region 2 with (fail)
  go_still_tail 13, (by kernel_rfl)
  still_call (HM1.out.mono fun _ _ h => ⟨h.1, h.2.symm⟩)
  repeat still_step
  still_call (HM2.out.mono fun _ _ h => ⟨h.1, h.2.symm⟩)
  repeat still_step
  refine wpStill_nil ?_
  go_wp2
  (try simp only [Exit.inBlock, Exit.then])
  refine bodyPost_ret (results_cell_row rfl _ _ _ _ _ _ _ rfl ((HFR.out.drew.set 0 _).set 1 _) Tryz.underlying27 rfl (by kernel_rfl)) rfl ?_
  exact ⟨rfl, BelW.set (BelW.set (BelW.drew HB1.out) hrl _) hrl _⟩
end Go.Proofs.YtemogllidmgbfaaGreatDoor

namespace Go.Proofs.YtemogllidmgbfaaGreatDoor

/-- The value of word j of a list in lane i. -/
def vl (l : List (Nat × Nat)) (i j : Nat) : Int := lnV (l.getD j (0, 0)).1 (l.getD j (0, 0)).2 i
def lanes (l : List (Nat × Nat)) (i : Nat) : List Int := l.map fun x => lnV x.1 x.2 i
theorem lanes_len (l : List (Nat × Nat)) (i : Nat) : (lanes l i).length = l.length := by simp [lanes]
theorem lanes_at {l : List (Nat × Nat)} {i j : Nat} (hj : j < l.length) : (lanes l i).getD j 0 = vl l i j := by
  unfold lanes vl
  rw [List.getD_eq_getElem?_getD, List.getElem?_map, List.getElem?_eq_getElem hj, List.getD_eq_getElem?_getD, List.getElem?_eq_getElem hj]
  rfl
section
variable {l : List (Nat × Nat)} (hw : ∀ k, W64 (l.getD k (0, 0)).1 ∧ W64 (l.getD k (0, 0)).2) {i : Nat} (hi : i < 64)
include hw hi
theorem one_bit (j : Nat) : (anot (l.getD j (0, 0)).1 (l.getD j (0, 0)).2).testBit i = true ↔ rd (vl l i j) = 1 := by
  rw [anot_bit (hw j).2 hi]
  unfold vl
  rcases lnV_cases (l.getD j (0, 0)).1 (l.getD j (0, 0)).2 i with ⟨h1, h2, h⟩ | ⟨h1, h2, h⟩ | ⟨h1, h2, h⟩ | ⟨h1, h2, h⟩ <;> rw [h1, h2, h] <;> decide
theorem zero_bit (j : Nat) : (anot (l.getD j (0, 0)).2 (l.getD j (0, 0)).1).testBit i = true ↔ rd (vl l i j) = 0 := by
  rw [anot_bit (hw j).1 hi]
  unfold vl
  rcases lnV_cases (l.getD j (0, 0)).1 (l.getD j (0, 0)).2 i with ⟨h1, h2, h⟩ | ⟨h1, h2, h⟩ | ⟨h1, h2, h⟩ | ⟨h1, h2, h⟩ <;> rw [h1, h2, h] <;> decide
theorem anA_bit : ∀ k, (anA l k).testBit i = true ↔ ∀ j, j < k → rd (vl l i j) = 1
  | 0 => by
    show (18446744073709551615 : Nat).testBit i = true ↔ _
    rw [all_bit hi]
    exact ⟨fun _ j hj => absurd hj (by omega), fun _ => rfl⟩
  | k + 1 => by
    show (anA l k &&& anot (l.getD k (0, 0)).1 (l.getD k (0, 0)).2).testBit i = true ↔ _
    rw [Nat.testBit_and, Bool.and_eq_true, anA_bit k, one_bit hw hi k]
    exact ⟨fun ⟨h1, h2⟩ j hj => by
      by_cases e : j = k
      · subst e; exact h2
      · exact h1 j (by omega), fun h => ⟨fun j hj => h j (by omega), h k (by omega)⟩⟩
theorem anB_bit : ∀ k, (anB l k).testBit i = true ↔ ∃ j, j < k ∧ rd (vl l i j) = 0
  | 0 => by
    show (0 : Nat).testBit i = true ↔ _
    rw [Nat.zero_testBit]
    exact ⟨fun h => (by cases h), fun ⟨j, hj, _⟩ => absurd hj (by omega)⟩
  | k + 1 => by
    show (anB l k ||| anot (l.getD k (0, 0)).2 (l.getD k (0, 0)).1).testBit i = true ↔ _
    rw [Nat.testBit_or, Bool.or_eq_true, anB_bit k, zero_bit hw hi k]
    exact ⟨fun h => h.elim (fun ⟨j, hj, e⟩ => ⟨j, by omega, e⟩) (fun e => ⟨k, by omega, e⟩), fun ⟨j, hj, e⟩ => by
      by_cases h : j = k
      · subst h; exact .inr e
      · exact .inl ⟨j, by omega, e⟩⟩
theorem orA_bit : ∀ k, (orA l k).testBit i = true ↔ ∃ j, j < k ∧ rd (vl l i j) = 1
  | 0 => by
    show (0 : Nat).testBit i = true ↔ _
    rw [Nat.zero_testBit]
    exact ⟨fun h => (by cases h), fun ⟨j, hj, _⟩ => absurd hj (by omega)⟩
  | k + 1 => by
    show (orA l k ||| anot (l.getD k (0, 0)).1 (l.getD k (0, 0)).2).testBit i = true ↔ _
    rw [Nat.testBit_or, Bool.or_eq_true, orA_bit k, one_bit hw hi k]
    exact ⟨fun h => h.elim (fun ⟨j, hj, e⟩ => ⟨j, by omega, e⟩) (fun e => ⟨k, by omega, e⟩), fun ⟨j, hj, e⟩ => by
      by_cases h : j = k
      · subst h; exact .inr e
      · exact .inl ⟨j, by omega, e⟩⟩
theorem orB_bit : ∀ k, (orB l k).testBit i = true ↔ ∀ j, j < k → rd (vl l i j) = 0
  | 0 => by
    show (18446744073709551615 : Nat).testBit i = true ↔ _
    rw [all_bit hi]
    exact ⟨fun _ j hj => absurd hj (by omega), fun _ => rfl⟩
  | k + 1 => by
    show (orB l k &&& anot (l.getD k (0, 0)).2 (l.getD k (0, 0)).1).testBit i = true ↔ _
    rw [Nat.testBit_and, Bool.and_eq_true, orB_bit k, zero_bit hw hi k]
    exact ⟨fun ⟨h1, h2⟩ j hj => by
      by_cases e : j = k
      · subst e; exact h2
      · exact h1 j (by omega), fun h => ⟨fun j hj => h j (by omega), h k (by omega)⟩⟩
theorem any_iff (x : Int) : anyIs rd x (lanes l i) = true ↔ ∃ j, j < l.length ∧ rd (vl l i j) = x := by
  refine (fun (_ : True) => ?_) (have _u := hw; have _v := hi; trivial)
  constructor
  · intro h
    obtain ⟨v, hv, e⟩ := List.any_eq_true.1 h
    obtain ⟨j, hj, rfl⟩ := List.mem_iff_getElem.1 hv
    have hj' : j < l.length := by rw [← lanes_len l i]; exact hj
    refine ⟨j, hj', ?_⟩
    rw [← lanes_at hj', List.getD_eq_getElem?_getD, List.getElem?_eq_getElem hj]
    simpa using e
  · rintro ⟨j, hj, e⟩
    exact anyIs_yes j (by rw [lanes_len]; exact hj) (by rw [lanes_at hj, e]; simp)
theorem and_ln : lnV (anA l l.length) (anB l l.length) i = andL (lanes l i) := by
  have hA := anA_bit hw hi l.length
  have hB := anB_bit hw hi l.length
  have h0 := any_iff hw hi 0
  have h2 := any_iff hw hi 2
  unfold andL lnV
  by_cases c0 : ∃ j, j < l.length ∧ rd (vl l i j) = 0
  · rw [if_pos (h0.2 c0)]
    have hb := hB.2 c0
    have ha : ¬ (anA l l.length).testBit i = true := fun h => by
      obtain ⟨j, hj, e⟩ := c0
      have := hA.1 h j hj
      omega
    rw [if_neg ha, if_pos hb]
  · rw [if_neg (fun h => c0 (h0.1 h))]
    have hb : ¬ (anB l l.length).testBit i = true := fun h => c0 (hB.1 h)
    rw [if_neg hb, if_neg hb]
    by_cases c2 : ∃ j, j < l.length ∧ rd (vl l i j) = 2
    · rw [if_pos (h2.2 c2)]
      have ha : ¬ (anA l l.length).testBit i = true := fun h => by
        obtain ⟨j, hj, e⟩ := c2
        have := hA.1 h j hj
        omega
      rw [if_neg ha]
    · rw [if_neg (fun h => c2 (h2.1 h))]
      have ha : (anA l l.length).testBit i = true := hA.2 fun j hj => by
        rcases rd_cases (vl l i j) with e | e | e
        · exact absurd ⟨j, hj, e⟩ c0
        · exact e
        · exact absurd ⟨j, hj, e⟩ c2
      rw [if_pos ha]
theorem or_ln : lnV (orA l l.length) (orB l l.length) i = orL (lanes l i) := by
  have hA := orA_bit hw hi l.length
  have hB := orB_bit hw hi l.length
  have h1 := any_iff hw hi 1
  have h2 := any_iff hw hi 2
  unfold orL lnV
  by_cases c1 : ∃ j, j < l.length ∧ rd (vl l i j) = 1
  · rw [if_pos (h1.2 c1), if_pos (hA.2 c1)]
    have hb : ¬ (orB l l.length).testBit i = true := fun h => by
      obtain ⟨j, hj, e⟩ := c1
      have := hB.1 h j hj
      omega
    rw [if_neg hb]
  · rw [if_neg (fun h => c1 (h1.1 h)), if_neg (fun h => c1 (hA.1 h))]
    by_cases c2 : ∃ j, j < l.length ∧ rd (vl l i j) = 2
    · rw [if_pos (h2.2 c2)]
      have hb : ¬ (orB l l.length).testBit i = true := fun h => by
        obtain ⟨j, hj, e⟩ := c2
        have := hB.1 h j hj
        omega
      rw [if_neg hb]
    · rw [if_neg (fun h => c2 (h2.1 h))]
      have hb : (orB l l.length).testBit i = true := hB.2 fun j hj => by
        rcases rd_cases (vl l i j) with e | e | e
        · exact e
        · exact absurd ⟨j, hj, e⟩ c1
        · exact absurd ⟨j, hj, e⟩ c2
      rw [if_pos hb]
end
/-- tri and mux in a lane, of words that are read. -/
theorem tri_ln {a b c d i : Nat} (h1 : Sep a b) (h2 : Sep c d) (hi : i < 64) : lnV (trN b a c) (trN b a d) i = tr (lnV a b i) (lnV c d i) := by
  have s1 := h1 i hi
  have s2 := h2 i hi
  unfold trN lnV
  rw [Nat.testBit_or, Nat.testBit_and, Nat.testBit_or, Nat.testBit_and]
  revert s1 s2
  cases a.testBit i <;> cases b.testBit i <;> cases c.testBit i <;> cases d.testBit i <;> simp [tr, rd, knw]
theorem mux_ln {o z a b c d i : Nat} (h1 : Sep o z) (h2 : Sep a b) (h3 : Sep c d) (hi : i < 64) : lnV (muN o z a c) (muN o z b d) i = mx (lnV o z i) (lnV a b i) (lnV c d i) := by
  have s1 := h1 i hi
  have s2 := h2 i hi
  have s3 := h3 i hi
  unfold muN lnV
  simp only [Nat.testBit_or, Nat.testBit_and]
  revert s1 s2 s3
  cases o.testBit i <;> cases z.testBit i <;> cases a.testBit i <;> cases b.testBit i <;> cases c.testBit i <;> cases d.testBit i <;> simp [mx, rd, knw]
end Go.Proofs.YtemogllidmgbfaaGreatDoor
