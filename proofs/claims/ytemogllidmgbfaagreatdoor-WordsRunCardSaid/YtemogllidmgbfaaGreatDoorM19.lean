/- The texts Wpl Wtb Wat. -/
import Derived.Test.YtemogllidmgbfaaGreatDoorM01
import Derived.Laws.BitsAllLaws
import Derived.Test.YtemogllidmgbfaaGreatDoorM11
import Derived.Test.YtemogllidmgbfaaGreatDoorM15
import Derived.Deep.RegionHeld3
namespace Go.Proofs.YtemogllidmgbfaaGreatDoor

/-- The value of lane i of the word with the numbers a (One) and b (Zero). -/
def lnV (a b i : Nat) : Int := if a.testBit i = true then (if b.testBit i = true then 3 else 1) else (if b.testBit i = true then 0 else 2)
def W64 (a : Nat) : Prop := a < 18446744073709551616
theorem W64.two {a : Nat} (h : W64 a) : a < 2 ^ 64 := h
theorem W64.high {a : Nat} (h : W64 a) {i : Nat} (hi : 64 ≤ i) : a.testBit i = false :=
  Nat.testBit_lt_two_pow (Nat.lt_of_lt_of_le h.two (Nat.pow_le_pow_right (by decide) hi))
theorem word_ext {a b : Nat} (ha : W64 a) (hb : W64 b) (h : ∀ i, i < 64 → a.testBit i = b.testBit i) : a = b := by
  apply Nat.eq_of_testBit_eq
  intro i
  by_cases hi : i < 64
  · exact h i hi
  · rw [ha.high (by omega), hb.high (by omega)]
theorem lnV_cases (a b i : Nat) : (a.testBit i = false ∧ b.testBit i = true ∧ lnV a b i = 0) ∨ (a.testBit i = true ∧ b.testBit i = false ∧ lnV a b i = 1) ∨ (a.testBit i = false ∧ b.testBit i = false ∧ lnV a b i = 2) ∨ (a.testBit i = true ∧ b.testBit i = true ∧ lnV a b i = 3) := by
  unfold lnV
  cases a.testBit i <;> cases b.testBit i <;> simp
theorem lnV_eq {a b c d i : Nat} (h : lnV a b i = lnV c d i) : a.testBit i = c.testBit i ∧ b.testBit i = d.testBit i := by
  unfold lnV at h
  cases h1 : a.testBit i <;> cases h2 : b.testBit i <;> cases h3 : c.testBit i <;> cases h4 : d.testBit i <;> simp [h1, h2, h3, h4] at h ⊢
theorem words_ext {a b c d : Nat} (ha : W64 a) (hb : W64 b) (hc : W64 c) (hd : W64 d) (h : ∀ i, i < 64 → lnV a b i = lnV c d i) : a = c ∧ b = d :=
  ⟨word_ext ha hc fun i hi => (lnV_eq (h i hi)).1, word_ext hb hd fun i hi => (lnV_eq (h i hi)).2⟩
theorem lnV_in (a b i : Nat) : 0 ≤ lnV a b i ∧ lnV a b i ≤ 3 := by
  rcases lnV_cases a b i with ⟨-, -, h⟩ | ⟨-, -, h⟩ | ⟨-, -, h⟩ | ⟨-, -, h⟩ <;> omega
theorem lnV_cln (a b i : Nat) : cln (lnV a b i) = lnV a b i := by
  have := lnV_in a b i
  unfold cln
  rw [if_neg (by omega)]

section
variable {a b c d : Nat}
theorem W64.and (ha : W64 a) : W64 (a &&& b) := Nat.lt_of_le_of_lt Nat.and_le_left ha
theorem W64.or (ha : W64 a) (hb : W64 b) : W64 (a ||| b) := Nat.or_lt_two_pow (n := 64) ha hb
theorem W64.xor (ha : W64 a) (hb : W64 b) : W64 (a ^^^ b) := Nat.xor_lt_two_pow (n := 64) ha hb
/-- a without the bits of b. -/
def anot (a b : Nat) : Nat := a &&& (18446744073709551615 - b)
theorem W64.anot (ha : W64 a) : W64 (anot a b) := ha.and
theorem compl_bit (hb : W64 b) {i : Nat} (hi : i < 64) : (18446744073709551615 - b).testBit i = !b.testBit i := by
  have := Nat.testBit_two_pow_sub_succ (n := 64) (x := b) hb i
  rw [show 2 ^ 64 - (b + 1) = 18446744073709551615 - b from by omega] at this
  rw [this]; simp [hi]
theorem anot_bit (hb : W64 b) {i : Nat} (hi : i < 64) : (anot a b).testBit i = (a.testBit i && !b.testBit i) := by
  unfold Proofs.YtemogllidmgbfaaGreatDoor.anot
  rw [Nat.testBit_and, compl_bit hb hi]
theorem all_bit {i : Nat} (hi : i < 64) : (18446744073709551615 : Nat).testBit i = true := by
  have := Nat.testBit_two_pow_sub_one 64 i
  rw [show (2 : Nat) ^ 64 - 1 = 18446744073709551615 from by decide] at this
  rw [this]; simp [hi]
theorem w_all : W64 18446744073709551615 := by unfold W64; decide
theorem w_zero : W64 0 := by unfold W64; decide
/-- What a gate reads. -/
theorem read_ln (ha : W64 a) (hb : W64 b) {i : Nat} (hi : i < 64) : lnV (anot a b) (anot b a) i = rd (lnV a b i) := by
  rcases lnV_cases a b i with ⟨h1, h2, h⟩ | ⟨h1, h2, h⟩ | ⟨h1, h2, h⟩ | ⟨h1, h2, h⟩ <;> rw [h] <;> unfold lnV <;> rw [anot_bit hb hi, anot_bit ha hi, h1, h2] <;> decide
/-- No bit is set in both. -/
def Sep (a b : Nat) : Prop := ∀ i, i < 64 → a.testBit i = true → b.testBit i = false
theorem read_sep (ha : W64 a) (hb : W64 b) : Sep (anot a b) (anot b a) := fun i hi h => by
  rw [anot_bit hb hi] at h
  rw [anot_bit ha hi]
  cases h1 : a.testBit i <;> cases h2 : b.testBit i <;> simp [h1, h2] at h ⊢
end

/-- The value that fills a word. -/
def fA (v : Int) : Nat := if v = 1 ∨ v = 3 then 18446744073709551615 else 0
def fB (v : Int) : Nat := if v = 0 ∨ v = 3 then 18446744073709551615 else 0
theorem fA_w (v : Int) : W64 (fA v) := by unfold fA; split; exact w_all; exact w_zero
theorem fB_w (v : Int) : W64 (fB v) := by unfold fB; split; exact w_all; exact w_zero
theorem fill_ln {v : Int} (h0 : 0 ≤ v) (h3 : v ≤ 3) {i : Nat} (hi : i < 64) : lnV (fA v) (fB v) i = v := by
  have : v = 0 ∨ v = 1 ∨ v = 2 ∨ v = 3 := by omega
  rcases this with rfl | rfl | rfl | rfl <;> simp [lnV, fA, fB, all_bit hi]
end Go.Proofs.YtemogllidmgbfaaGreatDoor

namespace Go.Proofs.YtemogllidmgbfaaGreatDoor
open Go.RowKit

def fullL : List Int := [0, 18446744073709551615, 18446744073709551615, 0, 0, 0, 18446744073709551615, 18446744073709551615]
/-- The table of the words of the values holds what the text lays. -/
def Ft (w : World) : Prop := ∀ j, j < 8 → w.cell? ⟨0, j, none⟩ = some (.int .u64 (fullL.getD j 0))
theorem Ft.below {w w' : World} (h : Ft w) (hb : BelW w w') : Ft w' := fun j hj => by
  rw [← h j hj]; exact Below.cell hb (p := ⟨0, j, none⟩) (cell_lt (h j hj))
/-- A word as a value. -/
def wv (a b : Nat) : Value := .agg #[.int .u64 (a : Int), .int .u64 (b : Int)]

set_option maxHeartbeats 2000000 in
theorem fill_any (v : Int) (hv : 0 ≤ v) (w : World) (hf : Ft w) : Calls Tryz.prog 22 #[.int .u8 v] w fun e w' => e = .returned (wv (fA (cln v)) (fB (cln v))) ∧ BelW w w' := by
  have hc := cln_cases v hv
  have HCL := Lib.hid (fun w => Lg.clean_any v w)
  obtain ⟨c, HC⟩ := named (cln v)
  rw [← HC.out] at hc HCL
  rw [← HC.out]
  obtain ⟨W1, HW1⟩ := named (w.alloc (.cells #[.int .u64 0, .int .u64 0] 27))
  have hb1 : BelW w W1 := by rw [HW1.out]; exact below_new (Below.refl _ _) _
  have hfr : Fr W1 w.heap.size 27 [.int .u64 0, .int .u64 0] := by rw [HW1.out]; exact Fr.made _ _ _ rfl
  have hf1 := hf.below hb1
  obtain ⟨r, HR⟩ := named w.heap.size
  rw [← HR.out] at hfr
  have z0 := hfr.cell 0
  have z1 := hfr.cell 1
  have z2 := hfr.frozen 0
  have z3 := hfr.frozen 1
  have HFR := Lib.hid hfr
  have HB1 := Lib.hid hb1
  have hrl : w.heap.size ≤ r := by rw [HR.out]; exact Nat.le_refl _
  have k0 := hf1 0 (by decide)
  have k1 := hf1 1 (by decide)
  have k2 := hf1 2 (by decide)
  have k3 := hf1 3 (by decide)
  have k4 := hf1 4 (by decide)
  have k5 := hf1 5 (by decide)
  have k6 := hf1 6 (by decide)
  have k7 := hf1 7 (by decide)
  simp only [fullL, List.getD_cons_zero, List.getD_cons_succ] at k0 k1 k2 k3 k4 k5 k6 k7
  clear hfr hb1 hf hf1
  go_enter Tryz.func22, Tryz.ntmps22
  go_upto_region 1 with (fail)
  rw [← HW1.out, ← HR.out]
  rcases hc with rfl | rfl | rfl | rfl <;>
    (go_wp2_with (go_at_call 67; (with_reducible refine (HCL.out _).mono ?_); rintro e w' ⟨rfl, rfl⟩)
     (try simp only [Exit.inBlock, Exit.then])
     refine bodyPost_ret (results_cell_row rfl _ _ _ _ _ _ _ rfl ((HFR.out.set 0 _).set 1 _) Tryz.underlying27 rfl (by kernel_rfl)) rfl ?_
     exact ⟨rfl, Below.setCell (Below.setCell HB1.out hrl _) hrl _⟩)

/-- A parameter that is a word lies in its variable; so does the result. -/
theorem two_boxes (w : World) (a b : Nat) {W : World} (h : W = (w.alloc (.cells #[.int .u64 (a : Int), .int .u64 (b : Int)] 27)).alloc (.cells #[.int .u64 0, .int .u64 0] 27)) :
    BelW w W ∧ Fr W w.heap.size 27 [.int .u64 (a : Int), .int .u64 (b : Int)] ∧ Fr W (w.heap.size + 1) 27 [.int .u64 0, .int .u64 0] := by
  subst h
  exact ⟨below_new (below_new (Below.refl _ _) _) _, Fr.alloc (Fr.made _ _ _ rfl) _, Fr.made _ _ _ (by simp)⟩

set_option maxHeartbeats 2000000 in
theorem read_any (a b : Nat) (ha : W64 a) (hb : W64 b) (w : World) : Calls Tryz.prog 68 #[wv a b] w fun e w' => e = .returned (wv (anot a b) (anot b a)) ∧ BelW w w' := by
  obtain ⟨W1, HW1⟩ := named ((w.alloc (.cells #[.int .u64 (a : Int), .int .u64 (b : Int)] 27)).alloc (.cells #[.int .u64 0, .int .u64 0] 27))
  obtain ⟨hb1, hfp, hfr⟩ := two_boxes w a b HW1.out
  obtain ⟨q, HQ⟩ := named w.heap.size
  obtain ⟨r, HR⟩ := named (q + 1)
  rw [← HQ.out] at hfp hfr
  rw [← HR.out] at hfr
  have x0 := hfp.cell 0
  have x1 := hfp.cell 1
  have z0 := hfr.cell 0
  have z1 := hfr.cell 1
  have z2 := hfr.frozen 0
  have z3 := hfr.frozen 1
  have e1 : bits .andNot .u64 (a : Int) (b : Int) = ((anot a b : Nat) : Int) := u64_andNot_nat a b ha hb
  have e2 : bits .andNot .u64 (b : Int) (a : Int) = ((anot b a : Nat) : Int) := u64_andNot_nat b a hb ha
  obtain ⟨c, HC⟩ := named (anot a b)
  obtain ⟨d, HD⟩ := named (anot b a)
  rw [← HC.out] at e1
  rw [← HD.out] at e2
  rw [← HC.out, ← HD.out]
  have HFR := Lib.hid hfr
  have HB1 := Lib.hid hb1
  have hrl : w.heap.size ≤ r := by rw [HR.out, HQ.out]; omega
  clear hfr hb1 hfp
  unfold wv
  go_enter Tryz.func68, Tryz.ntmps68
  go_upto_region 1 with (fail)
  rw [← HW1.out, ← HQ.out, ← HR.out]
  go_wp2
  (try simp only [Exit.inBlock, Exit.then])
  refine bodyPost_ret (results_cell_row rfl _ _ _ _ _ _ _ rfl ((HFR.out.set 0 _).set 1 _) Tryz.underlying27 rfl (by kernel_rfl)) rfl ?_
  exact ⟨rfl, Below.setCell (Below.setCell HB1.out hrl _) hrl _⟩

/-- One bit. -/
theorem bit_one {l : Nat} (h : l < 64) : W64 (2 ^ l) := by
  unfold W64
  calc 2 ^ l < 2 ^ 64 := Nat.pow_lt_pow_right (by decide) h
    _ = 18446744073709551616 := by decide
set_option maxHeartbeats 2000000 in
theorem only_any (a b l : Nat) (ha : W64 a) (hb : W64 b) (hl : l < 64) (w : World) : Calls Tryz.prog 63 #[wv a b, .int .i64 (l : Int)] w fun e w' => e = .returned (wv (a &&& 2 ^ l) (b &&& 2 ^ l)) ∧ BelW w w' := by
  obtain ⟨W1, HW1⟩ := named ((w.alloc (.cells #[.int .u64 (a : Int), .int .u64 (b : Int)] 27)).alloc (.cells #[.int .u64 0, .int .u64 0] 27))
  obtain ⟨hb1, hfp, hfr⟩ := two_boxes w a b HW1.out
  obtain ⟨q, HQ⟩ := named w.heap.size
  obtain ⟨r, HR⟩ := named (q + 1)
  rw [← HQ.out] at hfp hfr
  rw [← HR.out] at hfr
  have x0 := hfp.cell 0
  have x1 := hfp.cell 1
  have z0 := hfr.cell 0
  have z1 := hfr.cell 1
  have z2 := hfr.frozen 0
  have z3 := hfr.frozen 1
  have hp := bit_one hl
  obtain ⟨p, HP⟩ := named (2 ^ l)
  rw [← HP.out] at hp
  rw [← HP.out]
  have e0 : IntKind.u64.wrap ((2 : Int) ^ l) = (p : Int) := by
    have h : (2 : Int) ^ l = ((2 ^ l : Nat) : Int) := by rw [Int.natCast_pow]; rfl
    rw [h, ← HP.out, IntKind.wrap_u64]
    unfold W64 at hp
    omega
  have e1 : bits .and .u64 (a : Int) (p : Int) = ((a &&& p : Nat) : Int) := u64_and_nat a p ha hp
  have e2 : bits .and .u64 (b : Int) (p : Int) = ((b &&& p : Nat) : Int) := u64_and_nat b p hb hp
  obtain ⟨c, HC⟩ := named (a &&& p)
  obtain ⟨d, HD⟩ := named (b &&& p)
  rw [← HC.out] at e1
  rw [← HD.out] at e2
  rw [← HC.out, ← HD.out]
  have HFR := Lib.hid hfr
  have HB1 := Lib.hid hb1
  have hrl : w.heap.size ≤ r := by rw [HR.out, HQ.out]; omega
  clear hfr hb1 hfp
  unfold wv
  go_enter Tryz.func63, Tryz.ntmps63
  go_upto_region 1 with (fail)
  rw [← HW1.out, ← HQ.out, ← HR.out]
  go_wp2
  (try simp only [Exit.inBlock, Exit.then])
  refine bodyPost_ret (results_cell_row rfl _ _ _ _ _ _ _ rfl ((HFR.out.set 0 _).set 1 _) Tryz.underlying27 rfl (by kernel_rfl)) rfl ?_
  exact ⟨rfl, Below.setCell (Below.setCell HB1.out hrl _) hrl _⟩

theorem bit_shr (a l : Nat) : (a / 2 ^ l) &&& 1 = if a.testBit l = true then 1 else 0 := by
  rw [Nat.and_one_is_mod, Nat.testBit_eq_decide_div_mod_eq]
  have := Nat.mod_lt (a / 2 ^ l) (show 0 < 2 by decide)
  by_cases h : a / 2 ^ l % 2 = 1
  · rw [if_pos (by simpa using h)]; exact h
  · rw [if_neg (by simpa using h)]; omega
theorem bit_and1 (a l : Nat) (ha : W64 a) : bits .and .u64 ((a : Int) / (2 : Int) ^ l) 1 = if a.testBit l = true then 1 else 0 := by
  have h : (a : Int) / (2 : Int) ^ l = ((a / 2 ^ l : Nat) : Int) := by
    have h2 : (2 : Int) ^ l = ((2 ^ l : Nat) : Int) := by rw [Int.natCast_pow]; rfl
    rw [h2, Int.natCast_ediv]
  rw [h]
  have h3 := u64_and_nat (a / 2 ^ l) 1 (Nat.lt_of_le_of_lt (Nat.div_le_self _ _) ha) (by decide)
  rw [show ((1 : Nat) : Int) = 1 from rfl] at h3
  rw [h3, bit_shr]
  split <;> rfl
set_option maxHeartbeats 2000000 in
theorem lat7_any (a b l : Nat) (ha : W64 a) (hb : W64 b) (hl : l < 64) (w : World) : Calls Tryz.prog 9 #[wv a b, .int .i64 (l : Int)] w fun e w' => e = .returned (.int .u8 (lnV a b l)) ∧ BelW w w' := by
  obtain ⟨W1, HW1⟩ := named (w.alloc (.cells #[.int .u64 (a : Int), .int .u64 (b : Int)] 27))
  have hb1 : BelW w W1 := by rw [HW1.out]; exact below_new (Below.refl _ _) _
  have hfp : Fr W1 w.heap.size 27 [.int .u64 (a : Int), .int .u64 (b : Int)] := by rw [HW1.out]; exact Fr.made _ _ _ rfl
  obtain ⟨q, HQ⟩ := named w.heap.size
  rw [← HQ.out] at hfp
  have x0 := hfp.cell 0
  have x1 := hfp.cell 1
  have HB1 := Lib.hid hb1
  have hln := lnV_cases a b l
  obtain ⟨y, HY⟩ := named (lnV a b l)
  rw [← HY.out] at hln
  rw [← HY.out]
  have HLN := Lib.hid hln
  clear hfp hb1 hln
  unfold wv
  go_enter Tryz.func9, Tryz.ntmps9
  go_upto_region 1 with (fail)
  rw [← HW1.out, ← HQ.out]
  have e1 := bit_and1 a l ha
  have e2 := bit_and1 b l hb
  rcases HLN.out with ⟨h1, h2, h3⟩ | ⟨h1, h2, h3⟩ | ⟨h1, h2, h3⟩ | ⟨h1, h2, h3⟩ <;>
    (rw [h1] at e1
     rw [h2] at e2
     simp only [if_true, Bool.false_eq_true, if_false] at e1 e2
     go_wp2
     go_ret
     exact ⟨by rw [h3]; rfl, HB1.out⟩)

/-- Two words agree in a lane. -/
theorem and_bit_eq (a c l : Nat) : a &&& 2 ^ l = c &&& 2 ^ l ↔ a.testBit l = c.testBit l := by
  constructor
  · intro h
    have := congrArg (fun x => x.testBit l) h
    simpa [Nat.testBit_and, Nat.testBit_two_pow_self] using this
  · intro h
    apply Nat.eq_of_testBit_eq
    intro i
    rw [Nat.testBit_and, Nat.testBit_and, Nat.testBit_two_pow]
    by_cases e : l = i
    · subst e; rw [h]
    · simp [e]
theorem only_eq {a b l v : Nat} (hl : l < 64) (hv : v < 4) : (a &&& 2 ^ l = fA v &&& 2 ^ l ∧ b &&& 2 ^ l = fB v &&& 2 ^ l) ↔ lnV a b l = (v : Int) := by
  have h := fill_ln (v := (v : Int)) (by omega) (by omega) hl
  rw [and_bit_eq, and_bit_eq]
  constructor
  · rintro ⟨h1, h2⟩
    exact (show lnV a b l = lnV (fA v) (fB v) l by unfold lnV; rw [h1, h2]).trans h
  · intro h'
    exact lnV_eq (h'.trans h.symm)
theorem Ft.at {w : World} (h : Ft w) {v : Nat} (hv : v < 4) : w.cell? ⟨0, v * 2, none⟩ = some (.int .u64 (fA v : Int)) ∧ w.cell? ⟨0, v * 2 + 1, none⟩ = some (.int .u64 (fB v : Int)) := by
  rw [h _ (by omega), h _ (by omega)]
  match v, hv with
  | 0, _ => exact ⟨rfl, rfl⟩
  | 1, _ => exact ⟨rfl, rfl⟩
  | 2, _ => exact ⟨rfl, rfl⟩
  | 3, _ => exact ⟨rfl, rfl⟩
end Go.Proofs.YtemogllidmgbfaaGreatDoor

namespace Go.Proofs.YtemogllidmgbfaaGreatDoor
open Go.RowKit

set_option maxRecDepth 100000 in
set_option maxHeartbeats 4000000 in
theorem wat_any (a b l : Nat) (ha : W64 a) (hb : W64 b) (hl : l < 64) (w : World) (hf : Ft w) : Calls Tryz.prog 21 #[wv a b, .int .i64 (l : Int)] w fun e w' => e = .returned (.int .u8 (lnV a b l)) ∧ BelW w w' := by
  obtain ⟨W1, HW1⟩ := named (w.alloc (.cells #[.int .u64 (a : Int), .int .u64 (b : Int)] 27))
  have hb1 : BelW w W1 := by rw [HW1.out]; exact below_new (Below.refl _ _) _
  have hfp : Fr W1 w.heap.size 27 [.int .u64 (a : Int), .int .u64 (b : Int)] := by rw [HW1.out]; exact Fr.made _ _ _ rfl
  obtain ⟨q, HQ⟩ := named w.heap.size
  rw [← HQ.out] at hfp
  have x0 := hfp.cell 0
  have x1 := hfp.cell 1
  have HB1 := Lib.hid hb1
  have HF1 := Lib.hid (hf.below hb1)
  have hON := only_any a b l ha hb hl
  have HEQ := Lib.hid (fun v (hv : v < 4) => only_eq (a := a) (b := b) (l := l) (v := v) hl hv)
  have HOV : Hid (∀ (v : Nat) (W : World), Calls Tryz.prog 63 #[wv (fA v) (fB v), .int .i64 (l : Int)] W fun e w' => e = .returned (wv (fA v &&& 2 ^ l) (fB v &&& 2 ^ l)) ∧ BelW W w') := Lib.hid fun v W => only_any _ _ l (fA_w _) (fB_w _) hl W
  obtain ⟨c, HC⟩ := named (a &&& 2 ^ l)
  obtain ⟨d, HD⟩ := named (b &&& 2 ^ l)
  rw [← HC.out, ← HD.out] at hON
  have HONN := Lib.hid hON
  rw [← HC.out, ← HD.out] at HEQ
  have hin := lnV_in a b l
  obtain ⟨y, HY⟩ := named (lnV a b l)
  rw [← HY.out] at HEQ hin
  rw [← HY.out]
  have hl2 : (l : Int) < 64 := by omega
  clear hfp hb1 hf hON
  unfold wv at *
  go_enter Tryz.func21, Tryz.ntmps21
  go_upto_region 1 with (fail)
  rw [← HW1.out, ← HQ.out]
  go_upto_region 3 with (go_at_call 63; (with_reducible refine (HONN.out _).mono ?_); rintro e w2 ⟨rfl, hb2⟩; have HB2 : Hid (BelW W1 w2) := Lib.hid hb2; clear hb2)
  clear x0 x1
  obtain ⟨V2, HV2⟩ := named (w2.alloc (.cells #[.int .u64 (c : Int), .int .u64 (d : Int)] 27))
  have hn2 : BelW w2 V2 := by rw [HV2.out]; exact below_new (Below.refl _ _) _
  have hfx : Fr V2 w2.heap.size 27 [.int .u64 (c : Int), .int .u64 (d : Int)] := by rw [HV2.out]; exact Fr.made _ _ _ rfl
  obtain ⟨q2, HQ2⟩ := named w2.heap.size
  rw [← HQ2.out] at hfx
  rw [← HV2.out, ← HQ2.out]
  have HB12 : Hid (BelW W1 V2) := Lib.hid (joinB HB2.out hn2)
  have HKE : Hid (∀ (v : Nat) (W : World), v < 4 → BelW V2 W → BelW V2 W ∧ W.cell? ⟨q2, 0, none⟩ = some (.int .u64 (c : Int)) ∧ W.cell? ⟨q2, 1, none⟩ = some (.int .u64 (d : Int)) ∧ W.cell? ⟨0, v * 2, none⟩ = some (.int .u64 (fA v : Int)) ∧ W.cell? ⟨0, v * 2 + 1, none⟩ = some (.int .u64 (fB v : Int))) := Lib.hid fun v W hv h => by
    have ft := (HF1.out.below (joinB HB12.out h)).at hv
    exact ⟨h, (hfx.below h).cell 0, (hfx.below h).cell 1, ft.1, ft.2⟩
  have HFIN : Hid (∀ W, BelW V2 W → BelW w W) := Lib.hid fun W h => joinB HB1.out (joinB HB12.out h)
  clear hn2 hfx
  go_wp2
  go_loopw [16] (fun i wr => ∃ k : Nat, k ≤ 4 ∧ i = .int .i64 k ∧ BelW V2 wr ∧ ∀ j : Nat, j < k → y ≠ (j : Int)) (fun i _ => 4 - (intOf i).toNat)
  case atStart => exact ⟨0, Nat.zero_le _, rfl, Below.refl _ _, fun j hj => absurd hj (by omega)⟩
  case round =>
    obtain ⟨k, hk, rfl, hb, hno⟩ := hrel
    by_cases hlt : k < 4
    · have hke := HKE.out k wr hlt hb
      obtain ⟨hs0, x0, x1, y0, y1⟩ := hke
      have HKK := Lib.hid (fun W h => HKE.out k W hlt h)
      have HOK := Lib.hid (HOV.out k)
      have heq := HEQ.out k hlt
      obtain ⟨f, HF⟩ := named (fA (k : Int))
      obtain ⟨g, HG⟩ := named (fB (k : Int))
      rw [← HF.out] at y0 heq HKK HOK
      rw [← HG.out] at y1 heq HKK HOK
      obtain ⟨f2, HF2⟩ := named (f &&& 2 ^ l)
      obtain ⟨g2, HG2⟩ := named (g &&& 2 ^ l)
      rw [← HF2.out, ← HG2.out] at heq HOK
      have HNO := Lib.hid hno
      have HE := Lib.hid heq
      clear hno heq
      have hsp : (c = f2 ∧ d = g2) ∨ (c = f2 ∧ d ≠ g2) ∨ (c ≠ f2 ∧ d = g2) ∨ (c ≠ f2 ∧ d ≠ g2) := by
        by_cases e1 : c = f2 <;> by_cases e2 : d = g2 <;> simp [e1, e2]
      go_upto_region 6 with (fail)
      rcases hsp with ⟨h1, h2⟩ | hsp
      · have t1 : ((c : Int) == (f2 : Int)) = true := by rw [h1]; simp
        have t2 : ((d : Int) == (g2 : Int)) = true := by rw [h2]; simp
        have hyk : y = (k : Int) := HE.out.1 ⟨h1, h2⟩
        have HYK := Lib.hid hyk
        clear h1 h2 hyk
        go_region_held3 (fun w' => BelW V2 w' ∧ w'.cell? ⟨q2, 0, none⟩ = some (.int .u64 (c : Int)) ∧ w'.cell? ⟨q2, 1, none⟩ = some (.int .u64 (d : Int)) ∧ w'.cell? ⟨0, k * 2, none⟩ = some (.int .u64 (f : Int)) ∧ w'.cell? ⟨0, k * 2 + 1, none⟩ = some (.int .u64 (g : Int)))
          ((refine HKK.out _ ?_; first | (with_reducible assumption) | (refine BelW.drew ?_; with_reducible assumption)))
          (first
            | (go_at_call 63; (with_reducible refine Calls.mono (HOK.out _) ?_)
               rintro e wa ⟨rfl, hba⟩
               have hswa : BelW V2 wa := (by refine BelW.next ?_ hba; first | (with_reducible assumption) | (refine BelW.drew ?_; with_reducible assumption))))
        have hkw : IntKind.u8.wrap (k : Int) = (k : Int) := by simp [IntKind.wrap, IntKind.bits, IntKind.signed]; omega
        go_wp2
        go_ret
        exact ⟨by rw [HYK.out]; rfl, HFIN.out _ hswa⟩
      · rcases hsp with ⟨h1, h2⟩ | ⟨h1, h2⟩ | ⟨h1, h2⟩
        · have t1 : ((c : Int) == (f2 : Int)) = true := by rw [h1]; simp
          have t2 : ((d : Int) == (g2 : Int)) = false := by rw [beq_eq_false_iff_ne]; omega
          have HNE : Hid (y ≠ (k : Int)) := Lib.hid fun e => by have := HE.out.2 e; exact h2 this.2
          clear h1 h2
          go_region_held3 (fun w' => BelW V2 w' ∧ w'.cell? ⟨q2, 0, none⟩ = some (.int .u64 (c : Int)) ∧ w'.cell? ⟨q2, 1, none⟩ = some (.int .u64 (d : Int)) ∧ w'.cell? ⟨0, k * 2, none⟩ = some (.int .u64 (f : Int)) ∧ w'.cell? ⟨0, k * 2 + 1, none⟩ = some (.int .u64 (g : Int)))
            ((refine HKK.out _ ?_; first | (with_reducible assumption) | (refine BelW.drew ?_; with_reducible assumption)))
            (first
              | (go_at_call 63; (with_reducible refine Calls.mono (HOK.out _) ?_)
                 rintro e wa ⟨rfl, hba⟩
                 have hswa : BelW V2 wa := (by refine BelW.next ?_ hba; first | (with_reducible assumption) | (refine BelW.drew ?_; with_reducible assumption))))
          go_wp2
          go_roundw
          case rel => exact ⟨k + 1, by omega, by go_num, hswa, fun j hj => by
            by_cases e : j = k
            · subst e; exact HNE.out
            · exact HNO.out j (by omega)⟩
          case measure => simp [intOf]; omega
        · have t1 : ((c : Int) == (f2 : Int)) = false := by rw [beq_eq_false_iff_ne]; omega
          have t2 : ((d : Int) == (g2 : Int)) = true := by rw [h2]; simp
          have HNE : Hid (y ≠ (k : Int)) := Lib.hid fun e => by have := HE.out.2 e; exact h1 this.1
          clear h1 h2
          go_region_held3 (fun w' => BelW V2 w' ∧ w'.cell? ⟨q2, 0, none⟩ = some (.int .u64 (c : Int)) ∧ w'.cell? ⟨q2, 1, none⟩ = some (.int .u64 (d : Int)) ∧ w'.cell? ⟨0, k * 2, none⟩ = some (.int .u64 (f : Int)) ∧ w'.cell? ⟨0, k * 2 + 1, none⟩ = some (.int .u64 (g : Int)))
            ((refine HKK.out _ ?_; first | (with_reducible assumption) | (refine BelW.drew ?_; with_reducible assumption)))
            (first
              | (go_at_call 63; (with_reducible refine Calls.mono (HOK.out _) ?_)
                 rintro e wa ⟨rfl, hba⟩
                 have hswa : BelW V2 wa := (by refine BelW.next ?_ hba; first | (with_reducible assumption) | (refine BelW.drew ?_; with_reducible assumption))))
          go_wp2
          go_roundw
          case rel => exact ⟨k + 1, by omega, by go_num, hswa, fun j hj => by
            by_cases e : j = k
            · subst e; exact HNE.out
            · exact HNO.out j (by omega)⟩
          case measure => simp [intOf]; omega
        · have t1 : ((c : Int) == (f2 : Int)) = false := by rw [beq_eq_false_iff_ne]; omega
          have t2 : ((d : Int) == (g2 : Int)) = false := by rw [beq_eq_false_iff_ne]; omega
          have HNE : Hid (y ≠ (k : Int)) := Lib.hid fun e => by have := HE.out.2 e; exact h1 this.1
          clear h1 h2
          go_region_held3 (fun w' => BelW V2 w' ∧ w'.cell? ⟨q2, 0, none⟩ = some (.int .u64 (c : Int)) ∧ w'.cell? ⟨q2, 1, none⟩ = some (.int .u64 (d : Int)) ∧ w'.cell? ⟨0, k * 2, none⟩ = some (.int .u64 (f : Int)) ∧ w'.cell? ⟨0, k * 2 + 1, none⟩ = some (.int .u64 (g : Int)))
            ((refine HKK.out _ ?_; first | (with_reducible assumption) | (refine BelW.drew ?_; with_reducible assumption)))
            (first
              | (go_at_call 63; (with_reducible refine Calls.mono (HOK.out _) ?_)
                 rintro e wa ⟨rfl, hba⟩
                 have hswa : BelW V2 wa := (by refine BelW.next ?_ hba; first | (with_reducible assumption) | (refine BelW.drew ?_; with_reducible assumption))))
          go_wp2
          go_roundw
          case rel => exact ⟨k + 1, by omega, by go_num, hswa, fun j hj => by
            by_cases e : j = k
            · subst e; exact HNE.out
            · exact HNO.out j (by omega)⟩
          case measure => simp [intOf]; omega
    · exact absurd (show y = ((y.toNat : Nat) : Int) by omega) (hno y.toNat (by omega))
end Go.Proofs.YtemogllidmgbfaaGreatDoor
