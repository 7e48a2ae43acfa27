/- The texts Wtb Wat Wpk. -/
import Derived.Test.YtemogllidmgbfaaGreatDoorM15
import Derived.Test.YtemogllidmgbfaaGreatDoorM11
import Derived.Test.YtemogllidmgbfaaGreatDoorM13
import Derived.Deep.RegionHeld3
import Derived.Test.YtemogllidmgbfaaGreatDoorM12
namespace Go.Proofs.YtemogllidmgbfaaGreatDoor
open Go.RowKit

def fullL : List Int := [0, 18446744073709551615, 18446744073709551615, 0, 0, 0, 18446744073709551615, 18446744073709551615]
/-- The table of the words of the values holds what the text lays. -/
def Ft (w : World) : Prop := ∀ j, j < 8 → w.cell? ⟨0, j, none⟩ = some (.int .u64 (fullL.getD j 0))
theorem Ft.below {w w' : World} (h : Ft w) (hb : BelW w w') : Ft w' := fun j hj => by
  rw [← h j hj]; exact Below.cell hb (p := ⟨0, j, none⟩) (cell_lt (h j hj))
/-- A word as a value. -/
def wv (a b : Nat) : Value := .agg #[.int .u64 (a : Int), .int .u64 (b : Int)]

set_option maxHeartbeats 2000000 in
theorem fill_any (v : Int) (hv : 0 ≤ v) (w : World) (hf : Ft w) : Calls Tryz.prog 22 #[.int .u8 v] w fun e w' => e = .returned (wv (fA (cln v)) (fB (cln v))) ∧ BelW w w' := by
  have hc := cln_cases v hv
  have HCL := Lib.hid (fun w => Lg.clean_any v w)
  obtain ⟨c, HC⟩ := named (cln v)
  rw [← HC.out] at hc HCL
  rw [← HC.out]
  obtain ⟨W1, HW1⟩ := named (w.alloc (.cells #[.int .u64 0, .int .u64 0] 27))
  have hb1 : BelW w W1 := by rw [HW1.out]; exact below_new (Below.refl _ _) _
  have hfr : Fr W1 w.heap.size 27 [.int .u64 0, .int .u64 0] := by rw [HW1.out]; exact Fr.made _ _ _ rfl
  have hf1 := hf.below hb1
  obtain ⟨r, HR⟩ := named w.heap.size
  rw [← HR.out] at hfr
  have z0 := hfr.cell 0
  have z1 := hfr.cell 1
  have z2 := hfr.frozen 0
  have z3 := hfr.frozen 1
  have HFR := Lib.hid hfr
  have HB1 := Lib.hid hb1
  have hrl : w.heap.size ≤ r := by rw [HR.out]; exact Nat.le_refl _
  have k0 := hf1 0 (by decide)
  have k1 := hf1 1 (by decide)
  have k2 := hf1 2 (by decide)
  have k3 := hf1 3 (by decide)
  have k4 := hf1 4 (by decide)
  have k5 := hf1 5 (by decide)
  have k6 := hf1 6 (by decide)
  have k7 := hf1 7 (by decide)
  simp only [fullL, List.getD_cons_zero, List.getD_cons_succ] at k0 k1 k2 k3 k4 k5 k6 k7
  clear hfr hb1 hf hf1
  go_enter Tryz.func22, Tryz.ntmps22
  go_upto_region 1 with (fail)
  rw [← HW1.out, ← HR.out]
  rcases hc with rfl | rfl | rfl | rfl <;>
    (go_wp2_with (go_at_call 67; (with_reducible refine (HCL.out _).mono ?_); rintro e w' ⟨rfl, rfl⟩)
     (try simp only [Exit.inBlock, Exit.then])
     refine bodyPost_ret (results_cell_row rfl _ _ _ _ _ _ _ rfl ((HFR.out.set 0 _).set 1 _) Tryz.underlying27 rfl (by kernel_rfl)) rfl ?_
     exact ⟨rfl, Below.setCell (Below.setCell HB1.out hrl _) hrl _⟩)

/-- A parameter that is a word lies in its variable; so does the result. -/
theorem two_boxes (w : World) (a b : Nat) {W : World} (h : W = (w.alloc (.cells #[.int .u64 (a : Int), .int .u64 (b : Int)] 27)).alloc (.cells #[.int .u64 0, .int .u64 0] 27)) :
    BelW w W ∧ Fr W w.heap.size 27 [.int .u64 (a : Int), .int .u64 (b : Int)] ∧ Fr W (w.heap.size + 1) 27 [.int .u64 0, .int .u64 0] := by
  subst h
  exact ⟨below_new (below_new (Below.refl _ _) _) _, Fr.alloc (Fr.made _ _ _ rfl) _, Fr.made _ _ _ (by simp)⟩

set_option maxHeartbeats 2000000 in
theorem read_any (a b : Nat) (ha : W64 a) (hb : W64 b) (w : World) : Calls Tryz.prog 68 #[wv a b] w fun e w' => e = .returned (wv (anot a b) (anot b a)) ∧ BelW w w' := by
  obtain ⟨W1, HW1⟩ := named ((w.alloc (.cells #[.int .u64 (a : Int), .int .u64 (b : Int)] 27)).alloc (.cells #[.int .u64 0, .int .u64 0] 27))
  obtain ⟨hb1, hfp, hfr⟩ := two_boxes w a b HW1.out
  obtain ⟨q, HQ⟩ := named w.heap.size
  obtain ⟨r, HR⟩ := named (q + 1)
  rw [← HQ.out] at hfp hfr
  rw [← HR.out] at hfr
  have x0 := hfp.cell 0
  have x1 := hfp.cell 1
  have z0 := hfr.cell 0
  have z1 := hfr.cell 1
  have z2 := hfr.frozen 0
  have z3 := hfr.frozen 1
  have e1 : bits .andNot .u64 (a : Int) (b : Int) = ((anot a b : Nat) : Int) := u64_andNot_nat a b ha hb
  have e2 : bits .andNot .u64 (b : Int) (a : Int) = ((anot b a : Nat) : Int) := u64_andNot_nat b a hb ha
  obtain ⟨c, HC⟩ := named (anot a b)
  obtain ⟨d, HD⟩ := named (anot b a)
  rw [← HC.out] at e1
  rw [← HD.out] at e2
  rw [← HC.out, ← HD.out]
  have HFR := Lib.hid hfr
  have HB1 := Lib.hid hb1
  have hrl : w.heap.size ≤ r := by rw [HR.out, HQ.out]; omega
  clear hfr hb1 hfp
  unfold wv
  go_enter Tryz.func68, Tryz.ntmps68
  go_upto_region 1 with (fail)
  rw [← HW1.out, ← HQ.out, ← HR.out]
  go_wp2
  (try simp only [Exit.inBlock, Exit.then])
  refine bodyPost_ret (results_cell_row rfl _ _ _ _ _ _ _ rfl ((HFR.out.set 0 _).set 1 _) Tryz.underlying27 rfl (by kernel_rfl)) rfl ?_
  exact ⟨rfl, Below.setCell (Below.setCell HB1.out hrl _) hrl _⟩

/-- One bit. -/
theorem bit_one {l : Nat} (h : l < 64) : W64 (2 ^ l) := by
  unfold W64
  calc 2 ^ l < 2 ^ 64 := Nat.pow_lt_pow_right (by decide) h
    _ = 18446744073709551616 := by decide
set_option maxHeartbeats 2000000 in
theorem only_any (a b l : Nat) (ha : W64 a) (hb : W64 b) (hl : l < 64) (w : World) : Calls Tryz.prog 63 #[wv a b, .int .i64 (l : Int)] w fun e w' => e = .returned (wv (a &&& 2 ^ l) (b &&& 2 ^ l)) ∧ BelW w w' := by
  obtain ⟨W1, HW1⟩ := named ((w.alloc (.cells #[.int .u64 (a : Int), .int .u64 (b : Int)] 27)).alloc (.cells #[.int .u64 0, .int .u64 0] 27))
  obtain ⟨hb1, hfp, hfr⟩ := two_boxes w a b HW1.out
  obtain ⟨q, HQ⟩ := named w.heap.size
  obtain ⟨r, HR⟩ := named (q + 1)
  rw [← HQ.out] at hfp hfr
  rw [← HR.out] at hfr
  have x0 := hfp.cell 0
  have x1 := hfp.cell 1
  have z0 := hfr.cell 0
  have z1 := hfr.cell 1
  have z2 := hfr.frozen 0
  have z3 := hfr.frozen 1
  have hp := bit_one hl
  obtain ⟨p, HP⟩ := named (2 ^ l)
  rw [← HP.out] at hp
  rw [← HP.out]
  have e0 : IntKind.u64.wrap ((2 : Int) ^ l) = (p : Int) := by
    have h : (2 : Int) ^ l = ((2 ^ l : Nat) : Int) := by rw [Int.natCast_pow]; rfl
    rw [h, ← HP.out, IntKind.wrap_u64]
    unfold W64 at hp
    omega
  have e1 : bits .and .u64 (a : Int) (p : Int) = ((a &&& p : Nat) : Int) := u64_and_nat a p ha hp
  have e2 : bits .and .u64 (b : Int) (p : Int) = ((b &&& p : Nat) : Int) := u64_and_nat b p hb hp
  obtain ⟨c, HC⟩ := named (a &&& p)
  obtain ⟨d, HD⟩ := named (b &&& p)
  rw [← HC.out] at e1
  rw [← HD.out] at e2
  rw [← HC.out, ← HD.out]
  have HFR := Lib.hid hfr
  have HB1 := Lib.hid hb1
  have hrl : w.heap.size ≤ r := by rw [HR.out, HQ.out]; omega
  clear hfr hb1 hfp
  unfold wv
  go_enter Tryz.func63, Tryz.ntmps63
  go_upto_region 1 with (fail)
  rw [← HW1.out, ← HQ.out, ← HR.out]
  go_wp2
  (try simp only [Exit.inBlock, Exit.then])
  refine bodyPost_ret (results_cell_row rfl _ _ _ _ _ _ _ rfl ((HFR.out.set 0 _).set 1 _) Tryz.underlying27 rfl (by kernel_rfl)) rfl ?_
  exact ⟨rfl, Below.setCell (Below.setCell HB1.out hrl _) hrl _⟩

/-- Two words agree in a lane. -/
theorem and_bit_eq (a c l : Nat) : a &&& 2 ^ l = c &&& 2 ^ l ↔ a.testBit l = c.testBit l := by
  constructor
  · intro h
    have := congrArg (fun x => x.testBit l) h
    simpa [Nat.testBit_and, Nat.testBit_two_pow_self] using this
  · intro h
    apply Nat.eq_of_testBit_eq
    intro i
    rw [Nat.testBit_and, Nat.testBit_and, Nat.testBit_two_pow]
    by_cases e : l = i
    · subst e; rw [h]
    · simp [e]
theorem only_eq {a b l v : Nat} (hl : l < 64) (hv : v < 4) : (a &&& 2 ^ l = fA v &&& 2 ^ l ∧ b &&& 2 ^ l = fB v &&& 2 ^ l) ↔ lnV a b l = (v : Int) := by
  have h := fill_ln (v := (v : Int)) (by omega) (by omega) hl
  rw [and_bit_eq, and_bit_eq]
  constructor
  · rintro ⟨h1, h2⟩
    exact (show lnV a b l = lnV (fA v) (fB v) l by unfold lnV; rw [h1, h2]).trans h
  · intro h'
    exact lnV_eq (h'.trans h.symm)
theorem Ft.at {w : World} (h : Ft w) {v : Nat} (hv : v < 4) : w.cell? ⟨0, v * 2, none⟩ = some (.int .u64 (fA v : Int)) ∧ w.cell? ⟨0, v * 2 + 1, none⟩ = some (.int .u64 (fB v : Int)) := by
  rw [h _ (by omega), h _ (by omega)]
  match v, hv with
  | 0, _ => exact ⟨rfl, rfl⟩
  | 1, _ => exact ⟨rfl, rfl⟩
  | 2, _ => exact ⟨rfl, rfl⟩
  | 3, _ => exact ⟨rfl, rfl⟩
end Go.Proofs.YtemogllidmgbfaaGreatDoor

namespace Go.Proofs.YtemogllidmgbfaaGreatDoor
open Go.RowKit

set_option maxRecDepth 100000 in
set_option maxHeartbeats 4000000 in
theorem wat_any (a b l : Nat) (ha : W64 a) (hb : W64 b) (hl : l < 64) (w : World) (hf : Ft w) : Calls Tryz.prog 21 #[wv a b, .int .i64 (l : Int)] w fun e w' => e = .returned (.int .u8 (lnV a b l)) ∧ BelW w w' := by
  obtain ⟨W1, HW1⟩ := named (w.alloc (.cells #[.int .u64 (a : Int), .int .u64 (b : Int)] 27))
  have hb1 : BelW w W1 := by rw [HW1.out]; exact below_new (Below.refl _ _) _
  have hfp : Fr W1 w.heap.size 27 [.int .u64 (a : Int), .int .u64 (b : Int)] := by rw [HW1.out]; exact Fr.made _ _ _ rfl
  obtain ⟨q, HQ⟩ := named w.heap.size
  rw [← HQ.out] at hfp
  have x0 := hfp.cell 0
  have x1 := hfp.cell 1
  have HB1 := Lib.hid hb1
  have HF1 := Lib.hid (hf.below hb1)
  have hON := only_any a b l ha hb hl
  have HEQ := Lib.hid (fun v (hv : v < 4) => only_eq (a := a) (b := b) (l := l) (v := v) hl hv)
  have HOV : Hid (∀ (v : Nat) (W : World), Calls Tryz.prog 63 #[wv (fA v) (fB v), .int .i64 (l : Int)] W fun e w' => e = .returned (wv (fA v &&& 2 ^ l) (fB v &&& 2 ^ l)) ∧ BelW W w') := Lib.hid fun v W => only_any _ _ l (fA_w _) (fB_w _) hl W
  obtain ⟨c, HC⟩ := named (a &&& 2 ^ l)
  obtain ⟨d, HD⟩ := named (b &&& 2 ^ l)
  rw [← HC.out, ← HD.out] at hON
  have HONN := Lib.hid hON
  rw [← HC.out, ← HD.out] at HEQ
  have hin := lnV_in a b l
  obtain ⟨y, HY⟩ := named (lnV a b l)
  rw [← HY.out] at HEQ hin
  rw [← HY.out]
  have hl2 : (l : Int) < 64 := by omega
  clear hfp hb1 hf hON
  unfold wv at *
  go_enter Tryz.func21, Tryz.ntmps21
  go_upto_region 1 with (fail)
  rw [← HW1.out, ← HQ.out]
  go_upto_region 3 with (go_at_call 63; (with_reducible refine (HONN.out _).mono ?_); rintro e w2 ⟨rfl, hb2⟩; have HB2 : Hid (BelW W1 w2) := Lib.hid hb2; clear hb2)
  clear x0 x1
  obtain ⟨V2, HV2⟩ := named (w2.alloc (.cells #[.int .u64 (c : Int), .int .u64 (d : Int)] 27))
  have hn2 : BelW w2 V2 := by rw [HV2.out]; exact below_new (Below.refl _ _) _
  have hfx : Fr V2 w2.heap.size 27 [.int .u64 (c : Int), .int .u64 (d : Int)] := by rw [HV2.out]; exact Fr.made _ _ _ rfl
  obtain ⟨q2, HQ2⟩ := named w2.heap.size
  rw [← HQ2.out] at hfx
  rw [← HV2.out, ← HQ2.out]
  have HB12 : Hid (BelW W1 V2) := Lib.hid (joinB HB2.out hn2)
  have HKE : Hid (∀ (v : Nat) (W : World), v < 4 → BelW V2 W → BelW V2 W ∧ W.cell? ⟨q2, 0, none⟩ = some (.int .u64 (c : Int)) ∧ W.cell? ⟨q2, 1, none⟩ = some (.int .u64 (d : Int)) ∧ W.cell? ⟨0, v * 2, none⟩ = some (.int .u64 (fA v : Int)) ∧ W.cell? ⟨0, v * 2 + 1, none⟩ = some (.int .u64 (fB v : Int))) := Lib.hid fun v W hv h => by
    have ft := (HF1.out.below (joinB HB12.out h)).at hv
    exact ⟨h, (hfx.below h).cell 0, (hfx.below h).cell 1, ft.1, ft.2⟩
  have HFIN : Hid (∀ W, BelW V2 W → BelW w W) := Lib.hid fun W h => joinB HB1.out (joinB HB12.out h)
  clear hn2 hfx
  go_wp2
  go_loopw [16] (fun i wr => ∃ k : Nat, k ≤ 4 ∧ i = .int .i64 k ∧ BelW V2 wr ∧ ∀ j : Nat, j < k → y ≠ (j : Int)) (fun i _ => 4 - (intOf i).toNat)
  case atStart => exact ⟨0, Nat.zero_le _, rfl, Below.refl _ _, fun j hj => absurd hj (by omega)⟩
  case round =>
    obtain ⟨k, hk, rfl, hb, hno⟩ := hrel
    by_cases hlt : k < 4
    · have hke := HKE.out k wr hlt hb
      obtain ⟨hs0, x0, x1, y0, y1⟩ := hke
      have HKK := Lib.hid (fun W h => HKE.out k W hlt h)
      have HOK := Lib.hid (HOV.out k)
      have heq := HEQ.out k hlt
      obtain ⟨f, HF⟩ := named (fA (k : Int))
      obtain ⟨g, HG⟩ := named (fB (k : Int))
      rw [← HF.out] at y0 heq HKK HOK
      rw [← HG.out] at y1 heq HKK HOK
      obtain ⟨f2, HF2⟩ := named (f &&& 2 ^ l)
      obtain ⟨g2, HG2⟩ := named (g &&& 2 ^ l)
      rw [← HF2.out, ← HG2.out] at heq HOK
      have HNO := Lib.hid hno
      have HE := Lib.hid heq
      clear hno heq
      have hsp : (c = f2 ∧ d = g2) ∨ (c = f2 ∧ d ≠ g2) ∨ (c ≠ f2 ∧ d = g2) ∨ (c ≠ f2 ∧ d ≠ g2) := by
        by_cases e1 : c = f2 <;> by_cases e2 : d = g2 <;> simp [e1, e2]
      go_upto_region 6 with (fail)
      rcases hsp with ⟨h1, h2⟩ | hsp
      · have t1 : ((c : Int) == (f2 : Int)) = true := by rw [h1]; simp
        have t2 : ((d : Int) == (g2 : Int)) = true := by rw [h2]; simp
        have hyk : y = (k : Int) := HE.out.1 ⟨h1, h2⟩
        have HYK := Lib.hid hyk
        clear h1 h2 hyk
        go_region_held3 (fun w' => BelW V2 w' ∧ w'.cell? ⟨q2, 0, none⟩ = some (.int .u64 (c : Int)) ∧ w'.cell? ⟨q2, 1, none⟩ = some (.int .u64 (d : Int)) ∧ w'.cell? ⟨0, k * 2, none⟩ = some (.int .u64 (f : Int)) ∧ w'.cell? ⟨0, k * 2 + 1, none⟩ = some (.int .u64 (g : Int)))
          ((refine HKK.out _ ?_; first | (with_reducible assumption) | (refine BelW.drew ?_; with_reducible assumption)))
          (first
            | (go_at_call 63; (with_reducible refine Calls.mono (HOK.out _) ?_)
               rintro e wa ⟨rfl, hba⟩
               have hswa : BelW V2 wa := (by refine BelW.next ?_ hba; first | (with_reducible assumption) | (refine BelW.drew ?_; with_reducible assumption))))
        have hkw : IntKind.u8.wrap (k : Int) = (k : Int) := by simp [IntKind.wrap, IntKind.bits, IntKind.signed]; omega
        go_wp2
        go_ret
        exact ⟨by rw [HYK.out]; rfl, HFIN.out _ hswa⟩
      · rcases hsp with ⟨h1, h2⟩ | ⟨h1, h2⟩ | ⟨h1, h2⟩
        · have t1 : ((c : Int) == (f2 : Int)) = true := by rw [h1]; simp
          have t2 : ((d : Int) == (g2 : Int)) = false := by rw [beq_eq_false_iff_ne]; omega
          have HNE : Hid (y ≠ (k : Int)) := Lib.hid fun e => by have := HE.out.2 e; exact h2 this.2
          clear h1 h2
          go_region_held3 (fun w' => BelW V2 w' ∧ w'.cell? ⟨q2, 0, none⟩ = some (.int .u64 (c : Int)) ∧ w'.cell? ⟨q2, 1, none⟩ = some (.int .u64 (d : Int)) ∧ w'.cell? ⟨0, k * 2, none⟩ = some (.int .u64 (f : Int)) ∧ w'.cell? ⟨0, k * 2 + 1, none⟩ = some (.int .u64 (g : Int)))
            ((refine HKK.out _ ?_; first | (with_reducible assumption) | (refine BelW.drew ?_; with_reducible assumption)))
            (first
              | (go_at_call 63; (with_reducible refine Calls.mono (HOK.out _) ?_)
                 rintro e wa ⟨rfl, hba⟩
                 have hswa : BelW V2 wa := (by refine BelW.next ?_ hba; first | (with_reducible assumption) | (refine BelW.drew ?_; with_reducible assumption))))
          go_wp2
          go_roundw
          case rel => exact ⟨k + 1, by omega, by go_num, hswa, fun j hj => by
            by_cases e : j = k
            · subst e; exact HNE.out
            · exact HNO.out j (by omega)⟩
          case measure => simp [intOf]; omega
        · have t1 : ((c : Int) == (f2 : Int)) = false := by rw [beq_eq_false_iff_ne]; omega
          have t2 : ((d : Int) == (g2 : Int)) = true := by rw [h2]; simp
          have HNE : Hid (y ≠ (k : Int)) := Lib.hid fun e => by have := HE.out.2 e; exact h1 this.1
          clear h1 h2
          go_region_held3 (fun w' => BelW V2 w' ∧ w'.cell? ⟨q2, 0, none⟩ = some (.int .u64 (c : Int)) ∧ w'.cell? ⟨q2, 1, none⟩ = some (.int .u64 (d : Int)) ∧ w'.cell? ⟨0, k * 2, none⟩ = some (.int .u64 (f : Int)) ∧ w'.cell? ⟨0, k * 2 + 1, none⟩ = some (.int .u64 (g : Int)))
            ((refine HKK.out _ ?_; first | (with_reducible assumption) | (refine BelW.drew ?_; with_reducible assumption)))
            (first
              | (go_at_call 63; (with_reducible refine Calls.mono (HOK.out _) ?_)
                 rintro e wa ⟨rfl, hba⟩
                 have hswa : BelW V2 wa := (by refine BelW.next ?_ hba; first | (with_reducible assumption) | (refine BelW.drew ?_; with_reducible assumption))))
          go_wp2
          go_roundw
          case rel => exact ⟨k + 1, by omega, by go_num, hswa, fun j hj => by
            by_cases e : j = k
            · subst e; exact HNE.out
            · exact HNO.out j (by omega)⟩
          case measure => simp [intOf]; omega
        · have t1 : ((c : Int) == (f2 : Int)) = false := by rw [beq_eq_false_iff_ne]; omega
          have t2 : ((d : Int) == (g2 : Int)) = false := by rw [beq_eq_false_iff_ne]; omega
          have HNE : Hid (y ≠ (k : Int)) := Lib.hid fun e => by have := HE.out.2 e; exact h1 this.1
          clear h1 h2
          go_region_held3 (fun w' => BelW V2 w' ∧ w'.cell? ⟨q2, 0, none⟩ = some (.int .u64 (c : Int)) ∧ w'.cell? ⟨q2, 1, none⟩ = some (.int .u64 (d : Int)) ∧ w'.cell? ⟨0, k * 2, none⟩ = some (.int .u64 (f : Int)) ∧ w'.cell? ⟨0, k * 2 + 1, none⟩ = some (.int .u64 (g : Int)))
            ((refine HKK.out _ ?_; first | (with_reducible assumption) | (refine BelW.drew ?_; with_reducible assumption)))
            (first
              | (go_at_call 63; (with_reducible refine Calls.mono (HOK.out _) ?_)
                 rintro e wa ⟨rfl, hba⟩
                 have hswa : BelW V2 wa := (by refine BelW.next ?_ hba; first | (with_reducible assumption) | (refine BelW.drew ?_; with_reducible assumption))))
          go_wp2
          go_roundw
          case rel => exact ⟨k + 1, by omega, by go_num, hswa, fun j hj => by
            by_cases e : j = k
            · subst e; exact HNE.out
            · exact HNO.out j (by omega)⟩
          case measure => simp [intOf]; omega
    · exact absurd (show y = ((y.toNat : Nat) : Int) by omega) (hno y.toNat (by omega))
end Go.Proofs.YtemogllidmgbfaaGreatDoor

namespace Go.Proofs.YtemogllidmgbfaaGreatDoor
open Go.RowKit

set_option maxHeartbeats 2000000 in
theorem wat_out (a b : Nat) (z : Int) (hz : ¬ (0 ≤ z ∧ z < 64)) (w : World) : Calls Tryz.prog 21 #[wv a b, .int .i64 z] w fun e w' => e = .returned (.int .u8 2) ∧ BelW w w' := by
  obtain ⟨W1, HW1⟩ := named (w.alloc (.cells #[.int .u64 (a : Int), .int .u64 (b : Int)] 27))
  have hb1 : BelW w W1 := by rw [HW1.out]; exact below_new (Below.refl _ _) _
  have HB1 := Lib.hid hb1
  clear hb1
  unfold wv
  go_enter Tryz.func21, Tryz.ntmps21
  go_upto_region 1 with (fail)
  rw [← HW1.out]
  by_cases h0 : 0 ≤ z
  · have h1 : ¬ z < 64 := fun h => hz ⟨h0, h⟩
    go_wp2
    go_ret
    exact ⟨rfl, HB1.out⟩
  · go_wp2
    go_ret
    exact ⟨rfl, HB1.out⟩

/-- The first k values packed. -/
def pkA (l : List Int) : Nat → Nat
  | 0 => 0
  | k + 1 => pkA l k ||| (fA (cln (l.getD k 0)) &&& 2 ^ k)
def pkB (l : List Int) : Nat → Nat
  | 0 => 0
  | k + 1 => pkB l k ||| (fB (cln (l.getD k 0)) &&& 2 ^ k)
theorem pkA_w (l : List Int) : ∀ k, k ≤ 64 → W64 (pkA l k)
  | 0, _ => w_zero
  | k + 1, h => (pkA_w l k (by omega)).or (fA_w _).and
theorem pkB_w (l : List Int) : ∀ k, k ≤ 64 → W64 (pkB l k)
  | 0, _ => w_zero
  | k + 1, h => (pkB_w l k (by omega)).or (fB_w _).and
set_option maxRecDepth 100000 in
set_option maxHeartbeats 4000000 in
theorem pack_any (l : List Int) (A : Option Addr) (n cl : Nat) (w : World) (B : Nat) (hB : B ≤ w.heap.size) (hf : Ft w) (hs : Ks w B (.slice A n cl) l) (h0 : ∀ y ∈ l, 0 ≤ y) :
    Calls Tryz.prog 19 #[.slice A n cl] w fun e w' => e = .returned (wv (pkA l (min n 64)) (pkB l (min n 64))) ∧ BelW w w' := by
  obtain ⟨A', b, o, c', e, hA, hle, hm, hc⟩ := hs.opens
  simp only [Value.slice.injEq] at e
  obtain ⟨rfl, hml, rfl⟩ := e
  rw [← hml] at hA hc hm
  unfold maxLen at hm
  obtain ⟨W1, HW1⟩ := named ((w.alloc (.cells #[.int .u64 0, .int .u64 0] 27)).alloc (.cells #[.int .u64 0, .int .u64 0] 27))
  have hb1 : BelW w W1 := by rw [HW1.out]; exact below_new (below_new (Below.refl _ _) _) _
  have hfr : Fr W1 w.heap.size 27 [.int .u64 0, .int .u64 0] := by rw [HW1.out]; exact Fr.alloc (Fr.made _ _ _ rfl) _
  have hfq : Fr W1 (w.heap.size + 1) 27 [.int .u64 0, .int .u64 0] := by rw [HW1.out]; exact Fr.made _ _ _ (by simp)
  obtain ⟨r, HR⟩ := named w.heap.size
  obtain ⟨q, HQ⟩ := named (r + 1)
  rw [← HR.out] at hfr hfq
  rw [← HQ.out] at hfq
  have hrq : r < q := by have := HQ.out; omega
  have hrl : w.heap.size ≤ r := by rw [HR.out]; exact Nat.le_refl _
  have HAA := Lib.hid hA
  have HFT : Hid (∀ W, BelW w W → Ft W) := Lib.hid fun W h => hf.below h
  have HCE : Hid (∀ W, BelW w W → ∀ k, k < n → W.cell? ⟨b, o + k, none⟩ = some (.int .u8 (l.getD k 0))) := Lib.hid fun W h k hk => (Below.cell h (p := ⟨b, o + k, none⟩) (Nat.lt_of_lt_of_le (hc k hk).1 hB)).trans (hc k hk).2
  have HP0 : Hid (∀ k, k < n → 0 ≤ l.getD k 0) := Lib.hid fun k hk => h0 _ (by rw [List.getD_eq_getElem?_getD, List.getElem?_eq_getElem (by rw [← hml]; exact hk)]; exact List.getElem_mem _)
  have HRA := Lib.hid (And.intro hfr (And.intro hfq hb1))
  obtain ⟨m, HM⟩ := named (min n 64)
  rw [← HM.out]
  have hmn : m ≤ n := by rw [HM.out]; exact Nat.min_le_left _ _
  have hm64 : m ≤ 64 := by rw [HM.out]; exact Nat.min_le_right _ _
  have hmm : min (n : Int) 64 = (m : Int) := by rw [HM.out]; omega
  clear hs hA hc hf h0 hb1 hfr hfq hml hB
  go_enter Tryz.func19, Tryz.ntmps19
  go_upto_region 2 with (fail)
  rw [← HW1.out, ← HR.out]
  try rw [← HQ.out]
  by_cases hn : n ≤ 64
  · have hmn2 : m = n := by omega
    go_upto_region 3 with (fail)
    go_loopw [9] (fun i wr => ∃ k : Nat, k ≤ m ∧ i = .int .i64 k ∧ BelW w wr ∧ Fr wr r 27 [.int .u64 0, .int .u64 0] ∧ Fr wr q 27 [.int .u64 (pkA l k : Int), .int .u64 (pkB l k : Int)]) (fun i _ => m - (intOf i).toNat)
    case atStart => exact ⟨0, Nat.zero_le _, rfl, HRA.out.2.2, HRA.out.1, HRA.out.2.1⟩
    case round =>
      obtain ⟨k, hk, rfl, hb, hfr, hfq⟩ := hrel
      have HB := Lib.hid hb
      have HFR := Lib.hid hfr
      have HFQ := Lib.hid hfq
      by_cases hlt : k < m
      · have hX : k < n := by omega
        obtain rfl := HAA.out (by omega)
        have f0 := HCE.out wr hb k (by omega)
        have hv0 := HP0.out k (by omega)
        have hln : ∀ W, BelW w W → Calls Tryz.prog 22 #[.int .u8 (l.getD k 0)] W fun e w' => e = .returned (wv (fA (cln (l.getD k 0))) (fB (cln (l.getD k 0)))) ∧ BelW W w' := fun W h => fill_any _ hv0 W (HFT.out W h)
        have hon : ∀ W, Calls Tryz.prog 63 #[wv (fA (cln (l.getD k 0))) (fB (cln (l.getD k 0))), .int .i64 (k : Int)] W fun e w' => e = .returned (wv (fA (cln (l.getD k 0)) &&& 2 ^ k) (fB (cln (l.getD k 0)) &&& 2 ^ k)) ∧ BelW W w' := fun W => only_any _ _ k (fA_w _) (fB_w _) (by omega) W
        have hpA := pkA_w l k (by omega)
        have hpB := pkB_w l k (by omega)
        have hcA : W64 (fA (cln (l.getD k 0)) &&& 2 ^ k) := (fA_w _).and
        have hcB : W64 (fB (cln (l.getD k 0)) &&& 2 ^ k) := (fB_w _).and
        have e1 : bits .or .u64 (pkA l k : Int) ((fA (cln (l.getD k 0)) &&& 2 ^ k : Nat) : Int) = (pkA l (k + 1) : Int) := u64_or_nat _ _ hpA hcA
        have e2 : bits .or .u64 (pkB l k : Int) ((fB (cln (l.getD k 0)) &&& 2 ^ k : Nat) : Int) = (pkB l (k + 1) : Int) := u64_or_nat _ _ hpB hcB
        obtain ⟨ca, HCA⟩ := named (fA (cln (l.getD k 0)) &&& 2 ^ k)
        obtain ⟨cb, HCB⟩ := named (fB (cln (l.getD k 0)) &&& 2 ^ k)
        obtain ⟨fa, HFA⟩ := named (fA (cln (l.getD k 0)))
        obtain ⟨fb, HFB⟩ := named (fB (cln (l.getD k 0)))
        obtain ⟨v, HV⟩ := named (l.getD k 0)
        obtain ⟨pa, HPA⟩ := named (pkA l k)
        obtain ⟨pb, HPB⟩ := named (pkB l k)
        obtain ⟨na, HNA⟩ := named (pkA l (k + 1))
        obtain ⟨nb, HNB⟩ := named (pkB l (k + 1))
        rw [← HCA.out] at e1 hon
        rw [← HCB.out] at e2 hon
        rw [← HFA.out] at hln hon
        rw [← HFB.out] at hln hon
        rw [← HV.out] at f0 hln
        rw [← HPA.out] at e1 HFQ
        rw [← HPB.out] at e2 HFQ
        rw [← HNA.out] at e1
        rw [← HNB.out] at e2
        unfold wv at hln hon
        have HLN := Lib.hid (hln wr hb)
        have HONN := Lib.hid hon
        clear hb hfr hfq hln hon hpA hpB hcA hcB hv0
        go_upto_region 6 with (first
          | (go_at_call 22; (with_reducible refine HLN.out.mono ?_); rintro e w2 ⟨rfl, hb2⟩; have HB2 : Hid (BelW wr w2) := Lib.hid hb2; clear hb2)
          | (go_at_call 63; (with_reducible refine (HONN.out _).mono ?_); rintro e w3 ⟨rfl, hb3⟩; have HB3 : Hid (BelW w2 w3) := Lib.hid hb3; clear hb3))
        clear f0
        obtain ⟨V, HVV⟩ := named (w3.alloc (.cells #[.int .u64 (ca : Int), .int .u64 (cb : Int)] 27))
        have hn3 : BelW w3 V := by rw [HVV.out]; exact below_new (Below.refl _ _) _
        have hbv : BelW wr V := joinB HB2.out (joinB HB3.out hn3)
        have hfx : Fr V w3.heap.size 27 [.int .u64 (ca : Int), .int .u64 (cb : Int)] := by rw [HVV.out]; exact Fr.made _ _ _ rfl
        have hfq2 := HFQ.out.below hbv
        have hfr2 := HFR.out.below hbv
        have hqx : q ≠ w3.heap.size := by
          have h1 := HFQ.out.lt
          have h2 := Below.size (joinB HB2.out HB3.out)
          omega
        obtain ⟨x, HX⟩ := named w3.heap.size
        rw [← HX.out] at hfx hqx
        rw [← HVV.out, ← HX.out]
        have x0 := hfx.cell 0
        have x1 := hfx.cell 1
        have z0 := hfq2.cell 0
        have z1 := hfq2.cell 1
        have z2 := hfq2.frozen 0
        have z3 := hfq2.frozen 1
        have HBV : Hid (BelW w V) := Lib.hid (joinB HB.out hbv)
        have HQ2 := Lib.hid ((hfq2.set 0 (.int .u64 (na : Int))).set 1 (.int .u64 (nb : Int)))
        have HR2 := Lib.hid ((hfr2.other (a := ⟨q, 0, none⟩) (by show q ≠ r; omega) (.int .u64 (na : Int))).other (a := ⟨q, 1, none⟩) (by show q ≠ r; omega) (.int .u64 (nb : Int)))
        have hql : w.heap.size ≤ q := by omega
        clear hn3 hbv hfx hfq2 hfr2
        go_wp2
        go_roundw
        case rel => exact ⟨k + 1, by omega, by go_num, BelW.set (BelW.set HBV.out hql _) hql _, HR2.out, by rw [← HNA.out, ← HNB.out]; exact HQ2.out⟩
        case measure => simp [intOf]; omega
      · obtain rfl : m = k := by omega
        have hX : ¬ m < n := by omega
        have y0 := hfq.cell 0
        have y1 := hfq.cell 1
        have z0 := hfr.cell 0
        have z1 := hfr.cell 1
        have z2 := hfr.frozen 0
        have z3 := hfr.frozen 1
        clear hb hfr hfq
        go_wp2
        (try simp only [Exit.inBlock, Exit.then])
        refine bodyPost_ret (results_cell_row rfl _ _ _ _ _ _ _ rfl ((HFR.out.set 0 _).set 1 _) Tryz.underlying27 rfl (by kernel_rfl)) rfl ?_
        exact ⟨by rw [hmn2]; rfl, BelW.set (BelW.set HB.out hrl _) hrl _⟩
  · have hmn2 : m = 64 := by omega
    go_upto_region 3 with (fail)
    go_loopw [9] (fun i wr => ∃ k : Nat, k ≤ m ∧ i = .int .i64 k ∧ BelW w wr ∧ Fr wr r 27 [.int .u64 0, .int .u64 0] ∧ Fr wr q 27 [.int .u64 (pkA l k : Int), .int .u64 (pkB l k : Int)]) (fun i _ => m - (intOf i).toNat)
    case atStart => exact ⟨0, Nat.zero_le _, rfl, HRA.out.2.2, HRA.out.1, HRA.out.2.1⟩
    case round =>
      obtain ⟨k, hk, rfl, hb, hfr, hfq⟩ := hrel
      have HB := Lib.hid hb
      have HFR := Lib.hid hfr
      have HFQ := Lib.hid hfq
      by_cases hlt : k < m
      · have hX : k < 64 := by omega
        obtain rfl := HAA.out (by omega)
        have f0 := HCE.out wr hb k (by omega)
        have hv0 := HP0.out k (by omega)
        have hln : ∀ W, BelW w W → Calls Tryz.prog 22 #[.int .u8 (l.getD k 0)] W fun e w' => e = .returned (wv (fA (cln (l.getD k 0))) (fB (cln (l.getD k 0)))) ∧ BelW W w' := fun W h => fill_any _ hv0 W (HFT.out W h)
        have hon : ∀ W, Calls Tryz.prog 63 #[wv (fA (cln (l.getD k 0))) (fB (cln (l.getD k 0))), .int .i64 (k : Int)] W fun e w' => e = .returned (wv (fA (cln (l.getD k 0)) &&& 2 ^ k) (fB (cln (l.getD k 0)) &&& 2 ^ k)) ∧ BelW W w' := fun W => only_any _ _ k (fA_w _) (fB_w _) (by omega) W
        have hpA := pkA_w l k (by omega)
        have hpB := pkB_w l k (by omega)
        have hcA : W64 (fA (cln (l.getD k 0)) &&& 2 ^ k) := (fA_w _).and
        have hcB : W64 (fB (cln (l.getD k 0)) &&& 2 ^ k) := (fB_w _).and
        have e1 : bits .or .u64 (pkA l k : Int) ((fA (cln (l.getD k 0)) &&& 2 ^ k : Nat) : Int) = (pkA l (k + 1) : Int) := u64_or_nat _ _ hpA hcA
        have e2 : bits .or .u64 (pkB l k : Int) ((fB (cln (l.getD k 0)) &&& 2 ^ k : Nat) : Int) = (pkB l (k + 1) : Int) := u64_or_nat _ _ hpB hcB
        obtain ⟨ca, HCA⟩ := named (fA (cln (l.getD k 0)) &&& 2 ^ k)
        obtain ⟨cb, HCB⟩ := named (fB (cln (l.getD k 0)) &&& 2 ^ k)
        obtain ⟨fa, HFA⟩ := named (fA (cln (l.getD k 0)))
        obtain ⟨fb, HFB⟩ := named (fB (cln (l.getD k 0)))
        obtain ⟨v, HV⟩ := named (l.getD k 0)
        obtain ⟨pa, HPA⟩ := named (pkA l k)
        obtain ⟨pb, HPB⟩ := named (pkB l k)
        obtain ⟨na, HNA⟩ := named (pkA l (k + 1))
        obtain ⟨nb, HNB⟩ := named (pkB l (k + 1))
        rw [← HCA.out] at e1 hon
        rw [← HCB.out] at e2 hon
        rw [← HFA.out] at hln hon
        rw [← HFB.out] at hln hon
        rw [← HV.out] at f0 hln
        rw [← HPA.out] at e1 HFQ
        rw [← HPB.out] at e2 HFQ
        rw [← HNA.out] at e1
        rw [← HNB.out] at e2
        unfold wv at hln hon
        have HLN := Lib.hid (hln wr hb)
        have HONN := Lib.hid hon
        clear hb hfr hfq hln hon hpA hpB hcA hcB hv0
        go_upto_region 6 with (first
          | (go_at_call 22; (with_reducible refine HLN.out.mono ?_); rintro e w2 ⟨rfl, hb2⟩; have HB2 : Hid (BelW wr w2) := Lib.hid hb2; clear hb2)
          | (go_at_call 63; (with_reducible refine (HONN.out _).mono ?_); rintro e w3 ⟨rfl, hb3⟩; have HB3 : Hid (BelW w2 w3) := Lib.hid hb3; clear hb3))
        clear f0
        obtain ⟨V, HVV⟩ := named (w3.alloc (.cells #[.int .u64 (ca : Int), .int .u64 (cb : Int)] 27))
        have hn3 : BelW w3 V := by rw [HVV.out]; exact below_new (Below.refl _ _) _
        have hbv : BelW wr V := joinB HB2.out (joinB HB3.out hn3)
        have hfx : Fr V w3.heap.size 27 [.int .u64 (ca : Int), .int .u64 (cb : Int)] := by rw [HVV.out]; exact Fr.made _ _ _ rfl
        have hfq2 := HFQ.out.below hbv
        have hfr2 := HFR.out.below hbv
        have hqx : q ≠ w3.heap.size := by
          have h1 := HFQ.out.lt
          have h2 := Below.size (joinB HB2.out HB3.out)
          omega
        obtain ⟨x, HX⟩ := named w3.heap.size
        rw [← HX.out] at hfx hqx
        rw [← HVV.out, ← HX.out]
        have x0 := hfx.cell 0
        have x1 := hfx.cell 1
        have z0 := hfq2.cell 0
        have z1 := hfq2.cell 1
        have z2 := hfq2.frozen 0
        have z3 := hfq2.frozen 1
        have HBV : Hid (BelW w V) := Lib.hid (joinB HB.out hbv)
        have HQ2 := Lib.hid ((hfq2.set 0 (.int .u64 (na : Int))).set 1 (.int .u64 (nb : Int)))
        have HR2 := Lib.hid ((hfr2.other (a := ⟨q, 0, none⟩) (by show q ≠ r; omega) (.int .u64 (na : Int))).other (a := ⟨q, 1, none⟩) (by show q ≠ r; omega) (.int .u64 (nb : Int)))
        have hql : w.heap.size ≤ q := by omega
        clear hn3 hbv hfx hfq2 hfr2
        go_wp2
        go_roundw
        case rel => exact ⟨k + 1, by omega, by go_num, BelW.set (BelW.set HBV.out hql _) hql _, HR2.out, by rw [← HNA.out, ← HNB.out]; exact HQ2.out⟩
        case measure => simp [intOf]; omega
      · obtain rfl : m = k := by omega
        have hX : ¬ m < 64 := by omega
        have y0 := hfq.cell 0
        have y1 := hfq.cell 1
        have z0 := hfr.cell 0
        have z1 := hfr.cell 1
        have z2 := hfr.frozen 0
        have z3 := hfr.frozen 1
        clear hb hfr hfq
        go_wp2
        (try simp only [Exit.inBlock, Exit.then])
        refine bodyPost_ret (results_cell_row rfl _ _ _ _ _ _ _ rfl ((HFR.out.set 0 _).set 1 _) Tryz.underlying27 rfl (by kernel_rfl)) rfl ?_
        exact ⟨by rw [hmn2]; rfl, BelW.set (BelW.set HB.out hrl _) hrl _⟩
end Go.Proofs.YtemogllidmgbfaaGreatDoor
