/- The texts Wpk Wan Wbu. -/
import Derived.Test.YtemogllidmgbfaaGreatDoorM19
import Derived.Test.YtemogllidmgbfaaGreatDoorM14
namespace Go.Proofs.YtemogllidmgbfaaGreatDoor
open Go.RowKit

set_option maxHeartbeats 2000000 in
theorem wat_out (a b : Nat) (z : Int) (hz : ¬ (0 ≤ z ∧ z < 64)) (w : World) : Calls Tryz.prog 21 #[wv a b, .int .i64 z] w fun e w' => e = .returned (.int .u8 2) ∧ BelW w w' := by
  obtain ⟨W1, HW1⟩ := named (w.alloc (.cells #[.int .u64 (a : Int), .int .u64 (b : Int)] 27))
  have hb1 : BelW w W1 := by rw [HW1.out]; exact below_new (Below.refl _ _) _
  have HB1 := Lib.hid hb1
  clear hb1
  unfold wv
  go_enter Tryz.func21, Tryz.ntmps21
  go_upto_region 1 with (fail)
  rw [← HW1.out]
  by_cases h0 : 0 ≤ z
  · have h1 : ¬ z < 64 := fun h => hz ⟨h0, h⟩
    go_wp2
    go_ret
    exact ⟨rfl, HB1.out⟩
  · go_wp2
    go_ret
    exact ⟨rfl, HB1.out⟩

/-- The first k values packed. -/
def pkA (l : List Int) : Nat → Nat
  | 0 => 0
  | k + 1 => pkA l k ||| (fA (cln (l.getD k 0)) &&& 2 ^ k)
def pkB (l : List Int) : Nat → Nat
  | 0 => 0
  | k + 1 => pkB l k ||| (fB (cln (l.getD k 0)) &&& 2 ^ k)
theorem pkA_w (l : List Int) : ∀ k, k ≤ 64 → W64 (pkA l k)
  | 0, _ => w_zero
  | k + 1, h => (pkA_w l k (by omega)).or (fA_w _).and
theorem pkB_w (l : List Int) : ∀ k, k ≤ 64 → W64 (pkB l k)
  | 0, _ => w_zero
  | k + 1, h => (pkB_w l k (by omega)).or (fB_w _).and
theorem pk_bits (l : List Int) : ∀ (k i : Nat), (pkA l k).testBit i = (decide (i < k) && (fA (cln (l.getD i 0))).testBit i) ∧ (pkB l k).testBit i = (decide (i < k) && (fB (cln (l.getD i 0))).testBit i)
  | 0, i => by simp [pkA, pkB]
  | k + 1, i => by
    obtain ⟨h1, h2⟩ := pk_bits l k i
    unfold pkA pkB
    rw [Nat.testBit_or, Nat.testBit_or, h1, h2, Nat.testBit_and, Nat.testBit_and, Nat.testBit_two_pow]
    by_cases e : k = i
    · subst e
      simp
    · by_cases h : i < k
      · have h' : i < k + 1 := by omega
        simp [e, h, h']
      · have h' : ¬ i < k + 1 := by omega
        simp [e, h, h']
theorem pack_ln {l : List Int} {k i : Nat} (h0 : ∀ y ∈ l, 0 ≤ y) (hi : i < 64) : lnV (pkA l k) (pkB l k) i = if i < k then cln (l.getD i 0) else 2 := by
  obtain ⟨h1, h2⟩ := pk_bits l k i
  have hc : 0 ≤ cln (l.getD i 0) ∧ cln (l.getD i 0) ≤ 3 := by
    have : 0 ≤ l.getD i 0 := by
      rw [List.getD_eq_getElem?_getD]
      by_cases h : i < l.length
      · rw [List.getElem?_eq_getElem h]; exact h0 _ (List.getElem_mem h)
      · rw [List.getElem?_eq_none (by omega)]; decide
    rcases cln_cases _ this with h | h | h | h <;> omega
  by_cases h : i < k
  · have hf := fill_ln hc.1 hc.2 hi
    rw [if_pos h, ← hf]
    unfold lnV
    rw [h1, h2, decide_eq_true h, Bool.true_and, Bool.true_and]
  · rw [if_neg h]
    unfold lnV
    rw [h1, h2, decide_eq_false h]
    rfl

set_option maxRecDepth 100000 in
set_option maxHeartbeats 4000000 in
theorem pack_any (l : List Int) (A : Option Addr) (n cl : Nat) (w : World) (B : Nat) (hB : B ≤ w.heap.size) (hf : Ft w) (hs : Ks w B (.slice A n cl) l) (h0 : ∀ y ∈ l, 0 ≤ y) :
    Calls Tryz.prog 19 #[.slice A n cl] w fun e w' => e = .returned (wv (pkA l (min n 64)) (pkB l (min n 64))) ∧ BelW w w' := by
  obtain ⟨A', b, o, c', e, hA, hle, hm, hc⟩ := hs.opens
  simp only [Value.slice.injEq] at e
  obtain ⟨rfl, hml, rfl⟩ := e
  rw [← hml] at hA hc hm
  unfold maxLen at hm
  obtain ⟨W1, HW1⟩ := named ((w.alloc (.cells #[.int .u64 0, .int .u64 0] 27)).alloc (.cells #[.int .u64 0, .int .u64 0] 27))
  have hb1 : BelW w W1 := by rw [HW1.out]; exact below_new (below_new (Below.refl _ _) _) _
  have hfr : Fr W1 w.heap.size 27 [.int .u64 0, .int .u64 0] := by rw [HW1.out]; exact Fr.alloc (Fr.made _ _ _ rfl) _
  have hfq : Fr W1 (w.heap.size + 1) 27 [.int .u64 0, .int .u64 0] := by rw [HW1.out]; exact Fr.made _ _ _ (by simp)
  obtain ⟨r, HR⟩ := named w.heap.size
  obtain ⟨q, HQ⟩ := named (r + 1)
  rw [← HR.out] at hfr hfq
  rw [← HQ.out] at hfq
  have hrq : r < q := by have := HQ.out; omega
  have hrl : w.heap.size ≤ r := by rw [HR.out]; exact Nat.le_refl _
  have HAA := Lib.hid hA
  have HFT : Hid (∀ W, BelW w W → Ft W) := Lib.hid fun W h => hf.below h
  have HCE : Hid (∀ W, BelW w W → ∀ k, k < n → W.cell? ⟨b, o + k, none⟩ = some (.int .u8 (l.getD k 0))) := Lib.hid fun W h k hk => (Below.cell h (p := ⟨b, o + k, none⟩) (Nat.lt_of_lt_of_le (hc k hk).1 hB)).trans (hc k hk).2
  have HP0 : Hid (∀ k, k < n → 0 ≤ l.getD k 0) := Lib.hid fun k hk => h0 _ (by rw [List.getD_eq_getElem?_getD, List.getElem?_eq_getElem (by rw [← hml]; exact hk)]; exact List.getElem_mem _)
  have HRA := Lib.hid (And.intro hfr (And.intro hfq hb1))
  obtain ⟨m, HM⟩ := named (min n 64)
  rw [← HM.out]
  have hmn : m ≤ n := by rw [HM.out]; exact Nat.min_le_left _ _
  have hm64 : m ≤ 64 := by rw [HM.out]; exact Nat.min_le_right _ _
  have hmm : min (n : Int) 64 = (m : Int) := by rw [HM.out]; omega
  clear hs hA hc hf h0 hb1 hfr hfq hml hB
  go_enter Tryz.func19, Tryz.ntmps19
  go_upto_region 2 with (fail)
  rw [← HW1.out, ← HR.out]
  try rw [← HQ.out]
  by_cases hn : n ≤ 64
  · have hmn2 : m = n := by omega
    go_upto_region 3 with (fail)
    go_loopw [9] (fun i wr => ∃ k : Nat, k ≤ m ∧ i = .int .i64 k ∧ BelW w wr ∧ Fr wr r 27 [.int .u64 0, .int .u64 0] ∧ Fr wr q 27 [.int .u64 (pkA l k : Int), .int .u64 (pkB l k : Int)]) (fun i _ => m - (intOf i).toNat)
    case atStart => exact ⟨0, Nat.zero_le _, rfl, HRA.out.2.2, HRA.out.1, HRA.out.2.1⟩
    case round =>
      obtain ⟨k, hk, rfl, hb, hfr, hfq⟩ := hrel
      have HB := Lib.hid hb
      have HFR := Lib.hid hfr
      have HFQ := Lib.hid hfq
      by_cases hlt : k < m
      · have hX : k < n := by omega
        obtain rfl := HAA.out (by omega)
        have f0 := HCE.out wr hb k (by omega)
        have hv0 := HP0.out k (by omega)
        have hln : ∀ W, BelW w W → Calls Tryz.prog 22 #[.int .u8 (l.getD k 0)] W fun e w' => e = .returned (wv (fA (cln (l.getD k 0))) (fB (cln (l.getD k 0)))) ∧ BelW W w' := fun W h => fill_any _ hv0 W (HFT.out W h)
        have hon : ∀ W, Calls Tryz.prog 63 #[wv (fA (cln (l.getD k 0))) (fB (cln (l.getD k 0))), .int .i64 (k : Int)] W fun e w' => e = .returned (wv (fA (cln (l.getD k 0)) &&& 2 ^ k) (fB (cln (l.getD k 0)) &&& 2 ^ k)) ∧ BelW W w' := fun W => only_any _ _ k (fA_w _) (fB_w _) (by omega) W
        have hpA := pkA_w l k (by omega)
        have hpB := pkB_w l k (by omega)
        have hcA : W64 (fA (cln (l.getD k 0)) &&& 2 ^ k) := (fA_w _).and
        have hcB : W64 (fB (cln (l.getD k 0)) &&& 2 ^ k) := (fB_w _).and
        have e1 : bits .or .u64 (pkA l k : Int) ((fA (cln (l.getD k 0)) &&& 2 ^ k : Nat) : Int) = (pkA l (k + 1) : Int) := u64_or_nat _ _ hpA hcA
        have e2 : bits .or .u64 (pkB l k : Int) ((fB (cln (l.getD k 0)) &&& 2 ^ k : Nat) : Int) = (pkB l (k + 1) : Int) := u64_or_nat _ _ hpB hcB
        obtain ⟨ca, HCA⟩ := named (fA (cln (l.getD k 0)) &&& 2 ^ k)
        obtain ⟨cb, HCB⟩ := named (fB (cln (l.getD k 0)) &&& 2 ^ k)
        obtain ⟨fa, HFA⟩ := named (fA (cln (l.getD k 0)))
        obtain ⟨fb, HFB⟩ := named (fB (cln (l.getD k 0)))
        obtain ⟨v, HV⟩ := named (l.getD k 0)
        obtain ⟨pa, HPA⟩ := named (pkA l k)
        obtain ⟨pb, HPB⟩ := named (pkB l k)
        obtain ⟨na, HNA⟩ := named (pkA l (k + 1))
        obtain ⟨nb, HNB⟩ := named (pkB l (k + 1))
        rw [← HCA.out] at e1 hon
        rw [← HCB.out] at e2 hon
        rw [← HFA.out] at hln hon
        rw [← HFB.out] at hln hon
        rw [← HV.out] at f0 hln
        rw [← HPA.out] at e1 HFQ
        rw [← HPB.out] at e2 HFQ
        rw [← HNA.out] at e1
        rw [← HNB.out] at e2
        unfold wv at hln hon
        have HLN := Lib.hid (hln wr hb)
        have HONN := Lib.hid hon
        clear hb hfr hfq hln hon hpA hpB hcA hcB hv0
        go_upto_region 6 with (first
          | (go_at_call 22; (with_reducible refine HLN.out.mono ?_); rintro e w2 ⟨rfl, hb2⟩; have HB2 : Hid (BelW wr w2) := Lib.hid hb2; clear hb2)
          | (go_at_call 63; (with_reducible refine (HONN.out _).mono ?_); rintro e w3 ⟨rfl, hb3⟩; have HB3 : Hid (BelW w2 w3) := Lib.hid hb3; clear hb3))
        clear f0
        obtain ⟨V, HVV⟩ := named (w3.alloc (.cells #[.int .u64 (ca : Int), .int .u64 (cb : Int)] 27))
        have hn3 : BelW w3 V := by rw [HVV.out]; exact below_new (Below.refl _ _) _
        have hbv : BelW wr V := joinB HB2.out (joinB HB3.out hn3)
        have hfx : Fr V w3.heap.size 27 [.int .u64 (ca : Int), .int .u64 (cb : Int)] := by rw [HVV.out]; exact Fr.made _ _ _ rfl
        have hfq2 := HFQ.out.below hbv
        have hfr2 := HFR.out.below hbv
        have hqx : q ≠ w3.heap.size := by
          have h1 := HFQ.out.lt
          have h2 := Below.size (joinB HB2.out HB3.out)
          omega
        obtain ⟨x, HX⟩ := named w3.heap.size
        rw [← HX.out] at hfx hqx
        rw [← HVV.out, ← HX.out]
        have x0 := hfx.cell 0
        have x1 := hfx.cell 1
        have z0 := hfq2.cell 0
        have z1 := hfq2.cell 1
        have z2 := hfq2.frozen 0
        have z3 := hfq2.frozen 1
        have HBV : Hid (BelW w V) := Lib.hid (joinB HB.out hbv)
        have HQ2 := Lib.hid ((hfq2.set 0 (.int .u64 (na : Int))).set 1 (.int .u64 (nb : Int)))
        have HR2 := Lib.hid ((hfr2.other (a := ⟨q, 0, none⟩) (by show q ≠ r; omega) (.int .u64 (na : Int))).other (a := ⟨q, 1, none⟩) (by show q ≠ r; omega) (.int .u64 (nb : Int)))
        have hql : w.heap.size ≤ q := by omega
        clear hn3 hbv hfx hfq2 hfr2
        go_wp2
        go_roundw
        case rel => exact ⟨k + 1, by omega, by go_num, BelW.set (BelW.set HBV.out hql _) hql _, HR2.out, by rw [← HNA.out, ← HNB.out]; exact HQ2.out⟩
        case measure => simp [intOf]; omega
      · obtain rfl : m = k := by omega
        have hX : ¬ m < n := by omega
        have y0 := hfq.cell 0
        have y1 := hfq.cell 1
        have z0 := hfr.cell 0
        have z1 := hfr.cell 1
        have z2 := hfr.frozen 0
        have z3 := hfr.frozen 1
        clear hb hfr hfq
        go_wp2
        (try simp only [Exit.inBlock, Exit.then])
        refine bodyPost_ret (results_cell_row rfl _ _ _ _ _ _ _ rfl ((HFR.out.set 0 _).set 1 _) Tryz.underlying27 rfl (by kernel_rfl)) rfl ?_
        exact ⟨by rw [hmn2]; rfl, BelW.set (BelW.set HB.out hrl _) hrl _⟩
  · have hmn2 : m = 64 := by omega
    go_upto_region 3 with (fail)
    go_loopw [9] (fun i wr => ∃ k : Nat, k ≤ m ∧ i = .int .i64 k ∧ BelW w wr ∧ Fr wr r 27 [.int .u64 0, .int .u64 0] ∧ Fr wr q 27 [.int .u64 (pkA l k : Int), .int .u64 (pkB l k : Int)]) (fun i _ => m - (intOf i).toNat)
    case atStart => exact ⟨0, Nat.zero_le _, rfl, HRA.out.2.2, HRA.out.1, HRA.out.2.1⟩
    case round =>
      obtain ⟨k, hk, rfl, hb, hfr, hfq⟩ := hrel
      have HB := Lib.hid hb
      have HFR := Lib.hid hfr
      have HFQ := Lib.hid hfq
      by_cases hlt : k < m
      · have hX : k < 64 := by omega
        obtain rfl := HAA.out (by omega)
        have f0 := HCE.out wr hb k (by omega)
        have hv0 := HP0.out k (by omega)
        have hln : ∀ W, BelW w W → Calls Tryz.prog 22 #[.int .u8 (l.getD k 0)] W fun e w' => e = .returned (wv (fA (cln (l.getD k 0))) (fB (cln (l.getD k 0)))) ∧ BelW W w' := fun W h => fill_any _ hv0 W (HFT.out W h)
        have hon : ∀ W, Calls Tryz.prog 63 #[wv (fA (cln (l.getD k 0))) (fB (cln (l.getD k 0))), .int .i64 (k : Int)] W fun e w' => e = .returned (wv (fA (cln (l.getD k 0)) &&& 2 ^ k) (fB (cln (l.getD k 0)) &&& 2 ^ k)) ∧ BelW W w' := fun W => only_any _ _ k (fA_w _) (fB_w _) (by omega) W
        have hpA := pkA_w l k (by omega)
        have hpB := pkB_w l k (by omega)
        have hcA : W64 (fA (cln (l.getD k 0)) &&& 2 ^ k) := (fA_w _).and
        have hcB : W64 (fB (cln (l.getD k 0)) &&& 2 ^ k) := (fB_w _).and
        have e1 : bits .or .u64 (pkA l k : Int) ((fA (cln (l.getD k 0)) &&& 2 ^ k : Nat) : Int) = (pkA l (k + 1) : Int) := u64_or_nat _ _ hpA hcA
        have e2 : bits .or .u64 (pkB l k : Int) ((fB (cln (l.getD k 0)) &&& 2 ^ k : Nat) : Int) = (pkB l (k + 1) : Int) := u64_or_nat _ _ hpB hcB
        obtain ⟨ca, HCA⟩ := named (fA (cln (l.getD k 0)) &&& 2 ^ k)
        obtain ⟨cb, HCB⟩ := named (fB (cln (l.getD k 0)) &&& 2 ^ k)
        obtain ⟨fa, HFA⟩ := named (fA (cln (l.getD k 0)))
        obtain ⟨fb, HFB⟩ := named (fB (cln (l.getD k 0)))
        obtain ⟨v, HV⟩ := named (l.getD k 0)
        obtain ⟨pa, HPA⟩ := named (pkA l k)
        obtain ⟨pb, HPB⟩ := named (pkB l k)
        obtain ⟨na, HNA⟩ := named (pkA l (k + 1))
        obtain ⟨nb, HNB⟩ := named (pkB l (k + 1))
        rw [← HCA.out] at e1 hon
        rw [← HCB.out] at e2 hon
        rw [← HFA.out] at hln hon
        rw [← HFB.out] at hln hon
        rw [← HV.out] at f0 hln
        rw [← HPA.out] at e1 HFQ
        rw [← HPB.out] at e2 HFQ
        rw [← HNA.out] at e1
        rw [← HNB.out] at e2
        unfold wv at hln hon
        have HLN := Lib.hid (hln wr hb)
        have HONN := Lib.hid hon
        clear hb hfr hfq hln hon hpA hpB hcA hcB hv0
        go_upto_region 6 with (first
          | (go_at_call 22; (with_reducible refine HLN.out.mono ?_); rintro e w2 ⟨rfl, hb2⟩; have HB2 : Hid (BelW wr w2) := Lib.hid hb2; clear hb2)
          | (go_at_call 63; (with_reducible refine (HONN.out _).mono ?_); rintro e w3 ⟨rfl, hb3⟩; have HB3 : Hid (BelW w2 w3) := Lib.hid hb3; clear hb3))
        clear f0
        obtain ⟨V, HVV⟩ := named (w3.alloc (.cells #[.int .u64 (ca : Int), .int .u64 (cb : Int)] 27))
        have hn3 : BelW w3 V := by rw [HVV.out]; exact below_new (Below.refl _ _) _
        have hbv : BelW wr V := joinB HB2.out (joinB HB3.out hn3)
        have hfx : Fr V w3.heap.size 27 [.int .u64 (ca : Int), .int .u64 (cb : Int)] := by rw [HVV.out]; exact Fr.made _ _ _ rfl
        have hfq2 := HFQ.out.below hbv
        have hfr2 := HFR.out.below hbv
        have hqx : q ≠ w3.heap.size := by
          have h1 := HFQ.out.lt
          have h2 := Below.size (joinB HB2.out HB3.out)
          omega
        obtain ⟨x, HX⟩ := named w3.heap.size
        rw [← HX.out] at hfx hqx
        rw [← HVV.out, ← HX.out]
        have x0 := hfx.cell 0
        have x1 := hfx.cell 1
        have z0 := hfq2.cell 0
        have z1 := hfq2.cell 1
        have z2 := hfq2.frozen 0
        have z3 := hfq2.frozen 1
        have HBV : Hid (BelW w V) := Lib.hid (joinB HB.out hbv)
        have HQ2 := Lib.hid ((hfq2.set 0 (.int .u64 (na : Int))).set 1 (.int .u64 (nb : Int)))
        have HR2 := Lib.hid ((hfr2.other (a := ⟨q, 0, none⟩) (by show q ≠ r; omega) (.int .u64 (na : Int))).other (a := ⟨q, 1, none⟩) (by show q ≠ r; omega) (.int .u64 (nb : Int)))
        have hql : w.heap.size ≤ q := by omega
        clear hn3 hbv hfx hfq2 hfr2
        go_wp2
        go_roundw
        case rel => exact ⟨k + 1, by omega, by go_num, BelW.set (BelW.set HBV.out hql _) hql _, HR2.out, by rw [← HNA.out, ← HNB.out]; exact HQ2.out⟩
        case measure => simp [intOf]; omega
      · obtain rfl : m = k := by omega
        have hX : ¬ m < 64 := by omega
        have y0 := hfq.cell 0
        have y1 := hfq.cell 1
        have z0 := hfr.cell 0
        have z1 := hfr.cell 1
        have z2 := hfr.frozen 0
        have z3 := hfr.frozen 1
        clear hb hfr hfq
        go_wp2
        (try simp only [Exit.inBlock, Exit.then])
        refine bodyPost_ret (results_cell_row rfl _ _ _ _ _ _ _ rfl ((HFR.out.set 0 _).set 1 _) Tryz.underlying27 rfl (by kernel_rfl)) rfl ?_
        exact ⟨by rw [hmn2]; rfl, BelW.set (BelW.set HB.out hrl _) hrl _⟩
end Go.Proofs.YtemogllidmgbfaaGreatDoor

namespace Go.Proofs.YtemogllidmgbfaaGreatDoor
open Go.RowKit

def WordAt (w : World) (_B b p : Nat) (x : Nat × Nat) : Prop := w.cell? ⟨b, p, none⟩ = some (.int .u64 (x.1 : Int)) ∧ w.cell? ⟨b, p + 1, none⟩ = some (.int .u64 (x.2 : Int)) ∧ W64 x.1 ∧ W64 x.2
/-- The slice value v reads as the list l of words. -/
def Wd (w : World) (B : Nat) (v : Value) (l : List (Nat × Nat)) : Prop := Arr (0, 0) 2 WordAt w B v l
theorem stays_word : Stays WordAt := fun w w' B B' b p x hb hB ⟨h0, h1, h2, h3⟩ hk => ⟨(hk ⟨b, p, none⟩ hb).trans h0, (hk ⟨b, p + 1, none⟩ hb).trans h1, h2, h3⟩

def anA (l : List (Nat × Nat)) : Nat → Nat
  | 0 => 18446744073709551615
  | k + 1 => anA l k &&& anot (l.getD k (0, 0)).1 (l.getD k (0, 0)).2
def anB (l : List (Nat × Nat)) : Nat → Nat
  | 0 => 0
  | k + 1 => anB l k ||| anot (l.getD k (0, 0)).2 (l.getD k (0, 0)).1
theorem anA_w {l : List (Nat × Nat)} (h : ∀ k, W64 (l.getD k (0, 0)).1) : ∀ k, W64 (anA l k)
  | 0 => by unfold anA; unfold W64; decide
  | k + 1 => (anA_w h k).and
theorem anB_w {l : List (Nat × Nat)} (h : ∀ k, W64 (l.getD k (0, 0)).2) : ∀ k, W64 (anB l k)
  | 0 => by unfold anB; unfold W64; decide
  | k + 1 => (anB_w h k).or (h k).anot
set_option maxRecDepth 100000 in
set_option maxHeartbeats 4000000 in
theorem wand_any (l : List (Nat × Nat)) (A : Option Addr) (n cl : Nat) (w : World) (B : Nat) (hB : B ≤ w.heap.size) (hf : Ft w) (hs : Wd w B (.slice A n cl) l) :
    Calls Tryz.prog 69 #[.slice A n cl] w fun e w' => e = .returned (wv (anA l n) (anB l n)) ∧ BelW w w' := by
  obtain ⟨A', b, o, c', e, hA, hle, hm, hc⟩ := id hs
  simp only [Value.slice.injEq] at e
  obtain ⟨rfl, hml, rfl⟩ := e
  have hw1 : ∀ k, W64 (l.getD k (0, 0)).1 ∧ W64 (l.getD k (0, 0)).2 := fun k => by
    by_cases h : k < l.length
    · exact (hc k h).2.2.2
    · rw [List.getD_eq_getElem?_getD, List.getElem?_eq_none (by omega)]; exact ⟨w_zero, w_zero⟩
  rw [← hml] at hA hc hm
  unfold maxLen at hm
  obtain ⟨W1, HW1⟩ := named (w.alloc (.cells #[.int .u64 0, .int .u64 0] 27))
  have hb1 : BelW w W1 := by rw [HW1.out]; exact below_new (Below.refl _ _) _
  have hfr : Fr W1 w.heap.size 27 [.int .u64 0, .int .u64 0] := by rw [HW1.out]; exact Fr.made _ _ _ rfl
  obtain ⟨r, HR⟩ := named w.heap.size
  rw [← HR.out] at hfr
  have hrl : w.heap.size ≤ r := by rw [HR.out]; exact Nat.le_refl _
  have HAA := Lib.hid hA
  have HCE : Hid (∀ W, BelW w W → ∀ k, k < n → W.cell? ⟨b, o + k * 2, none⟩ = some (.int .u64 ((l.getD k (0, 0)).1 : Int)) ∧ W.cell? ⟨b, o + k * 2 + 1, none⟩ = some (.int .u64 ((l.getD k (0, 0)).2 : Int))) := Lib.hid fun W h k hk =>
    ⟨(Below.cell h (p := ⟨b, o + k * 2, none⟩) (Nat.lt_of_lt_of_le (hc k hk).1 hB)).trans (hc k hk).2.1, (Below.cell h (p := ⟨b, o + k * 2 + 1, none⟩) (Nat.lt_of_lt_of_le (hc k hk).1 hB)).trans (hc k hk).2.2.1⟩
  have HWW := Lib.hid hw1
  have HRA := Lib.hid (And.intro hfr hb1)
  have hfi := fill_any 1 (by decide) W1 (hf.below hb1)
  rw [show fA (cln 1) = anA l 0 from rfl, show fB (cln 1) = anB l 0 from rfl] at hfi
  unfold wv at hfi
  have HFI := Lib.hid hfi
  obtain ⟨p0, HP0⟩ := named (anA l 0)
  obtain ⟨p1, HP1⟩ := named (anB l 0)
  rw [← HP0.out, ← HP1.out] at HFI
  clear hs hA hc hf hb1 hfr hml hB hw1 hfi
  go_enter Tryz.func69, Tryz.ntmps69
  go_upto_region 1 with (fail)
  rw [← HW1.out, ← HR.out]
  go_upto_region 2 with (go_at_call 22; (with_reducible refine HFI.out.mono ?_); rintro e w2 ⟨rfl, hb2⟩; have HB2 : Hid (BelW W1 w2) := Lib.hid hb2; clear hb2)
  obtain ⟨V2, HV2⟩ := named (w2.alloc (.cells #[.int .u64 (p0 : Int), .int .u64 (p1 : Int)] 27))
  have hn2 : BelW w2 V2 := by rw [HV2.out]; exact below_new (Below.refl _ _) _
  have hfq : Fr V2 w2.heap.size 27 [.int .u64 (p0 : Int), .int .u64 (p1 : Int)] := by rw [HV2.out]; exact Fr.made _ _ _ rfl
  have hfr2 := (HRA.out.1.below HB2.out).below hn2
  have hrq0 : r < w2.heap.size := (HRA.out.1.below HB2.out).lt
  obtain ⟨q, HQ⟩ := named w2.heap.size
  rw [← HQ.out] at hfq hrq0
  rw [← HV2.out, ← HQ.out]
  have HRB := Lib.hid (And.intro hfr2 (And.intro hfq (joinB HRA.out.2 (joinB HB2.out hn2))))
  have hql : w.heap.size ≤ q := by omega
  clear hn2 hfq hfr2
  go_wp2
  go_loopw [9] (fun i wr => ∃ k : Nat, k ≤ n ∧ i = .int .i64 k ∧ BelW w wr ∧ Fr wr r 27 [.int .u64 0, .int .u64 0] ∧ Fr wr q 27 [.int .u64 (anA l k : Int), .int .u64 (anB l k : Int)]) (fun i _ => n - (intOf i).toNat)
  case atStart => exact ⟨0, Nat.zero_le _, rfl, HRB.out.2.2, HRB.out.1, by rw [← HP0.out, ← HP1.out]; exact HRB.out.2.1⟩
  case round =>
    obtain ⟨k, hk, rfl, hb, hfr, hfq⟩ := hrel
    have HB := Lib.hid hb
    have HFR := Lib.hid hfr
    have HFQ := Lib.hid hfq
    by_cases hlt : k < n
    · obtain rfl := HAA.out (by omega)
      obtain ⟨f0, f1⟩ := HCE.out wr hb k hlt
      obtain ⟨hwa, hwb⟩ := HWW.out k
      have hpA := anA_w (fun k => (HWW.out k).1) k
      have hpB := anB_w (fun k => (HWW.out k).2) k
      have hrd := read_any _ _ hwa hwb
      have hca : W64 (anot (l.getD k (0, 0)).1 (l.getD k (0, 0)).2) := hwa.anot
      have hcb : W64 (anot (l.getD k (0, 0)).2 (l.getD k (0, 0)).1) := hwb.anot
      have e1 : bits .and .u64 (anA l k : Int) ((anot (l.getD k (0, 0)).1 (l.getD k (0, 0)).2 : Nat) : Int) = (anA l (k + 1) : Int) := u64_and_nat _ _ hpA hca
      have e2 : bits .or .u64 (anB l k : Int) ((anot (l.getD k (0, 0)).2 (l.getD k (0, 0)).1 : Nat) : Int) = (anB l (k + 1) : Int) := u64_or_nat _ _ hpB hcb
      obtain ⟨ca, HCA⟩ := named (anot (l.getD k (0, 0)).1 (l.getD k (0, 0)).2)
      obtain ⟨cb, HCB⟩ := named (anot (l.getD k (0, 0)).2 (l.getD k (0, 0)).1)
      obtain ⟨xa, HXA⟩ := named (l.getD k (0, 0)).1
      obtain ⟨xb, HXB⟩ := named (l.getD k (0, 0)).2
      obtain ⟨pa, HPA⟩ := named (anA l k)
      obtain ⟨pb, HPB⟩ := named (anB l k)
      obtain ⟨na, HNA⟩ := named (anA l (k + 1))
      obtain ⟨nb, HNB⟩ := named (anB l (k + 1))
      rw [← HCA.out] at e1 hrd
      rw [← HCB.out] at e2 hrd
      rw [← HXA.out] at f0 hrd
      rw [← HXB.out] at f1 hrd
      rw [← HPA.out] at e1 HFQ
      rw [← HPB.out] at e2 HFQ
      rw [← HNA.out] at e1
      rw [← HNB.out] at e2
      unfold wv at hrd
      have HRD := Lib.hid hrd
      clear hb hfr hfq hrd hpA hpB hca hcb hwa hwb
      go_upto_region 5 with (fail)
      obtain ⟨V3, HV3⟩ := named (wr.alloc (.cells #[.int .u64 (xa : Int), .int .u64 (xb : Int)] 27))
      have hn3 : BelW wr V3 := by rw [HV3.out]; exact below_new (Below.refl _ _) _
      have hfx : Fr V3 wr.heap.size 27 [.int .u64 (xa : Int), .int .u64 (xb : Int)] := by rw [HV3.out]; exact Fr.made _ _ _ rfl
      have hqx : q < wr.heap.size := HFQ.out.lt
      obtain ⟨x, HX⟩ := named wr.heap.size
      rw [← HX.out] at hfx hqx
      rw [← HV3.out, ← HX.out]
      have x0 := hfx.cell 0
      have x1 := hfx.cell 1
      have HFX := Lib.hid hfx
      have HN3 := Lib.hid hn3
      clear f0 f1 hn3 hfx
      go_upto_region 6 with (go_at_call 68; (with_reducible refine (HRD.out _).mono ?_); rintro e w4 ⟨rfl, hb4⟩; have HB4 : Hid (BelW V3 w4) := Lib.hid hb4; clear hb4; have y0 := (HFX.out.below HB4.out).cell 0; have y1 := (HFX.out.below HB4.out).cell 1; have y2 := (HFX.out.below HB4.out).frozen 0; have y3 := (HFX.out.below HB4.out).frozen 1)
      obtain ⟨V5, HV5⟩ := named ((w4.setCell ⟨x, 0, none⟩ (.int .u64 (ca : Int))).setCell ⟨x, 1, none⟩ (.int .u64 (cb : Int)))
      have hxl : wr.heap.size ≤ x := by rw [HX.out]; exact Nat.le_refl _
      have hb5 : BelW wr V5 := by rw [HV5.out]; exact BelW.set (BelW.set (joinB HN3.out HB4.out) hxl _) hxl _
      have hfx5 : Fr V5 x 27 [.int .u64 (ca : Int), .int .u64 (cb : Int)] := by rw [HV5.out]; exact ((HFX.out.below HB4.out).set 0 _).set 1 _
      have hfq5 := HFQ.out.below hb5
      have hfr5 := HFR.out.below hb5
      rw [← HV5.out]
      have x0 := hfx5.cell 0
      have x1 := hfx5.cell 1
      have z0 := hfq5.cell 0
      have z1 := hfq5.cell 1
      have z2 := hfq5.frozen 0
      have z3 := hfq5.frozen 1
      have hqx2 : q ≠ x := by omega
      have HBV : Hid (BelW w V5) := Lib.hid (joinB HB.out hb5)
      have HQ2 := Lib.hid ((hfq5.set 0 (.int .u64 (na : Int))).set 1 (.int .u64 (nb : Int)))
      have HR2 := Lib.hid ((hfr5.other (a := ⟨q, 0, none⟩) (by show q ≠ r; omega) (.int .u64 (na : Int))).other (a := ⟨q, 1, none⟩) (by show q ≠ r; omega) (.int .u64 (nb : Int)))
      clear y0 y1 y2 y3 hb5 hfx5 hfq5 hfr5
      go_wp2
      go_roundw
      case rel => exact ⟨k + 1, by omega, by go_num, BelW.set (BelW.set HBV.out hql _) hql _, HR2.out, by rw [← HNA.out, ← HNB.out]; exact HQ2.out⟩
      case measure => simp [intOf]; omega
    · obtain rfl : n = k := by omega
      have y0 := hfq.cell 0
      have y1 := hfq.cell 1
      have z0 := hfr.cell 0
      have z1 := hfr.cell 1
      have z2 := hfr.frozen 0
      have z3 := hfr.frozen 1
      clear hb hfr hfq
      go_wp2
      (try simp only [Exit.inBlock, Exit.then])
      refine bodyPost_ret (results_cell_row rfl _ _ _ _ _ _ _ rfl ((HFR.out.set 0 _).set 1 _) Tryz.underlying27 rfl (by kernel_rfl)) rfl ?_
      exact ⟨rfl, BelW.set (BelW.set HB.out hrl _) hrl _⟩

def orA (l : List (Nat × Nat)) : Nat → Nat
  | 0 => 0
  | k + 1 => orA l k ||| anot (l.getD k (0, 0)).1 (l.getD k (0, 0)).2
def orB (l : List (Nat × Nat)) : Nat → Nat
  | 0 => 18446744073709551615
  | k + 1 => orB l k &&& anot (l.getD k (0, 0)).2 (l.getD k (0, 0)).1
theorem orA_w {l : List (Nat × Nat)} (h : ∀ k, W64 (l.getD k (0, 0)).1) : ∀ k, W64 (orA l k)
  | 0 => by unfold orA; unfold W64; decide
  | k + 1 => (orA_w h k).or (h k).anot
theorem orB_w {l : List (Nat × Nat)} (h : ∀ k, W64 (l.getD k (0, 0)).2) : ∀ k, W64 (orB l k)
  | 0 => by unfold orB; unfold W64; decide
  | k + 1 => (orB_w h k).and
set_option maxRecDepth 100000 in
set_option maxHeartbeats 4000000 in
theorem wor_any (l : List (Nat × Nat)) (A : Option Addr) (n cl : Nat) (w : World) (B : Nat) (hB : B ≤ w.heap.size) (hf : Ft w) (hs : Wd w B (.slice A n cl) l) :
    Calls Tryz.prog 70 #[.slice A n cl] w fun e w' => e = .returned (wv (orA l n) (orB l n)) ∧ BelW w w' := by
  obtain ⟨A', b, o, c', e, hA, hle, hm, hc⟩ := id hs
  simp only [Value.slice.injEq] at e
  obtain ⟨rfl, hml, rfl⟩ := e
  have hw1 : ∀ k, W64 (l.getD k (0, 0)).1 ∧ W64 (l.getD k (0, 0)).2 := fun k => by
    by_cases h : k < l.length
    · exact (hc k h).2.2.2
    · rw [List.getD_eq_getElem?_getD, List.getElem?_eq_none (by omega)]; exact ⟨w_zero, w_zero⟩
  rw [← hml] at hA hc hm
  unfold maxLen at hm
  obtain ⟨W1, HW1⟩ := named (w.alloc (.cells #[.int .u64 0, .int .u64 0] 27))
  have hb1 : BelW w W1 := by rw [HW1.out]; exact below_new (Below.refl _ _) _
  have hfr : Fr W1 w.heap.size 27 [.int .u64 0, .int .u64 0] := by rw [HW1.out]; exact Fr.made _ _ _ rfl
  obtain ⟨r, HR⟩ := named w.heap.size
  rw [← HR.out] at hfr
  have hrl : w.heap.size ≤ r := by rw [HR.out]; exact Nat.le_refl _
  have HAA := Lib.hid hA
  have HCE : Hid (∀ W, BelW w W → ∀ k, k < n → W.cell? ⟨b, o + k * 2, none⟩ = some (.int .u64 ((l.getD k (0, 0)).1 : Int)) ∧ W.cell? ⟨b, o + k * 2 + 1, none⟩ = some (.int .u64 ((l.getD k (0, 0)).2 : Int))) := Lib.hid fun W h k hk =>
    ⟨(Below.cell h (p := ⟨b, o + k * 2, none⟩) (Nat.lt_of_lt_of_le (hc k hk).1 hB)).trans (hc k hk).2.1, (Below.cell h (p := ⟨b, o + k * 2 + 1, none⟩) (Nat.lt_of_lt_of_le (hc k hk).1 hB)).trans (hc k hk).2.2.1⟩
  have HWW := Lib.hid hw1
  have HRA := Lib.hid (And.intro hfr hb1)
  have hfi := fill_any 0 (by decide) W1 (hf.below hb1)
  rw [show fA (cln 0) = orA l 0 from rfl, show fB (cln 0) = orB l 0 from rfl] at hfi
  unfold wv at hfi
  have HFI := Lib.hid hfi
  obtain ⟨p0, HP0⟩ := named (orA l 0)
  obtain ⟨p1, HP1⟩ := named (orB l 0)
  rw [← HP0.out, ← HP1.out] at HFI
  clear hs hA hc hf hb1 hfr hml hB hw1 hfi
  go_enter Tryz.func70, Tryz.ntmps70
  go_upto_region 1 with (fail)
  rw [← HW1.out, ← HR.out]
  go_upto_region 2 with (go_at_call 22; (with_reducible refine HFI.out.mono ?_); rintro e w2 ⟨rfl, hb2⟩; have HB2 : Hid (BelW W1 w2) := Lib.hid hb2; clear hb2)
  obtain ⟨V2, HV2⟩ := named (w2.alloc (.cells #[.int .u64 (p0 : Int), .int .u64 (p1 : Int)] 27))
  have hn2 : BelW w2 V2 := by rw [HV2.out]; exact below_new (Below.refl _ _) _
  have hfq : Fr V2 w2.heap.size 27 [.int .u64 (p0 : Int), .int .u64 (p1 : Int)] := by rw [HV2.out]; exact Fr.made _ _ _ rfl
  have hfr2 := (HRA.out.1.below HB2.out).below hn2
  have hrq0 : r < w2.heap.size := (HRA.out.1.below HB2.out).lt
  obtain ⟨q, HQ⟩ := named w2.heap.size
  rw [← HQ.out] at hfq hrq0
  rw [← HV2.out, ← HQ.out]
  have HRB := Lib.hid (And.intro hfr2 (And.intro hfq (joinB HRA.out.2 (joinB HB2.out hn2))))
  have hql : w.heap.size ≤ q := by omega
  clear hn2 hfq hfr2
  go_wp2
  go_loopw [9] (fun i wr => ∃ k : Nat, k ≤ n ∧ i = .int .i64 k ∧ BelW w wr ∧ Fr wr r 27 [.int .u64 0, .int .u64 0] ∧ Fr wr q 27 [.int .u64 (orA l k : Int), .int .u64 (orB l k : Int)]) (fun i _ => n - (intOf i).toNat)
  case atStart => exact ⟨0, Nat.zero_le _, rfl, HRB.out.2.2, HRB.out.1, by rw [← HP0.out, ← HP1.out]; exact HRB.out.2.1⟩
  case round =>
    obtain ⟨k, hk, rfl, hb, hfr, hfq⟩ := hrel
    have HB := Lib.hid hb
    have HFR := Lib.hid hfr
    have HFQ := Lib.hid hfq
    by_cases hlt : k < n
    · obtain rfl := HAA.out (by omega)
      obtain ⟨f0, f1⟩ := HCE.out wr hb k hlt
      obtain ⟨hwa, hwb⟩ := HWW.out k
      have hpA := orA_w (fun k => (HWW.out k).1) k
      have hpB := orB_w (fun k => (HWW.out k).2) k
      have hrd := read_any _ _ hwa hwb
      have hca : W64 (anot (l.getD k (0, 0)).1 (l.getD k (0, 0)).2) := hwa.anot
      have hcb : W64 (anot (l.getD k (0, 0)).2 (l.getD k (0, 0)).1) := hwb.anot
      have e1 : bits .or .u64 (orA l k : Int) ((anot (l.getD k (0, 0)).1 (l.getD k (0, 0)).2 : Nat) : Int) = (orA l (k + 1) : Int) := u64_or_nat _ _ hpA hca
      have e2 : bits .and .u64 (orB l k : Int) ((anot (l.getD k (0, 0)).2 (l.getD k (0, 0)).1 : Nat) : Int) = (orB l (k + 1) : Int) := u64_and_nat _ _ hpB hcb
      obtain ⟨ca, HCA⟩ := named (anot (l.getD k (0, 0)).1 (l.getD k (0, 0)).2)
      obtain ⟨cb, HCB⟩ := named (anot (l.getD k (0, 0)).2 (l.getD k (0, 0)).1)
      obtain ⟨xa, HXA⟩ := named (l.getD k (0, 0)).1
      obtain ⟨xb, HXB⟩ := named (l.getD k (0, 0)).2
      obtain ⟨pa, HPA⟩ := named (orA l k)
      obtain ⟨pb, HPB⟩ := named (orB l k)
      obtain ⟨na, HNA⟩ := named (orA l (k + 1))
      obtain ⟨nb, HNB⟩ := named (orB l (k + 1))
      rw [← HCA.out] at e1 hrd
      rw [← HCB.out] at e2 hrd
      rw [← HXA.out] at f0 hrd
      rw [← HXB.out] at f1 hrd
      rw [← HPA.out] at e1 HFQ
      rw [← HPB.out] at e2 HFQ
      rw [← HNA.out] at e1
      rw [← HNB.out] at e2
      unfold wv at hrd
      have HRD := Lib.hid hrd
      clear hb hfr hfq hrd hpA hpB hca hcb hwa hwb
      go_upto_region 5 with (fail)
      obtain ⟨V3, HV3⟩ := named (wr.alloc (.cells #[.int .u64 (xa : Int), .int .u64 (xb : Int)] 27))
      have hn3 : BelW wr V3 := by rw [HV3.out]; exact below_new (Below.refl _ _) _
      have hfx : Fr V3 wr.heap.size 27 [.int .u64 (xa : Int), .int .u64 (xb : Int)] := by rw [HV3.out]; exact Fr.made _ _ _ rfl
      have hqx : q < wr.heap.size := HFQ.out.lt
      obtain ⟨x, HX⟩ := named wr.heap.size
      rw [← HX.out] at hfx hqx
      rw [← HV3.out, ← HX.out]
      have x0 := hfx.cell 0
      have x1 := hfx.cell 1
      have HFX := Lib.hid hfx
      have HN3 := Lib.hid hn3
      clear f0 f1 hn3 hfx
      go_upto_region 6 with (go_at_call 68; (with_reducible refine (HRD.out _).mono ?_); rintro e w4 ⟨rfl, hb4⟩; have HB4 : Hid (BelW V3 w4) := Lib.hid hb4; clear hb4; have y0 := (HFX.out.below HB4.out).cell 0; have y1 := (HFX.out.below HB4.out).cell 1; have y2 := (HFX.out.below HB4.out).frozen 0; have y3 := (HFX.out.below HB4.out).frozen 1)
      obtain ⟨V5, HV5⟩ := named ((w4.setCell ⟨x, 0, none⟩ (.int .u64 (ca : Int))).setCell ⟨x, 1, none⟩ (.int .u64 (cb : Int)))
      have hxl : wr.heap.size ≤ x := by rw [HX.out]; exact Nat.le_refl _
      have hb5 : BelW wr V5 := by rw [HV5.out]; exact BelW.set (BelW.set (joinB HN3.out HB4.out) hxl _) hxl _
      have hfx5 : Fr V5 x 27 [.int .u64 (ca : Int), .int .u64 (cb : Int)] := by rw [HV5.out]; exact ((HFX.out.below HB4.out).set 0 _).set 1 _
      have hfq5 := HFQ.out.below hb5
      have hfr5 := HFR.out.below hb5
      rw [← HV5.out]
      have x0 := hfx5.cell 0
      have x1 := hfx5.cell 1
      have z0 := hfq5.cell 0
      have z1 := hfq5.cell 1
      have z2 := hfq5.frozen 0
      have z3 := hfq5.frozen 1
      have hqx2 : q ≠ x := by omega
      have HBV : Hid (BelW w V5) := Lib.hid (joinB HB.out hb5)
      have HQ2 := Lib.hid ((hfq5.set 0 (.int .u64 (na : Int))).set 1 (.int .u64 (nb : Int)))
      have HR2 := Lib.hid ((hfr5.other (a := ⟨q, 0, none⟩) (by show q ≠ r; omega) (.int .u64 (na : Int))).other (a := ⟨q, 1, none⟩) (by show q ≠ r; omega) (.int .u64 (nb : Int)))
      clear y0 y1 y2 y3 hb5 hfx5 hfq5 hfr5
      go_wp2
      go_roundw
      case rel => exact ⟨k + 1, by omega, by go_num, BelW.set (BelW.set HBV.out hql _) hql _, HR2.out, by rw [← HNA.out, ← HNB.out]; exact HQ2.out⟩
      case measure => simp [intOf]; omega
    · obtain rfl : n = k := by omega
      have y0 := hfq.cell 0
      have y1 := hfq.cell 1
      have z0 := hfr.cell 0
      have z1 := hfr.cell 1
      have z2 := hfr.frozen 0
      have z3 := hfr.frozen 1
      clear hb hfr hfq
      go_wp2
      (try simp only [Exit.inBlock, Exit.then])
      refine bodyPost_ret (results_cell_row rfl _ _ _ _ _ _ _ rfl ((HFR.out.set 0 _).set 1 _) Tryz.underlying27 rfl (by kernel_rfl)) rfl ?_
      exact ⟨rfl, BelW.set (BelW.set HB.out hrl _) hrl _⟩
end Go.Proofs.YtemogllidmgbfaaGreatDoor

namespace Go.Proofs.YtemogllidmgbfaaGreatDoor
open Go.RowKit

def buA (l : List (Nat × Nat)) : Nat → Nat
  | 0 => 18446744073709551615
  | k + 1 => buA l k &&& (l.getD k (0, 0)).1
def buB (l : List (Nat × Nat)) : Nat → Nat
  | 0 => 18446744073709551615
  | k + 1 => buB l k &&& (l.getD k (0, 0)).2
theorem buA_w {l : List (Nat × Nat)} (h : ∀ k, W64 (l.getD k (0, 0)).1) : ∀ k, W64 (buA l k)
  | 0 => by unfold buA; unfold W64; decide
  | k + 1 => (buA_w h k).and
theorem buB_w {l : List (Nat × Nat)} (h : ∀ k, W64 (l.getD k (0, 0)).2) : ∀ k, W64 (buB l k)
  | 0 => by unfold buB; unfold W64; decide
  | k + 1 => (buB_w h k).and
set_option maxRecDepth 100000 in
set_option maxHeartbeats 4000000 in
theorem wbus_any (l : List (Nat × Nat)) (A : Option Addr) (n cl : Nat) (w : World) (B : Nat) (hB : B ≤ w.heap.size) (hf : Ft w) (hs : Wd w B (.slice A n cl) l) :
    Calls Tryz.prog 74 #[.slice A n cl] w fun e w' => e = .returned (wv (buA l n) (buB l n)) ∧ BelW w w' := by
  obtain ⟨A', b, o, c', e, hA, hle, hm, hc⟩ := id hs
  simp only [Value.slice.injEq] at e
  obtain ⟨rfl, hml, rfl⟩ := e
  have hw1 : ∀ k, W64 (l.getD k (0, 0)).1 ∧ W64 (l.getD k (0, 0)).2 := fun k => by
    by_cases h : k < l.length
    · exact (hc k h).2.2.2
    · rw [List.getD_eq_getElem?_getD, List.getElem?_eq_none (by omega)]; exact ⟨w_zero, w_zero⟩
  rw [← hml] at hA hc hm
  unfold maxLen at hm
  obtain ⟨W1, HW1⟩ := named (w.alloc (.cells #[.int .u64 0, .int .u64 0] 27))
  have hb1 : BelW w W1 := by rw [HW1.out]; exact below_new (Below.refl _ _) _
  have hfr : Fr W1 w.heap.size 27 [.int .u64 0, .int .u64 0] := by rw [HW1.out]; exact Fr.made _ _ _ rfl
  obtain ⟨r, HR⟩ := named w.heap.size
  rw [← HR.out] at hfr
  have hrl : w.heap.size ≤ r := by rw [HR.out]; exact Nat.le_refl _
  have HAA := Lib.hid hA
  have HCE : Hid (∀ W, BelW w W → ∀ k, k < n → W.cell? ⟨b, o + k * 2, none⟩ = some (.int .u64 ((l.getD k (0, 0)).1 : Int)) ∧ W.cell? ⟨b, o + k * 2 + 1, none⟩ = some (.int .u64 ((l.getD k (0, 0)).2 : Int))) := Lib.hid fun W h k hk =>
    ⟨(Below.cell h (p := ⟨b, o + k * 2, none⟩) (Nat.lt_of_lt_of_le (hc k hk).1 hB)).trans (hc k hk).2.1, (Below.cell h (p := ⟨b, o + k * 2 + 1, none⟩) (Nat.lt_of_lt_of_le (hc k hk).1 hB)).trans (hc k hk).2.2.1⟩
  have HWW := Lib.hid hw1
  have HRA := Lib.hid (And.intro hfr hb1)
  have hfi := fill_any 3 (by decide) W1 (hf.below hb1)
  rw [show fA (cln 3) = buA l 0 from rfl, show fB (cln 3) = buB l 0 from rfl] at hfi
  unfold wv at hfi
  have HFI := Lib.hid hfi
  obtain ⟨p0, HP0⟩ := named (buA l 0)
  obtain ⟨p1, HP1⟩ := named (buB l 0)
  rw [← HP0.out, ← HP1.out] at HFI
  clear hs hA hc hf hb1 hfr hml hB hw1 hfi
  go_enter Tryz.func74, Tryz.ntmps74
  go_upto_region 1 with (fail)
  rw [← HW1.out, ← HR.out]
  go_upto_region 2 with (go_at_call 22; (with_reducible refine HFI.out.mono ?_); rintro e w2 ⟨rfl, hb2⟩; have HB2 : Hid (BelW W1 w2) := Lib.hid hb2; clear hb2)
  obtain ⟨V2, HV2⟩ := named (w2.alloc (.cells #[.int .u64 (p0 : Int), .int .u64 (p1 : Int)] 27))
  have hn2 : BelW w2 V2 := by rw [HV2.out]; exact below_new (Below.refl _ _) _
  have hfq : Fr V2 w2.heap.size 27 [.int .u64 (p0 : Int), .int .u64 (p1 : Int)] := by rw [HV2.out]; exact Fr.made _ _ _ rfl
  have hfr2 := (HRA.out.1.below HB2.out).below hn2
  have hrq0 : r < w2.heap.size := (HRA.out.1.below HB2.out).lt
  obtain ⟨q, HQ⟩ := named w2.heap.size
  rw [← HQ.out] at hfq hrq0
  rw [← HV2.out, ← HQ.out]
  have HRB := Lib.hid (And.intro hfr2 (And.intro hfq (joinB HRA.out.2 (joinB HB2.out hn2))))
  have hql : w.heap.size ≤ q := by omega
  clear hn2 hfq hfr2
  go_wp2
  go_loopw [9] (fun i wr => ∃ k : Nat, k ≤ n ∧ i = .int .i64 k ∧ BelW w wr ∧ Fr wr r 27 [.int .u64 0, .int .u64 0] ∧ Fr wr q 27 [.int .u64 (buA l k : Int), .int .u64 (buB l k : Int)]) (fun i _ => n - (intOf i).toNat)
  case atStart => exact ⟨0, Nat.zero_le _, rfl, HRB.out.2.2, HRB.out.1, by rw [← HP0.out, ← HP1.out]; exact HRB.out.2.1⟩
  case round =>
    obtain ⟨k, hk, rfl, hb, hfr, hfq⟩ := hrel
    have HB := Lib.hid hb
    have HFR := Lib.hid hfr
    have HFQ := Lib.hid hfq
    by_cases hlt : k < n
    · obtain rfl := HAA.out (by omega)
      obtain ⟨f0, f1⟩ := HCE.out wr hb k hlt
      obtain ⟨hwa, hwb⟩ := HWW.out k
      have hpA := buA_w (fun k => (HWW.out k).1) k
      have hpB := buB_w (fun k => (HWW.out k).2) k
      have e1 : bits .and .u64 (buA l k : Int) ((l.getD k (0, 0)).1 : Int) = (buA l (k + 1) : Int) := u64_and_nat _ _ hpA hwa
      have e2 : bits .and .u64 (buB l k : Int) ((l.getD k (0, 0)).2 : Int) = (buB l (k + 1) : Int) := u64_and_nat _ _ hpB hwb
      obtain ⟨xa, HXA⟩ := named (l.getD k (0, 0)).1
      obtain ⟨xb, HXB⟩ := named (l.getD k (0, 0)).2
      obtain ⟨pa, HPA⟩ := named (buA l k)
      obtain ⟨pb, HPB⟩ := named (buB l k)
      obtain ⟨na, HNA⟩ := named (buA l (k + 1))
      obtain ⟨nb, HNB⟩ := named (buB l (k + 1))
      rw [← HXA.out] at f0 e1
      rw [← HXB.out] at f1 e2
      rw [← HPA.out] at e1 HFQ
      rw [← HPB.out] at e2 HFQ
      rw [← HNA.out] at e1
      rw [← HNB.out] at e2
      clear hb hfr hfq hpA hpB hwa hwb
      go_upto_region 5 with (fail)
      obtain ⟨V3, HV3⟩ := named (wr.alloc (.cells #[.int .u64 (xa : Int), .int .u64 (xb : Int)] 27))
      have hn3 : BelW wr V3 := by rw [HV3.out]; exact below_new (Below.refl _ _) _
      have hfx : Fr V3 wr.heap.size 27 [.int .u64 (xa : Int), .int .u64 (xb : Int)] := by rw [HV3.out]; exact Fr.made _ _ _ rfl
      have hqx : q < wr.heap.size := HFQ.out.lt
      obtain ⟨x, HX⟩ := named wr.heap.size
      rw [← HX.out] at hfx hqx
      rw [← HV3.out, ← HX.out]
      have hb5 : BelW wr V3 := hn3
      have hfx5 := hfx
      have hfq5 := HFQ.out.below hb5
      have hfr5 := HFR.out.below hb5
      have x0 := hfx5.cell 0
      have x1 := hfx5.cell 1
      have z0 := hfq5.cell 0
      have z1 := hfq5.cell 1
      have z2 := hfq5.frozen 0
      have z3 := hfq5.frozen 1
      have hqx2 : q ≠ x := by omega
      have HBV : Hid (BelW w V3) := Lib.hid (joinB HB.out hb5)
      have HQ2 := Lib.hid ((hfq5.set 0 (.int .u64 (na : Int))).set 1 (.int .u64 (nb : Int)))
      have HR2 := Lib.hid ((hfr5.other (a := ⟨q, 0, none⟩) (by show q ≠ r; omega) (.int .u64 (na : Int))).other (a := ⟨q, 1, none⟩) (by show q ≠ r; omega) (.int .u64 (nb : Int)))
      clear f0 f1 hn3 hfx hb5 hfx5 hfq5 hfr5
      go_wp2
      go_roundw
      case rel => exact ⟨k + 1, by omega, by go_num, BelW.set (BelW.set HBV.out hql _) hql _, HR2.out, by rw [← HNA.out, ← HNB.out]; exact HQ2.out⟩
      case measure => simp [intOf]; omega
    · obtain rfl : n = k := by omega
      have y0 := hfq.cell 0
      have y1 := hfq.cell 1
      have z0 := hfr.cell 0
      have z1 := hfr.cell 1
      have z2 := hfr.frozen 0
      have z3 := hfr.frozen 1
      clear hb hfr hfq
      go_wp2
      (try simp only [Exit.inBlock, Exit.then])
      refine bodyPost_ret (results_cell_row rfl _ _ _ _ _ _ _ rfl ((HFR.out.set 0 _).set 1 _) Tryz.underlying27 rfl (by kernel_rfl)) rfl ?_
      exact ⟨rfl, BelW.set (BelW.set HB.out hrl _) hrl _⟩

/-- The two numbers of tri. -/
def trN (z o d : Nat) : Nat := z ||| (o &&& d)
theorem trN_w {z o d : Nat} (hz : W64 z) (ho : W64 o) : W64 (trN z o d) := hz.or ho.and
set_option maxRecDepth 100000 in
set_option maxHeartbeats 4000000 in
theorem wtri_any (a b c d : Nat) (ha : W64 a) (hb : W64 b) (hc : W64 c) (hd : W64 d) (w : World) :
    Calls Tryz.prog 73 #[wv a b, wv c d] w fun e w' => e = .returned (wv (trN b a c) (trN b a d)) ∧ BelW w w' := by
  obtain ⟨W1, HW1⟩ := named (((w.alloc (.cells #[.int .u64 (a : Int), .int .u64 (b : Int)] 27)).alloc (.cells #[.int .u64 (c : Int), .int .u64 (d : Int)] 27)).alloc (.cells #[.int .u64 0, .int .u64 0] 27))
  have hb1 : BelW w W1 := by rw [HW1.out]; exact below_new (below_new (below_new (Below.refl _ _) _) _) _
  have hfp : Fr W1 w.heap.size 27 [.int .u64 (a : Int), .int .u64 (b : Int)] := by rw [HW1.out]; exact Fr.alloc (Fr.alloc (Fr.made _ _ _ rfl) _) _
  have hfs : Fr W1 (w.heap.size + 1) 27 [.int .u64 (c : Int), .int .u64 (d : Int)] := by rw [HW1.out]; exact Fr.alloc (Fr.made _ _ _ (by simp)) _
  have hfr : Fr W1 (w.heap.size + 1 + 1) 27 [.int .u64 0, .int .u64 0] := by rw [HW1.out]; exact Fr.made _ _ _ (by simp)
  obtain ⟨q, HQ⟩ := named w.heap.size
  obtain ⟨p, HP⟩ := named (q + 1)
  obtain ⟨r, HR⟩ := named (p + 1)
  rw [← HQ.out] at hfp hfs hfr
  rw [← HP.out] at hfs hfr
  rw [← HR.out] at hfr
  have x0 := hfp.cell 0
  have x1 := hfp.cell 1
  have y0 := hfs.cell 0
  have y1 := hfs.cell 1
  have z0 := hfr.cell 0
  have z1 := hfr.cell 1
  have z2 := hfr.frozen 0
  have z3 := hfr.frozen 1
  have e1 : bits .and .u64 (a : Int) (c : Int) = ((a &&& c : Nat) : Int) := u64_and_nat a c ha hc
  have e2 : bits .and .u64 (a : Int) (d : Int) = ((a &&& d : Nat) : Int) := u64_and_nat a d ha hd
  have e3 : bits .or .u64 (b : Int) ((a &&& c : Nat) : Int) = (trN b a c : Int) := u64_or_nat b _ hb ha.and
  have e4 : bits .or .u64 (b : Int) ((a &&& d : Nat) : Int) = (trN b a d : Int) := u64_or_nat b _ hb ha.and
  obtain ⟨u, HU⟩ := named (a &&& c)
  obtain ⟨v, HV⟩ := named (a &&& d)
  obtain ⟨s, HS⟩ := named (trN b a c)
  obtain ⟨t, HT⟩ := named (trN b a d)
  rw [← HU.out] at e1 e3
  rw [← HV.out] at e2 e4
  rw [← HS.out] at e3
  rw [← HT.out] at e4
  rw [← HS.out, ← HT.out]
  have HFR := Lib.hid hfr
  have HB1 := Lib.hid hb1
  have hrl : w.heap.size ≤ r := by rw [HR.out, HP.out, HQ.out]; omega
  clear hfr hb1 hfp hfs
  unfold wv
  go_enter Tryz.func73, Tryz.ntmps73
  go_upto_region 1 with (fail)
  rw [← HW1.out, ← HQ.out]
  try rw [← HP.out]
  try rw [← HR.out]
  go_wp2
  (try simp only [Exit.inBlock, Exit.then])
  refine bodyPost_ret (results_cell_row rfl _ _ _ _ _ _ _ rfl ((HFR.out.set 0 _).set 1 _) Tryz.underlying27 rfl (by kernel_rfl)) rfl ?_
  exact ⟨rfl, BelW.set (BelW.set HB1.out hrl _) hrl _⟩
end Go.Proofs.YtemogllidmgbfaaGreatDoor
