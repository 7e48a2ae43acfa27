/- The texts Wpk. -/
import Derived.Test.YtemogllidmgbfaaDoorM21
import Derived.Test.YtemogllidmgbfaaDoorM15
namespace Go.Proofs.YtemogllidmgbfaaDoor
open Go.RowKit

set_option maxHeartbeats 2000000 in
theorem wat_out (a b : Nat) (z : Int) (hz : ¬ (0 ≤ z ∧ z < 64)) (w : World) : Calls Tryd.prog 12 #[wv a b, .int .i64 z] w fun e w' => e = .returned (.int .u8 2) ∧ BelW w w' := by
  obtain ⟨W1, HW1⟩ := named (w.alloc (.cells #[.int .u64 (a : Int), .int .u64 (b : Int)] 25))
  have hb1 : BelW w W1 := by rw [HW1.out]; exact below_new (Below.refl _ _) _
  have HB1 := Lib.hid hb1
  clear hb1
  unfold wv
  go_enter Tryd.func12, Tryd.ntmps12
  go_upto_region 1 with (fail)
  rw [← HW1.out]
  by_cases h0 : 0 ≤ z
  · have h1 : ¬ z < 64 := fun h => hz ⟨h0, h⟩
    go_wp2
    go_ret
    exact ⟨rfl, HB1.out⟩
  · go_wp2
    go_ret
    exact ⟨rfl, HB1.out⟩

/-- The first k values packed. -/
def pkA (l : List Int) : Nat → Nat
  | 0 => 0
  | k + 1 => pkA l k ||| (fA (cln (l.getD k 0)) &&& 2 ^ k)
def pkB (l : List Int) : Nat → Nat
  | 0 => 0
  | k + 1 => pkB l k ||| (fB (cln (l.getD k 0)) &&& 2 ^ k)
theorem pkA_w (l : List Int) : ∀ k, k ≤ 64 → W64 (pkA l k)
  | 0, _ => w_zero
  | k + 1, h => (pkA_w l k (by omega)).or (fA_w _).and
theorem pkB_w (l : List Int) : ∀ k, k ≤ 64 → W64 (pkB l k)
  | 0, _ => w_zero
  | k + 1, h => (pkB_w l k (by omega)).or (fB_w _).and
theorem pk_bits (l : List Int) : ∀ (k i : Nat), (pkA l k).testBit i = (decide (i < k) && (fA (cln (l.getD i 0))).testBit i) ∧ (pkB l k).testBit i = (decide (i < k) && (fB (cln (l.getD i 0))).testBit i)
  | 0, i => by simp [pkA, pkB]
  | k + 1, i => by
    obtain ⟨h1, h2⟩ := pk_bits l k i
    unfold pkA pkB
    rw [Nat.testBit_or, Nat.testBit_or, h1, h2, Nat.testBit_and, Nat.testBit_and, Nat.testBit_two_pow]
    by_cases e : k = i
    · subst e
      simp
    · by_cases h : i < k
      · have h' : i < k + 1 := by omega
        simp [e, h, h']
      · have h' : ¬ i < k + 1 := by omega
        simp [e, h, h']
theorem pack_ln {l : List Int} {k i : Nat} (h0 : ∀ y ∈ l, 0 ≤ y) (hi : i < 64) : lnV (pkA l k) (pkB l k) i = if i < k then cln (l.getD i 0) else 2 := by
  obtain ⟨h1, h2⟩ := pk_bits l k i
  have hc : 0 ≤ cln (l.getD i 0) ∧ cln (l.getD i 0) ≤ 3 := by
    have : 0 ≤ l.getD i 0 := by
      rw [List.getD_eq_getElem?_getD]
      by_cases h : i < l.length
      · rw [List.getElem?_eq_getElem h]; exact h0 _ (List.getElem_mem h)
      · rw [List.getElem?_eq_none (by omega)]; decide
    rcases cln_cases _ this with h | h | h | h <;> omega
  by_cases h : i < k
  · have hf := fill_ln hc.1 hc.2 hi
    rw [if_pos h, ← hf]
    unfold lnV
    rw [h1, h2, decide_eq_true h, Bool.true_and, Bool.true_and]
  · rw [if_neg h]
    unfold lnV
    rw [h1, h2, decide_eq_false h]
    rfl

set_option maxRecDepth 100000 in
set_option maxHeartbeats 4000000 in
theorem pack_any (l : List Int) (A : Option Addr) (n cl : Nat) (w : World) (B : Nat) (hB : B ≤ w.heap.size) (hf : Ft w) (hs : Ks w B (.slice A n cl) l) (h0 : ∀ y ∈ l, 0 ≤ y) :
    Calls Tryd.prog 7 #[.slice A n cl] w fun e w' => e = .returned (wv (pkA l (min n 64)) (pkB l (min n 64))) ∧ BelW w w' := by
  obtain ⟨A', b, o, c', e, hA, hle, hm, hc⟩ := hs.opens
  simp only [Value.slice.injEq] at e
  obtain ⟨rfl, hml, rfl⟩ := e
  rw [← hml] at hA hc hm
  unfold maxLen at hm
  obtain ⟨W1, HW1⟩ := named ((w.alloc (.cells #[.int .u64 0, .int .u64 0] 25)).alloc (.cells #[.int .u64 0, .int .u64 0] 25))
  have hb1 : BelW w W1 := by rw [HW1.out]; exact below_new (below_new (Below.refl _ _) _) _
  have hfr : Fr W1 w.heap.size 25 [.int .u64 0, .int .u64 0] := by rw [HW1.out]; exact Fr.alloc (Fr.made _ _ _ rfl) _
  have hfq : Fr W1 (w.heap.size + 1) 25 [.int .u64 0, .int .u64 0] := by rw [HW1.out]; exact Fr.made _ _ _ (by simp)
  obtain ⟨r, HR⟩ := named w.heap.size
  obtain ⟨q, HQ⟩ := named (r + 1)
  rw [← HR.out] at hfr hfq
  rw [← HQ.out] at hfq
  have hrq : r < q := by have := HQ.out; omega
  have hrl : w.heap.size ≤ r := by rw [HR.out]; exact Nat.le_refl _
  have HAA := Lib.hid hA
  have HFT : Hid (∀ W, BelW w W → Ft W) := Lib.hid fun W h => hf.below h
  have HCE : Hid (∀ W, BelW w W → ∀ k, k < n → W.cell? ⟨b, o + k, none⟩ = some (.int .u8 (l.getD k 0))) := Lib.hid fun W h k hk => (Below.cell h (p := ⟨b, o + k, none⟩) (Nat.lt_of_lt_of_le (hc k hk).1 hB)).trans (hc k hk).2
  have HP0 : Hid (∀ k, k < n → 0 ≤ l.getD k 0) := Lib.hid fun k hk => h0 _ (by rw [List.getD_eq_getElem?_getD, List.getElem?_eq_getElem (by rw [← hml]; exact hk)]; exact List.getElem_mem _)
  have HRA := Lib.hid (And.intro hfr (And.intro hfq hb1))
  obtain ⟨m, HM⟩ := named (min n 64)
  rw [← HM.out]
  have hmn : m ≤ n := by rw [HM.out]; exact Nat.min_le_left _ _
  have hm64 : m ≤ 64 := by rw [HM.out]; exact Nat.min_le_right _ _
  have hmm : min (n : Int) 64 = (m : Int) := by rw [HM.out]; omega
  clear hs hA hc hf h0 hb1 hfr hfq hml hB
  go_enter Tryd.func7, Tryd.ntmps7
  go_upto_region 2 with (fail)
  rw [← HW1.out, ← HR.out]
  try rw [← HQ.out]
  by_cases hn : n ≤ 64
  · have hmn2 : m = n := by omega
    go_upto_region 3 with (fail)
    go_loopw [9] (fun i wr => ∃ k : Nat, k ≤ m ∧ i = .int .i64 k ∧ BelW w wr ∧ Fr wr r 25 [.int .u64 0, .int .u64 0] ∧ Fr wr q 25 [.int .u64 (pkA l k : Int), .int .u64 (pkB l k : Int)]) (fun i _ => m - (intOf i).toNat)
    case atStart => exact ⟨0, Nat.zero_le _, rfl, HRA.out.2.2, HRA.out.1, HRA.out.2.1⟩
    case round =>
      obtain ⟨k, hk, rfl, hb, hfr, hfq⟩ := hrel
      have HB := Lib.hid hb
      have HFR := Lib.hid hfr
      have HFQ := Lib.hid hfq
      by_cases hlt : k < m
      · have hX : k < n := by omega
        obtain rfl := HAA.out (by omega)
        have f0 := HCE.out wr hb k (by omega)
        have hv0 := HP0.out k (by omega)
        have hln : ∀ W, BelW w W → Calls Tryd.prog 8 #[.int .u8 (l.getD k 0)] W fun e w' => e = .returned (wv (fA (cln (l.getD k 0))) (fB (cln (l.getD k 0)))) ∧ BelW W w' := fun W h => fill_any _ hv0 W (HFT.out W h)
        have hon : ∀ W, Calls Tryd.prog 18 #[wv (fA (cln (l.getD k 0))) (fB (cln (l.getD k 0))), .int .i64 (k : Int)] W fun e w' => e = .returned (wv (fA (cln (l.getD k 0)) &&& 2 ^ k) (fB (cln (l.getD k 0)) &&& 2 ^ k)) ∧ BelW W w' := fun W => only_any _ _ k (fA_w _) (fB_w _) (by omega) W
        have hpA := pkA_w l k (by omega)
        have hpB := pkB_w l k (by omega)
        have hcA : W64 (fA (cln (l.getD k 0)) &&& 2 ^ k) := (fA_w _).and
        have hcB : W64 (fB (cln (l.getD k 0)) &&& 2 ^ k) := (fB_w _).and
        have e1 : bits .or .u64 (pkA l k : Int) ((fA (cln (l.getD k 0)) &&& 2 ^ k : Nat) : Int) = (pkA l (k + 1) : Int) := u64_or_nat _ _ hpA hcA
        have e2 : bits .or .u64 (pkB l k : Int) ((fB (cln (l.getD k 0)) &&& 2 ^ k : Nat) : Int) = (pkB l (k + 1) : Int) := u64_or_nat _ _ hpB hcB
        obtain ⟨ca, HCA⟩ := named (fA (cln (l.getD k 0)) &&& 2 ^ k)
        obtain ⟨cb, HCB⟩ := named (fB (cln (l.getD k 0)) &&& 2 ^ k)
        obtain ⟨fa, HFA⟩ := named (fA (cln (l.getD k 0)))
        obtain ⟨fb, HFB⟩ := named (fB (cln (l.getD k 0)))
        obtain ⟨v, HV⟩ := named (l.getD k 0)
        obtain ⟨pa, HPA⟩ := named (pkA l k)
        obtain ⟨pb, HPB⟩ := named (pkB l k)
        obtain ⟨na, HNA⟩ := named (pkA l (k + 1))
        obtain ⟨nb, HNB⟩ := named (pkB l (k + 1))
        rw [← HCA.out] at e1 hon
        rw [← HCB.out] at e2 hon
        rw [← HFA.out] at hln hon
        rw [← HFB.out] at hln hon
        rw [← HV.out] at f0 hln
        rw [← HPA.out] at e1 HFQ
        rw [← HPB.out] at e2 HFQ
        rw [← HNA.out] at e1
        rw [← HNB.out] at e2
        unfold wv at hln hon
        have HLN := Lib.hid (hln wr hb)
        have HONN := Lib.hid hon
        clear hb hfr hfq hln hon hpA hpB hcA hcB hv0
        go_upto_region 6 with (first
          | (go_at_call 8; (with_reducible refine HLN.out.mono ?_); rintro e w2 ⟨rfl, hb2⟩; have HB2 : Hid (BelW wr w2) := Lib.hid hb2; clear hb2)
          | (go_at_call 18; (with_reducible refine (HONN.out _).mono ?_); rintro e w3 ⟨rfl, hb3⟩; have HB3 : Hid (BelW w2 w3) := Lib.hid hb3; clear hb3))
        clear f0
        obtain ⟨V, HVV⟩ := named (w3.alloc (.cells #[.int .u64 (ca : Int), .int .u64 (cb : Int)] 25))
        have hn3 : BelW w3 V := by rw [HVV.out]; exact below_new (Below.refl _ _) _
        have hbv : BelW wr V := joinB HB2.out (joinB HB3.out hn3)
        have hfx : Fr V w3.heap.size 25 [.int .u64 (ca : Int), .int .u64 (cb : Int)] := by rw [HVV.out]; exact Fr.made _ _ _ rfl
        have hfq2 := HFQ.out.below hbv
        have hfr2 := HFR.out.below hbv
        have hqx : q ≠ w3.heap.size := by
          have h1 := HFQ.out.lt
          have h2 := Below.size (joinB HB2.out HB3.out)
          omega
        obtain ⟨x, HX⟩ := named w3.heap.size
        rw [← HX.out] at hfx hqx
        rw [← HVV.out, ← HX.out]
        have x0 := hfx.cell 0
        have x1 := hfx.cell 1
        have z0 := hfq2.cell 0
        have z1 := hfq2.cell 1
        have z2 := hfq2.frozen 0
        have z3 := hfq2.frozen 1
        have HBV : Hid (BelW w V) := Lib.hid (joinB HB.out hbv)
        have HQ2 := Lib.hid ((hfq2.set 0 (.int .u64 (na : Int))).set 1 (.int .u64 (nb : Int)))
        have HR2 := Lib.hid ((hfr2.other (a := ⟨q, 0, none⟩) (by show q ≠ r; omega) (.int .u64 (na : Int))).other (a := ⟨q, 1, none⟩) (by show q ≠ r; omega) (.int .u64 (nb : Int)))
        have hql : w.heap.size ≤ q := by omega
        clear hn3 hbv hfx hfq2 hfr2
        go_wp2
        go_roundw
        case rel => exact ⟨k + 1, by omega, by go_num, BelW.set (BelW.set HBV.out hql _) hql _, HR2.out, by rw [← HNA.out, ← HNB.out]; exact HQ2.out⟩
        case measure => simp [intOf]; omega
      · obtain rfl : m = k := by omega
        have hX : ¬ m < n := by omega
        have y0 := hfq.cell 0
        have y1 := hfq.cell 1
        have z0 := hfr.cell 0
        have z1 := hfr.cell 1
        have z2 := hfr.frozen 0
        have z3 := hfr.frozen 1
        clear hb hfr hfq
        go_wp2
        (try simp only [Exit.inBlock, Exit.then])
        refine bodyPost_ret (results_cell_row rfl _ _ _ _ _ _ _ rfl ((HFR.out.set 0 _).set 1 _) Tryd.underlying25 rfl (by kernel_rfl)) rfl ?_
        exact ⟨by rw [hmn2]; rfl, BelW.set (BelW.set HB.out hrl _) hrl _⟩
  · have hmn2 : m = 64 := by omega
    go_upto_region 3 with (fail)
    go_loopw [9] (fun i wr => ∃ k : Nat, k ≤ m ∧ i = .int .i64 k ∧ BelW w wr ∧ Fr wr r 25 [.int .u64 0, .int .u64 0] ∧ Fr wr q 25 [.int .u64 (pkA l k : Int), .int .u64 (pkB l k : Int)]) (fun i _ => m - (intOf i).toNat)
    case atStart => exact ⟨0, Nat.zero_le _, rfl, HRA.out.2.2, HRA.out.1, HRA.out.2.1⟩
    case round =>
      obtain ⟨k, hk, rfl, hb, hfr, hfq⟩ := hrel
      have HB := Lib.hid hb
      have HFR := Lib.hid hfr
      have HFQ := Lib.hid hfq
      by_cases hlt : k < m
      · have hX : k < 64 := by omega
        obtain rfl := HAA.out (by omega)
        have f0 := HCE.out wr hb k (by omega)
        have hv0 := HP0.out k (by omega)
        have hln : ∀ W, BelW w W → Calls Tryd.prog 8 #[.int .u8 (l.getD k 0)] W fun e w' => e = .returned (wv (fA (cln (l.getD k 0))) (fB (cln (l.getD k 0)))) ∧ BelW W w' := fun W h => fill_any _ hv0 W (HFT.out W h)
        have hon : ∀ W, Calls Tryd.prog 18 #[wv (fA (cln (l.getD k 0))) (fB (cln (l.getD k 0))), .int .i64 (k : Int)] W fun e w' => e = .returned (wv (fA (cln (l.getD k 0)) &&& 2 ^ k) (fB (cln (l.getD k 0)) &&& 2 ^ k)) ∧ BelW W w' := fun W => only_any _ _ k (fA_w _) (fB_w _) (by omega) W
        have hpA := pkA_w l k (by omega)
        have hpB := pkB_w l k (by omega)
        have hcA : W64 (fA (cln (l.getD k 0)) &&& 2 ^ k) := (fA_w _).and
        have hcB : W64 (fB (cln (l.getD k 0)) &&& 2 ^ k) := (fB_w _).and
        have e1 : bits .or .u64 (pkA l k : Int) ((fA (cln (l.getD k 0)) &&& 2 ^ k : Nat) : Int) = (pkA l (k + 1) : Int) := u64_or_nat _ _ hpA hcA
        have e2 : bits .or .u64 (pkB l k : Int) ((fB (cln (l.getD k 0)) &&& 2 ^ k : Nat) : Int) = (pkB l (k + 1) : Int) := u64_or_nat _ _ hpB hcB
        obtain ⟨ca, HCA⟩ := named (fA (cln (l.getD k 0)) &&& 2 ^ k)
        obtain ⟨cb, HCB⟩ := named (fB (cln (l.getD k 0)) &&& 2 ^ k)
        obtain ⟨fa, HFA⟩ := named (fA (cln (l.getD k 0)))
        obtain ⟨fb, HFB⟩ := named (fB (cln (l.getD k 0)))
        obtain ⟨v, HV⟩ := named (l.getD k 0)
        obtain ⟨pa, HPA⟩ := named (pkA l k)
        obtain ⟨pb, HPB⟩ := named (pkB l k)
        obtain ⟨na, HNA⟩ := named (pkA l (k + 1))
        obtain ⟨nb, HNB⟩ := named (pkB l (k + 1))
        rw [← HCA.out] at e1 hon
        rw [← HCB.out] at e2 hon
        rw [← HFA.out] at hln hon
        rw [← HFB.out] at hln hon
        rw [← HV.out] at f0 hln
        rw [← HPA.out] at e1 HFQ
        rw [← HPB.out] at e2 HFQ
        rw [← HNA.out] at e1
        rw [← HNB.out] at e2
        unfold wv at hln hon
        have HLN := Lib.hid (hln wr hb)
        have HONN := Lib.hid hon
        clear hb hfr hfq hln hon hpA hpB hcA hcB hv0
        go_upto_region 6 with (first
          | (go_at_call 8; (with_reducible refine HLN.out.mono ?_); rintro e w2 ⟨rfl, hb2⟩; have HB2 : Hid (BelW wr w2) := Lib.hid hb2; clear hb2)
          | (go_at_call 18; (with_reducible refine (HONN.out _).mono ?_); rintro e w3 ⟨rfl, hb3⟩; have HB3 : Hid (BelW w2 w3) := Lib.hid hb3; clear hb3))
        clear f0
        obtain ⟨V, HVV⟩ := named (w3.alloc (.cells #[.int .u64 (ca : Int), .int .u64 (cb : Int)] 25))
        have hn3 : BelW w3 V := by rw [HVV.out]; exact below_new (Below.refl _ _) _
        have hbv : BelW wr V := joinB HB2.out (joinB HB3.out hn3)
        have hfx : Fr V w3.heap.size 25 [.int .u64 (ca : Int), .int .u64 (cb : Int)] := by rw [HVV.out]; exact Fr.made _ _ _ rfl
        have hfq2 := HFQ.out.below hbv
        have hfr2 := HFR.out.below hbv
        have hqx : q ≠ w3.heap.size := by
          have h1 := HFQ.out.lt
          have h2 := Below.size (joinB HB2.out HB3.out)
          omega
        obtain ⟨x, HX⟩ := named w3.heap.size
        rw [← HX.out] at hfx hqx
        rw [← HVV.out, ← HX.out]
        have x0 := hfx.cell 0
        have x1 := hfx.cell 1
        have z0 := hfq2.cell 0
        have z1 := hfq2.cell 1
        have z2 := hfq2.frozen 0
        have z3 := hfq2.frozen 1
        have HBV : Hid (BelW w V) := Lib.hid (joinB HB.out hbv)
        have HQ2 := Lib.hid ((hfq2.set 0 (.int .u64 (na : Int))).set 1 (.int .u64 (nb : Int)))
        have HR2 := Lib.hid ((hfr2.other (a := ⟨q, 0, none⟩) (by show q ≠ r; omega) (.int .u64 (na : Int))).other (a := ⟨q, 1, none⟩) (by show q ≠ r; omega) (.int .u64 (nb : Int)))
        have hql : w.heap.size ≤ q := by omega
        clear hn3 hbv hfx hfq2 hfr2
        go_wp2
        go_roundw
        case rel => exact ⟨k + 1, by omega, by go_num, BelW.set (BelW.set HBV.out hql _) hql _, HR2.out, by rw [← HNA.out, ← HNB.out]; exact HQ2.out⟩
        case measure => simp [intOf]; omega
      · obtain rfl : m = k := by omega
        have hX : ¬ m < 64 := by omega
        have y0 := hfq.cell 0
        have y1 := hfq.cell 1
        have z0 := hfr.cell 0
        have z1 := hfr.cell 1
        have z2 := hfr.frozen 0
        have z3 := hfr.frozen 1
        clear hb hfr hfq
        go_wp2
        (try simp only [Exit.inBlock, Exit.then])
        refine bodyPost_ret (results_cell_row rfl _ _ _ _ _ _ _ rfl ((HFR.out.set 0 _).set 1 _) Tryd.underlying25 rfl (by kernel_rfl)) rfl ?_
        exact ⟨by rw [hmn2]; rfl, BelW.set (BelW.set HB.out hrl _) hrl _⟩
end Go.Proofs.YtemogllidmgbfaaDoor
