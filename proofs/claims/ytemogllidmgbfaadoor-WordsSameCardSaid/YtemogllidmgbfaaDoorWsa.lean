/- WordsSame: the walk. -/
import Derived.Test.YtemogllidmgbfaaDoorM44
import Derived.Test.YtemogllidmgbfaaDoorM26
namespace Go.Proofs.YtemogllidmgbfaaDoor
open Go.RowKit

theorem pk_unp {a b : Nat} (ha : W64 a) (hb : W64 b) : pkA ((List.range 64).map (lnV a b)) 64 = a ∧ pkB ((List.range 64).map (lnV a b)) 64 = b :=
  words_ext (pkA_w _ _ (Nat.le_refl _)) (pkB_w _ _ (Nat.le_refl _)) ha hb fun i hi => by
    rw [pack_ln (fun y hy => by obtain ⟨j, -, rfl⟩ := List.mem_map.1 hy; exact (lnV_in a b j).1) hi, if_pos hi, List.getD_eq_getElem?_getD, List.getElem?_map, List.getElem?_range hi]
    exact lnV_cln a b i
/-- Pack of the values that Unpack returned. -/
theorem pack_unp (a b g : Nat) (ha : W64 a) (hb : W64 b) (W : World) (hf : Ft W) (hv : VRow W g ((List.range 64).map (lnV a b))) : Calls Tryd.prog 7 #[.slice (some ⟨g, 0, none⟩) 64 64] W fun e w' => e = .returned (.agg #[.int .u64 (a : Int), .int .u64 (b : Int)]) ∧ BelW W w' := by
  have h := pack_any _ _ _ _ W W.heap.size (Nat.le_refl _) hf hv.ks (fun y hy => by obtain ⟨j, -, rfl⟩ := List.mem_map.1 hy; exact (lnV_in a b j).1)
  have e1 := pk_unp ha hb
  have hl : ((List.range 64).map (lnV a b)).length = 64 := by simp
  rw [hl, Nat.min_self, e1.1, e1.2] at h
  exact h
def sameTo (a b c d k : Nat) : Prop := ∀ j, j < k → lnV a b j = lnV c d j
theorem sameTo_succ {a b c d k : Nat} {sm : Bool} (h : sm = true ↔ sameTo a b c d k) : ((if sm = true then decide (lnV a b k = lnV c d k) else false) = true) ↔ sameTo a b c d (k + 1) := by
  constructor
  · intro e j hj
    cases sm with
    | false => cases e
    | true =>
      by_cases hjk : j = k
      · subst hjk; simpa using e
      · exact h.1 rfl j (by omega)
  · intro e
    have hs : sm = true := h.2 fun j hj => e j (by omega)
    rw [if_pos hs, decide_eq_true (e k (by omega))]

set_option maxRecDepth 100000 in
set_option maxHeartbeats 4000000 in
theorem wsame_law (a b c d : Nat) (ha : W64 a) (hb : W64 b) (hc : W64 c) (hd : W64 d) (w : World) (hT : Lg.Tabs w) (hf : Ft w) :
    Calls Tryd.prog 5 #[wv a b, wv c d] w fun e w' => e = .returned (.bool true) ∧ Below w.heap.size w w' := by
  obtain ⟨W1, HW1⟩ := named ((w.alloc (.cells #[.int .u64 (a : Int), .int .u64 (b : Int)] 25)).alloc (.cells #[.int .u64 (c : Int), .int .u64 (d : Int)] 25))
  have hb1 : BelW w W1 := by rw [HW1.out]; exact below_new (below_new (Below.refl _ _) _) _
  have hf0 : Fr W1 w.heap.size 25 [.int .u64 (a : Int), .int .u64 (b : Int)] := by rw [HW1.out]; exact Fr.alloc (Fr.made _ _ _ rfl) _
  have hf1 : Fr W1 (w.heap.size + 1) 25 [.int .u64 (c : Int), .int .u64 (d : Int)] := by rw [HW1.out]; exact Fr.made _ _ _ (by simp)
  have HK : Hid (∀ W, BelW W1 W → BelW W1 W ∧ W.cell? ⟨w.heap.size, 0, none⟩ = some (.int .u64 (a : Int)) ∧ W.cell? ⟨w.heap.size, 1, none⟩ = some (.int .u64 (b : Int)) ∧ W.cell? ⟨w.heap.size + 1, 0, none⟩ = some (.int .u64 (c : Int)) ∧ W.cell? ⟨w.heap.size + 1, 1, none⟩ = some (.int .u64 (d : Int))) :=
    Lib.hid fun W h => ⟨h, (hf0.below h).cell 0, (hf0.below h).cell 1, (hf1.below h).cell 0, (hf1.below h).cell 1⟩
  have HA : Hid (∀ W, BelW W1 W → ∀ k : Nat, k < 64 → Calls Tryd.prog 12 #[.agg #[.int .u64 (a : Int), .int .u64 (b : Int)], .int .i64 (k : Int)] W fun e w' => e = .returned (.int .u8 (lnV a b k)) ∧ BelW W w') := Lib.hid fun W h k hk => wat_any a b k ha hb hk W (hf.below (joinB hb1 h))
  have HC : Hid (∀ W, BelW W1 W → ∀ k : Nat, k < 64 → Calls Tryd.prog 12 #[.agg #[.int .u64 (c : Int), .int .u64 (d : Int)], .int .i64 (k : Int)] W fun e w' => e = .returned (.int .u8 (lnV c d k)) ∧ BelW W w') := Lib.hid fun W h k hk => wat_any c d k hc hd hk W (hf.below (joinB hb1 h))
  obtain ⟨la, HLA⟩ := named ((List.range 64).map (lnV a b))
  obtain ⟨lc, HLC⟩ := named ((List.range 64).map (lnV c d))
  have HUA : Hid (∀ W, BelW W1 W → Calls Tryd.prog 9 #[.agg #[.int .u64 (a : Int), .int .u64 (b : Int)], .int .i64 64] W fun e w' => ∃ g, e = .returned (.slice (some ⟨g, 0, none⟩) 64 64) ∧ VRow w' g la ∧ BelW W w') := Lib.hid fun W h => by
    have := unpack_any a b ha hb 64 64 (Nat.le_refl _) (.inr (.inl rfl)) W (hf.below (joinB hb1 h))
    rw [HLA.out]; exact this
  have HUC : Hid (∀ W, BelW W1 W → Calls Tryd.prog 9 #[.agg #[.int .u64 (c : Int), .int .u64 (d : Int)], .int .i64 100] W fun e w' => ∃ g, e = .returned (.slice (some ⟨g, 0, none⟩) 64 64) ∧ VRow w' g lc ∧ BelW W w') := Lib.hid fun W h => by
    have := unpack_any c d hc hd 100 64 (Nat.le_refl _) (.inr (.inr ⟨by decide, rfl⟩)) W (hf.below (joinB hb1 h))
    rw [HLC.out]; exact this
  have HPA : Hid (∀ W g, BelW W1 W → VRow W g la → Calls Tryd.prog 7 #[.slice (some ⟨g, 0, none⟩) 64 64] W fun e w' => e = .returned (.agg #[.int .u64 (a : Int), .int .u64 (b : Int)]) ∧ BelW W w') := Lib.hid fun W g h hv => pack_unp a b g ha hb W (hf.below (joinB hb1 h)) (by rw [HLA.out] at hv; exact hv)
  have HPC : Hid (∀ W g, BelW W1 W → VRow W g lc → Calls Tryd.prog 7 #[.slice (some ⟨g, 0, none⟩) 64 64] W fun e w' => e = .returned (.agg #[.int .u64 (c : Int), .int .u64 (d : Int)]) ∧ BelW W w') := Lib.hid fun W g h hv => pack_unp c d g hc hd W (hf.below (joinB hb1 h)) (by rw [HLC.out] at hv; exact hv)
  have HLV : Hid (∀ W, BelW W1 W → Calls Tryd.prog 6 #[] W fun e w' => e = .returned (.bool true) ∧ BelW W w') := Lib.hid fun W h => lives7_any W (hT.below (joinB hb1 h)) (hf.below (joinB hb1 h))
  have HWS := Lib.hid (word_same ha hb hc hd)
  have HB1 := Lib.hid hb1
  clear hf0 hf1 hb1 hT hf ha hb hc hd HLA HLC
  unfold wv
  obtain ⟨q, HQ⟩ := named w.heap.size
  rw [← HQ.out] at HK
  go_enter Tryd.func5, Tryd.ntmps5
  go_upto_region 1 with (fail)
  rw [← HW1.out, ← HQ.out]
  go_wp2
  go_loopw [5, 6] (fun s i wr => BelW W1 wr ∧ ∃ (k : Nat) (sm : Bool), k ≤ 64 ∧ i = .int .i64 k ∧ s = .bool sm ∧ (sm = true ↔ sameTo a b c d k)) (fun _ i _ => 64 - (intOf i).toNat)
  case atStart => exact ⟨Below.refl _ _, 0, true, by omega, rfl, rfl, ⟨fun _ j hj => absurd hj (by omega), fun _ => rfl⟩⟩
  case round =>
    obtain ⟨hbr, k, sm, hk, rfl, rfl, hsm⟩ := hrel
    have HBR := Lib.hid hbr
    have HSM := Lib.hid hsm
    clear hsm
    by_cases hlt : k < 64
    · have HNX := Lib.hid (sameTo_succ HSM.out)
      cases sm with
      | false =>
        have HN2 : Hid (false = true ↔ sameTo a b c d (k + 1)) := HNX
        clear hbr
        go_wp2
        go_quiet (fail)
        go_wp2
        go_roundw
        case rel => exact ⟨below_drewN HBR.out _, k + 1, false, by omega, by go_num, rfl, HN2.out⟩
        case measure => simp [intOf]; omega
      | true =>
        have HN2 : Hid (decide (lnV a b k = lnV c d k) = true ↔ sameTo a b c d (k + 1)) := HNX
        obtain ⟨x, HX⟩ := named (lnV a b k)
        obtain ⟨y, HY⟩ := named (lnV c d k)
        have HAK : Hid (∀ W, BelW W1 W → Calls Tryd.prog 12 #[.agg #[.int .u64 (a : Int), .int .u64 (b : Int)], .int .i64 (k : Int)] W fun e w' => e = .returned (.int .u8 x) ∧ BelW W w') := Lib.hid fun W h => by rw [HX.out]; exact HA.out W h k hlt
        have HCK : Hid (∀ W, BelW W1 W → Calls Tryd.prog 12 #[.agg #[.int .u64 (c : Int), .int .u64 (d : Int)], .int .i64 (k : Int)] W fun e w' => e = .returned (.int .u8 y) ∧ BelW W w') := Lib.hid fun W h => by rw [HY.out]; exact HC.out W h k hlt
        rw [← HX.out, ← HY.out] at HN2
        obtain ⟨t, ht⟩ : ∃ t, (x == y) = t := ⟨_, rfl⟩
        have HTT : Hid (t = true ↔ sameTo a b c d (k + 1)) := Lib.hid (by rw [← ht, ← HN2.out]; simp)
        obtain ⟨-, x0, x1, x2, x3⟩ := HK.out wr hbr
        clear HX HY HN2 HNX
        go_wp2
        go_region_held3 (fun w' => BelW W1 w' ∧ w'.cell? ⟨q, 0, none⟩ = some (.int .u64 (a : Int)) ∧ w'.cell? ⟨q, 1, none⟩ = some (.int .u64 (b : Int)) ∧ w'.cell? ⟨q + 1, 0, none⟩ = some (.int .u64 (c : Int)) ∧ w'.cell? ⟨q + 1, 1, none⟩ = some (.int .u64 (d : Int)))
          ((refine HK.out _ ?_; first | (with_reducible assumption) | (refine BelW.drew ?_; with_reducible assumption)))
          (first
            | (go_at_call 12; (with_reducible refine Calls.mono (HAK.out _ ?_) ?_); · (first | (with_reducible assumption) | (refine BelW.drew ?_; with_reducible assumption))
               rintro e wA ⟨rfl, hbA⟩
               have hsA : BelW W1 wA := (by refine BelW.next ?_ hbA; first | (with_reducible assumption) | (refine BelW.drew ?_; with_reducible assumption)))
            | (go_at_call 12; (with_reducible refine Calls.mono (HCK.out _ ?_) ?_); · (first | (with_reducible assumption) | (refine BelW.drew ?_; with_reducible assumption))
               rintro e wB ⟨rfl, hbB⟩
               have hsB : BelW W1 wB := (by refine BelW.next ?_ hbB; first | (with_reducible assumption) | (refine BelW.drew ?_; with_reducible assumption))))
        go_wp2
        go_roundw
        case rel => exact ⟨hsB, k + 1, t, by omega, by go_num, rfl, HTT.out⟩
        case measure => simp [intOf]; omega
    · obtain rfl : k = 64 := by omega
      obtain ⟨-, x0, x1, x2, x3⟩ := HK.out wr hbr
      have hsm2 : sm = true ↔ a = c ∧ b = d := HSM.out.trans HWS.out
      obtain ⟨p, hp⟩ : ∃ p, ((a : Int) == (c : Int)) = p := ⟨_, rfl⟩
      obtain ⟨r, hr⟩ : ∃ r, ((b : Int) == (d : Int)) = r := ⟨_, rfl⟩
      have hpr : sm = (p && r) := by
        rw [Bool.eq_iff_iff, hsm2, ← hp, ← hr]; simp only [Bool.and_eq_true, beq_iff_eq]; omega
      clear hsm2
      subst hpr
      go_wp2
      cases p <;> cases r
      all_goals
        go_region_held3 (fun w' => BelW W1 w' ∧ w'.cell? ⟨q, 0, none⟩ = some (.int .u64 (a : Int)) ∧ w'.cell? ⟨q, 1, none⟩ = some (.int .u64 (b : Int)) ∧ w'.cell? ⟨q + 1, 0, none⟩ = some (.int .u64 (c : Int)) ∧ w'.cell? ⟨q + 1, 1, none⟩ = some (.int .u64 (d : Int)))
          ((refine HK.out _ ?_; first | (with_reducible assumption) | (refine BelW.drew ?_; with_reducible assumption)))
          (first
            | (go_at_call 9; (with_reducible refine Calls.mono (HUA.out _ ?_) ?_); · (first | (with_reducible assumption) | (refine BelW.drew ?_; with_reducible assumption))
               rintro e wA ⟨gA, rfl, hvA, hbA⟩
               have hsA : BelW W1 wA := (by refine BelW.next ?_ hbA; first | (with_reducible assumption) | (refine BelW.drew ?_; with_reducible assumption)))
            | (go_at_call 7; (with_reducible refine Calls.mono (HPA.out _ _ hsA hvA) ?_)
               rintro e wB ⟨rfl, hbB⟩
               have hsB : BelW W1 wB := hsA.trans hbB)
            | (go_at_call 9; (with_reducible refine Calls.mono (HUC.out _ hsB) ?_)
               rintro e wC ⟨gC, rfl, hvC, hbC⟩
               have hsC : BelW W1 wC := hsB.trans hbC)
            | (go_at_call 7; (with_reducible refine Calls.mono (HPC.out _ _ hsC hvC) ?_)
               rintro e wD ⟨rfl, hbD⟩
               have hsD : BelW W1 wD := hsC.trans hbD)
            | (go_at_call 6; (with_reducible refine Calls.mono (HLV.out _ hsD) ?_)
               rintro e wE ⟨rfl, hbE⟩
               have hsE : BelW W1 wE := hsD.trans hbE))
        go_wp2
        go_ret
        exact ⟨rfl, joinB HB1.out hsE⟩
end Go.Proofs.YtemogllidmgbfaaDoor
