/- The walk of Text. -/
import Derived.Test.YtnddgkcgedkabaaDoorPrs3
import Derived.Deep.RegionHeld3
namespace Go.Proofs.YtnddgkcgedkabaaDoor
open Go.RowKit

/-- The text of a pair as a string. -/
def txtS (a b : Int) : ByteArray := ⟨(txtL a b).toArray⟩

/-- logic.Text of one clean value, wherever its cell lies. -/
theorem text_at {w0 w : World} (a : Int) (h0 : Cl a) (g : Nat) (hg : g < w.heap.size) (hc : w.cell? ⟨g, 0, none⟩ = some (.int .u8 a)) (ht : Tabs w0) (hb : Below w0.heap.size w0 w) : Calls Tryd.prog 31 #[.slice (some ⟨g, 0, none⟩) 1 1] w fun e w' => e = .returned (.string ⟨#[tcb a]⟩) ∧ Below w.heap.size w w' := by
  have h := text_any (l := [a]) (Nat.le_refl _) (⟨g, 0, 1, .inl rfl, by simp [maxLen], fun k hk => by (obtain rfl : k = 0 := (by simpa using hk)); exact ⟨hg, hc⟩⟩ : Vs w w.heap.size (.slice (some ⟨g, 0, none⟩) 1 1) [a]) (by simp) (fun k hk => by (obtain rfl : k = 0 := (by simpa using hk)); rcases h0 with rfl | rfl | rfl | rfl <;> decide) (ht.below hb)
  rcases h0 with rfl | rfl | rfl | rfl <;> exact h
theorem cl3 : Cl 3 := .inr (.inr (.inr rfl))
theorem belowA {X w' : World} {o : Obj} (h : Below X.heap.size X w') : Below X.heap.size X (w'.alloc o) := h.alloc h.size o

set_option maxHeartbeats 1000000 in
theorem textP_any (a b : Int) (h0 : 0 ≤ a) (h1 : 0 ≤ b) (w : World) (ht : Tabs w) : Calls Tryd.prog 30 #[.agg #[.int .u8 a, .int .u8 b]] w fun e w' => e = .returned (.string (txtS a b)) ∧ Below w.heap.size w w' := by
  obtain ⟨y, HY⟩ := named (txtS a b)
  rw [← HY.out]
  have hca := Cl.of a h0
  have hcb := Cl.of b h1
  have hL := fun (w : World) (ht : Tabs w) => letter_any (cln a) (cln b) hca w ht
  have hC := fun w => cleanP_any a b w
  obtain ⟨ca, HCA⟩ := named (cln a)
  obtain ⟨cb, HCB⟩ := named (cln b)
  rw [← HCA.out] at hL hC hca
  rw [← HCB.out] at hL hC hcb
  have eg := eg_pair
  have e3 := eq_pair ca cb 3 3
  have HC := Lib.hid hC
  have HT := Lib.hid ht
  have HLA := Lib.hid hca
  have HLB := Lib.hid hcb
  clear hC ht hca hcb
  have HO : Hid (∀ w, Calls Tryd.prog 17 #[.int .u8 3] w fun e w' => e = .returned (.agg #[.int .u8 3, .int .u8 3]) ∧ Below w.heap.size w w') := Lib.hid fun w => ofP_any 3 w
  have hyf : letL ca cb ≠ [] → y = ⟨(letL ca cb).toArray⟩ := fun h => by
    rw [HY.out, txtS, txtL, ← HCA.out, ← HCB.out]
    unfold letL at h ⊢
    unfold txtC
    split
    · rfl
    · split
      · rfl
      · rename_i h1 h2
        rw [if_neg h1, if_neg h2] at h
        split at h
        · rename_i h3; rw [if_pos h3.1, if_pos h3]
        · exact absurd rfl h
  cases h5 : isFive ca cb
  · have hn := let_none h5
    have hn' : ¬ (ca = 1 ∧ cb = 0) ∧ ¬ (ca = 0 ∧ cb = 1) ∧ ¬ (ca = cb ∧ ca ≠ 3) := by
      refine ⟨fun k => ?_, fun k => ?_, fun k => ?_⟩
      · rw [k.1, k.2] at h5; revert h5; decide
      · rw [k.1, k.2] at h5; revert h5; decide
      · have : isFive ca cb = true := by unfold isFive; rw [k.1.symm]; simp [k.2]
        rw [this] at h5; cases h5
    rw [hn] at hL
    cases c3 : (ca == 3 && cb == 3)
    · rw [c3] at e3
      have hy : y = ⟨#[tcb ca, 47, tcb cb]⟩ := by
        rw [HY.out, txtS, txtL, ← HCA.out, ← HCB.out, txtC, if_neg hn'.1, if_neg hn'.2.1, if_neg (fun h => ?_)]
        by_cases h3 : ca = 3
        · rw [← h, h3] at c3; revert c3; decide
        · exact hn'.2.2 ⟨h, h3⟩
      have HYY := Lib.hid hy
      clear c3 hn' hn h5 hy
      have HL := Lib.hid hL
      clear hL hyf
      go_enter Tryd.func30, Tryd.ntmps30
      have HP0 := Lib.hid (Box.new w (.int .u8 a) (.int .u8 b) 28)
      go_wp2_with (first
        | (go_at_call 42; (with_reducible refine (HC.out _).mono ?_); rintro e w1 ⟨rfl, hb⟩; have hB : Below w.heap.size w w1 := joinB ((Below.refl _ _).alloc (Nat.le_refl _) _) hb; have HP1 := Lib.hid (HP0.out.below hb); obtain ⟨z1, p0, p1, f0, f1⟩ := HP1.out; clear hb)
        | (go_at_call 43; (have hB2 := below_put hB (Nat.le_refl _) (.int .u8 ca) (.int .u8 cb); (with_reducible refine (HL.out _ (HT.out.below hB2)).mono ?_); rintro e w2 ⟨rfl, hb2⟩; have HP2 := Lib.hid ((HP1.out.put (.int .u8 ca) (.int .u8 cb)).below hb2); have hB3 := joinB hB2 hb2; clear hb2 z1 p0 p1 f0 f1; obtain ⟨z1, p0, p1, f0, f1⟩ := HP2.out)))
      have l0 : ∀ x : Beh w2, x.x.cell? ⟨w.heap.size, 0, none⟩ = some (.int .u8 ca) := beh_cell z1 p0
      have l1 : ∀ x : Beh w2, x.x.cell? ⟨w.heap.size, 1, none⟩ = some (.int .u8 cb) := beh_cell z1 p1
      refine region_class (w0 := w2) (Below.refl _ _) (by kernel_rfl) (by kernel_rfl) ?_
      repeat (first
        | go_big_quiet_skip
        | (go_big_quiet_want; go_big_quiet_op; first
          | go_big_quiet_on
          | (apply Exists.intro
             refine ⟨fun xx => ?_, ?_⟩
             focus first
              | (go_at_call 17; with_reducible exact beh_of (rel (HO.out _) xx.below))
             go_big_quiet_on)))
      refine wpQuiet_nil ?_
      rintro w3 ⟨⟨_, hx3⟩, rfl⟩
      clear z1 p0 p1 f0 f1 l0 l1
      have HP3 := Lib.hid (HP2.out.below hx3)
      have hB4 := joinB hB3 hx3
      go_wp2_with fail
      obtain ⟨z1, p0, p1, f0, f1⟩ := HP3.out
      have HXC : Hid (∀ w', Below w3.heap.size w3 w' → Below w3.heap.size w3 w' ∧ w'.cell? ⟨w.heap.size, 0, none⟩ = some (.int .u8 ca) ∧ w'.cell? ⟨w.heap.size, 1, none⟩ = some (.int .u8 cb)) :=
        Lib.hid fun w' h => ⟨h, (h.cell (p := ⟨w.heap.size, 0, none⟩) z1).trans p0, (h.cell (p := ⟨w.heap.size, 1, none⟩) z1).trans p1⟩
      have hb0 := Below.refl w3.heap.size w3
      have HT3 := Lib.hid (HT.out.below hB4)
      clear z1 p0 p1 f0 f1
      go_region_held3 (fun w' => Below w3.heap.size w3 w' ∧ w'.cell? ⟨w.heap.size, 0, none⟩ = some (.int .u8 ca) ∧ w'.cell? ⟨w.heap.size, 1, none⟩ = some (.int .u8 cb))
        ((first | assumption | (refine HXC.out _ ?_; (repeat (first | assumption | exact And.left (by assumption) | refine Below.drew ?_ | refine belowA ?_ | refine joinB ?_ (by assumption))))))
        (first
          | (go_at_call 31; first
             | ((with_reducible refine (text_at ca HLA.out _ ?_ ?_ HT3.out ?_).mono ?_); (focus (first | (simp; done) | (simp; omega) | (have hq := hb.size; (try simp at hq ⊢); first | done | omega))); (focus (first | (simp [go_sem]; done) | (rw [hb.cell (p := ⟨_, _, none⟩) (by (first | (simp; done) | (simp; omega)))]; simp [go_sem]; done))); (focus (repeat (first | assumption | exact And.left (by assumption) | refine Below.drew ?_ | refine belowA ?_ | refine joinB ?_ (by assumption)))); rintro e w' ⟨rfl, hb⟩)
             | ((with_reducible refine (text_at cb HLB.out _ ?_ ?_ HT3.out ?_).mono ?_); (focus (first | (simp; done) | (simp; omega) | (have hq := hb.size; (try simp at hq ⊢); first | done | omega))); (focus (first | (simp [go_sem]; done) | (rw [hb.cell (p := ⟨_, _, none⟩) (by (first | (simp; done) | (simp; omega)))]; simp [go_sem]; done))); (focus (repeat (first | assumption | exact And.left (by assumption) | refine Below.drew ?_ | refine belowA ?_ | refine joinB ?_ (by assumption)))); rintro e w' ⟨rfl, hb⟩)))
      all_goals
        go_wp2_with fail
        go_ret
        exact ⟨ret_str (by rw [HYY.out]; rfl), joinB hB4 (And.left (by assumption))⟩
    · rw [c3] at e3
      have hy : y = ⟨#[tcb 3]⟩ := by
        simp at c3
        rw [HY.out, txtS, txtL, ← HCA.out, ← HCB.out, txtC, if_neg hn'.1, if_neg hn'.2.1, if_pos (by rw [c3.1, c3.2]), c3.1]
      have HYY := Lib.hid hy
      clear c3 hn' hn h5 hy
      have HL := Lib.hid hL
      clear hL hyf
      go_enter Tryd.func30, Tryd.ntmps30
      have HP0 := Lib.hid (Box.new w (.int .u8 a) (.int .u8 b) 28)
      go_wp2_with (first
        | (go_at_call 42; (with_reducible refine (HC.out _).mono ?_); rintro e w1 ⟨rfl, hb⟩; have hB : Below w.heap.size w w1 := joinB ((Below.refl _ _).alloc (Nat.le_refl _) _) hb; have HP1 := Lib.hid (HP0.out.below hb); obtain ⟨z1, p0, p1, f0, f1⟩ := HP1.out; clear hb)
        | (go_at_call 43; (have hB2 := below_put hB (Nat.le_refl _) (.int .u8 ca) (.int .u8 cb); (with_reducible refine (HL.out _ (HT.out.below hB2)).mono ?_); rintro e w2 ⟨rfl, hb2⟩; have HP2 := Lib.hid ((HP1.out.put (.int .u8 ca) (.int .u8 cb)).below hb2); have hB3 := joinB hB2 hb2; clear hb2 z1 p0 p1 f0 f1; obtain ⟨z1, p0, p1, f0, f1⟩ := HP2.out)))
      have l0 : ∀ x : Beh w2, x.x.cell? ⟨w.heap.size, 0, none⟩ = some (.int .u8 ca) := beh_cell z1 p0
      have l1 : ∀ x : Beh w2, x.x.cell? ⟨w.heap.size, 1, none⟩ = some (.int .u8 cb) := beh_cell z1 p1
      refine region_class (w0 := w2) (Below.refl _ _) (by kernel_rfl) (by kernel_rfl) ?_
      repeat (first
        | go_big_quiet_skip
        | (go_big_quiet_want; go_big_quiet_op; first
          | go_big_quiet_on
          | (apply Exists.intro
             refine ⟨fun xx => ?_, ?_⟩
             focus first
              | (go_at_call 17; with_reducible exact beh_of (rel (HO.out _) xx.below))
             go_big_quiet_on)))
      refine wpQuiet_nil ?_
      rintro w3 ⟨⟨_, hx3⟩, rfl⟩
      clear z1 p0 p1 f0 f1 l0 l1
      have HP3 := Lib.hid (HP2.out.below hx3)
      have hB4 := joinB hB3 hx3
      go_wp2_with (go_at_call 31; (with_reducible refine (text_lit1 3 cl3 (HT.out.below hB4) hB4).mono ?_); rintro e w' ⟨rfl, hb⟩)
      go_ret
      exact ⟨ret_str HYY.out.symm, hb⟩
  · obtain ⟨c, hc⟩ := let_some h5
    have hy := hyf (by rw [hc]; simp)
    rw [hc] at hy
    rw [letS, hc] at hL
    have HYY := Lib.hid hy
    clear hy hc h5
    have HL := Lib.hid hL
    clear hL hyf
    go_enter Tryd.func30, Tryd.ntmps30
    have HP0 := Lib.hid (Box.new w (.int .u8 a) (.int .u8 b) 28)
    go_wp2_with (first
      | (go_at_call 42; (with_reducible refine (HC.out _).mono ?_); rintro e w1 ⟨rfl, hb⟩; have hB : Below w.heap.size w w1 := joinB ((Below.refl _ _).alloc (Nat.le_refl _) _) hb; have HP1 := Lib.hid (HP0.out.below hb); obtain ⟨z1, p0, p1, f0, f1⟩ := HP1.out; clear hb)
      | (go_at_call 43; (have hB2 := below_put hB (Nat.le_refl _) (.int .u8 ca) (.int .u8 cb); (with_reducible refine (HL.out _ (HT.out.below hB2)).mono ?_); rintro e w2 ⟨rfl, hb2⟩; have HP2 := Lib.hid ((HP1.out.put (.int .u8 ca) (.int .u8 cb)).below hb2); have hB3 := joinB hB2 hb2; clear hb2 z1 p0 p1 f0 f1; obtain ⟨z1, p0, p1, f0, f1⟩ := HP2.out)))
    go_ret
    exact ⟨ret_str HYY.out.symm, hB3⟩

end Go.Proofs.YtnddgkcgedkabaaDoor
