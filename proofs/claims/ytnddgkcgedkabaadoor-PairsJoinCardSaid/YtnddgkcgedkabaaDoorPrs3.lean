/- The walks of Five and of Text. -/
import Derived.Test.YtnddgkcgedkabaaDoorPrs2
namespace Go.Proofs.YtnddgkcgedkabaaDoor
open Go.RowKit

theorem let_none {a b : Int} (h : isFive a b = false) : letS a b = ⟨#[]⟩ := by
  have h1 : ¬ (a = 1 ∧ b = 0) := fun k => by rw [k.1, k.2] at h; revert h; decide
  have h2 : ¬ (a = 0 ∧ b = 1) := fun k => by rw [k.1, k.2] at h; revert h; decide
  have h3 : ¬ (a = b ∧ a ≠ 3) := fun k => by
    have : isFive a b = true := by unfold isFive; rw [k.1.symm]; simp [k.2]
    rw [this] at h; cases h
  rw [letS, letL, if_neg h1, if_neg h2, if_neg h3]
theorem let_some {a b : Int} (h : isFive a b = true) : ∃ c, letL a b = [c] := by
  unfold letL
  split
  · exact ⟨_, rfl⟩
  split
  · exact ⟨_, rfl⟩
  split
  · exact ⟨_, rfl⟩
  · rename_i h1 h2 h3
    simp [isFive] at h
    rcases h with (h | h) | h
    · exact absurd h h1
    · exact absurd h h2
    · exact absurd h h3

set_option maxHeartbeats 1000000 in
theorem fiveP_any (a b : Int) (h0 : 0 ≤ a) (w : World) (ht : Tabs w) : Calls Tryd.prog 23 #[.agg #[.int .u8 a, .int .u8 b]] w fun e w' => e = .returned (.agg #[.int .u8 (five1 a b), .int .u8 (five2 a b)]) ∧ Below w.heap.size w w' := by
  obtain ⟨y1, HY1⟩ := named (five1 a b)
  obtain ⟨y2, HY2⟩ := named (five2 a b)
  rw [← HY1.out, ← HY2.out]
  have hcl := Cl.of a h0
  have hL := fun (w : World) (ht : Tabs w) => letter_any (cln a) (cln b) hcl w ht
  have hC := fun w => cleanP_any a b w
  obtain ⟨ca, HCA⟩ := named (cln a)
  obtain ⟨cb, HCB⟩ := named (cln b)
  rw [← HCA.out] at hL hC hcl
  rw [← HCB.out] at hL hC
  have HC := Lib.hid hC
  have HT := Lib.hid ht
  clear hC ht hcl
  have HO : Hid (∀ w, Calls Tryd.prog 17 #[.int .u8 2] w fun e w' => e = .returned (.agg #[.int .u8 2, .int .u8 2]) ∧ Below w.heap.size w w') := Lib.hid fun w => ofP_any 2 w
  cases h5 : isFive ca cb
  · have e1 : y1 = 2 := by rw [HY1.out, five1, ← HCA.out, ← HCB.out, h5]; rfl
    have e2 : y2 = 2 := by rw [HY2.out, five2, ← HCA.out, ← HCB.out, h5]; rfl
    rw [let_none h5] at hL
    have HL := Lib.hid hL
    clear hL h5 HY1 HY2
    subst e1
    subst e2
    go_enter Tryd.func23, Tryd.ntmps23
    have P0 := (Box.new w (.int .u8 a) (.int .u8 b) 28).alloc (.cells #[.int .u8 0, .int .u8 0] 28)
    have R0 := Box.new (w.alloc (.cells #[.int .u8 a, .int .u8 b] 28)) (.int .u8 0) (.int .u8 0) 28
    rw [show (w.alloc (.cells #[.int .u8 a, .int .u8 b] 28)).heap.size = w.heap.size + 1 by simp] at R0
    have HP0 := Lib.hid P0
    have HR0 := Lib.hid R0
    clear P0 R0
    go_wp2_with (first
      | (go_at_call 42; ((with_reducible refine (HC.out _).mono ?_); rintro e w1 ⟨rfl, hb⟩; have hB : Below w.heap.size w w1 := joinB (((Below.refl _ _).alloc (Nat.le_refl _) _).alloc (by simp) _) hb; have HP1 := Lib.hid (HP0.out.below hb); have HR1 := Lib.hid (HR0.out.below hb); obtain ⟨z1, p0, p1, f0, f1⟩ := HP1.out; clear hb))
      | (go_at_call 43; (have hB2 := below_put hB (Nat.le_refl _) (.int .u8 ca) (.int .u8 cb); (with_reducible refine (HL.out _ (HT.out.below hB2)).mono ?_); rintro e w2 ⟨rfl, hb2⟩; have HP2 := Lib.hid ((HP1.out.put (.int .u8 ca) (.int .u8 cb)).below hb2); have HR2 := Lib.hid ((HR1.out.far (by omega) (.int .u8 ca) (.int .u8 cb)).below hb2); have hB3 := joinB hB2 hb2; clear hb2 z1 p0 p1 f0 f1; obtain ⟨z1, p0, p1, f0, f1⟩ := HP2.out))
      | (go_at_call 17; ((with_reducible refine (HO.out _).mono ?_); rintro e w3 ⟨rfl, hb3⟩; have hB4 := joinB hB3 hb3; clear z1 p0 p1 f0 f1; obtain ⟨z1, p0, p1, f0, f1⟩ := HR2.out.below hb3; clear hb3)))
    exact bodyPost_ret (v := .agg #[.int .u8 2, .int .u8 2]) (by simp [results, Tryd.results23, go_sem, p0, p1]) rfl ⟨rfl, below_put hB4 (Nat.le_succ _) _ _⟩
  · have e1 : y1 = ca := by rw [HY1.out, five1, ← HCA.out, ← HCB.out, h5]; rfl
    have e2 : y2 = cb := by rw [HY2.out, five2, ← HCA.out, ← HCB.out, h5]; rfl
    obtain ⟨c, hc⟩ := let_some h5
    rw [letS, hc] at hL
    have HL := Lib.hid hL
    clear hL h5 hc HY1 HY2
    subst e1
    subst e2
    go_enter Tryd.func23, Tryd.ntmps23
    have P0 := (Box.new w (.int .u8 a) (.int .u8 b) 28).alloc (.cells #[.int .u8 0, .int .u8 0] 28)
    have R0 := Box.new (w.alloc (.cells #[.int .u8 a, .int .u8 b] 28)) (.int .u8 0) (.int .u8 0) 28
    rw [show (w.alloc (.cells #[.int .u8 a, .int .u8 b] 28)).heap.size = w.heap.size + 1 by simp] at R0
    have HP0 := Lib.hid P0
    have HR0 := Lib.hid R0
    clear P0 R0
    go_wp2_with (first
      | (go_at_call 42; ((with_reducible refine (HC.out _).mono ?_); rintro e w1 ⟨rfl, hb⟩; have hB : Below w.heap.size w w1 := joinB (((Below.refl _ _).alloc (Nat.le_refl _) _).alloc (by simp) _) hb; have HP1 := Lib.hid (HP0.out.below hb); have HR1 := Lib.hid (HR0.out.below hb); obtain ⟨z1, p0, p1, f0, f1⟩ := HP1.out; clear hb))
      | (go_at_call 43; (have hB2 := below_put hB (Nat.le_refl _) (.int .u8 y1) (.int .u8 y2); (with_reducible refine (HL.out _ (HT.out.below hB2)).mono ?_); rintro e w2 ⟨rfl, hb2⟩; have HP2 := Lib.hid ((HP1.out.put (.int .u8 y1) (.int .u8 y2)).below hb2); have HR2 := Lib.hid ((HR1.out.far (by omega) (.int .u8 y1) (.int .u8 y2)).below hb2); have hB3 := joinB hB2 hb2; clear hb2 z1 p0 p1 f0 f1; obtain ⟨z1, p0, p1, f0, f1⟩ := HP2.out; obtain ⟨z2, q0, q1, g0, g1⟩ := HR2.out)))
    exact bodyPost_ret (v := .agg #[.int .u8 y1, .int .u8 y2]) (by simp [results, Tryd.results23, go_sem, q0, q1]) rfl ⟨rfl, below_put hB3 (Nat.le_succ _) _ _⟩

end Go.Proofs.YtnddgkcgedkabaaDoor
