/- The walks of Join and of letter. -/
import Derived.Test.YtnddgkcgedkabaaDoorPrs
namespace Go.Proofs.YtnddgkcgedkabaaDoor
open Go.RowKit

set_option maxHeartbeats 400000 in
theorem joinP_any (a b c d : Int) (w : World) : Calls Tryd.prog 25 #[.agg #[.int .u8 a, .int .u8 b], .agg #[.int .u8 c, .int .u8 d]] w fun e w' => e = .returned (.tuple #[.agg #[.int .u8 (jn1 a b c d), .int .u8 (jn2 a b c d)], .bool (jnb2 a b c d)]) ∧ Below w.heap.size w w' := by
  obtain ⟨y1, HY1⟩ := named (jn1 a b c d)
  obtain ⟨y2, HY2⟩ := named (jn2 a b c d)
  obtain ⟨y3, HY3⟩ := named (jnb2 a b c d)
  rw [← HY1.out, ← HY2.out, ← HY3.out]
  obtain ⟨p, HP⟩ := named (jn a c)
  obtain ⟨q, HQ⟩ := named (jn b d)
  have hways : (jnb a c = true ∧ jnb b d = true) ∨ ((jnb a c = true ∧ jnb b d = false) ∨ (jnb a c = false ∧ jnb b d = true) ∨ (jnb a c = false ∧ jnb b d = false)) := by
    cases jnb a c <;> cases jnb b d <;> simp
  rcases hways with ⟨ha, hb⟩ | hways
  · go_enter Tryd.func25, Tryd.ntmps25
    go_wp2_with (go_at_call 44; (with_reducible refine (join_any _ _ _).mono ?_); rintro e w' ⟨rfl, rfl⟩; first | rw [ha, ← HP.out] | rw [hb, ← HQ.out])
    exact bodyPost_ret (v := .tuple #[.agg #[.int .u8 p, .int .u8 q], .bool true]) (by simp [results, Tryd.results25, go_sem]) rfl ⟨by rw [HY1.out, HY2.out, HY3.out, HP.out, HQ.out]; simp [jn1, jn2, jnb2, ha, hb], (((Below.refl _ _).alloc (Nat.le_refl _) _).alloc (by simp) _).alloc (by simp; omega) _⟩
  · rcases hways with ⟨ha, hb⟩ | ⟨ha, hb⟩ | ⟨ha, hb⟩
    all_goals
      go_enter Tryd.func25, Tryd.ntmps25
      go_wp2_with (go_at_call 44; (with_reducible refine (join_any _ _ _).mono ?_); rintro e w' ⟨rfl, rfl⟩; first | rw [ha, ← HP.out] | rw [hb, ← HQ.out])
      exact bodyPost_ret (v := .tuple #[.agg #[.int .u8 0, .int .u8 0], .bool false]) (by simp [results, Tryd.results25, go_sem]) rfl ⟨by rw [HY1.out, HY2.out, HY3.out]; simp [jn1, jn2, jnb2, ha, hb], (((Below.refl _ _).alloc (Nat.le_refl _) _).alloc (by simp) _).alloc (by simp; omega) _⟩

/-- A clean value. -/
def Cl (a : Int) : Prop := a = 0 ∨ a = 1 ∨ a = 2 ∨ a = 3
theorem Cl.cln {a : Int} (h : Cl a) : cln a = a := by rcases h with rfl | rfl | rfl | rfl <;> decide
theorem Cl.of (a : Int) (h : 0 ≤ a) : Cl (Go.Proofs.YtnddgkcgedkabaaDoor.cln a) := cln_cases a h

theorem text_lit1 {w0 w : World} (a : Int) (h0 : Cl a) (ht : Tabs w) (hb : Below w0.heap.size w0 w) : Calls Tryd.prog 31 #[.slice (some ⟨w.heap.size, 0, none⟩) 1 1] (w.alloc (.cells #[.int .u8 a] 26)) fun e w' => e = .returned (.string ⟨#[tcb a]⟩) ∧ Below w0.heap.size w0 w' := by
  have h := from_new (text_any (l := [a]) (Nat.le_refl _) (Vs.made w [a] 26 (by simp [maxLen])) (by simp) (fun k hk => by (obtain rfl : k = 0 := (by simpa using hk)); rcases h0 with rfl | rfl | rfl | rfl <;> decide) (ht.below ((Below.refl _ _).alloc (Nat.le_refl _) _))) hb
  rcases h0 with rfl | rfl | rfl | rfl <;> exact h

/-- The letter of a pair as a string. -/
def letS (a b : Int) : ByteArray := ⟨(letL a b).toArray⟩

set_option maxHeartbeats 1000000 in
theorem letter_any (a b : Int) (hca : Cl a) (w : World) (ht : Tabs w) : Calls Tryd.prog 43 #[.agg #[.int .u8 a, .int .u8 b]] w fun e w' => e = .returned (.string (letS a b)) ∧ Below w.heap.size w w' := by
  obtain ⟨y, HY⟩ := named (letS a b)
  rw [← HY.out]
  have e1 := eq_pair a b 1 0
  have e2 := eq_pair a b 0 1
  have e3 := eq_pair a b a a
  have e4 := ne_pair a b 3 3
  have eg := eg_pair
  have HO : Hid (∀ w, Calls Tryd.prog 17 #[.int .u8 a] w fun e w' => e = .returned (.agg #[.int .u8 a, .int .u8 a]) ∧ Below w.heap.size w w') := Lib.hid fun w => by have := ofP_any a w; rwa [hca.cln] at this
  have HO3 : Hid (∀ w, Calls Tryd.prog 17 #[.int .u8 3] w fun e w' => e = .returned (.agg #[.int .u8 3, .int .u8 3]) ∧ Below w.heap.size w w') := Lib.hid fun w => ofP_any 3 w
  obtain ⟨w1, hw1⟩ : ∃ w1, w1 = w.alloc (.cells #[.int .u8 a, .int .u8 b] 28) := ⟨_, rfl⟩
  have l0 : ∀ x : Beh w1, x.x.cell? ⟨w.heap.size, 0, none⟩ = some (.int .u8 a) := beh_cell (by rw [hw1]; simp) (by rw [hw1, World.cell?_alloc_at _ _ _ _ rfl]; rfl)
  have l1 : ∀ x : Beh w1, x.x.cell? ⟨w.heap.size, 1, none⟩ = some (.int .u8 b) := beh_cell (by rw [hw1]; simp) (by rw [hw1, World.cell?_alloc_at _ _ _ _ rfl]; rfl)
  have hz : w.heap.size < w1.heap.size := by rw [hw1]; simp
  have hb1 : Below w.heap.size w w1 := by rw [hw1]; exact (Below.refl _ _).alloc (Nat.le_refl _) _
  have HT1 := Lib.hid (ht.below hb1)
  have HW := Lib.hid hw1
  have HCA := Lib.hid hca
  clear ht hca hw1
  have hletS : ∀ {c : Bool} {p q : Int}, (a == p && b == q) = c → (c = true ↔ (a = p ∧ b = q)) := fun h => by rw [← h]; simp
  cases c1 : (a == 1 && b == 0)
  · cases c2 : (a == 0 && b == 1)
    · cases c3 : (a == a && b == a)
      · rw [c1] at e1; rw [c2] at e2; rw [c3] at e3
        obtain rfl : y = ⟨#[]⟩ := by
          rw [HY.out, letS, letL, if_neg (fun h => by simp [h] at c1), if_neg (fun h => by simp [h] at c2), if_neg (fun h => by simp [h.1] at c3)]
        clear c1 c2 c3 e4 hletS
        go_enter Tryd.func43, Tryd.ntmps43
        go_wp2_with fail
        rw [← HW.out]
        refine region_class (w0 := w1) (Below.refl _ _) (by kernel_rfl) (by kernel_rfl) ?_
        repeat (first
          | go_big_quiet_skip
          | (go_big_quiet_want; go_big_quiet_op; first
            | go_big_quiet_on
            | (apply Exists.intro
               refine ⟨fun xx => ?_, ?_⟩
               focus first
                | (go_at_call 19; with_reducible exact beh_of (rel (dP_any _) xx.below))
                | (go_at_call 21; with_reducible exact beh_of (rel (bP_any _) xx.below))
                | (go_at_call 17; with_reducible exact beh_of (rel (HO.out _) xx.below))
                | (go_at_call 17; with_reducible exact beh_of (rel (HO3.out _) xx.below))
               go_big_quiet_on)))
        refine wpQuiet_nil ?_
        rintro x1 ⟨⟨_, hx1⟩, rfl⟩
        go_wp2_with fail
        refine region_class (w0 := w1) hx1 (by kernel_rfl) (by kernel_rfl) ?_
        repeat (first
          | go_big_quiet_skip
          | (go_big_quiet_want; go_big_quiet_op; first
            | go_big_quiet_on
            | (apply Exists.intro
               refine ⟨fun xx => ?_, ?_⟩
               focus first
                | (go_at_call 19; with_reducible exact beh_of (rel (dP_any _) xx.below))
                | (go_at_call 21; with_reducible exact beh_of (rel (bP_any _) xx.below))
                | (go_at_call 17; with_reducible exact beh_of (rel (HO.out _) xx.below))
                | (go_at_call 17; with_reducible exact beh_of (rel (HO3.out _) xx.below))
               go_big_quiet_on)))
        refine wpQuiet_nil ?_
        rintro x2 ⟨⟨_, hx2⟩, rfl⟩
        go_wp2_with fail
        refine region_class (w0 := w1) hx2 (by kernel_rfl) (by kernel_rfl) ?_
        repeat (first
          | go_big_quiet_skip
          | (go_big_quiet_want; go_big_quiet_op; first
            | go_big_quiet_on
            | (apply Exists.intro
               refine ⟨fun xx => ?_, ?_⟩
               focus first
                | (go_at_call 19; with_reducible exact beh_of (rel (dP_any _) xx.below))
                | (go_at_call 21; with_reducible exact beh_of (rel (bP_any _) xx.below))
                | (go_at_call 17; with_reducible exact beh_of (rel (HO.out _) xx.below))
                | (go_at_call 17; with_reducible exact beh_of (rel (HO3.out _) xx.below))
               go_big_quiet_on)))
        refine wpQuiet_nil ?_
        rintro x3 ⟨⟨_, hx3⟩, rfl⟩
        go_wp2_with fail
        go_ret
        exact ⟨rfl, hb1.trans (hx3.mono (Nat.le_of_lt hz))⟩
      · cases c4 : (!(a == 3 && b == 3))
        · rw [c1] at e1; rw [c2] at e2; rw [c3] at e3; rw [c4] at e4
          obtain rfl : y = ⟨#[]⟩ := by
            rw [HY.out, letS, letL, if_neg (fun h => by simp [h] at c1), if_neg (fun h => by simp [h] at c2), if_neg (fun h => by simp at c4; exact h.2 c4.1)]
          clear c1 c2 c3 c4 hletS
          go_enter Tryd.func43, Tryd.ntmps43
          go_wp2_with fail
          rw [← HW.out]
          refine region_class (w0 := w1) (Below.refl _ _) (by kernel_rfl) (by kernel_rfl) ?_
          repeat (first
            | go_big_quiet_skip
            | (go_big_quiet_want; go_big_quiet_op; first
              | go_big_quiet_on
              | (apply Exists.intro
                 refine ⟨fun xx => ?_, ?_⟩
                 focus first
                  | (go_at_call 19; with_reducible exact beh_of (rel (dP_any _) xx.below))
                  | (go_at_call 21; with_reducible exact beh_of (rel (bP_any _) xx.below))
                  | (go_at_call 17; with_reducible exact beh_of (rel (HO.out _) xx.below))
                  | (go_at_call 17; with_reducible exact beh_of (rel (HO3.out _) xx.below))
                 go_big_quiet_on)))
          refine wpQuiet_nil ?_
          rintro x1 ⟨⟨_, hx1⟩, rfl⟩
          go_wp2_with fail
          refine region_class (w0 := w1) hx1 (by kernel_rfl) (by kernel_rfl) ?_
          repeat (first
            | go_big_quiet_skip
            | (go_big_quiet_want; go_big_quiet_op; first
              | go_big_quiet_on
              | (apply Exists.intro
                 refine ⟨fun xx => ?_, ?_⟩
                 focus first
                  | (go_at_call 19; with_reducible exact beh_of (rel (dP_any _) xx.below))
                  | (go_at_call 21; with_reducible exact beh_of (rel (bP_any _) xx.below))
                  | (go_at_call 17; with_reducible exact beh_of (rel (HO.out _) xx.below))
                  | (go_at_call 17; with_reducible exact beh_of (rel (HO3.out _) xx.below))
                 go_big_quiet_on)))
          refine wpQuiet_nil ?_
          rintro x2 ⟨⟨_, hx2⟩, rfl⟩
          go_wp2_with fail
          refine region_class (w0 := w1) hx2 (by kernel_rfl) (by kernel_rfl) ?_
          repeat (first
            | go_big_quiet_skip
            | (go_big_quiet_want; go_big_quiet_op; first
              | go_big_quiet_on
              | (apply Exists.intro
                 refine ⟨fun xx => ?_, ?_⟩
                 focus first
                  | (go_at_call 19; with_reducible exact beh_of (rel (dP_any _) xx.below))
                  | (go_at_call 21; with_reducible exact beh_of (rel (bP_any _) xx.below))
                  | (go_at_call 17; with_reducible exact beh_of (rel (HO.out _) xx.below))
                  | (go_at_call 17; with_reducible exact beh_of (rel (HO3.out _) xx.below))
                 go_big_quiet_on)))
          refine wpQuiet_nil ?_
          rintro x3 ⟨⟨_, hx3⟩, rfl⟩
          go_wp2_with fail
          go_ret
          exact ⟨rfl, hb1.trans (hx3.mono (Nat.le_of_lt hz))⟩
        · rw [c1] at e1; rw [c2] at e2; rw [c3] at e3; rw [c4] at e4
          have hy : y = ⟨#[tcb a]⟩ := by
            rw [HY.out, letS, letL, if_neg (fun h => by simp [h] at c1), if_neg (fun h => by simp [h] at c2), if_pos ?_]
            simp at c3 c4
            exact ⟨c3.symm, fun h => by rcases c4 with c4 | c4; exact c4 h; exact c4 (by rw [c3, h])⟩
          have HYY := Lib.hid hy
          clear c1 c2 c3 c4 hy hletS
          go_enter Tryd.func43, Tryd.ntmps43
          go_wp2_with fail
          rw [← HW.out]
          refine region_class (w0 := w1) (Below.refl _ _) (by kernel_rfl) (by kernel_rfl) ?_
          repeat (first
            | go_big_quiet_skip
            | (go_big_quiet_want; go_big_quiet_op; first
              | go_big_quiet_on
              | (apply Exists.intro
                 refine ⟨fun xx => ?_, ?_⟩
                 focus first
                  | (go_at_call 19; with_reducible exact beh_of (rel (dP_any _) xx.below))
                  | (go_at_call 21; with_reducible exact beh_of (rel (bP_any _) xx.below))
                  | (go_at_call 17; with_reducible exact beh_of (rel (HO.out _) xx.below))
                  | (go_at_call 17; with_reducible exact beh_of (rel (HO3.out _) xx.below))
                 go_big_quiet_on)))
          refine wpQuiet_nil ?_
          rintro x1 ⟨⟨_, hx1⟩, rfl⟩
          go_wp2_with fail
          refine region_class (w0 := w1) hx1 (by kernel_rfl) (by kernel_rfl) ?_
          repeat (first
            | go_big_quiet_skip
            | (go_big_quiet_want; go_big_quiet_op; first
              | go_big_quiet_on
              | (apply Exists.intro
                 refine ⟨fun xx => ?_, ?_⟩
                 focus first
                  | (go_at_call 19; with_reducible exact beh_of (rel (dP_any _) xx.below))
                  | (go_at_call 21; with_reducible exact beh_of (rel (bP_any _) xx.below))
                  | (go_at_call 17; with_reducible exact beh_of (rel (HO.out _) xx.below))
                  | (go_at_call 17; with_reducible exact beh_of (rel (HO3.out _) xx.below))
                 go_big_quiet_on)))
          refine wpQuiet_nil ?_
          rintro x2 ⟨⟨_, hx2⟩, rfl⟩
          go_wp2_with fail
          refine region_class (w0 := w1) hx2 (by kernel_rfl) (by kernel_rfl) ?_
          repeat (first
            | go_big_quiet_skip
            | (go_big_quiet_want; go_big_quiet_op; first
              | go_big_quiet_on
              | (apply Exists.intro
                 refine ⟨fun xx => ?_, ?_⟩
                 focus first
                  | (go_at_call 19; with_reducible exact beh_of (rel (dP_any _) xx.below))
                  | (go_at_call 21; with_reducible exact beh_of (rel (bP_any _) xx.below))
                  | (go_at_call 17; with_reducible exact beh_of (rel (HO.out _) xx.below))
                  | (go_at_call 17; with_reducible exact beh_of (rel (HO3.out _) xx.below))
                 go_big_quiet_on)))
          refine wpQuiet_nil ?_
          rintro x3 ⟨⟨_, hx3⟩, rfl⟩
          have l3 : x3.cell? ⟨w.heap.size, 0, none⟩ = some (.int .u8 a) := l0 ⟨x3, hx3⟩
          go_wp2_with (go_at_call 31; (with_reducible refine (text_lit1 a HCA.out (HT1.out.below hx3) hx3).mono ?_); rintro e w' ⟨rfl, hb⟩)
          go_ret
          exact ⟨ret_str HYY.out.symm, hb1.trans (hb.mono (Nat.le_of_lt hz))⟩
    · rw [c1] at e1; rw [c2] at e2
      obtain rfl : y = ⟨#[66]⟩ := by
        simp at c2
        rw [HY.out, letS, letL, if_neg (fun h => by simp [h] at c1), if_pos c2]
      clear c1 c2 e3 e4 hletS
      go_enter Tryd.func43, Tryd.ntmps43
      go_wp2_with fail
      rw [← HW.out]
      refine region_class (w0 := w1) (Below.refl _ _) (by kernel_rfl) (by kernel_rfl) ?_
      repeat (first
        | go_big_quiet_skip
        | (go_big_quiet_want; go_big_quiet_op; first
          | go_big_quiet_on
          | (apply Exists.intro
             refine ⟨fun xx => ?_, ?_⟩
             focus first
              | (go_at_call 19; with_reducible exact beh_of (rel (dP_any _) xx.below))
              | (go_at_call 21; with_reducible exact beh_of (rel (bP_any _) xx.below))
              | (go_at_call 17; with_reducible exact beh_of (rel (HO.out _) xx.below))
              | (go_at_call 17; with_reducible exact beh_of (rel (HO3.out _) xx.below))
             go_big_quiet_on)))
      refine wpQuiet_nil ?_
      rintro x1 ⟨⟨_, hx1⟩, rfl⟩
      go_wp2_with fail
      refine region_class (w0 := w1) hx1 (by kernel_rfl) (by kernel_rfl) ?_
      repeat (first
        | go_big_quiet_skip
        | (go_big_quiet_want; go_big_quiet_op; first
          | go_big_quiet_on
          | (apply Exists.intro
             refine ⟨fun xx => ?_, ?_⟩
             focus first
              | (go_at_call 19; with_reducible exact beh_of (rel (dP_any _) xx.below))
              | (go_at_call 21; with_reducible exact beh_of (rel (bP_any _) xx.below))
              | (go_at_call 17; with_reducible exact beh_of (rel (HO.out _) xx.below))
              | (go_at_call 17; with_reducible exact beh_of (rel (HO3.out _) xx.below))
             go_big_quiet_on)))
      refine wpQuiet_nil ?_
      rintro x2 ⟨⟨_, hx2⟩, rfl⟩
      go_wp2_with fail
      go_ret
      exact ⟨rfl, hb1.trans (hx2.mono (Nat.le_of_lt hz))⟩
  · rw [c1] at e1
    obtain rfl : y = ⟨#[68]⟩ := by
      simp at c1
      rw [HY.out, letS, letL, if_pos c1]
    clear c1 e2 e3 e4 hletS
    go_enter Tryd.func43, Tryd.ntmps43
    go_wp2_with fail
    rw [← HW.out]
    refine region_class (w0 := w1) (Below.refl _ _) (by kernel_rfl) (by kernel_rfl) ?_
    repeat (first
      | go_big_quiet_skip
      | (go_big_quiet_want; go_big_quiet_op; first
        | go_big_quiet_on
        | (apply Exists.intro
           refine ⟨fun xx => ?_, ?_⟩
           focus first
            | (go_at_call 19; with_reducible exact beh_of (rel (dP_any _) xx.below))
            | (go_at_call 21; with_reducible exact beh_of (rel (bP_any _) xx.below))
            | (go_at_call 17; with_reducible exact beh_of (rel (HO.out _) xx.below))
            | (go_at_call 17; with_reducible exact beh_of (rel (HO3.out _) xx.below))
           go_big_quiet_on)))
    refine wpQuiet_nil ?_
    rintro x1 ⟨⟨_, hx1⟩, rfl⟩
    go_wp2_with fail
    go_ret
    exact ⟨rfl, hb1.trans (hx1.mono (Nat.le_of_lt hz))⟩

end Go.Proofs.YtnddgkcgedkabaaDoor
