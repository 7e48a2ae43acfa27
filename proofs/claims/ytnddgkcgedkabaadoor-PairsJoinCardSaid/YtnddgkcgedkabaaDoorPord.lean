/- The walk of the law on the order of pairs. -/
import Derived.Test.YtnddgkcgedkabaaDoorPlv
namespace Go.Proofs.YtnddgkcgedkabaaDoor
open Go.RowKit

theorem Pl.made1 (w : World) (a b : Int) (t : TypeId) : Pl (w.alloc (.cells #[.int .u8 a, .int .u8 b] t)) (w.alloc (.cells #[.int .u8 a, .int .u8 b] t)).heap.size (.slice (some ⟨w.heap.size, 0, none⟩) 1 1) [(a, b)] := by
  refine ⟨w.heap.size, 0, 1, .inl rfl, by simp [maxLen], fun k hk => ⟨by simp, ?_, ?_⟩⟩
  · rw [World.cell?_alloc_at _ _ _ _ rfl]
    match k, hk with
    | 0, _ => rfl
  · rw [World.cell?_alloc_at _ _ _ _ rfl]
    match k, hk with
    | 0, _ => rfl
theorem evalP_lit1 {w0 w : World} (k a b : Int) (y1 y2 : Int) (hk : 0 ≤ k) (h1 : evP1 k [(a, b)] = y1) (h2 : evP2 k [(a, b)] = y2) (ht : Tabs w0) (hb : Below w0.heap.size w0 w) :
    Calls Tryd.prog 11 #[.int .u8 k, .slice (some ⟨w.heap.size, 0, none⟩) 1 1] (w.alloc (.cells #[.int .u8 a, .int .u8 b] 28)) fun e w' => e = .returned (.agg #[.int .u8 y1, .int .u8 y2]) ∧ Below w0.heap.size w0 w' := by
  subst h1; subst h2
  exact from_new (evalP_any k hk (Nat.le_refl _) (Pl.made1 w a b _) (by simp) (ht.below (belowA hb))) hb
theorem eq_same (a b : Int) (w : World) : (binOp .eql 28 (.agg #[.int .u8 a, .int .u8 b]) (.agg #[.int .u8 a, .int .u8 b])).run Tryd.prog w = .ok (.bool true) w := by rw [eq_pair]; simp
theorem ne_same (a b : Int) (w : World) : (binOp .neq 28 (.agg #[.int .u8 a, .int .u8 b]) (.agg #[.int .u8 a, .int .u8 b])).run Tryd.prog w = .ok (.bool false) w := by rw [ne_pair]; simp
theorem dif_self (a : Int) : dif a a = false := by simp [dif]
theorem dif_lit (a b : Int) : dif a b = ((a == 1 && b == 0) || (a == 0 && b == 1)) := by
  rcases knw_cases a with ⟨rfl, h, -⟩ | ⟨rfl, h, -⟩ | ⟨h0, h1, h, -⟩ <;> rcases knw_cases b with ⟨rfl, k, -⟩ | ⟨rfl, k, -⟩ | ⟨k0, k1, k, -⟩ <;> simp [dif, kn2, *]

set_option maxHeartbeats 2000000 in
set_option maxRecDepth 100000 in
theorem pord_any (a b c d : Int) (w : World) (ht : Tabs w) : Calls Tryd.prog 8 #[.agg #[.int .u8 a, .int .u8 b], .agg #[.int .u8 c, .int .u8 d]] w fun e w' => e = .returned (.bool true) ∧ Below w.heap.size w w' := by
  have eg := eg_pair
  have e4 := ne_pair 1 0 0 1
  have e5 := eq_same 0 1
  have e1 := eq_pair a b 1 0
  have e2 := eq_pair a b 0 1
  obtain ⟨ca, HCA⟩ := named (cln a)
  obtain ⟨cb, HCB⟩ := named (cln b)
  have e3 := ne_same ca ca
  have HC1 := Lib.hid (fun w => clean_any a w)
  have HO1 := Lib.hid (fun w => ofP_any a w)
  have HO2 := Lib.hid (fun w => ofP_any b w)
  rw [← HCA.out] at HC1 HO1
  rw [← HCB.out] at HO2
  have HD2 := Lib.hid (fun w => differs_any cb cb w)
  rw [dif_self] at HD2
  have HA := Lib.hid (fun w => belowP_any a b c d w)
  have HB1 := Lib.hid (fun w => below_any a c w)
  have HB2 := Lib.hid (fun w => below_any b d w)
  have HK := Lib.hid (fun w => knownP_any a b w)
  have HK1 := Lib.hid (fun w => known_any a w)
  have HK2 := Lib.hid (fun w => known_any b w)
  have HD := Lib.hid (fun w => differs_any a b w)
  obtain ⟨yb, HYB⟩ := named (blw b d)
  obtain ⟨yk, HYK⟩ := named (knw b)
  rw [← HYB.out] at HB2
  rw [← HYK.out] at HK2
  obtain ⟨n, hn⟩ : ∃ n, n = w.heap.size := ⟨_, rfl⟩
  obtain ⟨w1, hw1⟩ : ∃ w1, w1 = (w.alloc (.cells #[.int .u8 a, .int .u8 b] 28)).alloc (.cells #[.int .u8 c, .int .u8 d] 28) := ⟨_, rfl⟩
  have HP : Hid (Box w.heap.size (.int .u8 a) (.int .u8 b) w1) := Lib.hid (by rw [hw1]; exact (Box.new w _ _ _).alloc _)
  have HQ : Hid (Box (w.heap.size + 1) (.int .u8 c) (.int .u8 d) w1) := Lib.hid (by rw [hw1]; exact Box.new' _ _ _ _ (by simp))
  have l0 : ∀ x : Beh w1, x.x.cell? ⟨w.heap.size, 0, none⟩ = some (.int .u8 a) := beh_cell HP.out.1 HP.out.2.1
  have l1 : ∀ x : Beh w1, x.x.cell? ⟨w.heap.size, 1, none⟩ = some (.int .u8 b) := beh_cell HP.out.1 HP.out.2.2.1
  have l2 : ∀ x : Beh w1, x.x.cell? ⟨w.heap.size + 1, 0, none⟩ = some (.int .u8 c) := beh_cell HQ.out.1 HQ.out.2.1
  have l3 : ∀ x : Beh w1, x.x.cell? ⟨w.heap.size + 1, 1, none⟩ = some (.int .u8 d) := beh_cell HQ.out.1 HQ.out.2.2.1
  have hb1 : Below w.heap.size w w1 := by rw [hw1]; exact belowA (belowA (Below.refl _ _))
  have HT1 := Lib.hid (ht.below hb1)
  have HBW := Lib.hid hb1
  have HW := Lib.hid hw1
  clear ht hb1 hw1 hn
  have hways : ∃ z1 : Bool, (∀ w, Calls Tryd.prog 24 #[.agg #[.int .u8 a, .int .u8 b], .agg #[.int .u8 c, .int .u8 d]] w fun e w' => e = .returned (.bool z1) ∧ Below w.heap.size w w') ∧
      ((blw a c = false ∧ z1 = false) ∨ (blw a c = true ∧ z1 = yb)) := by
    refine ⟨blw2 a b c d, HA.out, ?_⟩
    cases h : blw a c
    · exact .inl ⟨rfl, by simp [blw2, h]⟩
    · exact .inr ⟨rfl, by simp [blw2, h, HYB.out]⟩
  have hwayk : ∃ z2 : Bool, (∀ w, Calls Tryd.prog 27 #[.agg #[.int .u8 a, .int .u8 b]] w fun e w' => e = .returned (.bool z2) ∧ Below w.heap.size w w') ∧
      ((knw a = false ∧ z2 = false) ∨ (knw a = true ∧ z2 = yk)) := by
    refine ⟨kn2 a b, HK.out, ?_⟩
    cases h : knw a
    · exact .inl ⟨rfl, by simp [kn2, h]⟩
    · exact .inr ⟨rfl, by simp [kn2, h, HYK.out]⟩
  have hwayd : ∃ z3 c1 c2 : Bool, (∀ w, Calls Tryd.prog 15 #[.agg #[.int .u8 a, .int .u8 b]] w fun e w' => e = .returned (.bool z3) ∧ Below w.heap.size w w') ∧
      (a == 1 && b == 0) = c1 ∧ (a == 0 && b == 1) = c2 ∧ ((c1 = true ∧ z3 = true) ∨ (c1 = false ∧ z3 = c2)) := by
    refine ⟨dif a b, _, _, HD.out, rfl, rfl, ?_⟩
    rw [dif_lit]
    cases h : (a == 1 && b == 0)
    · exact .inr ⟨rfl, by simp⟩
    · exact .inl ⟨rfl, by simp⟩
  clear HA HK HD HYB HYK
  obtain ⟨z1, hA, hways⟩ := hways
  obtain ⟨z2, hK, hwayk⟩ := hwayk
  obtain ⟨z3, c1, c2, hD, hc1, hc2, hwayd⟩ := hwayd
  rw [hc1] at e1
  rw [hc2] at e2
  have HA := Lib.hid hA
  have HK := Lib.hid hK
  have HD := Lib.hid hD
  clear hc1 hc2 hA hK hD
  rcases hways with ⟨h, rfl⟩ | ⟨h, rfl⟩ <;> rcases hwayk with ⟨h', rfl⟩ | ⟨h', rfl⟩ <;> rcases hwayd with ⟨rfl, rfl⟩ | ⟨rfl, rfl⟩
  all_goals
    rw [h] at HB1
    rw [h'] at HK1
    clear h h'
    go_enter Tryd.func8, Tryd.ntmps8
    go_wp2_with fail
    rw [← HW.out]
    refine region_class (w0 := w1) (Below.refl _ _) (by kernel_rfl) (by kernel_rfl) ?_
    repeat (first
      | go_big_quiet_skip
      | (go_big_quiet_want; go_big_quiet_op; first
        | go_big_quiet_on
        | (apply Exists.intro
           refine ⟨fun xx => ?_, ?_⟩
           focus first
            | (go_at_call 24; with_reducible exact beh_of (rel (HA.out _) xx.below))
            | (go_at_call 26; with_reducible exact beh_same (HB1.out _))
            | (go_at_call 26; with_reducible exact beh_same (HB2.out _))
            | (go_at_call 27; with_reducible exact beh_of (rel (HK.out _) xx.below))
            | (go_at_call 28; with_reducible exact beh_same (HK1.out _))
            | (go_at_call 28; with_reducible exact beh_same (HK2.out _))
            | (go_at_call 15; with_reducible exact beh_of (rel (HD.out _) xx.below))
            | (go_at_call 15; with_reducible exact beh_of (rel (HD2.out _) xx.below))
            | (go_at_call 19; with_reducible exact beh_of (rel (dP_any _) xx.below))
            | (go_at_call 21; with_reducible exact beh_of (rel (bP_any _) xx.below))
            | (go_at_call 17; with_reducible exact beh_of (rel (HO1.out _) xx.below))
            | (go_at_call 17; with_reducible exact beh_of (rel (HO2.out _) xx.below))
            | (go_at_call 13; with_reducible exact beh_same (HC1.out _))
           go_big_quiet_on)))
    refine wpQuiet_nil ?_
    rintro x1 ⟨⟨_, hx1⟩, rfl⟩
    go_wp2_with fail
    refine region_class (w0 := w1) hx1 (by kernel_rfl) (by kernel_rfl) ?_
    repeat (first
      | go_big_quiet_skip
      | (go_big_quiet_want; go_big_quiet_op; first
        | go_big_quiet_on
        | (apply Exists.intro
           refine ⟨fun xx => ?_, ?_⟩
           focus first
            | (go_at_call 24; with_reducible exact beh_of (rel (HA.out _) xx.below))
            | (go_at_call 26; with_reducible exact beh_same (HB1.out _))
            | (go_at_call 26; with_reducible exact beh_same (HB2.out _))
            | (go_at_call 27; with_reducible exact beh_of (rel (HK.out _) xx.below))
            | (go_at_call 28; with_reducible exact beh_same (HK1.out _))
            | (go_at_call 28; with_reducible exact beh_same (HK2.out _))
            | (go_at_call 15; with_reducible exact beh_of (rel (HD.out _) xx.below))
            | (go_at_call 15; with_reducible exact beh_of (rel (HD2.out _) xx.below))
            | (go_at_call 19; with_reducible exact beh_of (rel (dP_any _) xx.below))
            | (go_at_call 21; with_reducible exact beh_of (rel (bP_any _) xx.below))
            | (go_at_call 17; with_reducible exact beh_of (rel (HO1.out _) xx.below))
            | (go_at_call 17; with_reducible exact beh_of (rel (HO2.out _) xx.below))
            | (go_at_call 13; with_reducible exact beh_same (HC1.out _))
           go_big_quiet_on)))
    refine wpQuiet_nil ?_
    rintro x2 ⟨⟨_, hx2⟩, rfl⟩
    have HX2 := Lib.hid hx2
    have HB0 := Lib.hid (Below.refl x2.heap.size x2)
    have HT2 := Lib.hid (HT1.out.below hx2)
    clear hx1 hx2
    go_wp2_with (first
      | (go_at_call 19; (with_reducible refine (dP_any _).mono ?_); rintro e w' ⟨rfl, hb⟩; have HB0 := Lib.hid (joinB HB0.out hb); clear hb)
      | (go_at_call 21; (with_reducible refine (bP_any _).mono ?_); rintro e w' ⟨rfl, hb⟩; have HB0 := Lib.hid (joinB HB0.out hb); clear hb)
      | (go_at_call 11; (with_reducible refine (evalP_lit1 4 1 0 0 1 (by decide) (by decide) (by decide) HT2.out HB0.out).mono ?_); rintro e w' ⟨rfl, hb⟩; have HB0 := Lib.hid hb; clear hb)
      | (go_at_call 10; (with_reducible refine (livesP_any _ (HT2.out.below HB0.out)).mono ?_); rintro e w' ⟨rfl, hb⟩; have HB0 := Lib.hid (joinB HB0.out hb); clear hb))
    go_ret
    exact ⟨rfl, joinB HBW.out (joinB HX2.out HB0.out)⟩

end Go.Proofs.YtnddgkcgedkabaaDoor
