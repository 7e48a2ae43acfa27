/- The walk of the law of gates. -/
import Derived.Test.YtdanmepbdjfpfaaDoorEvr
namespace Go.Proofs.YtdanmepbdjfpfaaDoor
open Go.RowKit

section
variable {w : World} {b o c : Nat} {x0 x1 x2 : Int}
theorem app1 (hb : b < w.heap.size) (h0 : w.cell? ⟨b, o, none⟩ = some (.int .u8 x0)) (w' : World) (h : Below w.heap.size w w') :
    Calls Tryd.prog 13 #[.int .u8 4, .slice (some ⟨b, o, none⟩) 1 c] w' fun e w'' => e = .returned (.int .u8 (nt x0)) ∧ Below w.heap.size w w'' :=
  rel (res_apply 4 [x0] 1 c b o _ (fun _ => rfl) w' rfl (by unfold ResK; omega) fun k hk => by
    obtain rfl : k = 0 := by omega
    exact ⟨Nat.lt_of_lt_of_le hb h.size, (h.cell (p := ⟨b, o, none⟩) hb).trans h0⟩) h
theorem app2 (hb : b < w.heap.size) (h0 : w.cell? ⟨b, o, none⟩ = some (.int .u8 x0)) (h1 : w.cell? ⟨b, o + 1, none⟩ = some (.int .u8 x1)) (w' : World) (h : Below w.heap.size w w') :
    Calls Tryd.prog 13 #[.int .u8 12, .slice (some ⟨b, o, none⟩) 2 c] w' fun e w'' => e = .returned (.int .u8 (tr x0 x1)) ∧ Below w.heap.size w w'' :=
  rel (res_apply 12 [x0, x1] 2 c b o _ (fun _ => rfl) w' rfl (by unfold ResK; omega) fun k hk => by
    rcases (by omega : k = 0 ∨ k = 1) with rfl | rfl
    · exact ⟨Nat.lt_of_lt_of_le hb h.size, (h.cell (p := ⟨b, o, none⟩) hb).trans h0⟩
    · exact ⟨Nat.lt_of_lt_of_le hb h.size, (h.cell (p := ⟨b, o + 1, none⟩) hb).trans h1⟩) h
theorem app3 (hb : b < w.heap.size) (h0 : w.cell? ⟨b, o, none⟩ = some (.int .u8 x0)) (h1 : w.cell? ⟨b, o + 1, none⟩ = some (.int .u8 x1)) (h2 : w.cell? ⟨b, o + 2, none⟩ = some (.int .u8 x2)) (w' : World) (h : Below w.heap.size w w') :
    Calls Tryd.prog 13 #[.int .u8 11, .slice (some ⟨b, o, none⟩) 3 c] w' fun e w'' => e = .returned (.int .u8 (mx x0 x1 x2)) ∧ Below w.heap.size w w'' :=
  rel (res_apply 11 [x0, x1, x2] 3 c b o _ (fun _ => rfl) w' rfl (by unfold ResK; omega) fun k hk => by
    rcases (by omega : k = 0 ∨ k = 1 ∨ k = 2) with rfl | rfl | rfl
    · exact ⟨Nat.lt_of_lt_of_le hb h.size, (h.cell (p := ⟨b, o, none⟩) hb).trans h0⟩
    · exact ⟨Nat.lt_of_lt_of_le hb h.size, (h.cell (p := ⟨b, o + 1, none⟩) hb).trans h1⟩
    · exact ⟨Nat.lt_of_lt_of_le hb h.size, (h.cell (p := ⟨b, o + 2, none⟩) hb).trans h2⟩) h
theorem beh_cell {p : Addr} {v : Value} (hb : p.block < w.heap.size) (h : w.cell? p = some v) (x : Beh w) : x.x.cell? p = some v := (x.below.cell hb).trans h
end

set_option maxHeartbeats 400000 in
theorem gates_long (A : Option Addr) (n c : Nat) (w : World) (ht : Tabs w) (h : 7 < n) :
    Calls Tryd.prog 3 #[.slice A n c] w fun e w' => e = .returned (.bool true) ∧ Below w.heap.size w w' := by
  have HT := Lib.hid ht
  clear ht
  have hb0 := Below.refl w.heap.size w
  go_enter Tryd.func3, Tryd.ntmps3
  go_wp2_with (go_at_call 11; (with_reducible refine (lives_at HT.out (by assumption)).mono ?_); rintro e w' ⟨rfl, hb⟩)
  go_ret
  exact ⟨rfl, by assumption⟩

set_option maxHeartbeats 1000000 in
set_option maxRecDepth 100000 in
theorem gates_0 (l : List Int) (A : Option Addr) (c : Nat) (w : World) (ht : Tabs w) (hs : Vs w w.heap.size (.slice A 0 c) l) (hn : 0 = l.length) (h7 : 0 ≤ 7)
    (H4 : Hid (∀ w', Below w.heap.size w w' → Calls Tryd.prog 13 #[.int .u8 5, .slice A 0 c] w' fun e w'' => e = .returned (.int .u8 (andL l)) ∧ Below w.heap.size w w''))
    (H5 : Hid (∀ w', Below w.heap.size w w' → Calls Tryd.prog 13 #[.int .u8 7, .slice A 0 c] w' fun e w'' => e = .returned (.int .u8 (orL l)) ∧ Below w.heap.size w w''))
    (H6 : Hid (∀ w', Below w.heap.size w w' → Calls Tryd.prog 13 #[.int .u8 9, .slice A 0 c] w' fun e w'' => e = .returned (.int .u8 (xorL l)) ∧ Below w.heap.size w w'')) :
    Calls Tryd.prog 3 #[.slice A 0 c] w fun e w' => e = .returned (.bool true) ∧ Below w.heap.size w w' := by
  have HT := Lib.hid ht
  have H1 : Hid (∀ w', Below w.heap.size w w' → Calls Tryd.prog 12 #[.slice A 0 c] w' fun e w'' => e = .returned (.int .u8 (andL l)) ∧ Below w.heap.size w w'') := Lib.hid fun w' h => and_rel (Nat.le_refl _) hs w' h
  have H2 : Hid (∀ w', Below w.heap.size w w' → Calls Tryd.prog 14 #[.slice A 0 c] w' fun e w'' => e = .returned (.int .u8 (orL l)) ∧ Below w.heap.size w w'') := Lib.hid fun w' h => or_rel (Nat.le_refl _) hs w' h
  have H3 : Hid (∀ w', Below w.heap.size w w' → Calls Tryd.prog 15 #[.slice A 0 c] w' fun e w'' => e = .returned (.int .u8 (xorL l)) ∧ Below w.heap.size w w'') := Lib.hid fun w' h => xor_rel (Nat.le_refl _) hs w' h
  have d7 : decide ((7 : Int) < ((0 : Nat) : Int)) = false := decide_eq_false (by omega)
  have hb0 := Below.refl w.heap.size w
  obtain ⟨y1, HY1⟩ := named (andL l)
  obtain ⟨y2, HY2⟩ := named (orL l)
  obtain ⟨y3, HY3⟩ := named (xorL l)
  rw [← HY1.out] at H1 H4
  rw [← HY2.out] at H2 H5
  rw [← HY3.out] at H3 H6
  clear ht hs hn
  go_enter Tryd.func3, Tryd.ntmps3
  go_upto_region 5 with (first
    | (go_at_call 12; (with_reducible refine (H1.out _ (by assumption)).mono ?_); rintro e w' ⟨rfl, hb⟩)
    | (go_at_call 14; (with_reducible refine (H2.out _ (by assumption)).mono ?_); rintro e w' ⟨rfl, hb⟩)
    | (go_at_call 15; (with_reducible refine (H3.out _ (by assumption)).mono ?_); rintro e w' ⟨rfl, hb⟩)
    | (go_at_call 13; first
      | ((with_reducible refine (H4.out _ (by assumption)).mono ?_); rintro e w' ⟨rfl, hb⟩)
      | ((with_reducible refine (H5.out _ (by assumption)).mono ?_); rintro e w' ⟨rfl, hb⟩)
      | ((with_reducible refine (H6.out _ (by assumption)).mono ?_); rintro e w' ⟨rfl, hb⟩)))
  refine region_class (w0 := w) (by assumption) (by kernel_rfl) (by kernel_rfl) ?_
  repeat (first
    | go_big_quiet_skip
    | (go_big_quiet_want; go_big_quiet_op; first
      | go_big_quiet_on
      | (apply Exists.intro
         refine ⟨fun xx => ?_, ?_⟩
         focus first
          | (go_at_call 11; with_reducible exact beh_of (lives_at HT.out xx.below))
         go_big_quiet_on)))
  refine wpQuiet_nil ?_
  rintro w1 ⟨⟨z1, hz1⟩, rfl⟩
  go_upto_region 7 with fail
  refine region_class (w0 := w) (by assumption) (by kernel_rfl) (by kernel_rfl) ?_
  repeat (first
    | go_big_quiet_skip
    | (go_big_quiet_want; go_big_quiet_op; first
      | go_big_quiet_on
      | (apply Exists.intro
         refine ⟨fun xx => ?_, ?_⟩
         focus first
          | (go_at_call 11; with_reducible exact beh_of (lives_at HT.out xx.below))
         go_big_quiet_on)))
  refine wpQuiet_nil ?_
  rintro w2 ⟨⟨z2, hz2⟩, rfl⟩
  go_wp2_with fail
  go_ret
  exact ⟨rfl, by assumption⟩

set_option maxHeartbeats 1000000 in
set_option maxRecDepth 100000 in
theorem gates_1 (l : List Int) (w : World) (c b o : Nat) (x0 : Int) (hbw : b < w.heap.size) (c0 : w.cell? ⟨b, o, none⟩ = some (.int .u8 x0)) (hcc : 1 ≤ c) (ht : Tabs w) (hs : Vs w w.heap.size (.slice (some ⟨b, o, none⟩) 1 c) l) (hn : 1 = l.length) (h7 : 1 ≤ 7)
    (H4 : Hid (∀ w', Below w.heap.size w w' → Calls Tryd.prog 13 #[.int .u8 5, .slice (some ⟨b, o, none⟩) 1 c] w' fun e w'' => e = .returned (.int .u8 (andL l)) ∧ Below w.heap.size w w''))
    (H5 : Hid (∀ w', Below w.heap.size w w' → Calls Tryd.prog 13 #[.int .u8 7, .slice (some ⟨b, o, none⟩) 1 c] w' fun e w'' => e = .returned (.int .u8 (orL l)) ∧ Below w.heap.size w w''))
    (H6 : Hid (∀ w', Below w.heap.size w w' → Calls Tryd.prog 13 #[.int .u8 9, .slice (some ⟨b, o, none⟩) 1 c] w' fun e w'' => e = .returned (.int .u8 (xorL l)) ∧ Below w.heap.size w w'')) :
    Calls Tryd.prog 3 #[.slice (some ⟨b, o, none⟩) 1 c] w fun e w' => e = .returned (.bool true) ∧ Below w.heap.size w w' := by
  have HT := Lib.hid ht
  have H1 : Hid (∀ w', Below w.heap.size w w' → Calls Tryd.prog 12 #[.slice (some ⟨b, o, none⟩) 1 c] w' fun e w'' => e = .returned (.int .u8 (andL l)) ∧ Below w.heap.size w w'') := Lib.hid fun w' h => and_rel (Nat.le_refl _) hs w' h
  have H2 : Hid (∀ w', Below w.heap.size w w' → Calls Tryd.prog 14 #[.slice (some ⟨b, o, none⟩) 1 c] w' fun e w'' => e = .returned (.int .u8 (orL l)) ∧ Below w.heap.size w w'') := Lib.hid fun w' h => or_rel (Nat.le_refl _) hs w' h
  have H3 : Hid (∀ w', Below w.heap.size w w' → Calls Tryd.prog 15 #[.slice (some ⟨b, o, none⟩) 1 c] w' fun e w'' => e = .returned (.int .u8 (xorL l)) ∧ Below w.heap.size w w'') := Lib.hid fun w' h => xor_rel (Nat.le_refl _) hs w' h
  have q0 : ∀ x : Beh w, x.x.cell? ⟨b, o, none⟩ = some (.int .u8 x0) := fun x => beh_cell hbw c0 x
  have K1 : Hid (∀ w', Below w.heap.size w w' → _) := Lib.hid (app1 (c := c) hbw c0)
  have s1 : (1 : Int) ≤ (c : Int) := by omega
  clear c0
  have d7 : decide ((7 : Int) < ((1 : Nat) : Int)) = false := decide_eq_false (by omega)
  have hb0 := Below.refl w.heap.size w
  obtain ⟨y1, HY1⟩ := named (andL l)
  obtain ⟨y2, HY2⟩ := named (orL l)
  obtain ⟨y3, HY3⟩ := named (xorL l)
  rw [← HY1.out] at H1 H4
  rw [← HY2.out] at H2 H5
  rw [← HY3.out] at H3 H6
  clear ht hs hn
  go_enter Tryd.func3, Tryd.ntmps3
  go_upto_region 5 with (first
    | (go_at_call 12; (with_reducible refine (H1.out _ (by assumption)).mono ?_); rintro e w' ⟨rfl, hb⟩)
    | (go_at_call 14; (with_reducible refine (H2.out _ (by assumption)).mono ?_); rintro e w' ⟨rfl, hb⟩)
    | (go_at_call 15; (with_reducible refine (H3.out _ (by assumption)).mono ?_); rintro e w' ⟨rfl, hb⟩)
    | (go_at_call 13; first
      | ((with_reducible refine (H4.out _ (by assumption)).mono ?_); rintro e w' ⟨rfl, hb⟩)
      | ((with_reducible refine (H5.out _ (by assumption)).mono ?_); rintro e w' ⟨rfl, hb⟩)
      | ((with_reducible refine (H6.out _ (by assumption)).mono ?_); rintro e w' ⟨rfl, hb⟩)))
  refine region_class (w0 := w) (by assumption) (by kernel_rfl) (by kernel_rfl) ?_
  repeat (first
    | go_big_quiet_skip
    | (go_big_quiet_want; go_big_quiet_op; first
      | go_big_quiet_on
      | (apply Exists.intro
         refine ⟨fun xx => ?_, ?_⟩
         focus first
          | (go_at_call 16; with_reducible exact beh_same (not_any _ _))
          | (go_at_call 13; with_reducible exact beh_of (K1.out _ xx.below))
         go_big_quiet_on)))
  refine wpQuiet_nil ?_
  rintro w1 ⟨⟨z1, hz1⟩, rfl⟩
  go_upto_region 7 with fail
  refine region_class (w0 := w) (by assumption) (by kernel_rfl) (by kernel_rfl) ?_
  repeat (first
    | go_big_quiet_skip
    | (go_big_quiet_want; go_big_quiet_op; first
      | go_big_quiet_on
      | (apply Exists.intro
         refine ⟨fun xx => ?_, ?_⟩
         focus first
          | (go_at_call 11; with_reducible exact beh_of (lives_at HT.out xx.below))
         go_big_quiet_on)))
  refine wpQuiet_nil ?_
  rintro w2 ⟨⟨z2, hz2⟩, rfl⟩
  go_wp2_with fail
  go_ret
  exact ⟨rfl, by assumption⟩

set_option maxHeartbeats 1000000 in
set_option maxRecDepth 100000 in
theorem gates_2 (l : List Int) (w : World) (c b o : Nat) (x0 x1 : Int) (hbw : b < w.heap.size) (c0 : w.cell? ⟨b, o, none⟩ = some (.int .u8 x0)) (c1 : w.cell? ⟨b, o + 1, none⟩ = some (.int .u8 x1)) (hcc : 2 ≤ c) (ht : Tabs w) (hs : Vs w w.heap.size (.slice (some ⟨b, o, none⟩) 2 c) l) (hn : 2 = l.length) (h7 : 2 ≤ 7)
    (H4 : Hid (∀ w', Below w.heap.size w w' → Calls Tryd.prog 13 #[.int .u8 5, .slice (some ⟨b, o, none⟩) 2 c] w' fun e w'' => e = .returned (.int .u8 (andL l)) ∧ Below w.heap.size w w''))
    (H5 : Hid (∀ w', Below w.heap.size w w' → Calls Tryd.prog 13 #[.int .u8 7, .slice (some ⟨b, o, none⟩) 2 c] w' fun e w'' => e = .returned (.int .u8 (orL l)) ∧ Below w.heap.size w w''))
    (H6 : Hid (∀ w', Below w.heap.size w w' → Calls Tryd.prog 13 #[.int .u8 9, .slice (some ⟨b, o, none⟩) 2 c] w' fun e w'' => e = .returned (.int .u8 (xorL l)) ∧ Below w.heap.size w w'')) :
    Calls Tryd.prog 3 #[.slice (some ⟨b, o, none⟩) 2 c] w fun e w' => e = .returned (.bool true) ∧ Below w.heap.size w w' := by
  have HT := Lib.hid ht
  have H1 : Hid (∀ w', Below w.heap.size w w' → Calls Tryd.prog 12 #[.slice (some ⟨b, o, none⟩) 2 c] w' fun e w'' => e = .returned (.int .u8 (andL l)) ∧ Below w.heap.size w w'') := Lib.hid fun w' h => and_rel (Nat.le_refl _) hs w' h
  have H2 : Hid (∀ w', Below w.heap.size w w' → Calls Tryd.prog 14 #[.slice (some ⟨b, o, none⟩) 2 c] w' fun e w'' => e = .returned (.int .u8 (orL l)) ∧ Below w.heap.size w w'') := Lib.hid fun w' h => or_rel (Nat.le_refl _) hs w' h
  have H3 : Hid (∀ w', Below w.heap.size w w' → Calls Tryd.prog 15 #[.slice (some ⟨b, o, none⟩) 2 c] w' fun e w'' => e = .returned (.int .u8 (xorL l)) ∧ Below w.heap.size w w'') := Lib.hid fun w' h => xor_rel (Nat.le_refl _) hs w' h
  have q0 : ∀ x : Beh w, x.x.cell? ⟨b, o, none⟩ = some (.int .u8 x0) := fun x => beh_cell hbw c0 x
  have q1 : ∀ x : Beh w, x.x.cell? ⟨b, o + 1, none⟩ = some (.int .u8 x1) := fun x => beh_cell hbw c1 x
  have K1 : Hid (∀ w', Below w.heap.size w w' → _) := Lib.hid (app1 (c := c) hbw c0)
  have K2 : Hid (∀ w', Below w.heap.size w w' → _) := Lib.hid (app2 (c := c) hbw c0 c1)
  have s1 : (1 : Int) ≤ (c : Int) := by omega
  have s2 : (2 : Int) ≤ (c : Int) := by omega
  clear c0 c1
  have d7 : decide ((7 : Int) < ((2 : Nat) : Int)) = false := decide_eq_false (by omega)
  have hb0 := Below.refl w.heap.size w
  obtain ⟨y1, HY1⟩ := named (andL l)
  obtain ⟨y2, HY2⟩ := named (orL l)
  obtain ⟨y3, HY3⟩ := named (xorL l)
  rw [← HY1.out] at H1 H4
  rw [← HY2.out] at H2 H5
  rw [← HY3.out] at H3 H6
  clear ht hs hn
  go_enter Tryd.func3, Tryd.ntmps3
  go_upto_region 5 with (first
    | (go_at_call 12; (with_reducible refine (H1.out _ (by assumption)).mono ?_); rintro e w' ⟨rfl, hb⟩)
    | (go_at_call 14; (with_reducible refine (H2.out _ (by assumption)).mono ?_); rintro e w' ⟨rfl, hb⟩)
    | (go_at_call 15; (with_reducible refine (H3.out _ (by assumption)).mono ?_); rintro e w' ⟨rfl, hb⟩)
    | (go_at_call 13; first
      | ((with_reducible refine (H4.out _ (by assumption)).mono ?_); rintro e w' ⟨rfl, hb⟩)
      | ((with_reducible refine (H5.out _ (by assumption)).mono ?_); rintro e w' ⟨rfl, hb⟩)
      | ((with_reducible refine (H6.out _ (by assumption)).mono ?_); rintro e w' ⟨rfl, hb⟩)))
  refine region_class (w0 := w) (by assumption) (by kernel_rfl) (by kernel_rfl) ?_
  repeat (first
    | go_big_quiet_skip
    | (go_big_quiet_want; go_big_quiet_op; first
      | go_big_quiet_on
      | (apply Exists.intro
         refine ⟨fun xx => ?_, ?_⟩
         focus first
          | (go_at_call 16; with_reducible exact beh_same (not_any _ _))
          | (go_at_call 17; with_reducible exact beh_same (tri_any _ _ _))
          | (go_at_call 13; with_reducible exact beh_of (K1.out _ xx.below))
          | (go_at_call 13; with_reducible exact beh_of (K2.out _ xx.below))
         go_big_quiet_on)))
  refine wpQuiet_nil ?_
  rintro w1 ⟨⟨z1, hz1⟩, rfl⟩
  go_upto_region 7 with fail
  refine region_class (w0 := w) (by assumption) (by kernel_rfl) (by kernel_rfl) ?_
  repeat (first
    | go_big_quiet_skip
    | (go_big_quiet_want; go_big_quiet_op; first
      | go_big_quiet_on
      | (apply Exists.intro
         refine ⟨fun xx => ?_, ?_⟩
         focus first
          | (go_at_call 11; with_reducible exact beh_of (lives_at HT.out xx.below))
         go_big_quiet_on)))
  refine wpQuiet_nil ?_
  rintro w2 ⟨⟨z2, hz2⟩, rfl⟩
  go_wp2_with fail
  go_ret
  exact ⟨rfl, by assumption⟩

set_option maxHeartbeats 1000000 in
set_option maxRecDepth 100000 in
theorem gates_3 (l : List Int) (w : World) (n c b o : Nat) (x0 x1 x2 : Int) (hbw : b < w.heap.size) (c0 : w.cell? ⟨b, o, none⟩ = some (.int .u8 x0)) (c1 : w.cell? ⟨b, o + 1, none⟩ = some (.int .u8 x1)) (c2 : w.cell? ⟨b, o + 2, none⟩ = some (.int .u8 x2)) (hcc : n ≤ c) (h3 : 3 ≤ n) (ht : Tabs w) (hs : Vs w w.heap.size (.slice (some ⟨b, o, none⟩) n c) l) (hn : n = l.length) (h7 : n ≤ 7)
    (H4 : Hid (∀ w', Below w.heap.size w w' → Calls Tryd.prog 13 #[.int .u8 5, .slice (some ⟨b, o, none⟩) n c] w' fun e w'' => e = .returned (.int .u8 (andL l)) ∧ Below w.heap.size w w''))
    (H5 : Hid (∀ w', Below w.heap.size w w' → Calls Tryd.prog 13 #[.int .u8 7, .slice (some ⟨b, o, none⟩) n c] w' fun e w'' => e = .returned (.int .u8 (orL l)) ∧ Below w.heap.size w w''))
    (H6 : Hid (∀ w', Below w.heap.size w w' → Calls Tryd.prog 13 #[.int .u8 9, .slice (some ⟨b, o, none⟩) n c] w' fun e w'' => e = .returned (.int .u8 (xorL l)) ∧ Below w.heap.size w w'')) :
    Calls Tryd.prog 3 #[.slice (some ⟨b, o, none⟩) n c] w fun e w' => e = .returned (.bool true) ∧ Below w.heap.size w w' := by
  have HT := Lib.hid ht
  have H1 : Hid (∀ w', Below w.heap.size w w' → Calls Tryd.prog 12 #[.slice (some ⟨b, o, none⟩) n c] w' fun e w'' => e = .returned (.int .u8 (andL l)) ∧ Below w.heap.size w w'') := Lib.hid fun w' h => and_rel (Nat.le_refl _) hs w' h
  have H2 : Hid (∀ w', Below w.heap.size w w' → Calls Tryd.prog 14 #[.slice (some ⟨b, o, none⟩) n c] w' fun e w'' => e = .returned (.int .u8 (orL l)) ∧ Below w.heap.size w w'') := Lib.hid fun w' h => or_rel (Nat.le_refl _) hs w' h
  have H3 : Hid (∀ w', Below w.heap.size w w' → Calls Tryd.prog 15 #[.slice (some ⟨b, o, none⟩) n c] w' fun e w'' => e = .returned (.int .u8 (xorL l)) ∧ Below w.heap.size w w'') := Lib.hid fun w' h => xor_rel (Nat.le_refl _) hs w' h
  have q0 : ∀ x : Beh w, x.x.cell? ⟨b, o, none⟩ = some (.int .u8 x0) := fun x => beh_cell hbw c0 x
  have q1 : ∀ x : Beh w, x.x.cell? ⟨b, o + 1, none⟩ = some (.int .u8 x1) := fun x => beh_cell hbw c1 x
  have q2 : ∀ x : Beh w, x.x.cell? ⟨b, o + 2, none⟩ = some (.int .u8 x2) := fun x => beh_cell hbw c2 x
  have K1 : Hid (∀ w', Below w.heap.size w w' → _) := Lib.hid (app1 (c := c) hbw c0)
  have K2 : Hid (∀ w', Below w.heap.size w w' → _) := Lib.hid (app2 (c := c) hbw c0 c1)
  have K3 : Hid (∀ w', Below w.heap.size w w' → _) := Lib.hid (app3 (c := c) hbw c0 c1 c2)
  have s1 : (1 : Int) ≤ (c : Int) := by omega
  have s2 : (2 : Int) ≤ (c : Int) := by omega
  have s3 : (3 : Int) ≤ (c : Int) := by omega
  have n0 : (0 : Int) < (n : Int) := by omega
  have m0 : 0 < n := by omega
  have e0 : decide ((0 : Int) < (n : Int)) = true := decide_eq_true n0
  have n1 : (1 : Int) < (n : Int) := by omega
  have m1 : 1 < n := by omega
  have e1 : decide ((1 : Int) < (n : Int)) = true := decide_eq_true n1
  have n2 : (2 : Int) < (n : Int) := by omega
  have m2 : 2 < n := by omega
  have e2 : decide ((2 : Int) < (n : Int)) = true := decide_eq_true n2
  have e3 : decide ((n : Int) < 3) = false := decide_eq_false (by omega)
  clear c0 c1 c2
  have d7 : decide ((7 : Int) < (n : Int)) = false := decide_eq_false (by omega)
  have hb0 := Below.refl w.heap.size w
  obtain ⟨y1, HY1⟩ := named (andL l)
  obtain ⟨y2, HY2⟩ := named (orL l)
  obtain ⟨y3, HY3⟩ := named (xorL l)
  rw [← HY1.out] at H1 H4
  rw [← HY2.out] at H2 H5
  rw [← HY3.out] at H3 H6
  clear ht hs hn
  go_enter Tryd.func3, Tryd.ntmps3
  go_upto_region 5 with (first
    | (go_at_call 12; (with_reducible refine (H1.out _ (by assumption)).mono ?_); rintro e w' ⟨rfl, hb⟩)
    | (go_at_call 14; (with_reducible refine (H2.out _ (by assumption)).mono ?_); rintro e w' ⟨rfl, hb⟩)
    | (go_at_call 15; (with_reducible refine (H3.out _ (by assumption)).mono ?_); rintro e w' ⟨rfl, hb⟩)
    | (go_at_call 13; first
      | ((with_reducible refine (H4.out _ (by assumption)).mono ?_); rintro e w' ⟨rfl, hb⟩)
      | ((with_reducible refine (H5.out _ (by assumption)).mono ?_); rintro e w' ⟨rfl, hb⟩)
      | ((with_reducible refine (H6.out _ (by assumption)).mono ?_); rintro e w' ⟨rfl, hb⟩)))
  refine region_class (w0 := w) (by assumption) (by kernel_rfl) (by kernel_rfl) ?_
  repeat (first
    | go_big_quiet_skip
    | (go_big_quiet_want; go_big_quiet_op; first
      | go_big_quiet_on
      | (apply Exists.intro
         refine ⟨fun xx => ?_, ?_⟩
         focus first
          | (go_at_call 16; with_reducible exact beh_same (not_any _ _))
          | (go_at_call 17; with_reducible exact beh_same (tri_any _ _ _))
          | (go_at_call 13; with_reducible exact beh_of (K1.out _ xx.below))
          | (go_at_call 13; with_reducible exact beh_of (K2.out _ xx.below))
         go_big_quiet_on)))
  refine wpQuiet_nil ?_
  rintro w1 ⟨⟨z1, hz1⟩, rfl⟩
  go_upto_region 7 with fail
  refine region_class (w0 := w) (by assumption) (by kernel_rfl) (by kernel_rfl) ?_
  repeat (first
    | go_big_quiet_skip
    | (go_big_quiet_want; go_big_quiet_op; first
      | go_big_quiet_on
      | (apply Exists.intro
         refine ⟨fun xx => ?_, ?_⟩
         focus first
          | (go_at_call 18; with_reducible exact beh_same (mux_any _ _ _ _))
          | (go_at_call 13; with_reducible exact beh_of (K3.out _ xx.below))
          | (go_at_call 11; with_reducible exact beh_of (lives_at HT.out xx.below))
         go_big_quiet_on)))
  refine wpQuiet_nil ?_
  rintro w2 ⟨⟨z2, hz2⟩, rfl⟩
  go_wp2_with fail
  go_ret
  exact ⟨rfl, by assumption⟩


theorem gates_any (l : List Int) (s : Value) (w : World) (ht : Tabs w) (hs : Vs w w.heap.size s l) (A : Option Addr) (c b o : Nat) (hv : s = .slice A l.length c) (hA : 0 < l.length → A = some ⟨b, o, none⟩) (hlc : l.length ≤ c)
    (hp : ∀ k, k < l.length → 0 ≤ l.getD k 0 ∧ l.getD k 0 ≤ 255) (hc : ∀ k, k < l.length → b < w.heap.size ∧ w.cell? ⟨b, o + k, none⟩ = some (.int .u8 (l.getD k 0))) :
    Calls Tryd.prog 3 #[s] w fun e w' => e = .returned (.bool true) ∧ Below w.heap.size w w' := by
  subst hv
  by_cases h7 : 7 < l.length
  · exact gates_long A _ c w ht h7
  have hp' : ∀ v ∈ l, 0 ≤ v := fun v hv => by
    obtain ⟨k, hk, rfl⟩ := List.mem_iff_getElem.1 hv
    have := (hp k hk).1
    rw [List.getD_eq_getElem?_getD, List.getElem?_eq_getElem hk] at this
    exact this
  have ap : ∀ q, Counts q → ∀ w', Below w.heap.size w w' → Calls Tryd.prog 13 #[.int .u8 q, .slice A l.length c] w' fun e w'' => e = .returned (.int .u8 (cntL q l)) ∧ Below w.heap.size w w'' := fun q hq w' h =>
    rel (count_apply q hq l _ _ c b o A rfl hA w' rfl (by omega) hp' fun k hk => ⟨Nat.lt_of_lt_of_le (hc k hk).1 h.size, (h.cell (p := ⟨b, o + k, none⟩) (hc k hk).1).trans (hc k hk).2⟩) h
  have H4 := ap 5 (by unfold Counts; omega)
  have H5 := ap 7 (by unfold Counts; omega)
  have H6 := ap 9 (by unfold Counts; omega)
  generalize hn : l.length = n at *
  by_cases n0 : n = 0
  · subst n0
    exact gates_0 l A c w ht hs hn.symm (by omega) (Lib.hid H4) (Lib.hid H5) (Lib.hid H6)
  obtain rfl := hA (by omega)
  by_cases n1 : n = 1
  · subst n1
    exact gates_1 l w c b o _ (hc 0 (by omega)).1 (hc 0 (by omega)).2 hlc ht hs hn.symm (by omega) (Lib.hid H4) (Lib.hid H5) (Lib.hid H6)
  by_cases n2 : n = 2
  · subst n2
    exact gates_2 l w c b o _ _ (hc 0 (by omega)).1 (hc 0 (by omega)).2 (hc 1 (by omega)).2 hlc ht hs hn.symm (by omega) (Lib.hid H4) (Lib.hid H5) (Lib.hid H6)
  exact gates_3 l w n c b o _ _ _ (hc 0 (by omega)).1 (hc 0 (by omega)).2 (hc 1 (by omega)).2 (hc 2 (by omega)).2 hlc (by omega) ht hs hn.symm (by omega) (Lib.hid H4) (Lib.hid H5) (Lib.hid H6)

end Go.Proofs.YtdanmepbdjfpfaaDoor
