/- The walks of the functions of the pairs package that take single pairs: Of, D, B, clean, Known, Differs, Below, join, Join. -/
import Derived.Test.YtnddgkcgedkabaaDoorKit
import Derived.Test.YtnddgkcgedkabaaDoorPrp
import Derived.Deep.RegionWith
namespace Go.Proofs.YtnddgkcgedkabaaDoor
open Go.RowKit

/-- Two pairs are compared field by field. -/
theorem eg_pair (op : BinOp) (x y : Operand) (xs ys : Array Value) (w : World) : (eqGuard op 28 x y (.agg xs) (.agg ys)).run Tryd.prog w = .ok () w := run_eqGuard_agg w op 28 x y xs ys (by kernel_rfl)
theorem eqIn_pair (a b c d : Int) (w : World) : (Op.equalIn 10000 28 (.agg #[.int .u8 a, .int .u8 b]) (.agg #[.int .u8 c, .int .u8 d])).run Tryd.prog w = .ok (a == c && b == d) w := by
  have hp : Tryd.prog.plainKey 26 = true := by kernel_rfl
  have p0 : ∀ (x y : Int) (w : World), (part 26 #[Value.int .u8 x, .int .u8 y] 0).run Tryd.prog w = .ok (.int .u8 x) w := fun x y w => run_part_plain _ hp rfl
  have p1 : ∀ (x y : Int) (w : World), (part 26 #[Value.int .u8 x, .int .u8 y] 1).run Tryd.prog w = .ok (.int .u8 y) w := fun x y w => run_part_plain _ hp rfl
  have q0 : ∀ (x y : Int) (w : World), (Op.equalIn 9999 26 (.int .u8 x) (.int .u8 y)).run Tryd.prog w = .ok (x == y) w := fun x y w => run_equalIn_int w 9998 _ _ _ x y Tryd.underlying26
  rw [run_equalIn_agg w 9999 28 _ _ (by kernel_rfl) (by kernel_rfl)]
  simp only [Program.fieldsOf, Tryd.underlying28, Op.eqFields]
  cases h1 : (a == c) <;> cases h2 : (b == d) <;> simp [Sem.run_bind, p0, p1, q0, h1, h2, Sem.run_pure]
theorem eq_pair (a b c d : Int) (w : World) : (binOp .eql 28 (.agg #[.int .u8 a, .int .u8 b]) (.agg #[.int .u8 c, .int .u8 d])).run Tryd.prog w = .ok (.bool (a == c && b == d)) w := by
  rw [run_eql_struct, eqIn_pair]; rfl
theorem ne_pair (a b c d : Int) (w : World) : (binOp .neq 28 (.agg #[.int .u8 a, .int .u8 b]) (.agg #[.int .u8 c, .int .u8 d])).run Tryd.prog w = .ok (.bool (!(a == c && b == d))) w := by
  rw [run_neq_struct, eqIn_pair]; rfl

set_option maxHeartbeats 400000 in
theorem dP_any (w : World) : Calls Tryd.prog 19 #[] w fun e w' => e = .returned (.agg #[.int .u8 1, .int .u8 0]) ∧ Below w.heap.size w w' := by
  go_enter Tryd.func19, Tryd.ntmps19
  go_wp2
  exact bodyPost_ret (v := .agg #[.int .u8 1, .int .u8 0]) (by simp [results, Tryd.results19, go_sem]) rfl ⟨rfl, (Below.refl _ _).alloc (Nat.le_refl _) _⟩

set_option maxHeartbeats 400000 in
theorem bP_any (w : World) : Calls Tryd.prog 21 #[] w fun e w' => e = .returned (.agg #[.int .u8 0, .int .u8 1]) ∧ Below w.heap.size w w' := by
  go_enter Tryd.func21, Tryd.ntmps21
  go_wp2
  exact bodyPost_ret (v := .agg #[.int .u8 0, .int .u8 1]) (by simp [results, Tryd.results21, go_sem]) rfl ⟨rfl, (Below.refl _ _).alloc (Nat.le_refl _) _⟩

set_option maxHeartbeats 400000 in
theorem cleanP_any (a b : Int) (w : World) : Calls Tryd.prog 42 #[.agg #[.int .u8 a, .int .u8 b]] w fun e w' => e = .returned (.agg #[.int .u8 (cln a), .int .u8 (cln b)]) ∧ Below w.heap.size w w' := by
  go_enter Tryd.func42, Tryd.ntmps42
  go_wp2
  go_region_with ((go_at_call 13; (with_reducible refine (clean_any _ _).mono ?_); rintro e w' ⟨rfl, rfl⟩))
  all_goals
    go_wp2
    exact bodyPost_ret (v := .agg #[.int .u8 (cln a), .int .u8 (cln b)]) (by simp [results, Tryd.results42, go_sem]) rfl ⟨rfl, (((Below.refl _ _).alloc (Nat.le_refl _) _).alloc (by simp) _).drew⟩

set_option maxHeartbeats 400000 in
theorem knownP_any (a b : Int) (w : World) : Calls Tryd.prog 27 #[.agg #[.int .u8 a, .int .u8 b]] w fun e w' => e = .returned (.bool (kn2 a b)) ∧ Below w.heap.size w w' := by
  obtain ⟨y, HY⟩ := named (kn2 a b)
  rw [← HY.out]
  cases ha : knw a
  all_goals
    go_enter Tryd.func27, Tryd.ntmps27
    go_wp2_with (go_at_call 28; (with_reducible refine (known_any _ _).mono ?_); rintro e w' ⟨rfl, rfl⟩)
    go_ret
    exact ⟨ret_bool (by rw [HY.out]; simp [kn2, ha]), (Below.refl _ _).alloc (Nat.le_refl _) _⟩

/-- A contract whose result is written otherwise. -/
theorem res_eq {P : Program} {f : FuncId} {args : Array Value} {w : World} {v v' : Value} (e : v' = v) (h : Calls P f args w fun e w' => e = .returned v' ∧ Below w.heap.size w w') :
    Calls P f args w fun e w' => e = .returned v ∧ Below w.heap.size w w' := e ▸ h

set_option maxHeartbeats 400000 in
theorem ofP_any (a : Int) (w : World) : Calls Tryd.prog 17 #[.int .u8 a] w fun e w' => e = .returned (.agg #[.int .u8 (cln a), .int .u8 (cln a)]) ∧ Below w.heap.size w w' := by
  have hb0 := Below.refl w.heap.size w
  obtain ⟨q, HQ⟩ := named (cln a)
  have hC := fun w => cleanP_any a a w
  rw [← HQ.out] at hC
  rw [← HQ.out]
  have HC := Lib.hid hC
  clear hC
  go_enter Tryd.func17, Tryd.ntmps17
  go_wp2_with (go_at_call 42; (with_reducible refine (HC.out _).mono ?_); rintro e w' ⟨rfl, hb⟩; obtain ⟨hc, hf⟩ := bcell hb; have hz : w.heap.size < w'.heap.size := by (have := hb.size; simp at this; omega))
  exact bodyPost_ret (v := .agg #[.int .u8 q, .int .u8 q]) (by simp [results, Tryd.results17, go_sem, hc]) rfl ⟨rfl, ((joinB ((Below.refl _ _).alloc (Nat.le_refl _) _) hb).setCell (Nat.le_refl _) _).setCell (Nat.le_refl _) _⟩

set_option maxHeartbeats 400000 in
theorem differs_any (a b : Int) (w : World) : Calls Tryd.prog 15 #[.agg #[.int .u8 a, .int .u8 b]] w fun e w' => e = .returned (.bool (dif a b)) ∧ Below w.heap.size w w' := by
  obtain ⟨y, HY⟩ := named (dif a b)
  rw [← HY.out]
  cases ha : kn2 a b
  all_goals
    go_enter Tryd.func15, Tryd.ntmps15
    go_wp2_with (go_at_call 27; (with_reducible refine (knownP_any _ _ _).mono ?_); rintro e w' ⟨rfl, hb⟩; rw [ha]; obtain ⟨hc, hf⟩ := bcell hb)
    go_ret
    exact ⟨ret_bool (by rw [HY.out]; first | (simp [dif, ha]; done) | (simp [dif, ha]; rfl)), joinB ((Below.refl _ _).alloc (Nat.le_refl _) _) hb⟩

set_option maxHeartbeats 400000 in
theorem belowP_any (a b c d : Int) (w : World) : Calls Tryd.prog 24 #[.agg #[.int .u8 a, .int .u8 b], .agg #[.int .u8 c, .int .u8 d]] w fun e w' => e = .returned (.bool (blw2 a b c d)) ∧ Below w.heap.size w w' := by
  obtain ⟨y, HY⟩ := named (blw2 a b c d)
  rw [← HY.out]
  cases ha : blw a c
  all_goals
    go_enter Tryd.func24, Tryd.ntmps24
    go_wp2_with (go_at_call 26; (with_reducible refine (below_any _ _ _).mono ?_); rintro e w' ⟨rfl, rfl⟩; try rw [ha])
    go_ret
    exact ⟨ret_bool (by rw [HY.out]; simp [blw2, ha]), ((Below.refl _ _).alloc (Nat.le_refl _) _).alloc (by simp) _⟩

set_option maxHeartbeats 400000 in
theorem join_any (a b : Int) (w : World) : Calls Tryd.prog 44 #[.int .u8 a, .int .u8 b] w fun e w' => e = .returned (.tuple #[.int .u8 (jn a b), .bool (jnb a b)]) ∧ w = w' := by
  obtain ⟨y, HY⟩ := named (jn a b)
  obtain ⟨z, HZ⟩ := named (jnb a b)
  rw [← HY.out, ← HZ.out]
  cases ha : blw a b <;> cases hb : blw b a
  all_goals
    go_enter Tryd.func44, Tryd.ntmps44
    go_wp2_with (first
      | (go_at_call 26; (with_reducible refine (below_any _ _ _).mono ?_); rintro e w' ⟨rfl, rfl⟩; first | rw [ha] | rw [hb])
      | (go_at_call 13; (with_reducible refine (clean_any _ _).mono ?_); rintro e w' ⟨rfl, rfl⟩))
    go_ret2
    exact ⟨by rw [HY.out, HZ.out]; simp [jn, jnb, ha, hb], rfl⟩

end Go.Proofs.YtnddgkcgedkabaaDoor
