/- The walk of the law on the order of the values: for every three values it returns true, and nothing that was there before changes. -/
import Derived.Test.YtdanmepbdjfpfaaDoorLives
namespace Go.Proofs.YtdanmepbdjfpfaaDoor
open Go.RowKit

theorem lives_rel {w0 w : World} (ht : Tabs w) (hb : Below w0.heap.size w0 w) : Calls Tryd.prog 11 #[] w fun e w' => e = .returned (.bool true) ∧ Below w0.heap.size w0 w' := rel (lives_any w ht) hb

theorem cln_cln (a : Int) : cln (cln a) = cln a := by unfold cln; split <;> simp_all
theorem rd_rd (a : Int) : rd (rd a) = rd a := by rcases rd_cases a with h | h | h <;> rw [h] <;> decide
theorem blw_self (a : Int) : blw a a = true := by simp [blw]
theorem blw_two (a : Int) : blw 2 a = true := by simp [blw, show cln 2 = 2 by decide]
theorem blw_rd (a : Int) : blw (rd a) a = true := by
  rcases knw_cases a with ⟨h, -, h1, h2⟩ | ⟨h, -, h1, h2⟩ | ⟨h, h', h1, h2⟩
  · simp [blw, h1, h2, show cln 0 = 0 by decide]
  · simp [blw, h1, h2, show cln 1 = 1 by decide]
  · rw [h2]; exact blw_two a
theorem blw_trans {a b c : Int} (h1 : blw a b = true) (h2 : blw b c = true) : blw a c = true := by
  simp only [blw, Bool.or_eq_true, beq_iff_eq] at *
  omega
theorem blw_anti {a b : Int} (h1 : blw a b = true) (h2 : blw b a = true) : cln a = cln b := by
  simp only [blw, Bool.or_eq_true, beq_iff_eq] at *
  omega

/-- The ways in which three values lie to each other. -/
theorem blw_ways (a b c : Int) :
    (blw a b = false ∧ (cln a == cln b) = false ∧ (cln a == 2) = false ∧ True) ∨
    (blw a b = true ∧ (cln a == cln b) = true ∧ (cln a != cln b) = false ∧ blw b c = true ∧ blw a c = true ∧ blw b a = true) ∨
    (blw a b = true ∧ (cln a == cln b) = true ∧ (cln a != cln b) = false ∧ blw b c = false ∧ blw b a = true) ∨
    (blw a b = true ∧ (cln a == cln b) = false ∧ (cln a == 2) = true ∧ blw b c = true ∧ blw a c = true ∧ blw b a = false) ∨
    (blw a b = true ∧ (cln a == cln b) = false ∧ (cln a == 2) = true ∧ blw b c = false ∧ blw b a = false) := by
  have h : blw a b = ((cln a == cln b) || (cln a == 2)) := rfl
  have h' : blw b a = ((cln b == cln a) || (cln b == 2)) := rfl
  cases e : (cln a == cln b)
  · cases f : (cln a == 2)
    · exact .inl ⟨by rw [h, e, f]; rfl, rfl, rfl, trivial⟩
    · have hab : blw a b = true := by rw [h, e, f]; rfl
      have hba : blw b a = false := by
        cases r : blw b a
        · rfl
        · have := blw_anti hab r; rw [this] at e; simp at e
      cases q : blw b c
      · exact .inr (.inr (.inr (.inr ⟨hab, rfl, rfl, rfl, hba⟩)))
      · exact .inr (.inr (.inr (.inl ⟨hab, rfl, rfl, rfl, blw_trans hab q, hba⟩)))
  · have hab : blw a b = true := by rw [h, e]; rfl
    have hne : (cln a != cln b) = false := by simp only [bne, e]; rfl
    have hba : blw b a = true := by
      have e' : cln a = cln b := by simpa using e
      rw [h', e']; simp
    cases q : blw b c
    · exact .inr (.inr (.inl ⟨hab, rfl, hne, rfl, hba⟩))
    · exact .inr (.inl ⟨hab, rfl, hne, rfl, blw_trans hab q, hba⟩)

/-- The kinds of one value. -/
theorem one_ways (a : Int) (h0 : 0 ≤ a) :
    ((a == 0) = true ∧ (a == 1) = false ∧ (a == 2) = false ∧ knw a = true ∧ (rd a == a) = true ∧ (cln a == a) = true ∧ decide (a ≤ 3) = true) ∨
    ((a == 0) = false ∧ (a == 1) = true ∧ (a == 2) = false ∧ knw a = true ∧ (rd a == a) = true ∧ (cln a == a) = true ∧ decide (a ≤ 3) = true) ∨
    ((a == 0) = false ∧ (a == 1) = false ∧ (a == 2) = true ∧ knw a = false ∧ (rd a == a) = true ∧ (cln a == a) = true ∧ decide (a ≤ 3) = true) ∨
    ((a == 0) = false ∧ (a == 1) = false ∧ (a == 2) = false ∧ knw a = false ∧ (rd a == a) = false ∧ (cln a == a) = true ∧ decide (a ≤ 3) = true) ∨
    ((a == 0) = false ∧ (a == 1) = false ∧ (a == 2) = false ∧ knw a = false ∧ (rd a == a) = false ∧ (cln a == a) = false ∧ decide (a ≤ 3) = false) := by
  by_cases h1 : a = 0
  · subst h1; exact .inl (by decide)
  by_cases h2 : a = 1
  · subst h2; exact .inr (.inl (by decide))
  by_cases h3 : a = 2
  · subst h3; exact .inr (.inr (.inl (by decide)))
  by_cases h4 : a = 3
  · subst h4; exact .inr (.inr (.inr (.inl (by decide))))
  have k : knw a = false := by simp [knw, h1, h2]
  have r : rd a = 2 := by simp [rd, k]
  have c : cln a = 2 := by unfold cln; rw [if_pos (by omega)]
  refine .inr (.inr (.inr (.inr ⟨by simpa using h1, by simpa using h2, by simpa using h3, k, ?_, ?_, by simp; omega⟩)))
  · rw [r]; simp; omega
  · rw [c]; simp; omega
theorem cln_le (a : Int) : decide (cln a ≤ 3) = true := by unfold cln; split <;> simp <;> omega


set_option maxHeartbeats 4000000 in
set_option maxRecDepth 100000 in
theorem order_k0 (a b c : Int) (w : World) (ht : Tabs w) (k0 : (a == 0) = true) (_k1 : (a == 1) = false) (_k2 : (a == 2) = false) (k3 : knw a = true) (k4 : (rd a == a) = true) (k5 : (cln a == a) = true) (k6 : decide (a ≤ 3) = true) :
    Calls Tryd.prog 7 #[.agg #[.int .u8 a, .int .u8 b, .int .u8 c]] w fun e w' => e = .returned (.bool true) ∧ Below w.heap.size w w' := by
  have HT := Lib.hid ht
  have f1 := blw_self a
  have f2 := blw_two a
  have f3 := cln_cln a
  have f4 := rd_rd a
  have f5 := blw_rd a
  have f6 := cln_le a
  clear ht
  rcases blw_ways a b c with ⟨p1, p2, p3, p4⟩ | ⟨p1, p2, p3, p4, p5, p6⟩ | ⟨p1, p2, p3, p4, p5⟩ | ⟨p1, p2, p3, p4, p5, p6⟩ | ⟨p1, p2, p3, p4, p5⟩
  all_goals
    go_enter Tryd.func7, Tryd.ntmps7
    go_wp2
    go_quiet (fail)
    have hb0 : Below w.heap.size w ((w.alloc (.cells #[.int .u8 a, .int .u8 b, .int .u8 c] 41)).drewN nq) := below_drewN ((Below.refl _ _).alloc (Nat.le_refl _) _) nq
    go_wp2_with (first
      | (go_at_call 26; (with_reducible refine (below_any _ _ _).mono ?_); rintro e w' ⟨rfl, rfl⟩)
      | (go_at_call 25; (with_reducible refine (clean_any _ _).mono ?_); rintro e w' ⟨rfl, rfl⟩)
      | (go_at_call 27; (with_reducible refine (read_any _ _).mono ?_); rintro e w' ⟨rfl, rfl⟩)
      | (go_at_call 28; (with_reducible refine (known_any _ _).mono ?_); rintro e w' ⟨rfl, rfl⟩)
      | (go_at_call 11; (with_reducible refine (lives_rel (HT.out.below hb0) hb0).mono ?_); rintro e w' ⟨rfl, hb⟩))
    go_ret
    exact ⟨rfl, by assumption⟩

set_option maxHeartbeats 4000000 in
set_option maxRecDepth 100000 in
theorem order_k1 (a b c : Int) (w : World) (ht : Tabs w) (k0 : (a == 0) = false) (k1 : (a == 1) = true) (_k2 : (a == 2) = false) (k3 : knw a = true) (k4 : (rd a == a) = true) (k5 : (cln a == a) = true) (k6 : decide (a ≤ 3) = true) :
    Calls Tryd.prog 7 #[.agg #[.int .u8 a, .int .u8 b, .int .u8 c]] w fun e w' => e = .returned (.bool true) ∧ Below w.heap.size w w' := by
  have HT := Lib.hid ht
  have f1 := blw_self a
  have f2 := blw_two a
  have f3 := cln_cln a
  have f4 := rd_rd a
  have f5 := blw_rd a
  have f6 := cln_le a
  clear ht
  rcases blw_ways a b c with ⟨p1, p2, p3, p4⟩ | ⟨p1, p2, p3, p4, p5, p6⟩ | ⟨p1, p2, p3, p4, p5⟩ | ⟨p1, p2, p3, p4, p5, p6⟩ | ⟨p1, p2, p3, p4, p5⟩
  all_goals
    go_enter Tryd.func7, Tryd.ntmps7
    go_wp2
    go_quiet (fail)
    have hb0 : Below w.heap.size w ((w.alloc (.cells #[.int .u8 a, .int .u8 b, .int .u8 c] 41)).drewN nq) := below_drewN ((Below.refl _ _).alloc (Nat.le_refl _) _) nq
    go_wp2_with (first
      | (go_at_call 26; (with_reducible refine (below_any _ _ _).mono ?_); rintro e w' ⟨rfl, rfl⟩)
      | (go_at_call 25; (with_reducible refine (clean_any _ _).mono ?_); rintro e w' ⟨rfl, rfl⟩)
      | (go_at_call 27; (with_reducible refine (read_any _ _).mono ?_); rintro e w' ⟨rfl, rfl⟩)
      | (go_at_call 28; (with_reducible refine (known_any _ _).mono ?_); rintro e w' ⟨rfl, rfl⟩)
      | (go_at_call 11; (with_reducible refine (lives_rel (HT.out.below hb0) hb0).mono ?_); rintro e w' ⟨rfl, hb⟩))
    go_ret
    exact ⟨rfl, by assumption⟩

set_option maxHeartbeats 4000000 in
set_option maxRecDepth 100000 in
theorem order_k2 (a b c : Int) (w : World) (ht : Tabs w) (k0 : (a == 0) = false) (k1 : (a == 1) = false) (k2 : (a == 2) = true) (k3 : knw a = false) (k4 : (rd a == a) = true) (k5 : (cln a == a) = true) (k6 : decide (a ≤ 3) = true) :
    Calls Tryd.prog 7 #[.agg #[.int .u8 a, .int .u8 b, .int .u8 c]] w fun e w' => e = .returned (.bool true) ∧ Below w.heap.size w w' := by
  have HT := Lib.hid ht
  have f1 := blw_self a
  have f2 := blw_two a
  have f3 := cln_cln a
  have f4 := rd_rd a
  have f5 := blw_rd a
  have f6 := cln_le a
  clear ht
  rcases blw_ways a b c with ⟨p1, p2, p3, p4⟩ | ⟨p1, p2, p3, p4, p5, p6⟩ | ⟨p1, p2, p3, p4, p5⟩ | ⟨p1, p2, p3, p4, p5, p6⟩ | ⟨p1, p2, p3, p4, p5⟩
  all_goals
    go_enter Tryd.func7, Tryd.ntmps7
    go_wp2
    go_quiet (fail)
    have hb0 : Below w.heap.size w ((w.alloc (.cells #[.int .u8 a, .int .u8 b, .int .u8 c] 41)).drewN nq) := below_drewN ((Below.refl _ _).alloc (Nat.le_refl _) _) nq
    go_wp2_with (first
      | (go_at_call 26; (with_reducible refine (below_any _ _ _).mono ?_); rintro e w' ⟨rfl, rfl⟩)
      | (go_at_call 25; (with_reducible refine (clean_any _ _).mono ?_); rintro e w' ⟨rfl, rfl⟩)
      | (go_at_call 27; (with_reducible refine (read_any _ _).mono ?_); rintro e w' ⟨rfl, rfl⟩)
      | (go_at_call 28; (with_reducible refine (known_any _ _).mono ?_); rintro e w' ⟨rfl, rfl⟩)
      | (go_at_call 11; (with_reducible refine (lives_rel (HT.out.below hb0) hb0).mono ?_); rintro e w' ⟨rfl, hb⟩))
    go_ret
    exact ⟨rfl, by assumption⟩

set_option maxHeartbeats 4000000 in
set_option maxRecDepth 100000 in
theorem order_k3 (a b c : Int) (w : World) (ht : Tabs w) (k0 : (a == 0) = false) (k1 : (a == 1) = false) (k2 : (a == 2) = false) (k3 : knw a = false) (k4 : (rd a == a) = false) (k5 : (cln a == a) = true) (k6 : decide (a ≤ 3) = true) :
    Calls Tryd.prog 7 #[.agg #[.int .u8 a, .int .u8 b, .int .u8 c]] w fun e w' => e = .returned (.bool true) ∧ Below w.heap.size w w' := by
  have HT := Lib.hid ht
  have f1 := blw_self a
  have f2 := blw_two a
  have f3 := cln_cln a
  have f4 := rd_rd a
  have f5 := blw_rd a
  have f6 := cln_le a
  clear ht
  rcases blw_ways a b c with ⟨p1, p2, p3, p4⟩ | ⟨p1, p2, p3, p4, p5, p6⟩ | ⟨p1, p2, p3, p4, p5⟩ | ⟨p1, p2, p3, p4, p5, p6⟩ | ⟨p1, p2, p3, p4, p5⟩
  all_goals
    go_enter Tryd.func7, Tryd.ntmps7
    go_wp2
    go_quiet (fail)
    have hb0 : Below w.heap.size w ((w.alloc (.cells #[.int .u8 a, .int .u8 b, .int .u8 c] 41)).drewN nq) := below_drewN ((Below.refl _ _).alloc (Nat.le_refl _) _) nq
    go_wp2_with (first
      | (go_at_call 26; (with_reducible refine (below_any _ _ _).mono ?_); rintro e w' ⟨rfl, rfl⟩)
      | (go_at_call 25; (with_reducible refine (clean_any _ _).mono ?_); rintro e w' ⟨rfl, rfl⟩)
      | (go_at_call 27; (with_reducible refine (read_any _ _).mono ?_); rintro e w' ⟨rfl, rfl⟩)
      | (go_at_call 28; (with_reducible refine (known_any _ _).mono ?_); rintro e w' ⟨rfl, rfl⟩)
      | (go_at_call 11; (with_reducible refine (lives_rel (HT.out.below hb0) hb0).mono ?_); rintro e w' ⟨rfl, hb⟩))
    go_ret
    exact ⟨rfl, by assumption⟩

set_option maxHeartbeats 4000000 in
set_option maxRecDepth 100000 in
theorem order_k4 (a b c : Int) (w : World) (ht : Tabs w) (k0 : (a == 0) = false) (k1 : (a == 1) = false) (k2 : (a == 2) = false) (k3 : knw a = false) (k4 : (rd a == a) = false) (k5 : (cln a == a) = false) (k6 : decide (a ≤ 3) = false) :
    Calls Tryd.prog 7 #[.agg #[.int .u8 a, .int .u8 b, .int .u8 c]] w fun e w' => e = .returned (.bool true) ∧ Below w.heap.size w w' := by
  have HT := Lib.hid ht
  have f1 := blw_self a
  have f2 := blw_two a
  have f3 := cln_cln a
  have f4 := rd_rd a
  have f5 := blw_rd a
  have f6 := cln_le a
  clear ht
  rcases blw_ways a b c with ⟨p1, p2, p3, p4⟩ | ⟨p1, p2, p3, p4, p5, p6⟩ | ⟨p1, p2, p3, p4, p5⟩ | ⟨p1, p2, p3, p4, p5, p6⟩ | ⟨p1, p2, p3, p4, p5⟩
  all_goals
    go_enter Tryd.func7, Tryd.ntmps7
    go_wp2
    go_quiet (fail)
    have hb0 : Below w.heap.size w ((w.alloc (.cells #[.int .u8 a, .int .u8 b, .int .u8 c] 41)).drewN nq) := below_drewN ((Below.refl _ _).alloc (Nat.le_refl _) _) nq
    go_wp2_with (first
      | (go_at_call 26; (with_reducible refine (below_any _ _ _).mono ?_); rintro e w' ⟨rfl, rfl⟩)
      | (go_at_call 25; (with_reducible refine (clean_any _ _).mono ?_); rintro e w' ⟨rfl, rfl⟩)
      | (go_at_call 27; (with_reducible refine (read_any _ _).mono ?_); rintro e w' ⟨rfl, rfl⟩)
      | (go_at_call 28; (with_reducible refine (known_any _ _).mono ?_); rintro e w' ⟨rfl, rfl⟩)
      | (go_at_call 11; (with_reducible refine (lives_rel (HT.out.below hb0) hb0).mono ?_); rintro e w' ⟨rfl, hb⟩))
    go_ret
    exact ⟨rfl, by assumption⟩

theorem order_any (a b c : Int) (h0 : 0 ≤ a) (w : World) (ht : Tabs w) :
    Calls Tryd.prog 7 #[.agg #[.int .u8 a, .int .u8 b, .int .u8 c]] w fun e w' => e = .returned (.bool true) ∧ Below w.heap.size w w' := by
  rcases one_ways a h0 with ⟨k0, k1, k2, k3, k4, k5, k6⟩ | ⟨k0, k1, k2, k3, k4, k5, k6⟩ | ⟨k0, k1, k2, k3, k4, k5, k6⟩ | ⟨k0, k1, k2, k3, k4, k5, k6⟩ | ⟨k0, k1, k2, k3, k4, k5, k6⟩
  · exact order_k0 a b c w ht k0 k1 k2 k3 k4 k5 k6
  · exact order_k1 a b c w ht k0 k1 k2 k3 k4 k5 k6
  · exact order_k2 a b c w ht k0 k1 k2 k3 k4 k5 k6
  · exact order_k3 a b c w ht k0 k1 k2 k3 k4 k5 k6
  · exact order_k4 a b c w ht k0 k1 k2 k3 k4 k5 k6

end Go.Proofs.YtdanmepbdjfpfaaDoor
