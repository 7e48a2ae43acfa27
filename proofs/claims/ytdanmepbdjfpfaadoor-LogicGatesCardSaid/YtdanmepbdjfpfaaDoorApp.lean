/- The walk of the reference's Apply, for the kinds that go by counted. -/
import Derived.Test.YtdanmepbdjfpfaaDoorCnt
namespace Go.Proofs.YtdanmepbdjfpfaaDoor
open Go.RowKit

/-- What a list of results has in common. -/
def tabI (y : Int) : Int := if y = 0 then 0 else if y = 1 then 1 else if y = 2 then 3 else 2
def allEq (L : List Int) : Bool := L.all fun x => x == L.getD 0 0
def apL (L : List Int) : Int := if allEq L = true then tabI (L.getD 0 0) else 2
theorem allEq_no {L : List Int} (k : Nat) (hk : k < L.length) (h : (L.getD k 0 == L.getD 0 0) = false) : allEq L = false := by
  rw [List.getD_eq_getElem?_getD, List.getElem?_eq_getElem hk] at h
  exact List.all_eq_false.2 ⟨L[k], List.getElem_mem hk, by simpa using h⟩
theorem allEq_yes {L : List Int} (h : ∀ j, j < L.length → (L.getD j 0 == L.getD 0 0) = true) : allEq L = true := by
  refine List.all_eq_true.2 fun x hx => ?_
  obtain ⟨k, hk, rfl⟩ := List.mem_iff_getElem.1 hx
  have := h k hk
  rw [List.getD_eq_getElem?_getD, List.getElem?_eq_getElem hk] at this
  exact this

theorem counts_test (q : Int) (hq : Counts q) : (decide (5 ≤ q) = true ∧ decide (q ≤ 10) = true ∧ q ≠ 13) ∨ q = 13 := by
  rcases hq with rfl | rfl | rfl | rfl | rfl | rfl | rfl <;> simp

theorem vi_cell {w : World} {B g n c k : Nat} {l : List Int} (h : Vi w B (.slice (some ⟨g, 0, none⟩) n c) l) (hk : k < l.length) : w.cell? ⟨g, k, none⟩ = some (.int .i64 (l.getD k 0)) := by
  obtain ⟨b, o, c', hv, -, hc⟩ := h
  rcases hv with hv | ⟨rfl, -⟩
  · simp only [Value.slice.injEq, Option.some.injEq, Addr.mk.injEq, and_true] at hv
    obtain ⟨⟨rfl, rfl⟩, -, -⟩ := hv
    have := (hc k hk).2
    rw [Nat.zero_add] at this
    exact this
  · simp at hk

set_option maxHeartbeats 1000000 in
set_option maxRecDepth 100000 in
theorem apply_lo (q : Int) (l : List Int) (s : Value) (n c b o : Nat) (A : Option Addr) (hv : s = .slice A n c) (hA : 0 < n → A = some ⟨b, o, none⟩) (w : World) (hn : n = l.length) (h7 : n ≤ 7) (hq : Counts q) (t1 : decide (5 ≤ q) = true) (t2 : decide (q ≤ 10) = true)
    (hc : ∀ k, k < n → b < w.heap.size ∧ w.cell? ⟨b, o + k, none⟩ = some (.int .u8 (l.getD k 0))) (L : List Int) (hL : L = (cS l (q == 13)).map (fnT q)) (hy : L.getD 0 0 = 0 ∨ L.getD 0 0 = 1 ∨ L.getD 0 0 = 2 ∨ L.getD 0 0 = 3) :
    Calls Tryd.prog 13 #[.int .u8 q, s] w fun e w' => e = .returned (.int .u8 (apL L)) ∧ Below w.heap.size w w' := by
  have HA := Lib.hid hA
  have HC := Lib.hid hc
  have HN := Lib.hid hn
  have HL := Lib.hid hL
  have HQ := Lib.hid hq
  have HP : Hid (1 ≤ L.length ∧ L.length ≤ 2187) := Lib.hid (by rw [hL, List.length_map]; exact ⟨cS_pos _ _, cS_small _ _ (by rw [← hn]; exact h7)⟩)
  have HLL : Hid ((cS l (q == 13)).length = L.length) := Lib.hid (by rw [hL, List.length_map])
  obtain ⟨y, HY⟩ := named (apL L)
  rw [← HY.out]
  obtain ⟨y0, HY0⟩ := named (L.getD 0 0)
  rw [← HY0.out] at hy
  obtain ⟨N, HNN⟩ := named L.length
  rw [← HNN.out] at HP HLL
  have hN1 : 1 ≤ N := HP.out.1
  have hN2 : N ≤ 2187 := HP.out.2
  have HV := Lib.hid hv
  have HYY := Lib.hid hy
  clear hn hL hq hc hA hv hy
  go_enter Tryd.func13, Tryd.ntmps13
  go_wp2_with fail
  have HB0 : Hid (Below w.heap.size w (w.alloc (.cells #[] 3))) := Lib.hid (below_new (Below.refl _ _) _)
  (with_reducible refine (counted_any q l s n c b o A HV.out HA.out _ HN.out h7 HQ.out ?hc).mono ?_)
  case hc => exact fun k hk => ⟨by have := (HC.out k hk).1; simp; omega, (World.cell?_alloc_lt _ _ _ (HC.out k hk).1).trans (HC.out k hk).2⟩
  rintro e w1 ⟨gv, cv, rfl, hb1, hvi⟩
  rw [HLL.out, ← HL.out] at hvi
  rw [HLL.out]
  have HB1 : Hid (Below w.heap.size w w1) := Lib.hid (join HB0.out hb1)
  have HCV : Hid (∀ k, k < N → w1.cell? ⟨gv, k, none⟩ = some (.int .i64 (L.getD k 0))) := Lib.hid fun k hk => vi_cell hvi (by rw [← HNN.out]; exact hk)
  clear hvi hb1
  have h00 : w1.cell? ⟨gv, 0, none⟩ = some (.int .i64 y0) := by rw [HY0.out]; exact HCV.out 0 (by omega)
  have h0N : (0 : Int) < (N : Int) := by omega
  have h0N' : 0 < N := by omega
  go_wp2_with fail
  go_loopw [6] (fun i wr => ∃ k : Nat, k ≤ N ∧ i = .int .i64 k ∧ (∀ j, j < k → (L.getD j 0 == y0) = true) ∧ ∃ z, wr = w1.drewN z) (fun i _ => N - (intOf i).toNat)
  case atStart => exact ⟨0, Nat.zero_le _, rfl, fun j hj => absurd hj (by omega), 0, rfl⟩
  case round =>
    obtain ⟨k, hk, rfl, hall, z, rfl⟩ := hrel
    have HALL := Lib.hid hall
    clear hall
    by_cases hkN : k < N
    · have hck := HCV.out k hkN
      obtain ⟨x, HX⟩ := named (L.getD k 0)
      rw [← HX.out] at hck
      cases hxy : (x == y0)
      · have hne : (x != y0) = true := by simp only [bne, hxy]; rfl
        go_wp2_with fail
        go_quiet (fail)
        go_wp2_with fail
        go_ret
        exact ⟨ret_int (by rw [HY.out, apL, if_neg (by rw [allEq_no k (by rw [← HNN.out]; exact hkN) (by rw [← HX.out, ← HY0.out]; exact hxy)]; decide)]), below_drewN (below_drewN HB1.out _) _⟩
      · have hne : (x != y0) = false := by simp only [bne, hxy]; rfl
        go_wp2_with fail
        go_quiet (fail)
        go_wp2_with fail
        go_roundw
        case rel =>
          refine ⟨k + 1, by omega, by go_num, fun j hj => ?_, _, rfl⟩
          by_cases hjk : j = k
          · rw [hjk, ← HX.out]; exact hxy
          · exact HALL.out j (by omega)
        case measure => simp [intOf]; omega
    · obtain rfl : N = k := by omega
      have HE : Hid (y = tabI y0) := Lib.hid (by rw [HY.out, apL, if_pos (allEq_yes fun j hj => by rw [← HY0.out]; exact HALL.out j (by rw [HNN.out]; exact hj)), HY0.out])
      have h00' : ∀ o, ((w1.drewN z).alloc o).cell? ⟨gv, 0, none⟩ = some (.int .i64 y0) := fun o => (World.cell?_alloc_lt _ _ _ (cell_lt h00)).trans h00
      have h00'' : ∀ o, (w1.alloc o).cell? ⟨gv, 0, none⟩ = some (.int .i64 y0) := fun o => (World.cell?_alloc_lt _ _ _ (cell_lt h00)).trans h00
      have hn0 : ∀ t : Nat, ((w1.drewN z).alloc (.cells #[.int .u8 0, .int .u8 1, .int .u8 3, .int .u8 2] t)).cell? ⟨w1.heap.size, 0, none⟩ = some (.int .u8 0) := fun t => (World.cell?_alloc_at _ t _ _ rfl).trans rfl
      have hn1 : ∀ t : Nat, ((w1.drewN z).alloc (.cells #[.int .u8 0, .int .u8 1, .int .u8 3, .int .u8 2] t)).cell? ⟨w1.heap.size, 1, none⟩ = some (.int .u8 1) := fun t => (World.cell?_alloc_at _ t _ _ rfl).trans rfl
      have hn2 : ∀ t : Nat, ((w1.drewN z).alloc (.cells #[.int .u8 0, .int .u8 1, .int .u8 3, .int .u8 2] t)).cell? ⟨w1.heap.size, 2, none⟩ = some (.int .u8 3) := fun t => (World.cell?_alloc_at _ t _ _ rfl).trans rfl
      have hn3 : ∀ t : Nat, ((w1.drewN z).alloc (.cells #[.int .u8 0, .int .u8 1, .int .u8 3, .int .u8 2] t)).cell? ⟨w1.heap.size, 3, none⟩ = some (.int .u8 2) := fun t => (World.cell?_alloc_at _ t _ _ rfl).trans rfl
      rcases HYY.out with rfl | rfl | rfl | rfl
      all_goals
        go_wp2_with fail
        go_ret
        exact ⟨ret_int (by rw [HE.out]; rfl), by first | exact below_drewN (below_new HB1.out _) _ | exact below_new (below_drewN HB1.out _) _⟩

set_option maxHeartbeats 1000000 in
set_option maxRecDepth 100000 in
theorem apply_13 (l : List Int) (s : Value) (n c b o : Nat) (A : Option Addr) (hv : s = .slice A n c) (hA : 0 < n → A = some ⟨b, o, none⟩) (w : World) (hn : n = l.length) (h7 : n ≤ 7) (hq : Counts 13)
    (hc : ∀ k, k < n → b < w.heap.size ∧ w.cell? ⟨b, o + k, none⟩ = some (.int .u8 (l.getD k 0))) (L : List Int) (hL : L = (cS l ((13 : Int) == 13)).map (fnT 13)) (hy : L.getD 0 0 = 0 ∨ L.getD 0 0 = 1 ∨ L.getD 0 0 = 2 ∨ L.getD 0 0 = 3) :
    Calls Tryd.prog 13 #[.int .u8 13, s] w fun e w' => e = .returned (.int .u8 (apL L)) ∧ Below w.heap.size w w' := by
  have HA := Lib.hid hA
  have HC := Lib.hid hc
  have HN := Lib.hid hn
  have HL := Lib.hid hL
  have HQ := Lib.hid hq
  have HP : Hid (1 ≤ L.length ∧ L.length ≤ 2187) := Lib.hid (by rw [hL, List.length_map]; exact ⟨cS_pos _ _, cS_small _ _ (by rw [← hn]; exact h7)⟩)
  have HLL : Hid ((cS l ((13 : Int) == 13)).length = L.length) := Lib.hid (by rw [hL, List.length_map])
  obtain ⟨y, HY⟩ := named (apL L)
  rw [← HY.out]
  obtain ⟨y0, HY0⟩ := named (L.getD 0 0)
  rw [← HY0.out] at hy
  obtain ⟨N, HNN⟩ := named L.length
  rw [← HNN.out] at HP HLL
  have hN1 : 1 ≤ N := HP.out.1
  have hN2 : N ≤ 2187 := HP.out.2
  have HV := Lib.hid hv
  have HYY := Lib.hid hy
  clear hn hL hq hc hA hv hy
  go_enter Tryd.func13, Tryd.ntmps13
  go_wp2_with fail
  have HB0 : Hid (Below w.heap.size w (w.alloc (.cells #[] 3))) := Lib.hid (below_new (Below.refl _ _) _)
  (with_reducible refine (counted_any 13 l s n c b o A HV.out HA.out _ HN.out h7 HQ.out ?hc).mono ?_)
  case hc => exact fun k hk => ⟨by have := (HC.out k hk).1; simp; omega, (World.cell?_alloc_lt _ _ _ (HC.out k hk).1).trans (HC.out k hk).2⟩
  rintro e w1 ⟨gv, cv, rfl, hb1, hvi⟩
  rw [HLL.out, ← HL.out] at hvi
  rw [HLL.out]
  have HB1 : Hid (Below w.heap.size w w1) := Lib.hid (join HB0.out hb1)
  have HCV : Hid (∀ k, k < N → w1.cell? ⟨gv, k, none⟩ = some (.int .i64 (L.getD k 0))) := Lib.hid fun k hk => vi_cell hvi (by rw [← HNN.out]; exact hk)
  clear hvi hb1
  have h00 : w1.cell? ⟨gv, 0, none⟩ = some (.int .i64 y0) := by rw [HY0.out]; exact HCV.out 0 (by omega)
  have h0N : (0 : Int) < (N : Int) := by omega
  have h0N' : 0 < N := by omega
  go_wp2_with fail
  go_loopw [6] (fun i wr => ∃ k : Nat, k ≤ N ∧ i = .int .i64 k ∧ (∀ j, j < k → (L.getD j 0 == y0) = true) ∧ ∃ z, wr = w1.drewN z) (fun i _ => N - (intOf i).toNat)
  case atStart => exact ⟨0, Nat.zero_le _, rfl, fun j hj => absurd hj (by omega), 0, rfl⟩
  case round =>
    obtain ⟨k, hk, rfl, hall, z, rfl⟩ := hrel
    have HALL := Lib.hid hall
    clear hall
    by_cases hkN : k < N
    · have hck := HCV.out k hkN
      obtain ⟨x, HX⟩ := named (L.getD k 0)
      rw [← HX.out] at hck
      cases hxy : (x == y0)
      · have hne : (x != y0) = true := by simp only [bne, hxy]; rfl
        go_wp2_with fail
        go_quiet (fail)
        go_wp2_with fail
        go_ret
        exact ⟨ret_int (by rw [HY.out, apL, if_neg (by rw [allEq_no k (by rw [← HNN.out]; exact hkN) (by rw [← HX.out, ← HY0.out]; exact hxy)]; decide)]), below_drewN (below_drewN HB1.out _) _⟩
      · have hne : (x != y0) = false := by simp only [bne, hxy]; rfl
        go_wp2_with fail
        go_quiet (fail)
        go_wp2_with fail
        go_roundw
        case rel =>
          refine ⟨k + 1, by omega, by go_num, fun j hj => ?_, _, rfl⟩
          by_cases hjk : j = k
          · rw [hjk, ← HX.out]; exact hxy
          · exact HALL.out j (by omega)
        case measure => simp [intOf]; omega
    · obtain rfl : N = k := by omega
      have HE : Hid (y = tabI y0) := Lib.hid (by rw [HY.out, apL, if_pos (allEq_yes fun j hj => by rw [← HY0.out]; exact HALL.out j (by rw [HNN.out]; exact hj)), HY0.out])
      have h00' : ∀ o, ((w1.drewN z).alloc o).cell? ⟨gv, 0, none⟩ = some (.int .i64 y0) := fun o => (World.cell?_alloc_lt _ _ _ (cell_lt h00)).trans h00
      have h00'' : ∀ o, (w1.alloc o).cell? ⟨gv, 0, none⟩ = some (.int .i64 y0) := fun o => (World.cell?_alloc_lt _ _ _ (cell_lt h00)).trans h00
      have hn0 : ∀ t : Nat, ((w1.drewN z).alloc (.cells #[.int .u8 0, .int .u8 1, .int .u8 3, .int .u8 2] t)).cell? ⟨w1.heap.size, 0, none⟩ = some (.int .u8 0) := fun t => (World.cell?_alloc_at _ t _ _ rfl).trans rfl
      have hn1 : ∀ t : Nat, ((w1.drewN z).alloc (.cells #[.int .u8 0, .int .u8 1, .int .u8 3, .int .u8 2] t)).cell? ⟨w1.heap.size, 1, none⟩ = some (.int .u8 1) := fun t => (World.cell?_alloc_at _ t _ _ rfl).trans rfl
      have hn2 : ∀ t : Nat, ((w1.drewN z).alloc (.cells #[.int .u8 0, .int .u8 1, .int .u8 3, .int .u8 2] t)).cell? ⟨w1.heap.size, 2, none⟩ = some (.int .u8 3) := fun t => (World.cell?_alloc_at _ t _ _ rfl).trans rfl
      have hn3 : ∀ t : Nat, ((w1.drewN z).alloc (.cells #[.int .u8 0, .int .u8 1, .int .u8 3, .int .u8 2] t)).cell? ⟨w1.heap.size, 3, none⟩ = some (.int .u8 2) := fun t => (World.cell?_alloc_at _ t _ _ rfl).trans rfl
      rcases HYY.out with rfl | rfl | rfl | rfl
      all_goals
        go_wp2_with fail
        go_ret
        exact ⟨ret_int (by rw [HE.out]; rfl), by first | exact below_drewN (below_new HB1.out _) _ | exact below_new (below_drewN HB1.out _) _⟩

theorem apply_cnt (q : Int) (l : List Int) (s : Value) (n c b o : Nat) (A : Option Addr) (hv : s = .slice A n c) (hA : 0 < n → A = some ⟨b, o, none⟩) (w : World) (hn : n = l.length) (h7 : n ≤ 7) (hq : Counts q)
    (hc : ∀ k, k < n → b < w.heap.size ∧ w.cell? ⟨b, o + k, none⟩ = some (.int .u8 (l.getD k 0))) (L : List Int) (hL : L = (cS l (q == 13)).map (fnT q)) (hy : L.getD 0 0 = 0 ∨ L.getD 0 0 = 1 ∨ L.getD 0 0 = 2 ∨ L.getD 0 0 = 3) :
    Calls Tryd.prog 13 #[.int .u8 q, s] w fun e w' => e = .returned (.int .u8 (apL L)) ∧ Below w.heap.size w w' := by
  rcases counts_test q hq with ⟨t1, t2, -⟩ | rfl
  · exact apply_lo q l s n c b o A hv hA w hn h7 hq t1 t2 hc L hL hy
  · exact apply_13 l s n c b o A hv hA w hn h7 hq hc L hL hy

end Go.Proofs.YtdanmepbdjfpfaaDoor
