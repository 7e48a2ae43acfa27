/- The plain side of the reference's Apply: what all choices have in common, for the kinds that go by counts. -/
import Derived.Test.YtfcdhoaccmckoaaGreatDoorLgCnt
namespace Go.Proofs.YtfcdhoaccmckoaaGreatDoor.Lg
open Go.RowKit

/-- What a list of results has in common. -/
def tabI (y : Int) : Int := if y = 0 then 0 else if y = 1 then 1 else if y = 2 then 3 else 2
def allEq (L : List Int) : Bool := L.all fun x => x == L.getD 0 0
def apL (L : List Int) : Int := if allEq L = true then tabI (L.getD 0 0) else 2
theorem allEq_no {L : List Int} (k : Nat) (hk : k < L.length) (h : (L.getD k 0 == L.getD 0 0) = false) : allEq L = false := by
  rw [List.getD_eq_getElem?_getD, List.getElem?_eq_getElem hk] at h
  exact List.all_eq_false.2 ⟨L[k], List.getElem_mem hk, by simpa using h⟩
theorem allEq_yes {L : List Int} (h : ∀ j, j < L.length → (L.getD j 0 == L.getD 0 0) = true) : allEq L = true := by
  refine List.all_eq_true.2 fun x hx => ?_
  obtain ⟨k, hk, rfl⟩ := List.mem_iff_getElem.1 hx
  have := h k hk
  rw [List.getD_eq_getElem?_getD, List.getElem?_eq_getElem hk] at this
  exact this

theorem counts_test (q : Int) (hq : Counts q) : (decide (5 ≤ q) = true ∧ decide (q ≤ 10) = true ∧ q ≠ 13) ∨ q = 13 := by
  rcases hq with rfl | rfl | rfl | rfl | rfl | rfl | rfl <;> simp

theorem vi_cell {w : World} {B g n c k : Nat} {l : List Int} (h : Vi w B (.slice (some ⟨g, 0, none⟩) n c) l) (hk : k < l.length) : w.cell? ⟨g, k, none⟩ = some (.int .i64 (l.getD k 0)) := by
  obtain ⟨b, o, c', hv, -, hc⟩ := h
  rcases hv with hv | ⟨rfl, -⟩
  · simp only [Value.slice.injEq, Option.some.injEq, Addr.mk.injEq, and_true] at hv
    obtain ⟨⟨rfl, rfl⟩, -, -⟩ := hv
    have := (hc k hk).2
    rw [Nat.zero_add] at this
    exact this
  · simp at hk

set_option maxHeartbeats 1000000 in
set_option maxRecDepth 100000 in
theorem apply_lo (q : Int) (l : List Int) (s : Value) (n c b o : Nat) (A : Option Addr) (hv : s = .slice A n c) (hA : 0 < n → A = some ⟨b, o, none⟩) (w : World) (hn : n = l.length) (h7 : n ≤ 7) (hq : Counts q) (t1 : decide (5 ≤ q) = true) (t2 : decide (q ≤ 10) = true)
    (hc : ∀ k, k < n → b < w.heap.size ∧ w.cell? ⟨b, o + k, none⟩ = some (.int .u8 (l.getD k 0))) (L : List Int) (hL : L = (cS l (q == 13)).map (fnT q)) (hy : L.getD 0 0 = 0 ∨ L.getD 0 0 = 1 ∨ L.getD 0 0 = 2 ∨ L.getD 0 0 = 3) :
    Calls Tryz.prog 75 #[.int .u8 q, s] w fun e w' => e = .returned (.int .u8 (apL L)) ∧ Below w.heap.size w w' := by
  have HA := Lib.hid hA
  have HC := Lib.hid hc
  have HN := Lib.hid hn
  have HL := Lib.hid hL
  have HQ := Lib.hid hq
  have HP : Hid (1 ≤ L.length ∧ L.length ≤ 2187) := Lib.hid (by rw [hL, List.length_map]; exact ⟨cS_pos _ _, cS_small _ _ (by rw [← hn]; exact h7)⟩)
  have HLL : Hid ((cS l (q == 13)).length = L.length) := Lib.hid (by rw [hL, List.length_map])
  obtain ⟨y, HY⟩ := named (apL L)
  rw [← HY.out]
  obtain ⟨y0, HY0⟩ := named (L.getD 0 0)
  rw [← HY0.out] at hy
  obtain ⟨N, HNN⟩ := named L.length
  rw [← HNN.out] at HP HLL
  have hN1 : 1 ≤ N := HP.out.1
  have hN2 : N ≤ 2187 := HP.out.2
  have HV := Lib.hid hv
  have HYY := Lib.hid hy
  clear hn hL hq hc hA hv hy
  go_enter Tryz.func75, Tryz.ntmps75
  go_wp2_with fail
  have HB0 : Hid (Below w.heap.size w (w.alloc (.cells #[] 3))) := Lib.hid (below_new (Below.refl _ _) _)
  (with_reducible refine (counted_any q l s n c b o A HV.out HA.out _ HN.out h7 HQ.out ?hc).mono ?_)
  case hc => exact fun k hk => ⟨by have := (HC.out k hk).1; simp; omega, (World.cell?_alloc_lt _ _ _ (HC.out k hk).1).trans (HC.out k hk).2⟩
  rintro e w1 ⟨gv, cv, rfl, hb1, hvi⟩
  rw [HLL.out, ← HL.out] at hvi
  rw [HLL.out]
  have HB1 : Hid (Below w.heap.size w w1) := Lib.hid (join HB0.out hb1)
  have HCV : Hid (∀ k, k < N → w1.cell? ⟨gv, k, none⟩ = some (.int .i64 (L.getD k 0))) := Lib.hid fun k hk => vi_cell hvi (by rw [← HNN.out]; exact hk)
  clear hvi hb1
  have h00 : w1.cell? ⟨gv, 0, none⟩ = some (.int .i64 y0) := by rw [HY0.out]; exact HCV.out 0 (by omega)
  have h0N : (0 : Int) < (N : Int) := by omega
  have h0N' : 0 < N := by omega
  go_wp2_with fail
  go_loopw [6] (fun i wr => ∃ k : Nat, k ≤ N ∧ i = .int .i64 k ∧ (∀ j, j < k → (L.getD j 0 == y0) = true) ∧ ∃ z, wr = w1.drewN z) (fun i _ => N - (intOf i).toNat)
  case atStart => exact ⟨0, Nat.zero_le _, rfl, fun j hj => absurd hj (by omega), 0, rfl⟩
  case round =>
    obtain ⟨k, hk, rfl, hall, z, rfl⟩ := hrel
    have HALL := Lib.hid hall
    clear hall
    by_cases hkN : k < N
    · have hck := HCV.out k hkN
      obtain ⟨x, HX⟩ := named (L.getD k 0)
      rw [← HX.out] at hck
      cases hxy : (x == y0)
      · have hne : (x != y0) = true := by simp only [bne, hxy]; rfl
        go_wp2_with fail
        go_quiet (fail)
        go_wp2_with fail
        go_ret
        exact ⟨ret_int (by rw [HY.out, apL, if_neg (by rw [allEq_no k (by rw [← HNN.out]; exact hkN) (by rw [← HX.out, ← HY0.out]; exact hxy)]; decide)]), below_drewN (below_drewN HB1.out _) _⟩
      · have hne : (x != y0) = false := by simp only [bne, hxy]; rfl
        go_wp2_with fail
        go_quiet (fail)
        go_wp2_with fail
        go_roundw
        case rel =>
          refine ⟨k + 1, by omega, by go_num, fun j hj => ?_, _, rfl⟩
          by_cases hjk : j = k
          · rw [hjk, ← HX.out]; exact hxy
          · exact HALL.out j (by omega)
        case measure => simp [intOf]; omega
    · obtain rfl : N = k := by omega
      have HE : Hid (y = tabI y0) := Lib.hid (by rw [HY.out, apL, if_pos (allEq_yes fun j hj => by rw [← HY0.out]; exact HALL.out j (by rw [HNN.out]; exact hj)), HY0.out])
      have h00' : ∀ o, ((w1.drewN z).alloc o).cell? ⟨gv, 0, none⟩ = some (.int .i64 y0) := fun o => (World.cell?_alloc_lt _ _ _ (cell_lt h00)).trans h00
      have h00'' : ∀ o, (w1.alloc o).cell? ⟨gv, 0, none⟩ = some (.int .i64 y0) := fun o => (World.cell?_alloc_lt _ _ _ (cell_lt h00)).trans h00
      have hn0 : ∀ t : Nat, ((w1.drewN z).alloc (.cells #[.int .u8 0, .int .u8 1, .int .u8 3, .int .u8 2] t)).cell? ⟨w1.heap.size, 0, none⟩ = some (.int .u8 0) := fun t => (World.cell?_alloc_at _ t _ _ rfl).trans rfl
      have hn1 : ∀ t : Nat, ((w1.drewN z).alloc (.cells #[.int .u8 0, .int .u8 1, .int .u8 3, .int .u8 2] t)).cell? ⟨w1.heap.size, 1, none⟩ = some (.int .u8 1) := fun t => (World.cell?_alloc_at _ t _ _ rfl).trans rfl
      have hn2 : ∀ t : Nat, ((w1.drewN z).alloc (.cells #[.int .u8 0, .int .u8 1, .int .u8 3, .int .u8 2] t)).cell? ⟨w1.heap.size, 2, none⟩ = some (.int .u8 3) := fun t => (World.cell?_alloc_at _ t _ _ rfl).trans rfl
      have hn3 : ∀ t : Nat, ((w1.drewN z).alloc (.cells #[.int .u8 0, .int .u8 1, .int .u8 3, .int .u8 2] t)).cell? ⟨w1.heap.size, 3, none⟩ = some (.int .u8 2) := fun t => (World.cell?_alloc_at _ t _ _ rfl).trans rfl
      rcases HYY.out with rfl | rfl | rfl | rfl
      all_goals
        go_wp2_with fail
        go_ret
        exact ⟨ret_int (by rw [HE.out]; rfl), by first | exact below_drewN (below_new HB1.out _) _ | exact below_new (below_drewN HB1.out _) _⟩

set_option maxHeartbeats 1000000 in
set_option maxRecDepth 100000 in
theorem apply_13 (l : List Int) (s : Value) (n c b o : Nat) (A : Option Addr) (hv : s = .slice A n c) (hA : 0 < n → A = some ⟨b, o, none⟩) (w : World) (hn : n = l.length) (h7 : n ≤ 7) (hq : Counts 13)
    (hc : ∀ k, k < n → b < w.heap.size ∧ w.cell? ⟨b, o + k, none⟩ = some (.int .u8 (l.getD k 0))) (L : List Int) (hL : L = (cS l ((13 : Int) == 13)).map (fnT 13)) (hy : L.getD 0 0 = 0 ∨ L.getD 0 0 = 1 ∨ L.getD 0 0 = 2 ∨ L.getD 0 0 = 3) :
    Calls Tryz.prog 75 #[.int .u8 13, s] w fun e w' => e = .returned (.int .u8 (apL L)) ∧ Below w.heap.size w w' := by
  have HA := Lib.hid hA
  have HC := Lib.hid hc
  have HN := Lib.hid hn
  have HL := Lib.hid hL
  have HQ := Lib.hid hq
  have HP : Hid (1 ≤ L.length ∧ L.length ≤ 2187) := Lib.hid (by rw [hL, List.length_map]; exact ⟨cS_pos _ _, cS_small _ _ (by rw [← hn]; exact h7)⟩)
  have HLL : Hid ((cS l ((13 : Int) == 13)).length = L.length) := Lib.hid (by rw [hL, List.length_map])
  obtain ⟨y, HY⟩ := named (apL L)
  rw [← HY.out]
  obtain ⟨y0, HY0⟩ := named (L.getD 0 0)
  rw [← HY0.out] at hy
  obtain ⟨N, HNN⟩ := named L.length
  rw [← HNN.out] at HP HLL
  have hN1 : 1 ≤ N := HP.out.1
  have hN2 : N ≤ 2187 := HP.out.2
  have HV := Lib.hid hv
  have HYY := Lib.hid hy
  clear hn hL hq hc hA hv hy
  go_enter Tryz.func75, Tryz.ntmps75
  go_wp2_with fail
  have HB0 : Hid (Below w.heap.size w (w.alloc (.cells #[] 3))) := Lib.hid (below_new (Below.refl _ _) _)
  (with_reducible refine (counted_any 13 l s n c b o A HV.out HA.out _ HN.out h7 HQ.out ?hc).mono ?_)
  case hc => exact fun k hk => ⟨by have := (HC.out k hk).1; simp; omega, (World.cell?_alloc_lt _ _ _ (HC.out k hk).1).trans (HC.out k hk).2⟩
  rintro e w1 ⟨gv, cv, rfl, hb1, hvi⟩
  rw [HLL.out, ← HL.out] at hvi
  rw [HLL.out]
  have HB1 : Hid (Below w.heap.size w w1) := Lib.hid (join HB0.out hb1)
  have HCV : Hid (∀ k, k < N → w1.cell? ⟨gv, k, none⟩ = some (.int .i64 (L.getD k 0))) := Lib.hid fun k hk => vi_cell hvi (by rw [← HNN.out]; exact hk)
  clear hvi hb1
  have h00 : w1.cell? ⟨gv, 0, none⟩ = some (.int .i64 y0) := by rw [HY0.out]; exact HCV.out 0 (by omega)
  have h0N : (0 : Int) < (N : Int) := by omega
  have h0N' : 0 < N := by omega
  go_wp2_with fail
  go_loopw [6] (fun i wr => ∃ k : Nat, k ≤ N ∧ i = .int .i64 k ∧ (∀ j, j < k → (L.getD j 0 == y0) = true) ∧ ∃ z, wr = w1.drewN z) (fun i _ => N - (intOf i).toNat)
  case atStart => exact ⟨0, Nat.zero_le _, rfl, fun j hj => absurd hj (by omega), 0, rfl⟩
  case round =>
    obtain ⟨k, hk, rfl, hall, z, rfl⟩ := hrel
    have HALL := Lib.hid hall
    clear hall
    by_cases hkN : k < N
    · have hck := HCV.out k hkN
      obtain ⟨x, HX⟩ := named (L.getD k 0)
      rw [← HX.out] at hck
      cases hxy : (x == y0)
      · have hne : (x != y0) = true := by simp only [bne, hxy]; rfl
        go_wp2_with fail
        go_quiet (fail)
        go_wp2_with fail
        go_ret
        exact ⟨ret_int (by rw [HY.out, apL, if_neg (by rw [allEq_no k (by rw [← HNN.out]; exact hkN) (by rw [← HX.out, ← HY0.out]; exact hxy)]; decide)]), below_drewN (below_drewN HB1.out _) _⟩
      · have hne : (x != y0) = false := by simp only [bne, hxy]; rfl
        go_wp2_with fail
        go_quiet (fail)
        go_wp2_with fail
        go_roundw
        case rel =>
          refine ⟨k + 1, by omega, by go_num, fun j hj => ?_, _, rfl⟩
          by_cases hjk : j = k
          · rw [hjk, ← HX.out]; exact hxy
          · exact HALL.out j (by omega)
        case measure => simp [intOf]; omega
    · obtain rfl : N = k := by omega
      have HE : Hid (y = tabI y0) := Lib.hid (by rw [HY.out, apL, if_pos (allEq_yes fun j hj => by rw [← HY0.out]; exact HALL.out j (by rw [HNN.out]; exact hj)), HY0.out])
      have h00' : ∀ o, ((w1.drewN z).alloc o).cell? ⟨gv, 0, none⟩ = some (.int .i64 y0) := fun o => (World.cell?_alloc_lt _ _ _ (cell_lt h00)).trans h00
      have h00'' : ∀ o, (w1.alloc o).cell? ⟨gv, 0, none⟩ = some (.int .i64 y0) := fun o => (World.cell?_alloc_lt _ _ _ (cell_lt h00)).trans h00
      have hn0 : ∀ t : Nat, ((w1.drewN z).alloc (.cells #[.int .u8 0, .int .u8 1, .int .u8 3, .int .u8 2] t)).cell? ⟨w1.heap.size, 0, none⟩ = some (.int .u8 0) := fun t => (World.cell?_alloc_at _ t _ _ rfl).trans rfl
      have hn1 : ∀ t : Nat, ((w1.drewN z).alloc (.cells #[.int .u8 0, .int .u8 1, .int .u8 3, .int .u8 2] t)).cell? ⟨w1.heap.size, 1, none⟩ = some (.int .u8 1) := fun t => (World.cell?_alloc_at _ t _ _ rfl).trans rfl
      have hn2 : ∀ t : Nat, ((w1.drewN z).alloc (.cells #[.int .u8 0, .int .u8 1, .int .u8 3, .int .u8 2] t)).cell? ⟨w1.heap.size, 2, none⟩ = some (.int .u8 3) := fun t => (World.cell?_alloc_at _ t _ _ rfl).trans rfl
      have hn3 : ∀ t : Nat, ((w1.drewN z).alloc (.cells #[.int .u8 0, .int .u8 1, .int .u8 3, .int .u8 2] t)).cell? ⟨w1.heap.size, 3, none⟩ = some (.int .u8 2) := fun t => (World.cell?_alloc_at _ t _ _ rfl).trans rfl
      rcases HYY.out with rfl | rfl | rfl | rfl
      all_goals
        go_wp2_with fail
        go_ret
        exact ⟨ret_int (by rw [HE.out]; rfl), by first | exact below_drewN (below_new HB1.out _) _ | exact below_new (below_drewN HB1.out _) _⟩

theorem apply_cnt (q : Int) (l : List Int) (s : Value) (n c b o : Nat) (A : Option Addr) (hv : s = .slice A n c) (hA : 0 < n → A = some ⟨b, o, none⟩) (w : World) (hn : n = l.length) (h7 : n ≤ 7) (hq : Counts q)
    (hc : ∀ k, k < n → b < w.heap.size ∧ w.cell? ⟨b, o + k, none⟩ = some (.int .u8 (l.getD k 0))) (L : List Int) (hL : L = (cS l (q == 13)).map (fnT q)) (hy : L.getD 0 0 = 0 ∨ L.getD 0 0 = 1 ∨ L.getD 0 0 = 2 ∨ L.getD 0 0 = 3) :
    Calls Tryz.prog 75 #[.int .u8 q, s] w fun e w' => e = .returned (.int .u8 (apL L)) ∧ Below w.heap.size w w' := by
  rcases counts_test q hq with ⟨t1, t2, -⟩ | rfl
  · exact apply_lo q l s n c b o A hv hA w hn h7 hq t1 t2 hc L hL hy
  · exact apply_13 l s n c b o A hv hA w hn h7 hq hc L hL hy

end Go.Proofs.YtfcdhoaccmckoaaGreatDoor.Lg

namespace Go.Proofs.YtfcdhoaccmckoaaGreatDoor.Lg

def Ch (bus : Bool) : List Int → List Int → Prop
  | [], [] => True
  | v :: l, x :: m => x ∈ chc v bus ∧ Ch bus l m
  | _, _ => False
theorem ch_cons {bus : Bool} {v x : Int} {l m : List Int} : Ch bus (v :: l) (x :: m) ↔ x ∈ chc v bus ∧ Ch bus l m := Iff.rfl
theorem ch_app {bus : Bool} {l1 l2 m1 m2 : List Int} (h1 : Ch bus l1 m1) (h2 : Ch bus l2 m2) : Ch bus (l1 ++ l2) (m1 ++ m2) := by
  induction l1 generalizing m1 with
  | nil => cases m1 with
    | nil => exact h2
    | cons => exact absurd h1 id
  | cons v l1 ih => cases m1 with
    | nil => exact absurd h1 id
    | cons x m1 => exact ⟨h1.1, ih h1.2⟩
theorem ch_some (bus : Bool) (l : List Int) : ∃ m, Ch bus l m := by
  induction l with
  | nil => exact ⟨[], trivial⟩
  | cons v l ih =>
    obtain ⟨m, hm⟩ := ih
    exact ⟨(chc v bus)[0]'(chc_len v bus).1 :: m, List.getElem_mem _, hm⟩
theorem foldS_mem (l : List Int) (bus : Bool) (S : List T3) (t : T3) : t ∈ l.foldl (fun S v => midS S (chc v bus)) S ↔ ∃ s ∈ S, ∃ m, Ch bus l m ∧ t = m.foldl bump s := by
  induction l generalizing S with
  | nil =>
    constructor
    · exact fun h => ⟨t, h, [], trivial, rfl⟩
    · rintro ⟨s, hs, m, hm, rfl⟩
      cases m with
      | nil => exact hs
      | cons => exact absurd hm id
  | cons v l ih =>
    rw [List.foldl_cons, ih]
    constructor
    · rintro ⟨s, hs, m, hm, rfl⟩
      obtain ⟨u, hu, x, hx, rfl⟩ := (midS_mem _ _ _).1 hs
      exact ⟨u, hu, x :: m, ⟨hx, hm⟩, rfl⟩
    · rintro ⟨s, hs, m, hm, rfl⟩
      cases m with
      | nil => exact absurd hm id
      | cons x m => exact ⟨bump s x, (midS_mem _ _ _).2 ⟨s, hs, x, hm.1, rfl⟩, m, hm.2, rfl⟩
theorem bump_a (m : List Int) (s : T3) : (m.foldl bump s).a = s.a + cnt 0 m ∧ (m.foldl bump s).b = s.b + cnt 1 m := by
  induction m generalizing s with
  | nil => exact ⟨rfl, rfl⟩
  | cons x m ih =>
    rw [List.foldl_cons, (ih _).1, (ih _).2, cnt, cnt]
    unfold bump
    by_cases h0 : x = 0
    · subst h0; simp; omega
    · by_cases h1 : x = 1
      · subst h1; simp; omega
      · simp [h0, h1]
/-- the function by the counts of a choice -/
def fC (q : Int) (m : List Int) : Int := fnK q (cnt 1 m) (cnt 0 m) []
def Count2 (q : Int) : Prop := q = 5 ∨ q = 6 ∨ q = 7 ∨ q = 8 ∨ q = 9 ∨ q = 10 ∨ q = 13
theorem fnT_ab {q : Int} (hq : Count2 q) (t : T3) : fnT q t = fnK q t.b t.a [] := by
  unfold fnT fn
  rw [(cnt_pre t).1, (cnt_pre t).2]
  rcases hq with rfl | rfl | rfl | rfl | rfl | rfl | rfl <;> rfl
theorem fL_mem {q : Int} (hq : Count2 q) (l : List Int) (bus : Bool) (x : Int) : x ∈ (cS l bus).map (fnT q) ↔ ∃ m, Ch bus l m ∧ x = fC q m := by
  rw [List.mem_map]
  constructor
  · rintro ⟨t, ht, rfl⟩
    obtain ⟨s, hs, m, hm, rfl⟩ := (foldS_mem l bus _ t).1 ht
    have hs : s = T3.zero := by simpa using hs
    subst hs
    refine ⟨m, hm, ?_⟩
    rw [fnT_ab hq, (bump_a _ _).1, (bump_a _ _).2]
    simp [fC, T3.zero]
  · rintro ⟨m, hm, rfl⟩
    refine ⟨m.foldl bump T3.zero, (foldS_mem l bus _ _).2 ⟨T3.zero, by simp, m, hm, rfl⟩, ?_⟩
    rw [fnT_ab hq, (bump_a _ _).1, (bump_a _ _).2]
    simp [fC, T3.zero]

theorem head_mem {L : List Int} (h : L ≠ []) : L.getD 0 0 ∈ L := by
  cases L with
  | nil => exact absurd rfl h
  | cons a L => simp
theorem apL_same {L : List Int} {y : Int} (h0 : L ≠ []) (h : ∀ x ∈ L, x = y) : apL L = tabI y := by
  have e : L.getD 0 0 = y := h _ (head_mem h0)
  rw [apL, if_pos, e]
  rw [allEq, e]
  exact List.all_eq_true.2 fun x hx => by rw [h x hx]; simp
theorem apL_diff {L : List Int} {x z : Int} (hx : x ∈ L) (hz : z ∈ L) (h : x ≠ z) : apL L = 2 := by
  rw [apL, if_neg]
  intro he
  have := List.all_eq_true.1 he
  have h1 := this x hx
  have h2 := this z hz
  simp only [beq_iff_eq] at h1 h2
  exact h (h1.trans h2.symm)
theorem apL_three {L : List Int} (h : 3 ∈ L) : apL L = 2 := by
  by_cases he : ∀ x ∈ L, x = 3
  · exact apL_same (fun e => by subst e; simp at h) he
  · have ⟨x, hx⟩ := Classical.not_forall.1 he
    have ⟨hx, hn⟩ := Classical.not_imp.1 hx
    exact apL_diff hx h hn

theorem ch_cnt {bus : Bool} (x : Int) {l m : List Int} (h : Ch bus l m) (v : Int) (hv : v ∈ l) (hc : chc v bus = [x]) : 0 < cnt x m := by
  induction l generalizing m with
  | nil => simp at hv
  | cons u l ih =>
    cases m with
    | nil => exact absurd h id
    | cons z m =>
      rw [cnt]
      rcases List.mem_cons.1 hv with rfl | hv
      · have h1 := h.1
        rw [hc] at h1
        have h1 : z = x := by simpa using h1
        rw [if_pos h1]; omega
      · have := ih h.2 hv; omega
theorem ch_not {bus : Bool} (x : Int) {l m : List Int} (h : Ch bus l m) (hc : ∀ v ∈ l, x ∉ chc v bus) : cnt x m = 0 := by
  induction l generalizing m with
  | nil =>
    cases m with
    | nil => rfl
    | cons => exact absurd h id
  | cons u l ih =>
    cases m with
    | nil => exact absurd h id
    | cons z m =>
      rw [cnt, ih h.2 (fun v hv => hc v (List.mem_cons_of_mem _ hv)), if_neg]
      rintro rfl
      exact hc u (by simp) h.1
theorem any_mem {f : Int → Int} {x : Int} {l : List Int} (h : anyIs f x l = true) : ∃ v ∈ l, f v = x := by
  obtain ⟨v, hv, h⟩ := List.any_eq_true.1 h
  exact ⟨v, hv, by simpa using h⟩
theorem any_not {f : Int → Int} {x : Int} {l : List Int} (h : anyIs f x l = false) : ∀ v ∈ l, f v ≠ x := by
  intro v hv e
  have := List.any_eq_false.1 h v hv
  simp [e] at this
theorem cln0 {v : Int} (h : cln v = 0) : v = 0 := by unfold cln at h; split at h <;> omega
theorem cln1 {v : Int} (h : cln v = 1) : v = 1 := by unfold cln at h; split at h <;> omega
theorem cln2 {v : Int} (h : cln v = 2) : v = 2 ∨ 3 < v := by unfold cln at h; split at h <;> omega
theorem chc_bus {v : Int} (h : v = 2 ∨ 3 < v) : chc v true = [0, 1, 2] := by
  unfold chc; rw [if_neg (by omega), if_neg (by omega), if_neg (by omega), if_pos rfl]
theorem fC_bus (m : List Int) : fC 13 m = if cnt 1 m + cnt 0 m = 0 then 2 else if 0 < cnt 1 m ∧ 0 < cnt 0 m then 3 else bitI (decide (0 < cnt 1 m)) := rfl

theorem ap_bus (l : List Int) (h0 : ∀ v ∈ l, 0 ≤ v) : apL ((cS l true).map (fnT 13)) = busL l := by
  have hq : Count2 13 := by unfold Count2; omega
  have hne : (cS l true).map (fnT 13) ≠ [] := by
    intro e
    have := congrArg List.length e
    rw [List.length_map] at this
    have := cS_pos l true
    simp_all
  unfold busL
  cases h2 : anyIs cln 2 l
  · cases hc : conL l
    · rw [if_neg (by simp)]
      have hw : ∀ v ∈ l, v = 0 ∨ v = 1 ∨ v = 3 := fun v hv => by
        have h1 := any_not h2 v hv
        have := h0 v hv
        unfold cln at h1
        split at h1 <;> omega
      cases hz : anyIs cln 0 l
      · have hn0 : ∀ v ∈ l, (0 : Int) ∉ chc v true := fun v hv => by
          have h1 := any_not hz v hv
          rcases hw v hv with rfl | rfl | rfl
          · exact absurd rfl h1
          · decide
          · decide
        cases ho : anyIs cln 1 l
        · rw [if_neg (by simp), if_neg (by simp)]
          have hn1 : ∀ v ∈ l, (1 : Int) ∉ chc v true := fun v hv => by
            have h1 := any_not ho v hv
            rcases hw v hv with rfl | rfl | rfl
            · decide
            · exact absurd rfl h1
            · decide
          refine (apL_same (y := 2) hne fun x hx => ?_).trans rfl
          obtain ⟨m, hm, rfl⟩ := (fL_mem hq _ _ _).1 hx
          rw [fC_bus, ch_not 1 hm hn1, ch_not 0 hm hn0]; rfl
        · rw [if_neg (by simp), if_pos rfl]
          obtain ⟨v, hv, e⟩ := any_mem ho
          obtain rfl := cln1 e
          refine (apL_same (y := 1) hne fun x hx => ?_).trans rfl
          obtain ⟨m, hm, rfl⟩ := (fL_mem hq _ _ _).1 hx
          have hp := ch_cnt 1 hm 1 hv rfl
          rw [fC_bus, ch_not 0 hm hn0, if_neg (by omega), if_neg (by omega), decide_eq_true hp]; rfl
      · rw [if_pos rfl]
        obtain ⟨v, hv, e⟩ := any_mem hz
        obtain rfl := cln0 e
        have ho : anyIs cln 1 l = false := by
          unfold conL at hc; rw [hz] at hc; simpa using hc
        have hn1 : ∀ v ∈ l, (1 : Int) ∉ chc v true := fun v hv => by
          have h1 := any_not ho v hv
          rcases hw v hv with rfl | rfl | rfl
          · decide
          · exact absurd rfl h1
          · decide
        refine (apL_same (y := 0) hne fun x hx => ?_).trans rfl
        obtain ⟨m, hm, rfl⟩ := (fL_mem hq _ _ _).1 hx
        have hp := ch_cnt 0 hm 0 hv rfl
        rw [fC_bus, ch_not 1 hm hn1, if_neg (by omega), if_neg (by omega)]; rfl
    · rw [if_pos (by simp)]
      unfold conL at hc
      obtain ⟨hz, ho⟩ := (Bool.and_eq_true _ _).mp hc
      obtain ⟨v, hv, e⟩ := any_mem hz
      obtain rfl := cln0 e
      obtain ⟨v, hv1, e⟩ := any_mem ho
      obtain rfl := cln1 e
      obtain ⟨m, hm⟩ := ch_some true l
      refine apL_three ((fL_mem hq _ _ _).2 ⟨m, hm, ?_⟩)
      have hp := ch_cnt 0 hm 0 hv rfl
      have hp1 := ch_cnt 1 hm 1 hv1 rfl
      rw [fC_bus, if_neg (by omega), if_pos ⟨hp1, hp⟩]
  · rw [if_pos (by simp)]
    obtain ⟨v, hv, e⟩ := any_mem h2
    obtain ⟨l1, l2, rfl⟩ := List.append_of_mem hv
    have hx := chc_bus (cln2 e)
    obtain ⟨m1, hm1⟩ := ch_some true l1
    obtain ⟨m2, hm2⟩ := ch_some true l2
    have hA : Ch true (l1 ++ v :: l2) (m1 ++ 0 :: m2) := ch_app hm1 ⟨by rw [hx]; simp, hm2⟩
    have hB : Ch true (l1 ++ v :: l2) (m1 ++ 1 :: m2) := ch_app hm1 ⟨by rw [hx]; simp, hm2⟩
    have a0 : cnt 0 (m1 ++ 0 :: m2) = cnt 0 m1 + (1 + cnt 0 m2) := by rw [cnt_app, cnt]; rfl
    have a1 : cnt 1 (m1 ++ 0 :: m2) = cnt 1 m1 + (0 + cnt 1 m2) := by rw [cnt_app, cnt]; rfl
    have b0 : cnt 0 (m1 ++ 1 :: m2) = cnt 0 m1 + (0 + cnt 0 m2) := by rw [cnt_app, cnt]; rfl
    have b1 : cnt 1 (m1 ++ 1 :: m2) = cnt 1 m1 + (1 + cnt 1 m2) := by rw [cnt_app, cnt]; rfl
    have eA : fC 13 (m1 ++ 0 :: m2) = if 0 < cnt 1 m1 + cnt 1 m2 then 3 else 0 := by
      rw [fC_bus, a0, a1]
      by_cases h : 0 < cnt 1 m1 + cnt 1 m2
      · rw [if_pos h, if_neg (by omega), if_pos (by omega)]
      · rw [if_neg h, if_neg (by omega), if_neg (by omega), decide_eq_false (by omega)]; rfl
    have eB : fC 13 (m1 ++ 1 :: m2) = if 0 < cnt 0 m1 + cnt 0 m2 then 3 else 1 := by
      rw [fC_bus, b0, b1]
      by_cases h : 0 < cnt 0 m1 + cnt 0 m2
      · rw [if_pos h, if_neg (by omega), if_pos (by omega)]
      · rw [if_neg h, if_neg (by omega), if_neg (by omega), decide_eq_true (by omega)]; rfl
    by_cases h : 0 < cnt 1 m1 + cnt 1 m2
    · rw [if_pos h] at eA
      exact apL_three ((fL_mem hq _ _ _).2 ⟨_, hA, eA.symm⟩)
    · rw [if_neg h] at eA
      refine apL_diff ((fL_mem hq _ _ _).2 ⟨_, hA, eA.symm⟩) ((fL_mem hq _ _ _).2 ⟨_, hB, eB.symm⟩) ?_
      split <;> omega

theorem bitI_ways (b : Bool) : bitI b = 0 ∨ bitI b = 1 ∨ bitI b = 2 ∨ bitI b = 3 := by cases b <;> simp [bitI]
theorem fC_first {q : Int} (hq : Count2 q) (m : List Int) : fC q m = 0 ∨ fC q m = 1 ∨ fC q m = 2 ∨ fC q m = 3 := by
  rcases hq with rfl | rfl | rfl | rfl | rfl | rfl | rfl
  · exact bitI_ways _
  · exact bitI_ways _
  · exact bitI_ways _
  · exact bitI_ways _
  · exact bitI_ways _
  · exact bitI_ways _
  · rw [fC_bus]
    split
    · simp
    · split
      · simp
      · exact bitI_ways _
theorem first_ways {q : Int} (hq : Count2 q) (l : List Int) (bus : Bool) : let L := (cS l bus).map (fnT q); L.getD 0 0 = 0 ∨ L.getD 0 0 = 1 ∨ L.getD 0 0 = 2 ∨ L.getD 0 0 = 3 := by
  intro L
  have hne : L ≠ [] := by
    intro e
    have := congrArg List.length e
    rw [List.length_map] at this
    have := cS_pos l bus
    simp_all
  obtain ⟨m, -, e⟩ := (fL_mem hq l bus _).1 (head_mem hne)
  rw [e]
  exact fC_first hq m

theorem bus_apply (l : List Int) (s : Value) (n c b o : Nat) (A : Option Addr) (hv : s = .slice A n c) (hA : 0 < n → A = some ⟨b, o, none⟩) (w : World) (hn : n = l.length) (h7 : n ≤ 7) (h0 : ∀ v ∈ l, 0 ≤ v)
    (hc : ∀ k, k < n → b < w.heap.size ∧ w.cell? ⟨b, o + k, none⟩ = some (.int .u8 (l.getD k 0))) :
    Calls Tryz.prog 75 #[.int .u8 13, s] w fun e w' => e = .returned (.int .u8 (busL l)) ∧ RowKit.Below w.heap.size w w' := by
  have h := apply_cnt 13 l s n c b o A hv hA w hn h7 (by unfold Counts; omega) hc _ rfl (first_ways (by unfold Count2; omega) l _)
  rw [show (((13 : Int) == 13) : Bool) = true from rfl, ap_bus l h0] at h
  exact h

end Go.Proofs.YtfcdhoaccmckoaaGreatDoor.Lg
