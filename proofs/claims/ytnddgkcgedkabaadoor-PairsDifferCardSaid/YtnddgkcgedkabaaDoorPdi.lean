/- The walk of the law on differences at a gate. -/
import Derived.Test.YtnddgkcgedkabaaDoorPmo
import Derived.Test.YtnddgkcgedkabaaDoorPdp
import Derived.Laws.MakeOwn
namespace Go.Proofs.YtnddgkcgedkabaaDoor
open Go.RowKit

set_option maxHeartbeats 400000 in
theorem pdi_long (q at_ : Int) (A : Option Addr) (n c : Nat) (w : World) (ht : Tabs w) (h : 16 < n ∨ (¬ 16 < n ∧ n < 2)) :
    Calls Tryd.prog 4 #[.int .u8 q, .slice A n c, .int .u8 at_] w fun e w' => e = .returned (.bool true) ∧ Below w.heap.size w w' := by
  have HT := Lib.hid ht
  clear ht
  rcases h with h | ⟨h, h'⟩
  all_goals
    go_enter Tryd.func4, Tryd.ntmps4
    go_wp2_with (go_at_call 10; (with_reducible refine (livesP_any _ HT.out).mono ?_); rintro e w' ⟨rfl, hb⟩)
    go_ret
    exact ⟨rfl, by assumption⟩

theorem any_take (q : Int) (l : List (Int × Int)) (k : Nat) (h : k < l.length) : anyDif q (l.take (k + 1)) = (anyDif q (l.take k) || difAt q (l.getD k (0, 0))) := by
  rw [take_snoc2 l k h]; simp [anyDif]
/-- The ways of the law's test on one input. -/
theorem dif_ways (q : Int) (p : Int × Int) : ∃ c1 c2 c3 : Bool, (cln p.1 != cln p.2) = c1 ∧ (q == 13) = c2 ∧ (rd p.1 != rd p.2) = c3 ∧
    ((c1 = false ∧ difAt q p = false) ∨ (c1 = true ∧ c2 = true ∧ difAt q p = true) ∨ (c1 = true ∧ c2 = false ∧ difAt q p = c3)) := by
  refine ⟨_, _, _, rfl, rfl, rfl, ?_⟩
  unfold difAt
  cases (cln p.1 != cln p.2) <;> cases (q == 13) <;> simp

theorem ctl_01 {q : Int} (h : isc q = true) : ctl q = 0 ∨ ctl q = 1 := by
  have h' : q = 5 ∨ q = 6 ∨ q = 7 ∨ q = 8 := of_decide_eq_true h
  rcases h' with rfl | rfl | rfl | rfl <;> decide
theorem isc_cases {q : Int} (h : isc q = true) : q = 5 ∨ q = 6 ∨ q = 7 ∨ q = 8 := of_decide_eq_true h
theorem made_flat2 (n : Nat) : (madeCells #[Value.int .u8 0, .int .u8 0] (n * 2)).toList = flat2 (List.replicate n (0, 0)) := by
  apply List.ext_getElem?
  intro j
  by_cases hj : j < n * 2
  · have h0 : j / 2 < n := by omega
    have hg := flat2_get (List.replicate n ((0 : Int), (0 : Int))) (j / 2) (by simpa using h0)
    have hd : (List.replicate n ((0 : Int), (0 : Int))).getD (j / 2) (0, 0) = (0, 0) := by
      rw [List.getD_eq_getElem?_getD, List.getElem?_replicate, if_pos h0]; rfl
    rw [hd] at hg
    rcases Nat.mod_two_eq_zero_or_one j with h2 | h2
    · have e : j / 2 * 2 = j := by omega
      rw [e] at hg
      rw [hg.1]
      simp [madeCells, hj, h2]
    · have e : j / 2 * 2 + 1 = j := by omega
      rw [e] at hg
      rw [hg.2]
      simp [madeCells, hj, h2]
  · rw [List.getElem?_eq_none (by simp [madeCells]; omega), List.getElem?_eq_none (by rw [flat2_len]; simp; omega)]
/-- The first k pairs are filled. -/
def LK (x : Int) (n k : Nat) : List (Int × Int) := List.replicate k (x, x) ++ List.replicate (n - k) (0, 0)
theorem LK_len {x : Int} {n k : Nat} (h : k ≤ n) : (LK x n k).length = n := by simp [LK]; omega
theorem LK_set (x : Int) {n k : Nat} (h : k < n) : (LK x n k).set k (x, x) = LK x n (k + 1) := by
  unfold LK
  rw [List.set_append_right _ _ (by simp)]
  simp only [List.length_replicate, Nat.sub_self]
  rw [show n - k = (n - (k + 1)) + 1 by omega, List.replicate_succ, List.set_cons_zero, List.replicate_succ']
  simp
theorem flat2_set : ∀ (l : List (Int × Int)) (k : Nat) (a b : Int), k < l.length → ((flat2 l).set (k * 2) (.int .u8 a)).set (k * 2 + 1) (.int .u8 b) = flat2 (l.set k (a, b))
  | p :: l, 0, a, b, _ => rfl
  | p :: l, k + 1, a, b, h => by
    have ih := flat2_set l k a b (by simpa using h)
    rw [show (k + 1) * 2 = k * 2 + 1 + 1 by omega]
    show Value.int .u8 p.1 :: Value.int .u8 p.2 :: ((flat2 l).set (k * 2) (.int .u8 a)).set (k * 2 + 1) (.int .u8 b) = _
    rw [ih]; rfl
theorem Box.far2 {n m : Nat} {x0 x1 : Value} {w : World} (h : Box n x0 x1 w) (hm : m ≠ n) (i j : Nat) (y0 y1 : Value) : Box n x0 x1 ((w.setCell ⟨m, i, none⟩ y0).setCell ⟨m, j, none⟩ y1) := by
  obtain ⟨h1, h2, h3, h4, h5⟩ := h
  refine ⟨by simpa [World.setCell] using h1, ?_, ?_, by simpa using h4, by simpa using h5⟩
  · rw [World.cell?_setCell_other _ _ _ _ (by intro h; injection h; omega), World.cell?_setCell_other _ _ _ _ (by intro h; injection h; omega)]; exact h2
  · rw [World.cell?_setCell_other _ _ _ _ (by intro h; injection h; omega), World.cell?_setCell_other _ _ _ _ (by intro h; injection h; omega)]; exact h3
theorem put_far {w : World} {g m : Nat} {n c : Nat} {xs : List Value} (h : w.ownsRow g 28 2 (.slice (some ⟨g, 0, none⟩) n c) n xs) (hm : g ≠ m) (a b : Value) :
    ((w.setCell ⟨m, 0, none⟩ a).setCell ⟨m, 1, none⟩ b).ownsRow g 28 2 (.slice (some ⟨g, 0, none⟩) n c) n xs := by
  refine ⟨h.1, ?_⟩
  rcases h.2 with h | ⟨g', cap, cur, h1, h2, h3, h4⟩
  · exact .inl h
  · obtain rfl : g = g' := by simp at h1; exact h1.1
    refine .inr ⟨g, cap, cur, h1, h2, ?_, h4⟩
    rw [Below.heap_setCell _ _ _ g (by simpa using hm), Below.heap_setCell _ _ _ g (by simpa using hm)]
    exact h3
theorem own_two {w : World} {g : Nat} {n c k : Nat} {l : List (Int × Int)} (h : w.ownsRow g 28 2 (.slice (some ⟨g, 0, none⟩) n c) n (flat2 l)) (hk : k < l.length) :
    w.cell? ⟨g, k * 2, none⟩ = some (.int .u8 (l.getD k (0, 0)).1) ∧ w.cell? ⟨g, k * 2 + 1, none⟩ = some (.int .u8 (l.getD k (0, 0)).2) ∧ w.frozen? ⟨g, k * 2, none⟩ = false ∧ w.frozen? ⟨g, k * 2 + 1, none⟩ = false := by
  have hl : l.length = n := by have := h.1; rw [flat2_len] at this; omega
  refine ⟨?_, ?_, h.frozenAt _, h.frozenAt _⟩
  · rw [h.cellAt (k * 2) (by omega)]; exact (flat2_get l k hk).1
  · rw [h.cellAt (k * 2 + 1) (by omega)]; exact (flat2_get l k hk).2
theorem own_put {w : World} {g : Nat} {n c k : Nat} {l : List (Int × Int)} (h : w.ownsRow g 28 2 (.slice (some ⟨g, 0, none⟩) n c) n (flat2 l)) (hk : k < l.length) (a b : Int) :
    ((w.setCell ⟨g, k * 2, none⟩ (.int .u8 a)).setCell ⟨g, k * 2 + 1, none⟩ (.int .u8 b)).ownsRow g 28 2 (.slice (some ⟨g, 0, none⟩) n c) n (flat2 (l.set k (a, b))) := by
  rw [← flat2_set l k a b hk]
  exact ((h.stored (k * 2) (.int .u8 a)).1.stored (k * 2 + 1) (.int .u8 b)).1

set_option maxHeartbeats 4000000 in
set_option maxRecDepth 100000 in
theorem pdi_main (q at_ : Int) (hq : 0 ≤ q) (ha0 : 0 ≤ at_) (ha1 : at_ ≤ 255) (l : List (Int × Int)) (s : Value) (w : World) (ht : Tabs w) (hs : Pl w w.heap.size s l) (n c b o : Nat) (hv : s = .slice (some ⟨b, o, none⟩) n c)
    (hc : ∀ k, k < n → b < w.heap.size ∧ w.cell? ⟨b, o + k * 2, none⟩ = some (.int .u8 (l.getD k (0, 0)).1) ∧ w.cell? ⟨b, o + k * 2 + 1, none⟩ = some (.int .u8 (l.getD k (0, 0)).2))
    (hn : n = l.length) (h1 : n ≤ 16) (h2 : 2 ≤ n) :
    Calls Tryd.prog 4 #[.int .u8 q, s, .int .u8 at_] w fun e w' => e = .returned (.bool true) ∧ Below w.heap.size w w' := by
  obtain ⟨j0, hj, hy0, hy1, hy2⟩ := info_parts info_pair
  have HT := Lib.hid ht
  have HC := Lib.hid hc
  have HN := Lib.hid hn
  have HJ := Lib.hid hj
  have HY0 := Lib.hid hy0
  have HY1 := Lib.hid hy1
  have HY2 := Lib.hid hy2
  have HS := Lib.hid hs
  have HQ := Lib.hid hq
  subst hv
  clear ht hc hn hj hy0 hy1 hy2 hs hq
  have d1 : decide ((16 : Int) < (n : Int)) = false := by simp; omega
  have d2 : decide ((n : Int) < 2) = false := by simp; omega
  go_enter Tryd.func4, Tryd.ntmps4
  go_wp2_with fail
  go_loopw [7, 8] (fun v i wr => ∃ k : Nat, k ≤ n ∧ i = .int .i64 k ∧ Below w.heap.size w wr ∧ ∃ z : Bool, v = .bool z ∧ z = anyDif q (l.take k)) (fun _ i _ => n - (intOf i).toNat)
  case atStart => exact ⟨0, Nat.zero_le _, rfl, Below.refl _ _, false, rfl, rfl⟩
  case round =>
    obtain ⟨k, hk, rfl, hw0, z, rfl, hz⟩ := hrel
    have HW := Lib.hid hw0
    have HZ := Lib.hid hz
    clear hw0 hz
    by_cases hlt : k < n
    · have HBL : Hid (b < w.heap.size) := Lib.hid (HC.out k hlt).1
      have hcells := (HC.out k hlt).2
      have HAT := Lib.hid (any_take q l k (by rw [← HN.out]; exact hlt))
      obtain ⟨c1, c2, c3, hc1, hc2, hc3, hways⟩ := dif_ways q (l.getD k (0, 0))
      obtain ⟨x0, HX0⟩ := named (l.getD k (0, 0)).1
      obtain ⟨x1, HX1⟩ := named (l.getD k (0, 0)).2
      rw [← HX0.out, ← HX1.out] at hcells hc1 hc3
      obtain ⟨dv, HDV⟩ := named (difAt q (l.getD k (0, 0)))
      rw [← HDV.out] at HAT hways
      have HCA := Lib.hid (fun w => clean_any x0 w)
      have HCB := Lib.hid (fun w => clean_any x1 w)
      have HRA := Lib.hid (fun w => read_any x0 w)
      have HRB := Lib.hid (fun w => read_any x1 w)
      obtain ⟨a0, HA0⟩ := named (cln x0)
      obtain ⟨a1, HA1⟩ := named (cln x1)
      obtain ⟨r0, HR0⟩ := named (rd x0)
      obtain ⟨r1, HR1⟩ := named (rd x1)
      rw [← HA0.out] at HCA hc1
      rw [← HA1.out] at HCB hc1
      rw [← HR0.out] at HRA hc3
      rw [← HR1.out] at HRB hc3
      have hzb : b < wr.heap.size := Nat.lt_of_lt_of_le HBL.out HW.out.size
      have l0 : ∀ x : Beh wr, x.x.cell? ⟨b, o + k * 2, none⟩ = some (.int .u8 x0) := beh_cell hzb ((HW.out.cell (p := ⟨b, o + k * 2, none⟩) HBL.out).trans hcells.1)
      have l1 : ∀ x : Beh wr, x.x.cell? ⟨b, o + k * 2 + 1, none⟩ = some (.int .u8 x1) := beh_cell hzb ((HW.out.cell (p := ⟨b, o + k * 2 + 1, none⟩) HBL.out).trans hcells.2)
      have hk0 : (0 : Int) ≤ (k : Int) := by omega
      have hk1 : (k : Int) < (n : Int) := by omega
      clear hcells hzb HX0 HX1 HA0 HA1 HR0 HR1 HDV
      cases z
      · rcases hways with ⟨rfl, rfl⟩ | ⟨rfl, rfl, rfl⟩ | ⟨rfl, rfl, rfl⟩
        all_goals
          go_wp2_with fail
          refine region_class (w0 := wr) (Below.refl _ _) (by kernel_rfl) (by kernel_rfl) ?_
          repeat (first
            | go_big_quiet_skip
            | (go_big_quiet_want; go_big_quiet_op; first
              | go_big_quiet_on
              | (apply Exists.intro
                 refine ⟨fun xx => ?_, ?_⟩
                 focus first
                  | (go_at_call 13; with_reducible exact beh_same (HCA.out _))
                  | (go_at_call 13; with_reducible exact beh_same (HCB.out _))
                  | (go_at_call 14; with_reducible exact beh_same (HRA.out _))
                  | (go_at_call 14; with_reducible exact beh_same (HRB.out _))
                 go_big_quiet_on)))
          refine wpQuiet_nil ?_
          rintro w2 ⟨⟨_, hx2⟩, rfl⟩
          have HW2 := Lib.hid (HW.out.trans (hx2.mono HW.out.size))
          clear l0 l1 hk0 hk1 hx2
          go_wp2_with fail
          go_roundw
          case rel => exact ⟨k + 1, by omega, by go_num, HW2.out, _, rfl, by rw [HAT.out, ← HZ.out]; rfl⟩
          case measure => simp [intOf]; omega
      · go_wp2_with fail
        refine region_class (w0 := wr) (Below.refl _ _) (by kernel_rfl) (by kernel_rfl) ?_
        repeat (first
          | go_big_quiet_skip
          | (go_big_quiet_want; go_big_quiet_op; first
            | go_big_quiet_on
            | (apply Exists.intro
               refine ⟨fun xx => ?_, ?_⟩
               focus first
                | (go_at_call 13; with_reducible exact beh_same (HCA.out _))
                | (go_at_call 13; with_reducible exact beh_same (HCB.out _))
                | (go_at_call 14; with_reducible exact beh_same (HRA.out _))
                | (go_at_call 14; with_reducible exact beh_same (HRB.out _))
               go_big_quiet_on)))
        refine wpQuiet_nil ?_
        rintro w2 ⟨⟨_, hx2⟩, rfl⟩
        have HW2 := Lib.hid (HW.out.trans (hx2.mono HW.out.size))
        clear l0 l1 hk0 hk1 hx2
        go_wp2_with fail
        go_roundw
        case rel => exact ⟨k + 1, by omega, by go_num, HW2.out, _, rfl, by rw [HAT.out, ← HZ.out]; rfl⟩
        case measure => simp [intOf]; omega
    · obtain rfl : n = k := by omega
      have htk : l.take n = l := List.take_of_length_le (by rw [HN.out]; exact Nat.le_refl _)
      have hz : z = anyDif q l := by have := HZ.out; rwa [htk] at this
      have hll : l.length ≤ 1000 := by rw [← HN.out]; omega
      have HP := Lib.hid (fun (w' : World) (hb : Below w.heap.size w w') => evalP_any q HQ.out (w := w') (B := w.heap.size) (s := .slice (some ⟨b, o, none⟩) n c) (l := l) hb.size (HS.out.below hb) hll (HT.out.below hb))
      have hd : dif (evP1 q l) (evP2 q l) = false ∨ (dif (evP1 q l) (evP2 q l) = true ∧ z = true) := by
        cases h : dif (evP1 q l) (evP2 q l)
        · exact .inl rfl
        · refine .inr ⟨rfl, ?_⟩
          cases hz' : z
          · rw [hz'] at hz
            have := dif_from q l hz.symm
            rw [show dif (evalL q (l.map Prod.fst)) (evalL q (l.map Prod.snd)) = true from h] at this
            cases this
          · rfl
      have HD := Lib.hid (fun w => differs_any (evP1 q l) (evP2 q l) w)
      have HCT := Lib.hid (fun w => control_any q w)
      obtain ⟨dz, HDZ⟩ := named (dif (evP1 q l) (evP2 q l))
      obtain ⟨e1, HF1⟩ := named (evP1 q l)
      obtain ⟨e2, HF2⟩ := named (evP2 q l)
      rw [← HDZ.out] at hd HD
      rw [← HF1.out, ← HF2.out] at HP HD
      clear htk hz hll HZ HDZ
      cases hi : isc q
      · rw [hi] at HCT
        rcases hd with rfl | ⟨rfl, rfl⟩
        all_goals
          go_wp2_with (first
            | (go_at_call 11; (with_reducible refine (HP.out _ HW.out).mono ?_); rintro e w1 ⟨rfl, hb1⟩; have HB1 := Lib.hid (joinB HW.out hb1); clear hb1)
            | (go_at_call 15; (with_reducible refine (HD.out _).mono ?_); rintro e w2 ⟨rfl, hb2⟩; have HB2 := Lib.hid (joinB HB1.out hb2); clear hb2)
            | (go_at_call 16; (with_reducible refine (HCT.out _).mono ?_); rintro e w' ⟨rfl, rfl⟩)
            | (go_at_call 10; (with_reducible refine (livesP_any _ (HT.out.below HB2.out)).mono ?_); rintro e w5 ⟨rfl, hb5⟩))
          go_ret
          exact ⟨rfl, joinB HB2.out (by assumption)⟩
      · rw [hi] at HCT
        have HI := Lib.hid hi
        clear hi
        rcases hd with rfl | ⟨rfl, rfl⟩
        all_goals
          go_wp2_with (first
            | (go_at_call 11; (with_reducible refine (HP.out _ HW.out).mono ?_); rintro e w1 ⟨rfl, hb1⟩; have HB1 := Lib.hid (joinB HW.out hb1); clear hb1)
            | (go_at_call 15; (with_reducible refine (HD.out _).mono ?_); rintro e w2 ⟨rfl, hb2⟩; have HB2 := Lib.hid (joinB HB1.out hb2); clear hb2)
            | (go_at_call 16; (with_reducible refine (HCT.out _).mono ?_); rintro e w' ⟨rfl, rfl⟩)
            | (at_make; refine wpList_make_full _ rfl _ _ 23 rfl w2.heap.size 28 j0 (.agg #[.int .u8 0, .int .u8 0]) 2 Tryd.underlying23 HJ.out HY0.out HY1.out .i64 .i64 _ _ n rfl rfl rfl rfl ?b2 ?b3 ?b4 ?_))
          case b2 => rw [HY2.out]; omega
          case b3 => unfold maxLen; omega
          case b4 => exact Nat.le_refl _
          intro w3 hown hgr
          rw [made_flat2] at hown
          have hb3 : Below w2.heap.size w2 w3 := (Below.refl _ _).grown hgr (Nat.le_refl _) (fun k h => by cases h)
          have HO := Lib.hid hown
          have HB3 := Lib.hid hb3
          obtain ⟨v, HV⟩ := named (ctl q)
          have hv01 : v = 0 ∨ v = 1 := by rw [HV.out]; exact ctl_01 HI.out
          have HNT := Lib.hid (fun w => not_any v w)
          obtain ⟨nv, HNV⟩ := named (nt v)
          rw [← HNV.out] at HNT
          have hof := fun w => ofP_any nv w
          rw [show cln nv = nv by rw [HNV.out]; rcases hv01 with rfl | rfl <;> decide] at hof
          have HOF := Lib.hid hof
          have hof2 := fun w => ofP_any v w
          rw [show cln v = v by rcases hv01 with rfl | rfl <;> decide] at hof2
          have HOV := Lib.hid hof2
          have HV01 := Lib.hid hv01
          rw [← HV.out]
          clear hown hgr hb3 hof hof2 hv01 HD HP hk hlt
          go_wp2_with fail
          go_loopw [12] (fun i wr => ∃ k : Nat, k ≤ n ∧ i = .int .i64 k ∧ Below w2.heap.size w2 wr ∧ wr.ownsRow w2.heap.size 28 2 (.slice (some ⟨w2.heap.size, 0, none⟩) n n) n (flat2 (LK nv n k))) (fun i _ => n - (intOf i).toNat)
          case atStart => exact ⟨0, Nat.zero_le _, rfl, HB3.out, HO.out⟩
          case round =>
            clear HO HB3
            obtain ⟨k, hk, rfl, hb, hown⟩ := hrel
            have HB := Lib.hid hb
            have HO := Lib.hid hown
            clear hb hown
            by_cases hlt : k < n
            · have hk0 : (0 : Int) ≤ (k : Int) := by omega
              go_wp2_with (first
                | (go_at_call 18; (with_reducible refine (HNT.out _).mono ?_); rintro e w' ⟨rfl, rfl⟩)
                | (go_at_call 17; (with_reducible refine (HOF.out _).mono ?_); rintro e w4 ⟨rfl, hb4⟩; have HB4 := Lib.hid (joinB HB.out hb4); have HO4 := Lib.hid (own_below HO.out hb4); clear hb4; obtain ⟨c0, c1, f0, f1⟩ := own_two HO4.out (k := k) (by rw [LK_len hk]; exact hlt)))
              have HST := Lib.hid (own_put HO4.out (k := k) (by rw [LK_len hk]; exact hlt) nv nv)
              clear c0 c1 f0 f1
              go_roundw
              case rel => exact ⟨k + 1, by omega, by go_num, (HB4.out.setCell (Nat.le_refl _) _).setCell (Nat.le_refl _) _, by rw [← LK_set nv hlt]; exact HST.out⟩
              case measure => simp [intOf]; omega
            · obtain rfl : n = k := by omega
              obtain ⟨k, hk', hkn⟩ : ∃ k : Nat, at_ % (n : Int) = (k : Int) ∧ k < n := ⟨(at_ % (n : Int)).toNat, by rw [Int.toNat_of_nonneg]; exact Int.emod_nonneg _ (by omega), by have := Int.emod_lt_of_pos at_ (show (0 : Int) < (n : Int) by omega); omega⟩
              obtain ⟨k2, hk2, hkn2⟩ : ∃ k2 : Nat, ((k : Int) + 1) % (n : Int) = (k2 : Int) ∧ k2 < n := ⟨(((k : Int) + 1) % (n : Int)).toNat, by rw [Int.toNat_of_nonneg]; exact Int.emod_nonneg _ (by omega), by have := Int.emod_lt_of_pos ((k : Int) + 1) (show (0 : Int) < (n : Int) by omega); omega⟩
              have hOD := out_D h2 h1 hkn q (isc_cases HI.out)
              have hOV := out_V (k := k) h2 h1 hkn2 q (isc_cases HI.out)
              rw [← HV.out] at hOD hOV
              have hrow : flat2 (LK nv n n) = flat2 (List.replicate n (nv, nv)) := by rw [LK, Nat.sub_self]; simp
              have HO' : Hid (wr.ownsRow w2.heap.size 28 2 (.slice (some ⟨w2.heap.size, 0, none⟩) n n) n (flat2 (List.replicate n (nv, nv)))) := Lib.hid (by rw [← hrow]; exact HO.out)
              have HL1 : Hid ((List.replicate n (nv, nv)).set k (1, 0) = inD v n k) := Lib.hid (by rw [HNV.out]; rfl)
              have HL2 : Hid ((inD v n k).set k2 (v, v) = inV v n k k2) := Lib.hid rfl
              have hd1 : (n : Int) ≠ 0 := by omega
              have hd2 : ((n : Int) == 0) = false := by simp; omega
              have hd3 : ¬ n = 0 := by omega
              have hd4 : (n == 0) = false := by simp; omega
              have HTM : Hid (((k : Int) + 1).tmod (n : Int) = (k2 : Int)) := Lib.hid (by rw [Int.tmod_eq_emod_of_nonneg (by omega)]; exact hk2)
              have HK := Lib.hid hkn
              have HK2 := Lib.hid hkn2
              have HKM := Lib.hid hk2
              have HIN := Lib.hid (fun w => inverts_any q w)
              clear hk2 hrow
              have HEV : Hid (∀ (w' : World), Below w2.heap.size w2 w' → ∀ (L : List (Int × Int)), w'.ownsRow w2.heap.size 28 2 (.slice (some ⟨w2.heap.size, 0, none⟩) n n) n (flat2 L) → Calls Tryd.prog 11 #[.int .u8 q, .slice (some ⟨w2.heap.size, 0, none⟩) n n] w' fun e w'' => e = .returned (.agg #[.int .u8 (evP1' q L), .int .u8 (evP2' q L)]) ∧ Below w'.heap.size w' w'') :=
                Lib.hid fun w' hb L hrow => evalP_any q HQ.out (Nat.le_refl _) (Pl.of_own hrow).1 (by have := (Pl.of_own hrow).2; omega) (HT.out.below (joinB HB2.out hb))
              have dD1 := Lib.hid dP_any
              have HEVV := Lib.hid (fun w' hb hrow => HEV.out w' hb (inV v n k k2) hrow)
              have HDV := Lib.hid (fun w => differs_any (evP1' q (inV v n k k2)) (evP2' q (inV v n k k2)) w)
              rw [hOV] at HDV
              obtain ⟨t1, HT1⟩ := named (evP1' q (inV v n k k2))
              obtain ⟨t2, HT2⟩ := named (evP2' q (inV v n k k2))
              rw [← HT1.out, ← HT2.out] at HEVV HDV
              clear hOV
              cases hinv : inv q
              · rw [hinv] at HIN hOD
                have hO1 : evP1' q (inD v n k) = 1 := by simpa using hOD.1
                have hO2 : evP2' q (inD v n k) = 0 := by simpa using hOD.2
                have HEVD := Lib.hid (fun w' hb hrow => HEV.out w' hb (inD v n k) hrow)
                rw [hO1, hO2] at HEVD
                clear hinv hOD hO1 hO2
                go_wp2_with (first
                  | (go_at_call 19; first
                    | ((with_reducible refine (dD1.out wr).mono ?_); rintro e w5 ⟨rfl, hb5⟩; have HB5 := Lib.hid (joinB HB.out hb5); have HR5 := Lib.hid (own_below HO'.out hb5); clear hb5; obtain ⟨c0, c1, f0, f1⟩ := own_two HR5.out (k := k) (by rw [List.length_replicate]; exact HK.out))
                    | ((with_reducible refine (dP_any _).mono ?_); rintro e w6 ⟨rfl, hb6⟩; have HR6 : Hid (w6.ownsRow w2.heap.size 28 2 (.slice (some ⟨w2.heap.size, 0, none⟩) n n) n (flat2 (inD v n k))) := Lib.hid (by rw [← HL1.out]; exact own_below (own_put HR5.out (k := k) (by rw [List.length_replicate]; exact HK.out) 1 0) hb6); have HB6 := Lib.hid (joinB ((HB5.out.setCell (Nat.le_refl _) _).setCell (Nat.le_refl _) _) hb6); clear hb6 c0 c1 f0 f1))
                  | (go_at_call 20; (with_reducible refine (HIN.out _).mono ?_); rintro e w' ⟨rfl, rfl⟩)
                  | (go_at_call 11; (with_reducible refine (HEVD.out _ (belowA HB6.out) (HR6.out.alloc _)).mono ?_); rintro e w8 ⟨rfl, hb8⟩; have HR8 := Lib.hid (own_below (HR6.out.alloc _) hb8); have HW8 := Lib.hid ((Box.new w6 (.int .u8 1) (.int .u8 0) 28).below hb8); have HB8 := Lib.hid (joinB (belowA HB6.out) hb8); clear hb8))
                obtain ⟨w9, hw9⟩ : ∃ x, x = w8.alloc (.cells #[.int .u8 1, .int .u8 0] 28) := ⟨_, rfl⟩
                rw [← hw9]
                have HR9 : Hid (w9.ownsRow w2.heap.size 28 2 (.slice (some ⟨w2.heap.size, 0, none⟩) n n) n (flat2 (inD v n k))) := Lib.hid (by rw [hw9]; exact HR8.out.alloc _)
                have HW9 : Hid (Box w6.heap.size (.int .u8 1) (.int .u8 0) w9) := Lib.hid (by rw [hw9]; exact HW8.out.alloc _)
                have HU9 : Hid (Box w8.heap.size (.int .u8 1) (.int .u8 0) w9) := Lib.hid (by rw [hw9]; exact Box.new' _ _ _ _ rfl)
                have HB9 : Hid (Below w2.heap.size w2 w9) := Lib.hid (by rw [hw9]; exact belowA HB8.out)
                have HNE1 : Hid (w2.heap.size ≠ w6.heap.size) := Lib.hid (by have := own_lt HR6.out (q := w2.heap.size) rfl; omega)
                have HNE2 : Hid (w2.heap.size ≠ w8.heap.size) := Lib.hid (by have := own_lt HR8.out (q := w2.heap.size) rfl; omega)
                clear hw9
                have hb9 : Below w2.heap.size w2 w9 := HB9.out
                have hw1 : IntKind.i64.wrap ((k : Int) + 1) = (k : Int) + 1 := IntWalk.i64_in _ (by omega)
                have htm := HTM.out
                have hk20 : (0 : Int) ≤ (k2 : Int) := by omega
                have hk21 : (k2 : Int) < (n : Int) := by omega
                go_region_held3 (fun w' => Below w2.heap.size w2 w')
                  ((first | assumption | exact Below.drew (by assumption) | exact joinB (by assumption) (by assumption) | exact joinB (Below.drew (by assumption)) (by assumption) | (refine Below.setCell (Below.setCell ?_ ?_ _) ?_ _ <;> first | assumption | exact Nat.le_refl _)))
                  (first
                    | (go_at_call 17; (with_reducible refine (HOV.out _).mono ?_); rintro e w10 ⟨rfl, hb10⟩; have HR10 := Lib.hid (own_below (by first | exact HR9.out | exact HR9.out.drew) hb10); have HW10 := Lib.hid (Box.below (by first | exact HW9.out | exact (HW9.out : Box _ _ _ w9.drew)) hb10); have HU10 := Lib.hid (Box.below (by first | exact HU9.out | exact (HU9.out : Box _ _ _ w9.drew)) hb10); obtain ⟨c0, c1, f0, f1⟩ := own_two HR10.out (k := k2) (by rw [inD_len]; exact HK2.out)))
                all_goals
                  obtain ⟨wf, hwf⟩ : ∃ x, x = (w10.setCell ⟨w2.heap.size, k2 * 2, none⟩ (.int .u8 v)).setCell ⟨w2.heap.size, k2 * 2 + 1, none⟩ (.int .u8 v) := ⟨_, rfl⟩
                  rw [← hwf]
                  have hbf : Below w2.heap.size w2 wf := by rw [hwf]; assumption
                  have HRF : Hid (wf.ownsRow w2.heap.size 28 2 (.slice (some ⟨w2.heap.size, 0, none⟩) n n) n (flat2 (inV v n k k2))) := Lib.hid (by rw [hwf, ← HL2.out]; exact own_put HR10.out (k := k2) (by rw [inD_len]; exact HK2.out) v v)
                  have HWF : Hid (Box w6.heap.size (.int .u8 1) (.int .u8 0) wf) := Lib.hid (by rw [hwf]; exact HW10.out.far2 HNE1.out _ _ _ _)
                  have HUF : Hid (Box w8.heap.size (.int .u8 1) (.int .u8 0) wf) := Lib.hid (by rw [hwf]; exact HU10.out.far2 HNE2.out _ _ _ _)
                  have HBF := Lib.hid hbf
                  clear hbf c0 c1 f0 f1 hb9 hw1 htm hk20 hk21 hb10
                  have HDO : Hid (∀ w, Calls Tryd.prog 15 #[.agg #[.int .u8 1, .int .u8 0]] w fun e w' => e = .returned (.bool true) ∧ Below w.heap.size w w') := Lib.hid fun w => differs_any 1 0 w
                  have eg := eg_pair
                  have eqs := eq_same 1 0
                  obtain ⟨zw, p0, p1, -, -⟩ := HWF.out
                  obtain ⟨zu, q0, q1, -, -⟩ := HUF.out
                  clear hwf
                  go_wp2_with (first
                    | (go_at_call 15; first
                      | ((with_reducible refine (HDO.out _).mono ?_); rintro e wg ⟨rfl, hbg⟩; have HBG := Lib.hid (joinB HBF.out hbg); have HRG := Lib.hid (own_below HRF.out hbg); clear hbg)
                      | ((with_reducible refine (HDV.out _).mono ?_); rintro e wi ⟨rfl, hbi⟩; have HBI := Lib.hid (joinB HBH.out hbi); clear hbi))
                    | (go_at_call 11; (with_reducible refine (HEVV.out _ HBG.out HRG.out).mono ?_); rintro e wh ⟨rfl, hbh⟩; have HBH := Lib.hid (joinB HBG.out hbh); clear hbh)
                    | (go_at_call 10; (with_reducible refine (livesP_any _ (HT.out.below (joinB HB2.out HBI.out))).mono ?_); rintro e wj ⟨rfl, hbj⟩))
                  go_ret
                  exact ⟨rfl, joinB HB2.out (joinB HBI.out (by assumption))⟩

              · rw [hinv] at HIN hOD
                have hO1 : evP1' q (inD v n k) = 0 := by simpa using hOD.1
                have hO2 : evP2' q (inD v n k) = 1 := by simpa using hOD.2
                have HEVD := Lib.hid (fun w' hb hrow => HEV.out w' hb (inD v n k) hrow)
                rw [hO1, hO2] at HEVD
                clear hinv hOD hO1 hO2
                go_wp2_with (first
                  | (go_at_call 19; first
                    | ((with_reducible refine (dD1.out wr).mono ?_); rintro e w5 ⟨rfl, hb5⟩; have HB5 := Lib.hid (joinB HB.out hb5); have HR5 := Lib.hid (own_below HO'.out hb5); clear hb5; obtain ⟨c0, c1, f0, f1⟩ := own_two HR5.out (k := k) (by rw [List.length_replicate]; exact HK.out))
                    | ((with_reducible refine (dP_any _).mono ?_); rintro e w6 ⟨rfl, hb6⟩; have HR6 : Hid (w6.ownsRow w2.heap.size 28 2 (.slice (some ⟨w2.heap.size, 0, none⟩) n n) n (flat2 (inD v n k))) := Lib.hid (by rw [← HL1.out]; exact own_below (own_put HR5.out (k := k) (by rw [List.length_replicate]; exact HK.out) 1 0) hb6); have HB6 := Lib.hid (joinB ((HB5.out.setCell (Nat.le_refl _) _).setCell (Nat.le_refl _) _) hb6); clear hb6 c0 c1 f0 f1))
                  | (go_at_call 20; (with_reducible refine (HIN.out _).mono ?_); rintro e w' ⟨rfl, rfl⟩)
                  | (go_at_call 21; (with_reducible refine (bP_any _).mono ?_); rintro e w7 ⟨rfl, hb7⟩; have HR7 := Lib.hid (own_below (HR6.out.alloc _) hb7); have HW7 := Lib.hid ((Box.new w6 (.int .u8 1) (.int .u8 0) 28).below hb7); have HB7 := Lib.hid (joinB (belowA HB6.out) hb7); clear hb7; obtain ⟨z1, p0, p1, f0, f1⟩ := HW7.out)
                  | (go_at_call 11; have HR7' := Lib.hid (put_far HR7.out (m := w6.heap.size) (by have := HB6.out.size; have := own_lt HR6.out (q := w2.heap.size) rfl; omega) (.int .u8 0) (.int .u8 1)); have HB7' := Lib.hid (below_put HB7.out (n := w6.heap.size) HB6.out.size (.int .u8 0) (.int .u8 1)); (with_reducible refine (HEVD.out _ HB7'.out HR7'.out).mono ?_); rintro e w8 ⟨rfl, hb8⟩; have HR8 := Lib.hid (own_below HR7'.out hb8); have HW8 := Lib.hid ((HW7.out.put (.int .u8 0) (.int .u8 1)).below hb8); have HB8 := Lib.hid (joinB HB7'.out hb8); clear hb8 z1 p0 p1 f0 f1))
                obtain ⟨w9, hw9⟩ : ∃ x, x = w8.alloc (.cells #[.int .u8 0, .int .u8 1] 28) := ⟨_, rfl⟩
                rw [← hw9]
                have HR9 : Hid (w9.ownsRow w2.heap.size 28 2 (.slice (some ⟨w2.heap.size, 0, none⟩) n n) n (flat2 (inD v n k))) := Lib.hid (by rw [hw9]; exact HR8.out.alloc _)
                have HW9 : Hid (Box w6.heap.size (.int .u8 0) (.int .u8 1) w9) := Lib.hid (by rw [hw9]; exact HW8.out.alloc _)
                have HU9 : Hid (Box w8.heap.size (.int .u8 0) (.int .u8 1) w9) := Lib.hid (by rw [hw9]; exact Box.new' _ _ _ _ rfl)
                have HB9 : Hid (Below w2.heap.size w2 w9) := Lib.hid (by rw [hw9]; exact belowA HB8.out)
                have HNE1 : Hid (w2.heap.size ≠ w6.heap.size) := Lib.hid (by have := own_lt HR6.out (q := w2.heap.size) rfl; omega)
                have HNE2 : Hid (w2.heap.size ≠ w8.heap.size) := Lib.hid (by have := own_lt HR8.out (q := w2.heap.size) rfl; omega)
                clear hw9
                have hb9 : Below w2.heap.size w2 w9 := HB9.out
                have hw1 : IntKind.i64.wrap ((k : Int) + 1) = (k : Int) + 1 := IntWalk.i64_in _ (by omega)
                have htm := HTM.out
                have hk20 : (0 : Int) ≤ (k2 : Int) := by omega
                have hk21 : (k2 : Int) < (n : Int) := by omega
                go_region_held3 (fun w' => Below w2.heap.size w2 w')
                  ((first | assumption | exact Below.drew (by assumption) | exact joinB (by assumption) (by assumption) | exact joinB (Below.drew (by assumption)) (by assumption) | (refine Below.setCell (Below.setCell ?_ ?_ _) ?_ _ <;> first | assumption | exact Nat.le_refl _)))
                  (first
                    | (go_at_call 17; (with_reducible refine (HOV.out _).mono ?_); rintro e w10 ⟨rfl, hb10⟩; have HR10 := Lib.hid (own_below (by first | exact HR9.out | exact HR9.out.drew) hb10); have HW10 := Lib.hid (Box.below (by first | exact HW9.out | exact (HW9.out : Box _ _ _ w9.drew)) hb10); have HU10 := Lib.hid (Box.below (by first | exact HU9.out | exact (HU9.out : Box _ _ _ w9.drew)) hb10); obtain ⟨c0, c1, f0, f1⟩ := own_two HR10.out (k := k2) (by rw [inD_len]; exact HK2.out)))
                all_goals
                  obtain ⟨wf, hwf⟩ : ∃ x, x = (w10.setCell ⟨w2.heap.size, k2 * 2, none⟩ (.int .u8 v)).setCell ⟨w2.heap.size, k2 * 2 + 1, none⟩ (.int .u8 v) := ⟨_, rfl⟩
                  rw [← hwf]
                  have hbf : Below w2.heap.size w2 wf := by rw [hwf]; assumption
                  have HRF : Hid (wf.ownsRow w2.heap.size 28 2 (.slice (some ⟨w2.heap.size, 0, none⟩) n n) n (flat2 (inV v n k k2))) := Lib.hid (by rw [hwf, ← HL2.out]; exact own_put HR10.out (k := k2) (by rw [inD_len]; exact HK2.out) v v)
                  have HWF : Hid (Box w6.heap.size (.int .u8 0) (.int .u8 1) wf) := Lib.hid (by rw [hwf]; exact HW10.out.far2 HNE1.out _ _ _ _)
                  have HUF : Hid (Box w8.heap.size (.int .u8 0) (.int .u8 1) wf) := Lib.hid (by rw [hwf]; exact HU10.out.far2 HNE2.out _ _ _ _)
                  have HBF := Lib.hid hbf
                  clear hbf c0 c1 f0 f1 hb9 hw1 htm hk20 hk21 hb10
                  have HDO : Hid (∀ w, Calls Tryd.prog 15 #[.agg #[.int .u8 0, .int .u8 1]] w fun e w' => e = .returned (.bool true) ∧ Below w.heap.size w w') := Lib.hid fun w => differs_any 0 1 w
                  have eg := eg_pair
                  have eqs := eq_same 0 1
                  obtain ⟨zw, p0, p1, -, -⟩ := HWF.out
                  obtain ⟨zu, q0, q1, -, -⟩ := HUF.out
                  clear hwf
                  go_wp2_with (first
                    | (go_at_call 15; first
                      | ((with_reducible refine (HDO.out _).mono ?_); rintro e wg ⟨rfl, hbg⟩; have HBG := Lib.hid (joinB HBF.out hbg); have HRG := Lib.hid (own_below HRF.out hbg); clear hbg)
                      | ((with_reducible refine (HDV.out _).mono ?_); rintro e wi ⟨rfl, hbi⟩; have HBI := Lib.hid (joinB HBH.out hbi); clear hbi))
                    | (go_at_call 11; (with_reducible refine (HEVV.out _ HBG.out HRG.out).mono ?_); rintro e wh ⟨rfl, hbh⟩; have HBH := Lib.hid (joinB HBG.out hbh); clear hbh)
                    | (go_at_call 10; (with_reducible refine (livesP_any _ (HT.out.below (joinB HB2.out HBI.out))).mono ?_); rintro e wj ⟨rfl, hbj⟩))
                  go_ret
                  exact ⟨rfl, joinB HB2.out (joinB HBI.out (by assumption))⟩

theorem pdi_any (q at_ : Int) (hq : 0 ≤ q) (ha0 : 0 ≤ at_) (ha1 : at_ ≤ 255) (l : List (Int × Int)) (s : Value) (w : World) (ht : Tabs w) (hs : Pl w w.heap.size s l) (A : Option Addr) (c b o : Nat) (hv : s = .slice A l.length c) (hA : 0 < l.length → A = some ⟨b, o, none⟩)
    (hc : ∀ k, k < l.length → b < w.heap.size ∧ w.cell? ⟨b, o + k * 2, none⟩ = some (.int .u8 (l.getD k (0, 0)).1) ∧ w.cell? ⟨b, o + k * 2 + 1, none⟩ = some (.int .u8 (l.getD k (0, 0)).2)) :
    Calls Tryd.prog 4 #[.int .u8 q, s, .int .u8 at_] w fun e w' => e = .returned (.bool true) ∧ Below w.heap.size w w' := by
  by_cases h : 16 < l.length ∨ (¬ 16 < l.length ∧ l.length < 2)
  · subst hv; exact pdi_long q at_ A _ c w ht h
  · obtain rfl := hA (by omega)
    exact pdi_main q at_ hq ha0 ha1 l s w ht hs l.length c b o hv hc rfl (by omega) (by omega)

end Go.Proofs.YtnddgkcgedkabaaDoor
