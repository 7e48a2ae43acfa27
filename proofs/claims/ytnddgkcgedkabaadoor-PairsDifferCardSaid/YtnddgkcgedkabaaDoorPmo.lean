/- The walk of the law of monotonicity of pairs. -/
import Derived.Test.YtnddgkcgedkabaaDoorPel
import Derived.Test.YtnddgkcgedkabaaDoorPcl
import Derived.Test.YtnddgkcgedkabaaDoorMono
namespace Go.Proofs.YtnddgkcgedkabaaDoor
open Go.RowKit

theorem two_cell1 (x y : Int) : ∀ u ∈ [Value.int .u8 x, Value.int .u8 y], u.oneCell' = true := by intro u hu; simp at hu; rcases hu with rfl | rfl <;> rfl
theorem cln_idem (a : Int) : cln (cln a) = cln a := by
  by_cases h : 3 < a
  · rw [show cln a = 2 by simp [cln, h]]; decide
  · rw [show cln a = a by simp [cln, h], show cln a = a by simp [cln, h]]
theorem blw_cln (a : Int) : blw a (cln a) = true := by simp [blw, cln_idem]
/-- What replaces a value. -/
def mo (a b : Int) : Int := if cln a = 2 then b else cln a
theorem blw_mo (a b : Int) : blw a (mo a b) = true := by
  unfold mo
  split
  · rename_i h; simp [blw, h]
  · exact blw_cln a
def mor2 (l y : List (Int × Int)) : Nat → List (Int × Int)
  | 0 => []
  | k + 1 => mor2 l y k ++ [(mo (l.getD k (0, 0)).1 (y.getD k (0, 0)).1, mo (l.getD k (0, 0)).2 (y.getD k (0, 0)).2)]
theorem mor2_len (l y : List (Int × Int)) (k : Nat) : (mor2 l y k).length = k := by
  induction k with
  | zero => rfl
  | succ k ih => simp [mor2, ih]
theorem mor2_get (l y : List (Int × Int)) : ∀ (n k : Nat), k < n → (mor2 l y n).getD k (0, 0) = (mo (l.getD k (0, 0)).1 (y.getD k (0, 0)).1, mo (l.getD k (0, 0)).2 (y.getD k (0, 0)).2)
  | n + 1, k, h => by
    rw [mor2, List.getD_eq_getElem?_getD]
    by_cases hk : k < n
    · rw [List.getElem?_append_left (by rw [mor2_len]; exact hk), ← List.getD_eq_getElem?_getD]; exact mor2_get l y n k hk
    · obtain rfl : k = n := by omega
      rw [List.getElem?_append_right (by rw [mor2_len]; exact Nat.le_refl _), mor2_len]
      simp
theorem getD_map (f : Int × Int → Int) (l : List (Int × Int)) (k : Nat) (h : k < l.length) : (l.map f).getD k 0 = f (l.getD k (0, 0)) := by
  rw [List.getD_eq_getElem?_getD, List.getElem?_map, List.getD_eq_getElem?_getD, List.getElem?_eq_getElem h]; rfl
theorem mor2_le (l y : List (Int × Int)) : LeL (l.map Prod.fst) ((mor2 l y l.length).map Prod.fst) ∧ LeL (l.map Prod.snd) ((mor2 l y l.length).map Prod.snd) := by
  refine ⟨⟨by simp [mor2_len], fun j hj => ?_⟩, ⟨by simp [mor2_len], fun j hj => ?_⟩⟩
  all_goals
    rw [List.length_map] at hj
    rw [getD_map _ _ _ hj, getD_map _ _ _ (by rw [mor2_len]; exact hj), mor2_get l y l.length j hj]
    exact blw_mo _ _
theorem evP_mono (q : Int) (l y : List (Int × Int)) : blw2 (evP1 q l) (evP2 q l) (evP1 q (mor2 l y l.length)) (evP2 q (mor2 l y l.length)) = true := by
  rw [blw2, evP1, evP1, evP2, evP2, eval_mono q (mor2_le l y).1, eval_mono q (mor2_le l y).2]; rfl

set_option maxHeartbeats 400000 in
theorem pmo_long (q : Int) (A A' : Option Addr) (n c n' c' : Nat) (w : World) (ht : Tabs w) (h : 16 < n ∨ (¬ 16 < n ∧ n' < n)) :
    Calls Tryd.prog 6 #[.int .u8 q, .slice A n c, .slice A' n' c'] w fun e w' => e = .returned (.bool true) ∧ Below w.heap.size w w' := by
  have HT := Lib.hid ht
  clear ht
  rcases h with h | ⟨h, h'⟩
  all_goals
    go_enter Tryd.func6, Tryd.ntmps6
    go_wp2_with (go_at_call 10; (with_reducible refine (livesP_any _ HT.out).mono ?_); rintro e w' ⟨rfl, hb⟩)
    go_ret
    exact ⟨rfl, by assumption⟩

set_option maxHeartbeats 2000000 in
set_option maxRecDepth 100000 in
theorem pmo_main (q : Int) (hq : 0 ≤ q) (l y : List (Int × Int)) (s s' : Value) (w : World) (ht : Tabs w) (hs : Pl w w.heap.size s l) (A A' : Option Addr) (n n' c c' b o b' o' : Nat) (hv : s = .slice A n c) (hv' : s' = .slice A' n' c') (hA : 0 < n → A = some ⟨b, o, none⟩) (hA' : 0 < n' → A' = some ⟨b', o', none⟩)
    (hc : ∀ k, k < n → b < w.heap.size ∧ w.cell? ⟨b, o + k * 2, none⟩ = some (.int .u8 (l.getD k (0, 0)).1) ∧ w.cell? ⟨b, o + k * 2 + 1, none⟩ = some (.int .u8 (l.getD k (0, 0)).2))
    (hc' : ∀ k, k < n' → b' < w.heap.size ∧ w.cell? ⟨b', o' + k * 2, none⟩ = some (.int .u8 (y.getD k (0, 0)).1) ∧ w.cell? ⟨b', o' + k * 2 + 1, none⟩ = some (.int .u8 (y.getD k (0, 0)).2))
    (hn : n = l.length) (h1 : n ≤ 16) (h2 : n ≤ n') :
    Calls Tryd.prog 6 #[.int .u8 q, s, s'] w fun e w' => e = .returned (.bool true) ∧ Below w.heap.size w w' := by
  obtain ⟨j0, hj, hy0, hy1, hy2⟩ := info_parts info_pair
  have HT := Lib.hid ht
  have HC := Lib.hid hc
  have HC' := Lib.hid hc'
  have HN := Lib.hid hn
  have HJ := Lib.hid hj
  have HY0 := Lib.hid hy0
  have HY1 := Lib.hid hy1
  have HY2 := Lib.hid hy2
  have HS := Lib.hid hs
  have HA := Lib.hid hA
  have HA' := Lib.hid hA'
  have HQ := Lib.hid hq
  have HV := Lib.hid hv
  subst hv
  subst hv'
  clear ht hc hc' hn hj hy0 hy1 hy2 hs hA hA' hq
  obtain ⟨g, hg⟩ : ∃ g, g = w.heap.size := ⟨_, rfl⟩
  have HG := Lib.hid hg
  clear hg
  have d1 : decide ((16 : Int) < (n : Int)) = false := by simp; omega
  have d2 : decide ((n' : Int) < (n : Int)) = false := by simp; omega
  have d3 : decide (n' < n) = false := by simp; omega
  go_enter Tryd.func6, Tryd.ntmps6
  go_wp2_with fail
  go_loopw [7, 8] (fun v i wr => ∃ k : Nat, k ≤ n ∧ i = .int .i64 k ∧ Own g w wr ∧ wr.ownsRow g 28 2 v k (flat2 (mor2 l y k))) (fun _ i _ => n - (intOf i).toNat)
  case atStart => exact ⟨0, Nat.zero_le _, rfl, ⟨Below.refl _ _, by rw [HG.out]; exact Nat.le_refl _⟩, rfl, .inl ⟨rfl, rfl⟩⟩
  case round =>
    obtain ⟨k, hk, rfl, hw0, hown⟩ := hrel
    have HW := Lib.hid hw0
    have HR := Lib.hid hown
    clear hw0 hown
    by_cases hlt : k < n
    · obtain rfl := HA.out (by omega)
      obtain rfl := HA'.out (by omega)
      have hlt' : k < n' := by omega
      have HBL : Hid (b < w.heap.size) := Lib.hid (HC.out k hlt).1
      have HBL' : Hid (b' < w.heap.size) := Lib.hid (HC'.out k hlt').1
      have E3 : Hid (flat2 (mor2 l y (k + 1)) = flat2 (mor2 l y k) ++ [.int .u8 (mo (l.getD k (0, 0)).1 (y.getD k (0, 0)).1), .int .u8 (mo (l.getD k (0, 0)).2 (y.getD k (0, 0)).2)]) := Lib.hid (by rw [mor2, flat2_snoc])
      have hcells := (HC.out k hlt).2
      have hcells' := (HC'.out k hlt').2
      obtain ⟨x0, HX0⟩ := named (l.getD k (0, 0)).1
      obtain ⟨x1, HX1⟩ := named (l.getD k (0, 0)).2
      obtain ⟨u0, HU0⟩ := named (y.getD k (0, 0)).1
      obtain ⟨u1, HU1⟩ := named (y.getD k (0, 0)).2
      rw [← HX0.out, ← HX1.out] at hcells E3
      rw [← HU0.out, ← HU1.out] at hcells' E3
      obtain ⟨rx, HRX⟩ := named (flat2 (mor2 l y k))
      rw [← HRX.out] at HR E3
      have HXC : Hid (∀ w', Own g w w' → w'.cell? ⟨b, o + k * 2, none⟩ = some (.int .u8 x0) ∧ w'.cell? ⟨b, o + k * 2 + 1, none⟩ = some (.int .u8 x1) ∧ w'.cell? ⟨b', o' + k * 2, none⟩ = some (.int .u8 u0) ∧ w'.cell? ⟨b', o' + k * 2 + 1, none⟩ = some (.int .u8 u1)) :=
        Lib.hid fun w' h => ⟨(h.below.cell (p := ⟨b, o + k * 2, none⟩) (by rw [HG.out]; exact HBL.out)).trans hcells.1, (h.below.cell (p := ⟨b, o + k * 2 + 1, none⟩) (by rw [HG.out]; exact HBL.out)).trans hcells.2,
          (h.below.cell (p := ⟨b', o' + k * 2, none⟩) (by rw [HG.out]; exact HBL'.out)).trans hcells'.1, (h.below.cell (p := ⟨b', o' + k * 2 + 1, none⟩) (by rw [HG.out]; exact HBL'.out)).trans hcells'.2⟩
      have HM0 := Lib.hid (blw_mo x0 u0)
      have HM1 := Lib.hid (blw_mo x1 u1)
      have HCL := Lib.hid (fun w => lclean_any x0 x1 w)
      have hmo0 : mo x0 u0 = if cln x0 = 2 then u0 else cln x0 := rfl
      have hmo1 : mo x1 u1 = if cln x1 = 2 then u1 else cln x1 := rfl
      obtain ⟨m0, HMO0⟩ := named (mo x0 u0)
      obtain ⟨m1, HMO1⟩ := named (mo x1 u1)
      rw [← HMO0.out] at HM0 E3 hmo0
      rw [← HMO1.out] at HM1 E3 hmo1
      obtain ⟨a0, HA0⟩ := named (cln x0)
      obtain ⟨a1, HA1⟩ := named (cln x1)
      rw [← HA0.out] at hmo0 HCL
      rw [← HA1.out] at hmo1 HCL
      have HBB : Hid (∀ w, Calls Tryd.prog 24 #[.agg #[.int .u8 x0, .int .u8 x1], .agg #[.int .u8 m0, .int .u8 m1]] w fun e w' => e = .returned (.bool true) ∧ Below w.heap.size w w') := Lib.hid fun w => by
        have := belowP_any x0 x1 m0 m1 w
        rwa [blw2, HM0.out, HM1.out] at this
      obtain ⟨-, hcx0, hcx1, hcu0, hcu1⟩ : True ∧ _ := ⟨trivial, HXC.out _ HW.out⟩
      clear hcells hcells' HMO0 HMO1 HM0 HM1
      have hgo : ∀ (z0 z1 : Bool), (a0 == 2) = z0 → (a1 == 2) = z1 → m0 = (if z0 = true then u0 else a0) ∧ m1 = (if z1 = true then u1 else a1) := fun z0 z1 h0 h1 => by
        subst h0; subst h1
        refine ⟨?_, ?_⟩
        · rw [hmo0]; simp
        · rw [hmo1]; simp
      clear hmo0 hmo1
      cases c0 : (a0 == 2) <;> cases c1 : (a1 == 2)
      all_goals
        obtain ⟨hm0, hm1⟩ := hgo _ _ c0 c1
        simp only [if_true, Bool.false_eq_true, if_false] at hm0 hm1
        clear hgo
        subst hm0
        subst hm1
        go_wp2_with (go_at_call 22; (with_reducible refine (HCL.out _).mono ?_); rintro e w1 ⟨rfl, hb⟩; have HW1 := Lib.hid (HW.out.next hb); have HR1 := Lib.hid (own_below HR.out hb); clear hb hcx0 hcx1 hcu0 hcu1; obtain ⟨hcx0, hcx1, hcu0, hcu1⟩ := HXC.out _ HW1.out; have zw : w.heap.size ≤ w1.heap.size := (by have := HW1.out.size; rw [HG.out] at this; exact this); have zb : b < w1.heap.size := Nat.lt_of_lt_of_le HBL.out zw; have zb' : b' < w1.heap.size := Nat.lt_of_lt_of_le HBL'.out zw; clear zw)
        obtain ⟨w2, hw2⟩ : ∃ x, x = w1.alloc (.cells #[.int .u8 m0, .int .u8 m1] 28) := ⟨_, rfl⟩
        rw [← hw2]
        have HW2 : Hid (Own g w w2) := Lib.hid (by rw [hw2]; exact HW1.out.alloc _)
        have HR2 : Hid (w2.ownsRow g 28 2 u7 k rx) := Lib.hid (by rw [hw2]; exact HR1.out.alloc _)
        have HBP : Hid (Box w1.heap.size (.int .u8 m0) (.int .u8 m1) w2) := Lib.hid (by rw [hw2]; exact Box.new' _ _ _ _ rfl)
        clear hw2 hcx0 hcx1 hcu0 hcu1 zb zb' c0 c1
        have hzb : b < w2.heap.size := Nat.lt_of_lt_of_le HBL.out (by have := HW2.out.size; rw [HG.out] at this; exact this)
        have l0 : ∀ x : Beh w2, x.x.cell? ⟨w1.heap.size, 0, none⟩ = some (.int .u8 m0) := beh_cell HBP.out.1 HBP.out.2.1
        have l1 : ∀ x : Beh w2, x.x.cell? ⟨w1.heap.size, 1, none⟩ = some (.int .u8 m1) := beh_cell HBP.out.1 HBP.out.2.2.1
        have l2 : ∀ x : Beh w2, x.x.cell? ⟨b, o + k * 2, none⟩ = some (.int .u8 x0) := beh_cell hzb (HXC.out _ HW2.out).1
        have l3 : ∀ x : Beh w2, x.x.cell? ⟨b, o + k * 2 + 1, none⟩ = some (.int .u8 x1) := beh_cell hzb (HXC.out _ HW2.out).2.1
        have hk0 : (0 : Int) ≤ (k : Int) := by omega
        have hk1 : (k : Int) < (n : Int) := by omega
        refine region_class (w0 := w2) (Below.refl _ _) (by kernel_rfl) (by kernel_rfl) ?_
        repeat (first
          | go_big_quiet_skip
          | (go_big_quiet_want; go_big_quiet_op; first
            | go_big_quiet_on
            | (apply Exists.intro
               refine ⟨fun xx => ?_, ?_⟩
               focus first
                | (go_at_call 24; with_reducible exact beh_of (rel (HBB.out _) xx.below))
               go_big_quiet_on)))
        refine wpQuiet_nil ?_
        rintro w3 ⟨⟨_, hx3⟩, rfl⟩
        have HW3 := Lib.hid (HW2.out.next hx3)
        have HR3 := Lib.hid (own_below HR2.out hx3)
        obtain ⟨z, p0, p1, f0, f1⟩ := HBP.out.below hx3
        clear l0 l1 l2 l3 hk0 hk1 hx3 hzb
        go_wp2_with (at_builtin; refine wpList_append_own_at _ rfl (.tmp 57) (.tmp 59) 23 rfl g 28 j0 (.agg #[.int .u8 0, .int .u8 0]) 2 2 Tryd.underlying23 HJ.out HY0.out HY1.out HY2.out rfl (by decide) _ _ _ rfl (HR3.out.alloc _) ⟨w3.heap.size, 0, none⟩ 1 1 [.int .u8 m0, .int .u8 m1] rfl rfl (two_new _ _ _ _) (two_cell1 _ _) (le_max (by omega)) (by omega) (Nat.le_trans HW3.out.size (by simp)) ?_)
        intro v' w4 hown' hgrow _ hat
        have HW4 := Lib.hid ((HW3.out.alloc _).grown hgrow (fun q hq => own_from HR3.out hq))
        have HR4 := Lib.hid hown'
        clear hown' hgrow hat z p0 p1 f0 f1
        go_wp2_with fail
        go_roundw
        case rel => exact ⟨k + 1, by omega, by go_num, HW4.out, by rw [E3.out]; exact HR4.out⟩
        case measure => simp [intOf]; omega
    · obtain rfl : n = k := by omega
      obtain ⟨X, rfl⟩ : ∃ X : World, X = wr := ⟨_, rfl⟩
      have hbX : Below w.heap.size w X := by have := HW.out.below; rw [HG.out] at this; exact this
      have HBX := Lib.hid hbX
      have HTX := Lib.hid (HT.out.below hbX)
      have hll : l.length ≤ 1000 := by rw [← HN.out]; omega
      have HV3 : Hid (Pl X X.heap.size u7 (mor2 l y n)) := Lib.hid (Pl.of_own HR.out).1
      have HP := Lib.hid (fun (w' : World) (hb : Below X.heap.size X w') => evalP_any q HQ.out (w := w') (B := w.heap.size) (s := .slice A n c) (l := l) (Nat.le_trans hbX.size hb.size) (HS.out.below (hbX.trans (hb.mono hbX.size))) hll (HTX.out.below hb))
      have HM := Lib.hid (fun (w' : World) (hb : Below X.heap.size X w') => evalP_any q HQ.out (w := w') (B := X.heap.size) (s := u7) (l := mor2 l y n) hb.size (HV3.out.below hb) (by rw [mor2_len]; omega) (HTX.out.below hb))
      have HBT : Hid (∀ w, Calls Tryd.prog 24 #[.agg #[.int .u8 (evP1 q l), .int .u8 (evP2 q l)], .agg #[.int .u8 (evP1 q (mor2 l y n)), .int .u8 (evP2 q (mor2 l y n))]] w fun e w' => e = .returned (.bool true) ∧ Below w.heap.size w w') := Lib.hid fun w => by
        have := belowP_any (evP1 q l) (evP2 q l) (evP1 q (mor2 l y n)) (evP2 q (mor2 l y n)) w
        rw [HN.out] at this ⊢
        rwa [evP_mono] at this
      obtain ⟨e1, HF1⟩ := named (evP1 q l)
      obtain ⟨e2, HF2⟩ := named (evP2 q l)
      obtain ⟨e3, HF3⟩ := named (evP1 q (mor2 l y n))
      obtain ⟨e4, HF4⟩ := named (evP2 q (mor2 l y n))
      rw [← HF1.out, ← HF2.out] at HP HBT
      rw [← HF3.out, ← HF4.out] at HM HBT
      have hb0 := Below.refl X.heap.size X
      clear HV3 hbX hll hlt hk HC HC' HA HA'
      go_wp2_with (first
        | (go_at_call 11; first
          | ((with_reducible refine (HP.out _ hb0).mono ?_); rintro e w1 ⟨rfl, hb1⟩; have HB1 := Lib.hid hb1; clear hb1 hb0)
          | ((with_reducible refine (HM.out _ HB1.out).mono ?_); rintro e w2 ⟨rfl, hb2⟩; have HB2 := Lib.hid (joinB HB1.out hb2); clear hb2))
        | (go_at_call 24; (with_reducible refine (HBT.out _).mono ?_); rintro e w3 ⟨rfl, hb3⟩; have HB3 := Lib.hid (joinB HB2.out hb3); clear hb3)
        | (go_at_call 10; (with_reducible refine (livesP_any _ (HTX.out.below HB3.out)).mono ?_); rintro e w4 ⟨rfl, hb4⟩))
      go_ret
      exact ⟨rfl, joinB HBX.out (joinB HB3.out (by assumption))⟩

theorem pmo_any (q : Int) (hq : 0 ≤ q) (l y : List (Int × Int)) (s s' : Value) (w : World) (ht : Tabs w) (hs : Pl w w.heap.size s l) (A A' : Option Addr) (c c' b o b' o' : Nat) (hv : s = .slice A l.length c) (hv' : s' = .slice A' y.length c') (hA : 0 < l.length → A = some ⟨b, o, none⟩) (hA' : 0 < y.length → A' = some ⟨b', o', none⟩)
    (hc : ∀ k, k < l.length → b < w.heap.size ∧ w.cell? ⟨b, o + k * 2, none⟩ = some (.int .u8 (l.getD k (0, 0)).1) ∧ w.cell? ⟨b, o + k * 2 + 1, none⟩ = some (.int .u8 (l.getD k (0, 0)).2))
    (hc' : ∀ k, k < y.length → b' < w.heap.size ∧ w.cell? ⟨b', o' + k * 2, none⟩ = some (.int .u8 (y.getD k (0, 0)).1) ∧ w.cell? ⟨b', o' + k * 2 + 1, none⟩ = some (.int .u8 (y.getD k (0, 0)).2)) :
    Calls Tryd.prog 6 #[.int .u8 q, s, s'] w fun e w' => e = .returned (.bool true) ∧ Below w.heap.size w w' := by
  by_cases h : 16 < l.length ∨ (¬ 16 < l.length ∧ y.length < l.length)
  · subst hv; subst hv'; exact pmo_long q A A' _ c _ c' w ht h
  · exact pmo_main q hq l y s s' w ht hs A A' l.length y.length c c' b o b' o' hv hv' hA hA' hc hc' rfl (by omega) (by omega)

end Go.Proofs.YtnddgkcgedkabaaDoor
