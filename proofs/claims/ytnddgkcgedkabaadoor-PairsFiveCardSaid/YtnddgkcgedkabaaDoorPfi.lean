/- The walk of the law of Five. -/
import Derived.Test.YtnddgkcgedkabaaDoorPmo
namespace Go.Proofs.YtnddgkcgedkabaaDoor
open Go.RowKit

theorem rd_pos (a : Int) : 0 ≤ rd a := by rcases rd_cases a with h | h | h <;> omega
theorem nt_pos (a : Int) : 0 ≤ nt a := by unfold nt; split; · decide
                                          split <;> decide
theorem evalL_pos (q : Int) (l : List Int) : 0 ≤ evalL q l := by
  have h0 : ∀ x : Int, (x = 0 ∨ x = 1 ∨ x = 2 ∨ x = 3) → 0 ≤ x := fun x h => by omega
  have ha : 0 ≤ andL l := by unfold andL; split; · decide
                             split <;> decide
  have ho : 0 ≤ orL l := by unfold orL; split; · decide
                            split <;> decide
  have hx : 0 ≤ xorL l := by unfold xorL; split; · decide
                             rcases par_cases l with h | h <;> omega
  have hb : 0 ≤ busL l := by unfold busL; split; · decide
                             split; · decide
                             split <;> decide
  have hm : ∀ s a b, 0 ≤ mx s a b := fun s a b => by unfold mx; split; · exact rd_pos _
                                                     split; · exact rd_pos _
                                                     split; · exact rd_pos _
                                                     decide
  have ht : ∀ a b, 0 ≤ tr a b := fun a b => by unfold tr; split; · decide
                                               split; · exact rd_pos _
                                               decide
  have hite : ∀ (c : Prop) [Decidable c] (x y : Int), 0 ≤ x → 0 ≤ y → 0 ≤ (if c then x else y) := by
    intro c _ x y hx hy
    split <;> assumption
  unfold evalL
  refine hite _ _ _ (by decide) ?_
  unfold funL
  exact hite _ _ _ (by decide) (hite _ _ _ (by decide) (hite _ _ _ (rd_pos _) (hite _ _ _ (nt_pos _) (hite _ _ _ ha (hite _ _ _ (nt_pos _) (hite _ _ _ ho (hite _ _ _ (nt_pos _) (hite _ _ _ hx (hite _ _ _ (nt_pos _) (hite _ _ _ (hm _ _ _) (hite _ _ _ (ht _ _) (hite _ _ _ hb (by decide)))))))))))))

def fiveL (l : List (Int × Int)) : List (Int × Int) := l.map fun p => (five1 p.1 p.2, five2 p.1 p.2)
theorem fiveL_len (l : List (Int × Int)) : (fiveL l).length = l.length := by simp [fiveL]
theorem five_take (l : List (Int × Int)) (k : Nat) (h : k < l.length) : fiveL (l.take (k + 1)) = fiveL (l.take k) ++ [(five1 (l.getD k (0, 0)).1 (l.getD k (0, 0)).2, five2 (l.getD k (0, 0)).1 (l.getD k (0, 0)).2)] := by
  rw [take_snoc2 l k h]; simp [fiveL]
theorem blw_clnl {a b : Int} (h : blw a b = true) : blw (cln a) b = true := by
  rw [blw_iff] at h ⊢
  rw [cln_idem]; exact h
theorem blw_five1 {a b c : Int} (h : blw a c = true) : blw (five1 a b) c = true := by
  unfold five1; split
  · exact blw_clnl h
  · exact blw_X c
theorem blw_five2 {a b c : Int} (h : blw b c = true) : blw (five2 a b) c = true := by
  unfold five2; split
  · exact blw_clnl h
  · exact blw_X c
theorem fiveL_get (l : List (Int × Int)) (k : Nat) (h : k < l.length) : (fiveL l).getD k (0, 0) = (five1 (l.getD k (0, 0)).1 (l.getD k (0, 0)).2, five2 (l.getD k (0, 0)).1 (l.getD k (0, 0)).2) := by
  rw [fiveL, List.getD_eq_getElem?_getD, List.getElem?_map, List.getD_eq_getElem?_getD, List.getElem?_eq_getElem h]; rfl
theorem fiveL_le (l : List (Int × Int)) : LeL ((fiveL l).map Prod.fst) (l.map Prod.fst) ∧ LeL ((fiveL l).map Prod.snd) (l.map Prod.snd) := by
  refine ⟨⟨by simp [fiveL], fun j hj => ?_⟩, ⟨by simp [fiveL], fun j hj => ?_⟩⟩
  all_goals
    rw [List.length_map, fiveL_len] at hj
    rw [getD_map _ _ _ hj, getD_map _ _ _ (by rw [fiveL_len]; exact hj), fiveL_get l j hj]
    first | exact blw_five1 (blw_refl _) | exact blw_five2 (blw_refl _)
theorem five_end (q : Int) (l : List (Int × Int)) : blw2 (five1 (evP1 q (fiveL l)) (evP2 q (fiveL l))) (five2 (evP1 q (fiveL l)) (evP2 q (fiveL l))) (evP1 q l) (evP2 q l) = true := by
  have h1 : blw (evP1 q (fiveL l)) (evP1 q l) = true := eval_mono q (fiveL_le l).1
  have h2 : blw (evP2 q (fiveL l)) (evP2 q l) = true := eval_mono q (fiveL_le l).2
  rw [blw2, blw_five1 h1, blw_five2 h2]; rfl
theorem five1_pos (a b : Int) (h : 0 ≤ a) : 0 ≤ five1 a b := by
  have hc := Cl.of a h
  unfold Cl at hc
  unfold five1
  split
  · omega
  · decide
theorem five_five (a b : Int) : five1 (five1 a b) (five2 a b) = five1 a b ∧ five2 (five1 a b) (five2 a b) = five2 a b := by
  cases h : isFive (cln a) (cln b)
  · have e1 : five1 a b = 2 := by rw [five1, h]; rfl
    have e2 : five2 a b = 2 := by rw [five2, h]; rfl
    rw [e1, e2]; decide
  · have e1 : five1 a b = cln a := by rw [five1, h]; rfl
    have e2 : five2 a b = cln b := by rw [five2, h]; rfl
    rw [e1, e2, five1, five2, cln_idem, cln_idem, h]; exact ⟨rfl, rfl⟩

set_option maxHeartbeats 400000 in
theorem pfi_long (q : Int) (A : Option Addr) (n c : Nat) (w : World) (ht : Tabs w) (h : 16 < n) :
    Calls Tryd.prog 5 #[.int .u8 q, .slice A n c] w fun e w' => e = .returned (.bool true) ∧ Below w.heap.size w w' := by
  have HT := Lib.hid ht
  clear ht
  go_enter Tryd.func5, Tryd.ntmps5
  go_wp2_with (go_at_call 10; (with_reducible refine (livesP_any _ HT.out).mono ?_); rintro e w' ⟨rfl, hb⟩)
  go_ret
  exact ⟨rfl, by assumption⟩

theorem own_below0 {g : Nat} {w w' : World} (h : Own g w w') (hg : g = w.heap.size) : Below w.heap.size w w' := by have := h.below; rw [hg] at this; exact this

/-- The ways of the law's test whether a pair is kept. -/
theorem five_ways (a b : Int) : ∃ c1 c2 c3 c4 : Bool, (a == 1 && b == 0) = c1 ∧ (a == 0 && b == 1) = c2 ∧ (a == b) = c3 ∧ (a == 3) = c4 ∧
    ((isFive a b = true ∧ (c1 = true ∨ (c1 = false ∧ c2 = true) ∨ (c1 = false ∧ c2 = false ∧ c3 = true ∧ c4 = false))) ∨
     (isFive a b = false ∧ ((c1 = false ∧ c2 = false ∧ c3 = false) ∨ (c1 = false ∧ c2 = false ∧ c3 = true ∧ c4 = true)))) := by
  refine ⟨_, _, _, _, rfl, rfl, rfl, rfl, ?_⟩
  unfold isFive
  cases (a == 1 && b == 0) <;> cases (a == 0 && b == 1) <;> cases (a == b) <;> cases (a == 3) <;> simp

set_option maxHeartbeats 4000000 in
set_option maxRecDepth 100000 in
theorem pfi_main (q : Int) (hq : 0 ≤ q) (l : List (Int × Int)) (s : Value) (w : World) (ht : Tabs w) (hs : Pl w w.heap.size s l) (A : Option Addr) (n c b o : Nat) (hv : s = .slice A n c) (hA : 0 < n → A = some ⟨b, o, none⟩)
    (hc : ∀ k, k < n → b < w.heap.size ∧ w.cell? ⟨b, o + k * 2, none⟩ = some (.int .u8 (l.getD k (0, 0)).1) ∧ w.cell? ⟨b, o + k * 2 + 1, none⟩ = some (.int .u8 (l.getD k (0, 0)).2)) (hpos : ∀ k, k < n → 0 ≤ (l.getD k (0, 0)).1)
    (hn : n = l.length) (h1 : n ≤ 16) :
    Calls Tryd.prog 5 #[.int .u8 q, s] w fun e w' => e = .returned (.bool true) ∧ Below w.heap.size w w' := by
  obtain ⟨j0, hj, hy0, hy1, hy2⟩ := info_parts info_pair
  have HT := Lib.hid ht
  have HC := Lib.hid hc
  have HPO := Lib.hid hpos
  have HN := Lib.hid hn
  have HJ := Lib.hid hj
  have HY0 := Lib.hid hy0
  have HY1 := Lib.hid hy1
  have HY2 := Lib.hid hy2
  have HS := Lib.hid hs
  have HA := Lib.hid hA
  have HQ := Lib.hid hq
  subst hv
  clear ht hc hn hj hy0 hy1 hy2 hs hA hq hpos
  obtain ⟨g, hg⟩ : ∃ g, g = w.heap.size := ⟨_, rfl⟩
  have HG := Lib.hid hg
  clear hg
  have d1 : decide ((16 : Int) < (n : Int)) = false := by simp; omega
  go_enter Tryd.func5, Tryd.ntmps5
  go_wp2_with fail
  go_loopw [5, 6] (fun v i wr => ∃ k : Nat, k ≤ n ∧ i = .int .i64 k ∧ Own g w wr ∧ wr.ownsRow g 28 2 v k (flat2 (fiveL (l.take k)))) (fun _ i _ => n - (intOf i).toNat)
  case atStart => exact ⟨0, Nat.zero_le _, rfl, ⟨Below.refl _ _, by rw [HG.out]; exact Nat.le_refl _⟩, rfl, .inl ⟨rfl, rfl⟩⟩
  case round =>
    obtain ⟨k, hk, rfl, hw0, hown⟩ := hrel
    have HW := Lib.hid hw0
    have HR := Lib.hid hown
    clear hw0 hown
    by_cases hlt : k < n
    · obtain rfl := HA.out (by omega)
      have HBL : Hid (b < w.heap.size) := Lib.hid (HC.out k hlt).1
      have E3 : Hid (flat2 (fiveL (l.take (k + 1))) = flat2 (fiveL (l.take k)) ++ [.int .u8 (five1 (l.getD k (0, 0)).1 (l.getD k (0, 0)).2), .int .u8 (five2 (l.getD k (0, 0)).1 (l.getD k (0, 0)).2)]) := Lib.hid (by rw [five_take l k (by rw [← HN.out]; exact hlt), flat2_snoc])
      have hcells := (HC.out k hlt).2
      have hx0 := HPO.out k hlt
      obtain ⟨x0, HX0⟩ := named (l.getD k (0, 0)).1
      obtain ⟨x1, HX1⟩ := named (l.getD k (0, 0)).2
      rw [← HX0.out, ← HX1.out] at hcells E3
      rw [← HX0.out] at hx0
      obtain ⟨rx, HRX⟩ := named (flat2 (fiveL (l.take k)))
      rw [← HRX.out] at HR E3
      have HXC : Hid (∀ w', Own g w w' → w'.cell? ⟨b, o + k * 2, none⟩ = some (.int .u8 x0) ∧ w'.cell? ⟨b, o + k * 2 + 1, none⟩ = some (.int .u8 x1)) :=
        Lib.hid fun w' h => ⟨(h.below.cell (p := ⟨b, o + k * 2, none⟩) (by rw [HG.out]; exact HBL.out)).trans hcells.1, (h.below.cell (p := ⟨b, o + k * 2 + 1, none⟩) (by rw [HG.out]; exact HBL.out)).trans hcells.2⟩
      have HCL := Lib.hid (fun w => lclean_any x0 x1 w)
      have HF := Lib.hid (fun w (ht : Tabs w) => fiveP_any x0 x1 hx0 w ht)
      have hf0 := five1_pos x0 x1 hx0
      have hFF := fun w (ht : Tabs w) => fiveP_any (five1 x0 x1) (five2 x0 x1) hf0 w ht
      rw [(five_five x0 x1).1, (five_five x0 x1).2] at hFF
      have hBB : blw2 (five1 x0 x1) (five2 x0 x1) (cln x0) (cln x1) = true := by rw [blw2, blw_five1 (blw_cln _), blw_five2 (blw_cln _)]; rfl
      have hBC := fun w => belowP_any (five1 x0 x1) (five2 x0 x1) (cln x0) (cln x1) w
      rw [hBB] at hBC
      have HO : Hid (∀ w, Calls Tryd.prog 17 #[.int .u8 2] w fun e w' => e = .returned (.agg #[.int .u8 2, .int .u8 2]) ∧ Below w.heap.size w w') := Lib.hid fun w => ofP_any 2 w
      have hf1 : five1 x0 x1 = if isFive (cln x0) (cln x1) = true then cln x0 else 2 := rfl
      have hf2 : five2 x0 x1 = if isFive (cln x0) (cln x1) = true then cln x1 else 2 := rfl
      obtain ⟨m0, HM0⟩ := named (five1 x0 x1)
      obtain ⟨m1, HM1⟩ := named (five2 x0 x1)
      rw [← HM0.out] at E3 HF hFF hBC hf1
      rw [← HM1.out] at E3 HF hFF hBC hf2
      obtain ⟨a0, HA0⟩ := named (cln x0)
      obtain ⟨a1, HA1⟩ := named (cln x1)
      rw [← HA0.out, ← HA1.out] at hf1 hf2 HCL hBC
      have HFF := Lib.hid hFF
      have HBB := Lib.hid hBC
      obtain ⟨hcx0, hcx1⟩ := HXC.out _ HW.out
      obtain ⟨c1, c2, c3, c4, hc1, hc2, hc3, hc4, hways⟩ := five_ways a0 a1
      have e1 := eq_pair a0 a1 1 0
      have e2 := eq_pair a0 a1 0 1
      rw [hc1] at e1
      rw [hc2] at e2
      have eg := eg_pair
      have e3 := ne_same m0 m1
      have hgo : (isFive a0 a1 = true ∧ m0 = a0 ∧ m1 = a1) ∨ (isFive a0 a1 = false ∧ m0 = 2 ∧ m1 = 2) := by
        rw [hf1, hf2]
        cases isFive a0 a1
        · exact .inr ⟨rfl, rfl, rfl⟩
        · exact .inl ⟨rfl, rfl, rfl⟩
      have hn4 : (a0 != 3) = !c4 := by rw [← hc4]; rfl
      clear hcells hFF hBB hBC hf0 hf1 hf2 HM0 HM1 hx0 hc1 hc2
      rcases hways with ⟨h5, hways⟩ | ⟨h5, hways⟩
      · have hmm : m0 = a0 ∧ m1 = a1 := by
          rcases hgo with ⟨-, h⟩ | ⟨h, -⟩
          · exact h
          · rw [h5] at h; cases h
        obtain ⟨rfl, rfl⟩ := hmm
        clear hgo h5
        rcases hways with rfl | ⟨rfl, rfl⟩ | ⟨rfl, rfl, rfl, rfl⟩
        all_goals
          go_wp2_with (first
            | (go_at_call 22; (with_reducible refine (HCL.out _).mono ?_); rintro e w1 ⟨rfl, hb⟩; have HW1 := Lib.hid (HW.out.next hb); have HR1 := Lib.hid (own_below HR.out hb); clear hb hcx0 hcx1; obtain ⟨hcx0, hcx1⟩ := HXC.out _ HW1.out; have zb : b < w1.heap.size := Nat.lt_of_lt_of_le HBL.out (by have := HW1.out.size; rw [HG.out] at this; exact this))
            | (go_at_call 23; (with_reducible refine (HF.out _ (HT.out.below (own_below0 (HW1.out.alloc _) HG.out))).mono ?_); rintro e w2 ⟨rfl, hb⟩; have HW2 := Lib.hid ((HW1.out.alloc _).next hb); have HR2 := Lib.hid (own_below (HR1.out.alloc _) hb); have HPB := Lib.hid ((Box.new w1 (.int .u8 m0) (.int .u8 m1) 28).below hb); clear hb hcx0 hcx1 zb))
          obtain ⟨w3, hw3⟩ : ∃ x, x = w2.alloc (.cells #[.int .u8 m0, .int .u8 m1] 28) := ⟨_, rfl⟩
          rw [← hw3]
          have HW3 : Hid (Own g w w3) := Lib.hid (by rw [hw3]; exact HW2.out.alloc _)
          have HR3 : Hid (w3.ownsRow g 28 2 u5 k rx) := Lib.hid (by rw [hw3]; exact HR2.out.alloc _)
          have HPB3 : Hid (Box w1.heap.size (.int .u8 m0) (.int .u8 m1) w3) := Lib.hid (by rw [hw3]; exact HPB.out.alloc _)
          have HQB3 : Hid (Box w2.heap.size (.int .u8 m0) (.int .u8 m1) w3) := Lib.hid (by rw [hw3]; exact Box.new' _ _ _ _ rfl)
          have HTW : Hid (Tabs w3) := Lib.hid (HT.out.below (own_below0 HW3.out HG.out))
          clear hw3
          have l0 : ∀ x : Beh w3, x.x.cell? ⟨w1.heap.size, 0, none⟩ = some (.int .u8 m0) := beh_cell HPB3.out.1 HPB3.out.2.1
          have l1 : ∀ x : Beh w3, x.x.cell? ⟨w1.heap.size, 1, none⟩ = some (.int .u8 m1) := beh_cell HPB3.out.1 HPB3.out.2.2.1
          have l2 : ∀ x : Beh w3, x.x.cell? ⟨w2.heap.size, 0, none⟩ = some (.int .u8 m0) := beh_cell HQB3.out.1 HQB3.out.2.1
          have l3 : ∀ x : Beh w3, x.x.cell? ⟨w2.heap.size, 1, none⟩ = some (.int .u8 m1) := beh_cell HQB3.out.1 HQB3.out.2.2.1
          refine region_class (w0 := w3) (Below.refl _ _) (by kernel_rfl) (by kernel_rfl) ?_
          repeat (first
            | go_big_quiet_skip
            | (go_big_quiet_want; go_big_quiet_op; first
              | go_big_quiet_on
              | (apply Exists.intro
                 refine ⟨fun xx => ?_, ?_⟩
                 focus first
                  | (go_at_call 19; with_reducible exact beh_of (rel (dP_any _) xx.below))
                  | (go_at_call 21; with_reducible exact beh_of (rel (bP_any _) xx.below))
                 go_big_quiet_on)))
          refine wpQuiet_nil ?_
          rintro w4 ⟨⟨_, hx4⟩, rfl⟩
          go_wp2_with fail
          refine region_class (w0 := w3) hx4 (by kernel_rfl) (by kernel_rfl) ?_
          repeat (first
            | go_big_quiet_skip
            | (go_big_quiet_want; go_big_quiet_op; first
              | go_big_quiet_on
              | (apply Exists.intro
                 refine ⟨fun xx => ?_, ?_⟩
                 focus first
                  | (go_at_call 17; with_reducible exact beh_of (rel (HO.out _) xx.below))
                  | (go_at_call 23; with_reducible exact beh_of (rel (HFF.out _ (HTW.out.below xx.below)) xx.below))
                  | (go_at_call 24; with_reducible exact beh_of (rel (HBB.out _) xx.below))
                 go_big_quiet_on)))
          refine wpQuiet_nil ?_
          rintro w5 ⟨⟨_, hx5⟩, rfl⟩
          have HW5 := Lib.hid (HW3.out.next hx5)
          have HR5 := Lib.hid (own_below HR3.out hx5)
          obtain ⟨z, p0, p1, f0, f1⟩ := HQB3.out.below hx5
          clear l0 l1 l2 l3 hx4 hx5
          go_wp2_with (at_builtin; refine wpList_append_own_at _ rfl (.tmp 77) (.tmp 79) 23 rfl g 28 j0 (.agg #[.int .u8 0, .int .u8 0]) 2 2 Tryd.underlying23 HJ.out HY0.out HY1.out HY2.out rfl (by decide) _ _ _ rfl (HR5.out.alloc _) ⟨w5.heap.size, 0, none⟩ 1 1 [.int .u8 m0, .int .u8 m1] rfl rfl (two_new _ _ _ _) (two_cell1 _ _) (le_max (by omega)) (by omega) (Nat.le_trans HW5.out.size (by simp)) ?_)
          intro v' w6 hown' hgrow _ hat
          have HW6 := Lib.hid ((HW5.out.alloc _).grown hgrow (fun q hq => own_from HR5.out hq))
          have HR6 := Lib.hid hown'
          clear hown' hgrow hat z p0 p1 f0 f1
          go_wp2_with fail
          go_roundw
          case rel => exact ⟨k + 1, by omega, by go_num, HW6.out, by rw [E3.out]; exact HR6.out⟩
          case measure => simp [intOf]; omega
      · have hmm : m0 = 2 ∧ m1 = 2 := by
          rcases hgo with ⟨h, -⟩ | ⟨-, h⟩
          · rw [h5] at h; cases h
          · exact h
        obtain ⟨rfl, rfl⟩ := hmm
        clear hgo h5
        rcases hways with ⟨rfl, rfl, rfl⟩ | ⟨rfl, rfl, rfl, rfl⟩
        all_goals
          go_wp2_with (first
            | (go_at_call 22; (with_reducible refine (HCL.out _).mono ?_); rintro e w1 ⟨rfl, hb⟩; have HW1 := Lib.hid (HW.out.next hb); have HR1 := Lib.hid (own_below HR.out hb); clear hb hcx0 hcx1; obtain ⟨hcx0, hcx1⟩ := HXC.out _ HW1.out; have zb : b < w1.heap.size := Nat.lt_of_lt_of_le HBL.out (by have := HW1.out.size; rw [HG.out] at this; exact this))
            | (go_at_call 23; (with_reducible refine (HF.out _ (HT.out.below (own_below0 (HW1.out.alloc _) HG.out))).mono ?_); rintro e w2 ⟨rfl, hb⟩; have HW2 := Lib.hid ((HW1.out.alloc _).next hb); have HR2 := Lib.hid (own_below (HR1.out.alloc _) hb); have HPB := Lib.hid ((Box.new w1 (.int .u8 a0) (.int .u8 a1) 28).below hb); clear hb hcx0 hcx1 zb))
          obtain ⟨w3, hw3⟩ : ∃ x, x = w2.alloc (.cells #[.int .u8 2, .int .u8 2] 28) := ⟨_, rfl⟩
          rw [← hw3]
          have HW3 : Hid (Own g w w3) := Lib.hid (by rw [hw3]; exact HW2.out.alloc _)
          have HR3 : Hid (w3.ownsRow g 28 2 u5 k rx) := Lib.hid (by rw [hw3]; exact HR2.out.alloc _)
          have HPB3 : Hid (Box w1.heap.size (.int .u8 a0) (.int .u8 a1) w3) := Lib.hid (by rw [hw3]; exact HPB.out.alloc _)
          have HQB3 : Hid (Box w2.heap.size (.int .u8 2) (.int .u8 2) w3) := Lib.hid (by rw [hw3]; exact Box.new' _ _ _ _ rfl)
          have HTW : Hid (Tabs w3) := Lib.hid (HT.out.below (own_below0 HW3.out HG.out))
          clear hw3
          have l0 : ∀ x : Beh w3, x.x.cell? ⟨w1.heap.size, 0, none⟩ = some (.int .u8 a0) := beh_cell HPB3.out.1 HPB3.out.2.1
          have l1 : ∀ x : Beh w3, x.x.cell? ⟨w1.heap.size, 1, none⟩ = some (.int .u8 a1) := beh_cell HPB3.out.1 HPB3.out.2.2.1
          have l2 : ∀ x : Beh w3, x.x.cell? ⟨w2.heap.size, 0, none⟩ = some (.int .u8 2) := beh_cell HQB3.out.1 HQB3.out.2.1
          have l3 : ∀ x : Beh w3, x.x.cell? ⟨w2.heap.size, 1, none⟩ = some (.int .u8 2) := beh_cell HQB3.out.1 HQB3.out.2.2.1
          refine region_class (w0 := w3) (Below.refl _ _) (by kernel_rfl) (by kernel_rfl) ?_
          repeat (first
            | go_big_quiet_skip
            | (go_big_quiet_want; go_big_quiet_op; first
              | go_big_quiet_on
              | (apply Exists.intro
                 refine ⟨fun xx => ?_, ?_⟩
                 focus first
                  | (go_at_call 19; with_reducible exact beh_of (rel (dP_any _) xx.below))
                  | (go_at_call 21; with_reducible exact beh_of (rel (bP_any _) xx.below))
                 go_big_quiet_on)))
          refine wpQuiet_nil ?_
          rintro w4 ⟨⟨_, hx4⟩, rfl⟩
          go_wp2_with fail
          refine region_class (w0 := w3) hx4 (by kernel_rfl) (by kernel_rfl) ?_
          repeat (first
            | go_big_quiet_skip
            | (go_big_quiet_want; go_big_quiet_op; first
              | go_big_quiet_on
              | (apply Exists.intro
                 refine ⟨fun xx => ?_, ?_⟩
                 focus first
                  | (go_at_call 17; with_reducible exact beh_of (rel (HO.out _) xx.below))
                  | (go_at_call 23; with_reducible exact beh_of (rel (HFF.out _ (HTW.out.below xx.below)) xx.below))
                  | (go_at_call 24; with_reducible exact beh_of (rel (HBB.out _) xx.below))
                 go_big_quiet_on)))
          refine wpQuiet_nil ?_
          rintro w5 ⟨⟨_, hx5⟩, rfl⟩
          have HW5 := Lib.hid (HW3.out.next hx5)
          have HR5 := Lib.hid (own_below HR3.out hx5)
          obtain ⟨z, p0, p1, f0, f1⟩ := HQB3.out.below hx5
          clear l0 l1 l2 l3 hx4 hx5
          go_wp2_with (at_builtin; refine wpList_append_own_at _ rfl (.tmp 77) (.tmp 79) 23 rfl g 28 j0 (.agg #[.int .u8 0, .int .u8 0]) 2 2 Tryd.underlying23 HJ.out HY0.out HY1.out HY2.out rfl (by decide) _ _ _ rfl (HR5.out.alloc _) ⟨w5.heap.size, 0, none⟩ 1 1 [.int .u8 2, .int .u8 2] rfl rfl (two_new _ _ _ _) (two_cell1 _ _) (le_max (by omega)) (by omega) (Nat.le_trans HW5.out.size (by simp)) ?_)
          intro v' w6 hown' hgrow _ hat
          have HW6 := Lib.hid ((HW5.out.alloc _).grown hgrow (fun q hq => own_from HR5.out hq))
          have HR6 := Lib.hid hown'
          clear hown' hgrow hat z p0 p1 f0 f1
          go_wp2_with fail
          go_roundw
          case rel => exact ⟨k + 1, by omega, by go_num, HW6.out, by rw [E3.out]; exact HR6.out⟩
          case measure => simp [intOf]; omega
    · obtain rfl : n = k := by omega
      obtain ⟨X, rfl⟩ : ∃ X : World, X = wr := ⟨_, rfl⟩
      have hbX : Below w.heap.size w X := by have := HW.out.below; rw [HG.out] at this; exact this
      have htk : l.take n = l := List.take_of_length_le (by rw [HN.out]; exact Nat.le_refl _)
      have HBX := Lib.hid hbX
      have HTX := Lib.hid (HT.out.below hbX)
      have hll : l.length ≤ 1000 := by rw [← HN.out]; omega
      have HV3 : Hid (Pl X X.heap.size u5 (fiveL l)) := Lib.hid (by have h := HR.out; rw [htk] at h; exact (Pl.of_own h).1)
      have HP := Lib.hid (fun (w' : World) (hb : Below X.heap.size X w') => evalP_any q HQ.out (w := w') (B := w.heap.size) (s := .slice A n c) (l := l) (Nat.le_trans hbX.size hb.size) (HS.out.below (hbX.trans (hb.mono hbX.size))) hll (HTX.out.below hb))
      have HM := Lib.hid (fun (w' : World) (hb : Below X.heap.size X w') => evalP_any q HQ.out (w := w') (B := X.heap.size) (s := u5) (l := fiveL l) hb.size (HV3.out.below hb) (by rw [fiveL_len]; exact hll) (HTX.out.below hb))
      have HF5 := Lib.hid (fun w (ht : Tabs w) => fiveP_any (evP1 q (fiveL l)) (evP2 q (fiveL l)) (evalL_pos _ _) w ht)
      have hBT := fun w => belowP_any (five1 (evP1 q (fiveL l)) (evP2 q (fiveL l))) (five2 (evP1 q (fiveL l)) (evP2 q (fiveL l))) (evP1 q l) (evP2 q l) w
      rw [five_end] at hBT
      have HBT := Lib.hid hBT
      obtain ⟨g1, HF6⟩ := named (five1 (evP1 q (fiveL l)) (evP2 q (fiveL l)))
      obtain ⟨g2, HF7⟩ := named (five2 (evP1 q (fiveL l)) (evP2 q (fiveL l)))
      rw [← HF6.out, ← HF7.out] at HBT HF5
      obtain ⟨e1, HF1⟩ := named (evP1 q l)
      obtain ⟨e2, HF2⟩ := named (evP2 q l)
      obtain ⟨e3, HF3⟩ := named (evP1 q (fiveL l))
      obtain ⟨e4, HF4⟩ := named (evP2 q (fiveL l))
      rw [← HF1.out, ← HF2.out] at HP HBT
      rw [← HF3.out, ← HF4.out] at HM HF5
      have hb0 := Below.refl X.heap.size X
      clear HV3 hbX hll hlt hk HC HA htk hBT
      go_wp2_with (first
        | (go_at_call 11; first
          | ((with_reducible refine (HM.out _ hb0).mono ?_); rintro e w1 ⟨rfl, hb1⟩; have HB1 := Lib.hid hb1; clear hb1 hb0)
          | ((with_reducible refine (HP.out _ HB2.out).mono ?_); rintro e w3 ⟨rfl, hb3⟩; have HB3 := Lib.hid (joinB HB2.out hb3); clear hb3))
        | (go_at_call 23; (with_reducible refine (HF5.out _ (HTX.out.below HB1.out)).mono ?_); rintro e w2 ⟨rfl, hb2⟩; have HB2 := Lib.hid (joinB HB1.out hb2); clear hb2)
        | (go_at_call 24; (with_reducible refine (HBT.out _).mono ?_); rintro e w4 ⟨rfl, hb4⟩; have HB4 := Lib.hid (joinB HB3.out hb4); clear hb4)
        | (go_at_call 10; (with_reducible refine (livesP_any _ (HTX.out.below HB4.out)).mono ?_); rintro e w5 ⟨rfl, hb5⟩))
      go_ret
      exact ⟨rfl, joinB HBX.out (joinB HB4.out (by assumption))⟩

theorem pfi_any (q : Int) (hq : 0 ≤ q) (l : List (Int × Int)) (s : Value) (w : World) (ht : Tabs w) (hs : Pl w w.heap.size s l) (A : Option Addr) (c b o : Nat) (hv : s = .slice A l.length c) (hA : 0 < l.length → A = some ⟨b, o, none⟩)
    (hc : ∀ k, k < l.length → b < w.heap.size ∧ w.cell? ⟨b, o + k * 2, none⟩ = some (.int .u8 (l.getD k (0, 0)).1) ∧ w.cell? ⟨b, o + k * 2 + 1, none⟩ = some (.int .u8 (l.getD k (0, 0)).2)) (hpos : ∀ k, k < l.length → 0 ≤ (l.getD k (0, 0)).1) :
    Calls Tryd.prog 5 #[.int .u8 q, s] w fun e w' => e = .returned (.bool true) ∧ Below w.heap.size w w' := by
  by_cases h : 16 < l.length
  · subst hv; exact pfi_long q A _ c w ht h
  · exact pfi_main q hq l s w ht hs A l.length c b o hv hA hc hpos rfl (by omega)

end Go.Proofs.YtnddgkcgedkabaaDoor
