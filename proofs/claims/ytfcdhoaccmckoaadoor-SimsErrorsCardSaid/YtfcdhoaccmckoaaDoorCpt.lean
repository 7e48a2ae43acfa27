/- sims.checkPattern on any pattern. -/
import Derived.Test.YtfcdhoaccmckoaaDoorSmd
namespace Go.Proofs.YtfcdhoaccmckoaaDoor
open Go.RowKit

set_option maxRecDepth 100000 in
set_option maxHeartbeats 4000000 in
theorem cpat_mem (c : Ck) (pin pst : List Int) (A0 A1 A2 A3 Ai As : Option Addr) (c0 c1 c2 c3 ci cs : Nat) (w : World) (B : Nat) (hB : B ≤ w.heap.size)
    (hc : Cir w B (.agg #[.slice A0 c.nodes.length c0, .slice A1 c.names.length c1, .slice A2 c.mems.length c2, .slice A3 c.outs.length c3]) c) (hi : Ks w B (.slice Ai pin.length ci) pin) (hs : Ks w B (.slice As pst.length cs) pst) (hsz : c.nodes.length ≤ 1000000) (hmem : c.mems.length ≠ 0) :
    Calls Tryd.prog 37 #[.agg #[.slice A0 c.nodes.length c0, .slice A1 c.names.length c1, .slice A2 c.mems.length c2, .slice A3 c.outs.length c3], .agg #[.slice Ai pin.length ci, .slice As pst.length cs]] w
      fun e w' => e = .returned (.int .i64 7) ∧ Below w.heap.size w w' := by
  obtain ⟨W1, HW1⟩ := named ((w.alloc (.cells #[.slice A0 c.nodes.length c0, .slice A1 c.names.length c1, .slice A2 c.mems.length c2, .slice A3 c.outs.length c3] 27)).alloc (.cells #[.slice Ai pin.length ci, .slice As pst.length cs] 30))
  have hb1 : Below w.heap.size w W1 := by rw [HW1.out]; exact below_new (below_new (Below.refl _ _) _) _
  have hfc : Fr W1 w.heap.size 27 [.slice A0 c.nodes.length c0, .slice A1 c.names.length c1, .slice A2 c.mems.length c2, .slice A3 c.outs.length c3] := by rw [HW1.out]; exact Fr.alloc (Fr.made _ _ _ rfl) _
  have hfp : Fr W1 (w.heap.size + 1) 30 [.slice Ai pin.length ci, .slice As pst.length cs] := by rw [HW1.out]; exact Fr.made _ _ _ (by simp)
  have hm3 : c.mems.length ≤ maxLen := by obtain ⟨v0, v1, v2, v3, e, -, -, h2, -⟩ := hc; simp only [Value.agg.injEq, Array.mk.injEq, List.cons.injEq, and_true] at e; obtain ⟨rfl, rfl, rfl, rfl⟩ := e; exact Arr.len h2
  have hm1 := Arr.len hi
  have hm2 := Arr.len hs
  have HB1 := Lib.hid hb1
  unfold maxLen at hm1 hm2 hm3
  clear hc hi hs hb1
  generalize c.mems.length = n2 at HW1 hfc hmem hm3 ⊢
  generalize c.nodes.length = n0 at HW1 hfc  ⊢
  generalize c.names.length = n1 at HW1 hfc  ⊢
  generalize c.outs.length = n3 at HW1 hfc  ⊢
  generalize pin.length = ni at HW1 hfp hm1 ⊢
  generalize pst.length = ns at HW1 hfp hm2 ⊢
  have hce : ∀ w', BelW W1 w' → BelW W1 w' ∧ w'.cell? ⟨w.heap.size, 0, none⟩ = some (.slice A0 n0 c0) ∧ w'.cell? ⟨w.heap.size, 1, none⟩ = some (.slice A1 n1 c1) ∧ w'.cell? ⟨w.heap.size, 2, none⟩ = some (.slice A2 n2 c2) ∧ w'.cell? ⟨w.heap.size, 3, none⟩ = some (.slice A3 n3 c3) ∧ w'.cell? ⟨w.heap.size + 1, 0, none⟩ = some (.slice Ai ni ci) ∧ w'.cell? ⟨w.heap.size + 1, 1, none⟩ = some (.slice As ns cs) := fun w' h =>
    ⟨h, (hfc.below h).cell 0, (hfc.below h).cell 1, (hfc.below h).cell 2, (hfc.below h).cell 3, (hfp.below h).cell 0, (hfp.below h).cell 1⟩
  have HCE := Lib.hid hce
  clear hce hfc hfp
  go_enter Tryd.func37, Tryd.ntmps37
  go_upto_region 1 with (fail)
  rw [← HW1.out]
  obtain ⟨-, x0, x1, x2, x3, y0, y1⟩ := HCE.out W1 (Below.refl _ _)
  have q0 : (0 : Int) < (n2 : Int) := by omega
  go_wp2
  go_ret
  exact ⟨rfl, HB1.out⟩
set_option maxRecDepth 100000 in
set_option maxHeartbeats 4000000 in
theorem cpat_st (c : Ck) (pin pst : List Int) (A0 A1 A2 A3 Ai As : Option Addr) (c0 c1 c2 c3 ci cs : Nat) (w : World) (B : Nat) (hB : B ≤ w.heap.size)
    (hc : Cir w B (.agg #[.slice A0 c.nodes.length c0, .slice A1 c.names.length c1, .slice A2 c.mems.length c2, .slice A3 c.outs.length c3]) c) (hi : Ks w B (.slice Ai pin.length ci) pin) (hs : Ks w B (.slice As pst.length cs) pst) (hsz : c.nodes.length ≤ 1000000) (hmem : c.mems.length = 0) (hli : pin.length = (ofTo c.nodes [0] c.nodes.length).length) (hls : pst.length ≠ (ofTo c.nodes [14] c.nodes.length).length) :
    Calls Tryd.prog 37 #[.agg #[.slice A0 c.nodes.length c0, .slice A1 c.names.length c1, .slice A2 c.mems.length c2, .slice A3 c.outs.length c3], .agg #[.slice Ai pin.length ci, .slice As pst.length cs]] w
      fun e w' => e = .returned (.int .i64 8) ∧ Below w.heap.size w w' := by
  obtain ⟨W1, HW1⟩ := named ((w.alloc (.cells #[.slice A0 c.nodes.length c0, .slice A1 c.names.length c1, .slice A2 c.mems.length c2, .slice A3 c.outs.length c3] 27)).alloc (.cells #[.slice Ai pin.length ci, .slice As pst.length cs] 30))
  have hb1 : Below w.heap.size w W1 := by rw [HW1.out]; exact below_new (below_new (Below.refl _ _) _) _
  have hfc : Fr W1 w.heap.size 27 [.slice A0 c.nodes.length c0, .slice A1 c.names.length c1, .slice A2 c.mems.length c2, .slice A3 c.outs.length c3] := by rw [HW1.out]; exact Fr.alloc (Fr.made _ _ _ rfl) _
  have hfp : Fr W1 (w.heap.size + 1) 30 [.slice Ai pin.length ci, .slice As pst.length cs] := by rw [HW1.out]; exact Fr.made _ _ _ (by simp)
  obtain ⟨ms, HMS⟩ := named (ofTo c.nodes [14] c.nodes.length).length
  have hne2 : pst.length ≠ ms := by rw [HMS.out]; exact hls
  have hms : ms ≤ 1000000 := by have := ofTo_len c.nodes [14] c.nodes.length; rw [HMS.out]; omega
  have HIN : Hid (∀ W, BelW W1 W → Calls Tryd.prog 29 #[.agg #[.slice A0 c.nodes.length c0, .slice A1 c.names.length c1, .slice A2 c.mems.length c2, .slice A3 c.outs.length c3]] W fun e w' => ∃ A, e = .returned (.slice A pin.length pin.length) ∧ BelW W w') :=
    Lib.hid fun W hb => (inputs_any c _ W B (Nat.le_trans hB (joinB hb1 hb).size) (hc.below ((joinB hb1 hb).mono hB)) hsz).mono fun e w' ⟨A, he, _, h⟩ => ⟨A, by rw [hli]; exact he, h⟩
  have HST : Hid (∀ W, BelW W1 W → Calls Tryd.prog 30 #[.agg #[.slice A0 c.nodes.length c0, .slice A1 c.names.length c1, .slice A2 c.mems.length c2, .slice A3 c.outs.length c3]] W fun e w' => ∃ A, e = .returned (.slice A ms ms) ∧ BelW W w') :=
    Lib.hid fun W hb => (states_any c _ W B (Nat.le_trans hB (joinB hb1 hb).size) (hc.below ((joinB hb1 hb).mono hB)) hsz).mono fun e w' ⟨A, he, _, h⟩ => ⟨A, by rw [HMS.out]; exact he, h⟩
  have hm1 := Arr.len hi
  have hm2 := Arr.len hs
  have HB1 := Lib.hid hb1
  unfold maxLen at hm1 hm2
  clear hc hi hs hls hb1
  rw [hmem] at HW1 hfc HIN HST
  rw [hmem]
  clear hmem HMS
  generalize c.nodes.length = n0 at HW1 hfc HIN HST ⊢
  generalize c.names.length = n1 at HW1 hfc HIN HST ⊢
  generalize c.outs.length = n3 at HW1 hfc HIN HST ⊢
  generalize pin.length = ni at HW1 hfp HIN hm1 ⊢
  generalize pst.length = ns at HW1 hfp hne2 hm2 ⊢
  have hce : ∀ w', BelW W1 w' → BelW W1 w' ∧ w'.cell? ⟨w.heap.size, 0, none⟩ = some (.slice A0 n0 c0) ∧ w'.cell? ⟨w.heap.size, 1, none⟩ = some (.slice A1 n1 c1) ∧ w'.cell? ⟨w.heap.size, 2, none⟩ = some (.slice A2 0 c2) ∧ w'.cell? ⟨w.heap.size, 3, none⟩ = some (.slice A3 n3 c3) ∧ w'.cell? ⟨w.heap.size + 1, 0, none⟩ = some (.slice Ai ni ci) ∧ w'.cell? ⟨w.heap.size + 1, 1, none⟩ = some (.slice As ns cs) := fun w' h =>
    ⟨h, (hfc.below h).cell 0, (hfc.below h).cell 1, (hfc.below h).cell 2, (hfc.below h).cell 3, (hfp.below h).cell 0, (hfp.below h).cell 1⟩
  have HCE := Lib.hid hce
  clear hce hfc hfp
  go_enter Tryd.func37, Tryd.ntmps37
  go_upto_region 1 with (fail)
  rw [← HW1.out]
  obtain ⟨-, x0, x1, x2, x3, y0, y1⟩ := HCE.out W1 (Below.refl _ _)
  go_wp2
  have t1 : ((ns : Int) != (ms : Int)) = true := by rw [bne_iff_ne]; omega
  have t2 : (ns != ms) = true := by rw [bne_iff_ne]; omega
  have t3 : ((ni : Int) != (ni : Int)) = false := by simp
  have t4 : (ni != ni) = false := by simp
  have hs0 : BelW W1 W1 := Below.refl _ _
  clear x0 x1 x2 x3 y0 y1
  go_region_held3 (fun w' => BelW W1 w' ∧ w'.cell? ⟨w.heap.size, 0, none⟩ = some (.slice A0 n0 c0) ∧ w'.cell? ⟨w.heap.size, 1, none⟩ = some (.slice A1 n1 c1) ∧ w'.cell? ⟨w.heap.size, 2, none⟩ = some (.slice A2 0 c2) ∧ w'.cell? ⟨w.heap.size, 3, none⟩ = some (.slice A3 n3 c3) ∧ w'.cell? ⟨w.heap.size + 1, 0, none⟩ = some (.slice Ai ni ci) ∧ w'.cell? ⟨w.heap.size + 1, 1, none⟩ = some (.slice As ns cs))
    ((refine HCE.out _ ?_; first | (with_reducible assumption) | (refine BelW.drew ?_; with_reducible assumption)))
    (first
      | (go_at_call 29; refine Calls.mono (HIN.out _ ?_) ?_; · (first | (with_reducible assumption) | (refine BelW.drew ?_; with_reducible assumption))
         rintro e w3 ⟨A, rfl, hb3⟩
         have hs3 : BelW W1 w3 := (by refine BelW.next ?_ hb3; first | (with_reducible assumption) | (refine BelW.drew ?_; with_reducible assumption)))
      | (go_at_call 30; refine Calls.mono (HST.out _ ?_) ?_; · (first | (with_reducible assumption) | (refine BelW.drew ?_; with_reducible assumption))
         rintro e w4 ⟨A, rfl, hb4⟩
         have hs4 : BelW W1 w4 := (by refine BelW.next ?_ hb4; first | (with_reducible assumption) | (refine BelW.drew ?_; with_reducible assumption))))
  obtain ⟨-, x0, x1, x2, x3, y0, y1⟩ := HCE.out w4 hs4
  go_wp2
  go_ret
  exact ⟨rfl, joinB HB1.out hs4⟩
set_option maxRecDepth 100000 in
set_option maxHeartbeats 4000000 in
theorem cpat_val (c : Ck) (pin pst : List Int) (A0 A1 A2 A3 Ai As : Option Addr) (c0 c1 c2 c3 ci cs : Nat) (w : World) (B : Nat) (hB : B ≤ w.heap.size)
    (hc : Cir w B (.agg #[.slice A0 c.nodes.length c0, .slice A1 c.names.length c1, .slice A2 c.mems.length c2, .slice A3 c.outs.length c3]) c) (hi : Ks w B (.slice Ai pin.length ci) pin) (hs : Ks w B (.slice As pst.length cs) pst) (hsz : c.nodes.length ≤ 1000000) (hmem : c.mems.length = 0) (hli : pin.length = (ofTo c.nodes [0] c.nodes.length).length) (hls : pst.length = (ofTo c.nodes [14] c.nodes.length).length) :
    Calls Tryd.prog 37 #[.agg #[.slice A0 c.nodes.length c0, .slice A1 c.names.length c1, .slice A2 c.mems.length c2, .slice A3 c.outs.length c3], .agg #[.slice Ai pin.length ci, .slice As pst.length cs]] w
      fun e w' => e = .returned (.int .i64 (if anyP abv pin || anyP abv pst then 1 else 0)) ∧ Below w.heap.size w w' := by
  obtain ⟨W1, HW1⟩ := named ((w.alloc (.cells #[.slice A0 c.nodes.length c0, .slice A1 c.names.length c1, .slice A2 c.mems.length c2, .slice A3 c.outs.length c3] 27)).alloc (.cells #[.slice Ai pin.length ci, .slice As pst.length cs] 30))
  have hb1 : Below w.heap.size w W1 := by rw [HW1.out]; exact below_new (below_new (Below.refl _ _) _) _
  have hfc : Fr W1 w.heap.size 27 [.slice A0 c.nodes.length c0, .slice A1 c.names.length c1, .slice A2 c.mems.length c2, .slice A3 c.outs.length c3] := by rw [HW1.out]; exact Fr.alloc (Fr.made _ _ _ rfl) _
  have hfp : Fr W1 (w.heap.size + 1) 30 [.slice Ai pin.length ci, .slice As pst.length cs] := by rw [HW1.out]; exact Fr.made _ _ _ (by simp)
  obtain ⟨t1, HY1⟩ := named (anyP abv pin)
  obtain ⟨t2, HY2⟩ := named (anyP abv pst)
  rw [← HY1.out, ← HY2.out]
  have HIN : Hid (∀ W, BelW W1 W → Calls Tryd.prog 29 #[.agg #[.slice A0 c.nodes.length c0, .slice A1 c.names.length c1, .slice A2 c.mems.length c2, .slice A3 c.outs.length c3]] W fun e w' => ∃ A, e = .returned (.slice A pin.length pin.length) ∧ BelW W w') :=
    Lib.hid fun W hb => (inputs_any c _ W B (Nat.le_trans hB (joinB hb1 hb).size) (hc.below ((joinB hb1 hb).mono hB)) hsz).mono fun e w' ⟨A, he, _, h⟩ => ⟨A, by rw [hli]; exact he, h⟩
  have HST : Hid (∀ W, BelW W1 W → Calls Tryd.prog 30 #[.agg #[.slice A0 c.nodes.length c0, .slice A1 c.names.length c1, .slice A2 c.mems.length c2, .slice A3 c.outs.length c3]] W fun e w' => ∃ A, e = .returned (.slice A pst.length pst.length) ∧ BelW W w') :=
    Lib.hid fun W hb => (states_any c _ W B (Nat.le_trans hB (joinB hb1 hb).size) (hc.below ((joinB hb1 hb).mono hB)) hsz).mono fun e w' ⟨A, he, _, h⟩ => ⟨A, by rw [hls]; exact he, h⟩
  have HVI : Hid (∀ W, BelW W1 W → Calls Tryd.prog 62 #[.slice Ai pin.length ci, .func (.func 61) #[] #[]] W fun e w' => e = .returned (.bool t1) ∧ W = w') :=
    Lib.hid fun W hb => by have := containsV_any pin _ W B (Arr.keep stays_u8 hi (Nat.le_refl _) fun _ hp => (joinB hb1 hb).cell (Nat.lt_of_lt_of_le hp hB)); rw [← HY1.out] at this; exact this
  have HVS : Hid (∀ W, BelW W1 W → Calls Tryd.prog 62 #[.slice As pst.length cs, .func (.func 61) #[] #[]] W fun e w' => e = .returned (.bool t2) ∧ W = w') :=
    Lib.hid fun W hb => by have := containsV_any pst _ W B (Arr.keep stays_u8 hs (Nat.le_refl _) fun _ hp => (joinB hb1 hb).cell (Nat.lt_of_lt_of_le hp hB)); rw [← HY2.out] at this; exact this
  have hm1 := Arr.len hi
  have hm2 := Arr.len hs
  have HB1 := Lib.hid hb1
  unfold maxLen at hm1 hm2
  clear hc hi hs hli hls hb1 HY1 HY2
  rw [hmem] at HW1 hfc HIN HST
  rw [hmem]
  clear hmem
  generalize c.nodes.length = n0 at HW1 hfc HIN HST ⊢
  generalize c.names.length = n1 at HW1 hfc HIN HST ⊢
  generalize c.outs.length = n3 at HW1 hfc HIN HST ⊢
  generalize pin.length = ni at HW1 hfp HIN HVI hm1 ⊢
  generalize pst.length = ns at HW1 hfp HST HVS hm2 ⊢
  have hce : ∀ w', BelW W1 w' → BelW W1 w' ∧ w'.cell? ⟨w.heap.size, 0, none⟩ = some (.slice A0 n0 c0) ∧ w'.cell? ⟨w.heap.size, 1, none⟩ = some (.slice A1 n1 c1) ∧ w'.cell? ⟨w.heap.size, 2, none⟩ = some (.slice A2 0 c2) ∧ w'.cell? ⟨w.heap.size, 3, none⟩ = some (.slice A3 n3 c3) ∧ w'.cell? ⟨w.heap.size + 1, 0, none⟩ = some (.slice Ai ni ci) ∧ w'.cell? ⟨w.heap.size + 1, 1, none⟩ = some (.slice As ns cs) := fun w' h =>
    ⟨h, (hfc.below h).cell 0, (hfc.below h).cell 1, (hfc.below h).cell 2, (hfc.below h).cell 3, (hfp.below h).cell 0, (hfp.below h).cell 1⟩
  have HCE := Lib.hid hce
  clear hce hfc hfp
  go_enter Tryd.func37, Tryd.ntmps37
  go_upto_region 1 with (fail)
  rw [← HW1.out]
  obtain ⟨-, x0, x1, x2, x3, y0, y1⟩ := HCE.out W1 (Below.refl _ _)
  go_wp2
  have hs0 : BelW W1 W1 := Below.refl _ _
  clear x0 x1 x2 x3 y0 y1
  go_region_held3 (fun w' => BelW W1 w' ∧ w'.cell? ⟨w.heap.size, 0, none⟩ = some (.slice A0 n0 c0) ∧ w'.cell? ⟨w.heap.size, 1, none⟩ = some (.slice A1 n1 c1) ∧ w'.cell? ⟨w.heap.size, 2, none⟩ = some (.slice A2 0 c2) ∧ w'.cell? ⟨w.heap.size, 3, none⟩ = some (.slice A3 n3 c3) ∧ w'.cell? ⟨w.heap.size + 1, 0, none⟩ = some (.slice Ai ni ci) ∧ w'.cell? ⟨w.heap.size + 1, 1, none⟩ = some (.slice As ns cs))
    ((refine HCE.out _ ?_; first | (with_reducible assumption) | (refine BelW.drew ?_; with_reducible assumption)))
    (first
      | (go_at_call 29; refine Calls.mono (HIN.out _ ?_) ?_; · (first | (with_reducible assumption) | (refine BelW.drew ?_; with_reducible assumption))
         rintro e w3 ⟨A, rfl, hb3⟩
         have hs3 : BelW W1 w3 := (by refine BelW.next ?_ hb3; first | (with_reducible assumption) | (refine BelW.drew ?_; with_reducible assumption)))
      | (go_at_call 30; refine Calls.mono (HST.out _ ?_) ?_; · (first | (with_reducible assumption) | (refine BelW.drew ?_; with_reducible assumption))
         rintro e w4 ⟨A, rfl, hb4⟩
         have hs4 : BelW W1 w4 := (by refine BelW.next ?_ hb4; first | (with_reducible assumption) | (refine BelW.drew ?_; with_reducible assumption))))
  obtain ⟨-, x0, x1, x2, x3, y0, y1⟩ := HCE.out w4 hs4
  cases t1
  · cases t2
    · go_wp2_with (first
        | (go_at_call 62; (with_reducible refine (HVI.out _ hs4).mono ?_); rintro e w5 ⟨rfl, rfl⟩)
        | (go_at_call 62; (with_reducible refine (HVS.out _ hs4).mono ?_); rintro e w5 ⟨rfl, rfl⟩))
      go_ret
      exact ⟨rfl, joinB HB1.out hs4⟩
    · go_wp2_with (first
        | (go_at_call 62; (with_reducible refine (HVI.out _ hs4).mono ?_); rintro e w5 ⟨rfl, rfl⟩)
        | (go_at_call 62; (with_reducible refine (HVS.out _ hs4).mono ?_); rintro e w5 ⟨rfl, rfl⟩))
      go_ret
      exact ⟨rfl, joinB HB1.out hs4⟩
  · go_wp2_with (first
      | (go_at_call 62; (with_reducible refine (HVI.out _ hs4).mono ?_); rintro e w5 ⟨rfl, rfl⟩)
      | (go_at_call 62; (with_reducible refine (HVS.out _ hs4).mono ?_); rintro e w5 ⟨rfl, rfl⟩))
    go_ret
    exact ⟨rfl, joinB HB1.out hs4⟩

/-- What checkPattern returns. -/
def cpE (c : Ck) (pin pst : List Int) : Int :=
  if c.mems.length ≠ 0 then 7 else if pin.length ≠ (ofTo c.nodes [0] c.nodes.length).length ∨ pst.length ≠ (ofTo c.nodes [14] c.nodes.length).length then 8 else if anyP abv pin || anyP abv pst then 1 else 0
theorem cpat_any (c : Ck) (pin pst : List Int) (A0 A1 A2 A3 Ai As : Option Addr) (c0 c1 c2 c3 ci cs : Nat) (w : World) (B : Nat) (hB : B ≤ w.heap.size)
    (hc : Cir w B (.agg #[.slice A0 c.nodes.length c0, .slice A1 c.names.length c1, .slice A2 c.mems.length c2, .slice A3 c.outs.length c3]) c) (hi : Ks w B (.slice Ai pin.length ci) pin) (hs : Ks w B (.slice As pst.length cs) pst) (hsz : c.nodes.length ≤ 1000000) :
    Calls Tryd.prog 37 #[.agg #[.slice A0 c.nodes.length c0, .slice A1 c.names.length c1, .slice A2 c.mems.length c2, .slice A3 c.outs.length c3], .agg #[.slice Ai pin.length ci, .slice As pst.length cs]] w
      fun e w' => e = .returned (.int .i64 (cpE c pin pst)) ∧ Below w.heap.size w w' := by
  by_cases hm : c.mems.length = 0
  · by_cases h1 : pin.length = (ofTo c.nodes [0] c.nodes.length).length
    · by_cases h2 : pst.length = (ofTo c.nodes [14] c.nodes.length).length
      · have := cpat_val c pin pst A0 A1 A2 A3 Ai As c0 c1 c2 c3 ci cs w B hB hc hi hs hsz hm h1 h2
        rw [show cpE c pin pst = if anyP abv pin || anyP abv pst then 1 else 0 by unfold cpE; rw [if_neg (by simpa using hm), if_neg (by simp [h1, h2])]]
        exact this
      · rw [show cpE c pin pst = 8 by unfold cpE; rw [if_neg (by simpa using hm), if_pos (.inr h2)]]
        exact cpat_st c pin pst A0 A1 A2 A3 Ai As c0 c1 c2 c3 ci cs w B hB hc hi hs hsz hm h1 h2
    · rw [show cpE c pin pst = 8 by unfold cpE; rw [if_neg (by simpa using hm), if_pos (.inl h1)]]
      exact cpat_width c pin pst A0 A1 A2 A3 Ai As c0 c1 c2 c3 ci cs w B hB hc hi hs hsz hm h1
  · rw [show cpE c pin pst = 7 by unfold cpE; rw [if_pos hm]]
    exact cpat_mem c pin pst A0 A1 A2 A3 Ai As c0 c1 c2 c3 ci cs w B hB hc hi hs hsz hm
end Go.Proofs.YtfcdhoaccmckoaaDoor

