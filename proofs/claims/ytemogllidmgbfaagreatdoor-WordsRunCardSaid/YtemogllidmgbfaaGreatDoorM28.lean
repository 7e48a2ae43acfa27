/- The texts Smd Cpt. -/
import Derived.Test.YtemogllidmgbfaaGreatDoorM16
import Derived.Test.YtemogllidmgbfaaGreatDoorM27
namespace Go.Proofs.YtemogllidmgbfaaGreatDoor
open Go.RowKit

section
variable {P : Program} {ops : Array Oper} {Q : Exit → Act → World → Prop} {md : Region.Mode} {S : World → Prop}
theorem anyH_one {i : Nat} {o : Oper} {f : Nat} {listed : Array Bool} {a : Act} {w : World} (hr : Region.ready md ops listed = [i]) (ho : ops[i]? = some o)
    (h : ∀ K' : Act → World → Prop, (∀ a' w', S w' → wpAnyH P md ops Q S f (listed.setIfInBounds i true) a' w' → K' a' w') → if Region.wanted o (yielded ops a.tmps) = true then Oper.wp P o a w K' Q else K' (a.put o.dst undef) w) : wpAnyH P md ops Q S (f + 1) listed a w := by
  refine wpAnyH_all (rs := [i]) hr (by simp) fun j hj => ?_
  obtain rfl := List.mem_singleton.1 hj
  exact wpOp_step ho (fun K' hK => h K' fun a' w' h1 h2 => hK a' w' ⟨h1, h2⟩)
end

set_option maxRecDepth 100000 in
set_option maxHeartbeats 4000000 in
theorem cpat_width (c : Ck) (pin pst : List Int) (A0 A1 A2 A3 Ai As : Option Addr) (c0 c1 c2 c3 ci cs : Nat) (w : World) (B : Nat) (hB : B ≤ w.heap.size)
    (hc : Cir w B (.agg #[.slice A0 c.nodes.length c0, .slice A1 c.names.length c1, .slice A2 c.mems.length c2, .slice A3 c.outs.length c3]) c) (hi : Ks w B (.slice Ai pin.length ci) pin) (hs : Ks w B (.slice As pst.length cs) pst) (hsz : c.nodes.length ≤ 1000000) (hmem : c.mems.length = 0) (hne : pin.length ≠ (ofTo c.nodes [0] c.nodes.length).length) :
    Calls Tryz.prog 49 #[.agg #[.slice A0 c.nodes.length c0, .slice A1 c.names.length c1, .slice A2 c.mems.length c2, .slice A3 c.outs.length c3], .agg #[.slice Ai pin.length ci, .slice As pst.length cs]] w
      fun e w' => e = .returned (.int .i64 8) ∧ Below w.heap.size w w' := by
  obtain ⟨W1, HW1⟩ := named ((w.alloc (.cells #[.slice A0 c.nodes.length c0, .slice A1 c.names.length c1, .slice A2 c.mems.length c2, .slice A3 c.outs.length c3] 46)).alloc (.cells #[.slice Ai pin.length ci, .slice As pst.length cs] 50))
  have hb1 : Below w.heap.size w W1 := by rw [HW1.out]; exact below_new (below_new (Below.refl _ _) _) _
  have hfc : Fr W1 w.heap.size 46 [.slice A0 c.nodes.length c0, .slice A1 c.names.length c1, .slice A2 c.mems.length c2, .slice A3 c.outs.length c3] := by rw [HW1.out]; exact Fr.alloc (Fr.made _ _ _ rfl) _
  have hfp : Fr W1 (w.heap.size + 1) 50 [.slice Ai pin.length ci, .slice As pst.length cs] := by rw [HW1.out]; exact Fr.made _ _ _ (by simp)
  obtain ⟨mi, HMI⟩ := named (ofTo c.nodes [0] c.nodes.length).length
  have hne2 : pin.length ≠ mi := by rw [HMI.out]; exact hne
  have hmi : mi ≤ 1000000 := by have := ofTo_len c.nodes [0] c.nodes.length; rw [HMI.out]; omega
  have HIN : Hid (∀ W, BelW W1 W → Calls Tryz.prog 46 #[.agg #[.slice A0 c.nodes.length c0, .slice A1 c.names.length c1, .slice A2 c.mems.length c2, .slice A3 c.outs.length c3]] W fun e w' => ∃ A, e = .returned (.slice A mi mi) ∧ BelW W w') :=
    Lib.hid fun W hb => (inputs_any c _ W B (Nat.le_trans hB (joinB hb1 hb).size) (hc.below ((joinB hb1 hb).mono hB)) hsz).mono fun e w' ⟨A, he, _, h⟩ => ⟨A, by rw [HMI.out]; exact he, h⟩
  have hm1 := Arr.len hi
  have hm2 := Arr.len hs
  have HB1 := Lib.hid hb1
  unfold maxLen at hm1 hm2
  clear hc hi hs hb1 hne
  rw [hmem] at HW1 hfc HIN
  rw [hmem]
  clear hmem HMI
  generalize c.nodes.length = n0 at HW1 hfc HIN ⊢
  generalize c.names.length = n1 at HW1 hfc HIN ⊢
  generalize c.outs.length = n3 at HW1 hfc HIN ⊢
  generalize pin.length = ni at HW1 hfp hne2 hm1 ⊢
  generalize pst.length = ns at HW1 hfp hm2 ⊢
  have hce : ∀ w', BelW W1 w' → BelW W1 w' ∧ w'.cell? ⟨w.heap.size, 0, none⟩ = some (.slice A0 n0 c0) ∧ w'.cell? ⟨w.heap.size, 1, none⟩ = some (.slice A1 n1 c1) ∧ w'.cell? ⟨w.heap.size, 2, none⟩ = some (.slice A2 0 c2) ∧ w'.cell? ⟨w.heap.size, 3, none⟩ = some (.slice A3 n3 c3) ∧ w'.cell? ⟨w.heap.size + 1, 0, none⟩ = some (.slice Ai ni ci) ∧ w'.cell? ⟨w.heap.size + 1, 1, none⟩ = some (.slice As ns cs) := fun w' h =>
    ⟨h, (hfc.below h).cell 0, (hfc.below h).cell 1, (hfc.below h).cell 2, (hfc.below h).cell 3, (hfp.below h).cell 0, (hfp.below h).cell 1⟩
  have HCE := Lib.hid hce
  clear hce hfc hfp
  go_enter Tryz.func49, Tryz.ntmps49
  go_upto_region 1 with (fail)
  rw [← HW1.out]
  obtain ⟨-, x0, x1, x2, x3, y0, y1⟩ := HCE.out W1 (Below.refl _ _)
  go_wp2
  have hs0 : BelW W1 W1 := Below.refl _ _
  clear x0 x1 x2 x3 y0 y1
  have t1 : ((ni : Int) != (mi : Int)) = true := by rw [bne_iff_ne]; omega
  have t2 : (ni != mi) = true := by rw [bne_iff_ne]; omega
  have HS0 := Lib.hid (HCE.out _ (BelW.drew hs0))
  refine wp_region_held (S := (fun w' => BelW W1 w' ∧ w'.cell? ⟨w.heap.size, 0, none⟩ = some (.slice A0 n0 c0) ∧ w'.cell? ⟨w.heap.size, 1, none⟩ = some (.slice A1 n1 c1) ∧ w'.cell? ⟨w.heap.size, 2, none⟩ = some (.slice A2 0 c2) ∧ w'.cell? ⟨w.heap.size, 3, none⟩ = some (.slice A3 n3 c3) ∧ w'.cell? ⟨w.heap.size + 1, 0, none⟩ = some (.slice Ai ni ci) ∧ w'.cell? ⟨w.heap.size + 1, 1, none⟩ = some (.slice As ns cs))) (by kernel_rfl) ?_
  refine wpAnyH_take (i := 0) (oi := ⟨some 12, _, _, _, _, _⟩) (v := .pointer (some ⟨w.heap.size + 1, 0, none⟩)) rfl (by kernel_rfl) (by kernel_rfl) (by kernel_rfl) (fun _ _ _ h => h) (Or.inl ⟨by rfl, ?_⟩) HS0.out ?_
  · intro w' hSw
    obtain ⟨-, z0, z1, z2, z3, z4, z5⟩ := hSw
    first | (go_simp; done) | (go_simp; with_reducible rfl)
  simp only [Act.put, List.setIfInBounds_toArray, List.set_cons_zero, List.set_cons_succ]
  refine wpAnyH_take (i := 1) (oi := ⟨some 13, _, _, _, _, _⟩) (v := .slice Ai ni ci) rfl (by kernel_rfl) (by kernel_rfl) (by kernel_rfl) (fun _ _ _ h => h) (Or.inl ⟨by rfl, ?_⟩) HS0.out ?_
  · intro w' hSw
    obtain ⟨-, z0, z1, z2, z3, z4, z5⟩ := hSw
    first | (go_simp; done) | (go_simp; with_reducible rfl)
  simp only [Act.put, List.setIfInBounds_toArray, List.set_cons_zero, List.set_cons_succ]
  refine wpAnyH_take (i := 2) (oi := ⟨some 14, _, _, _, _, _⟩) (v := .int .i64 (ni : Int)) rfl (by kernel_rfl) (by kernel_rfl) (by kernel_rfl) (fun _ _ _ h => h) (Or.inl ⟨by rfl, ?_⟩) HS0.out ?_
  · intro w' hSw
    obtain ⟨-, z0, z1, z2, z3, z4, z5⟩ := hSw
    first | (go_simp; done) | (go_simp; with_reducible rfl)
  simp only [Act.put, List.setIfInBounds_toArray, List.set_cons_zero, List.set_cons_succ]
  refine wpAnyH_take (i := 3) (oi := ⟨some 15, _, _, _, _, _⟩) (v := .agg #[.slice A0 n0 c0, .slice A1 n1 c1, .slice A2 0 c2, .slice A3 n3 c3]) rfl (by kernel_rfl) (by kernel_rfl) (by kernel_rfl) (fun _ _ _ h => h) (Or.inl ⟨by rfl, ?_⟩) HS0.out ?_
  · intro w' hSw
    obtain ⟨-, z0, z1, z2, z3, z4, z5⟩ := hSw
    first | (go_simp; done) | (go_simp; with_reducible rfl)
  simp only [Act.put, List.setIfInBounds_toArray, List.set_cons_zero, List.set_cons_succ]
  refine anyH_one (i := 4) (o := ⟨some 16, _, _, _, _, _⟩) (by kernel_rfl) rfl (fun K' hK => ?_)
  have HK := Lib.hid hK
  clear hK
  go_simp
  go_at_call 46
  (with_reducible refine (HIN.out _ (BelW.drew hs0)).mono ?_)
  rintro e w3 ⟨A, rfl, hb3⟩
  have hs3 : BelW W1 w3 := BelW.next (BelW.drew hs0) hb3
  have HS3 := Lib.hid (HCE.out _ hs3)
  refine HK.out _ _ (HS3.out) ?_
  clear HK
  (try simp only [Act.put, List.setIfInBounds_toArray, List.set_cons_zero, List.set_cons_succ])
  refine wpAnyH_take (i := 5) (oi := ⟨some 17, _, _, _, _, _⟩) (v := .int .i64 (mi : Int)) rfl (by kernel_rfl) (by kernel_rfl) (by kernel_rfl) (fun _ _ _ h => h) (Or.inl ⟨by rfl, ?_⟩) HS3.out ?_
  · intro w' hSw
    obtain ⟨-, z0, z1, z2, z3, z4, z5⟩ := hSw
    first | (go_simp; done) | (go_simp; with_reducible rfl)
  simp only [Act.put, List.setIfInBounds_toArray, List.set_cons_zero, List.set_cons_succ]
  refine wpAnyH_take (i := 6) (oi := ⟨some 18, _, _, _, _, _⟩) (v := .bool true) rfl (by kernel_rfl) (by kernel_rfl) (by kernel_rfl) (fun _ _ _ h => h) (Or.inl ⟨by rfl, ?_⟩) HS3.out ?_
  · intro w' hSw
    obtain ⟨-, z0, z1, z2, z3, z4, z5⟩ := hSw
    first | (go_simp; done) | (go_simp; with_reducible rfl)
  simp only [Act.put, List.setIfInBounds_toArray, List.set_cons_zero, List.set_cons_succ]
  refine wpAnyH_take (i := 7) (oi := ⟨some 19, _, _, _, _, _⟩) (v := .bool true) rfl (by kernel_rfl) (by kernel_rfl) (by kernel_rfl) (fun _ _ _ h => h) (Or.inl ⟨by rfl, ?_⟩) HS3.out ?_
  · intro w' hSw
    obtain ⟨-, z0, z1, z2, z3, z4, z5⟩ := hSw
    first | (go_simp; done) | (go_simp; with_reducible rfl)
  simp only [Act.put, List.setIfInBounds_toArray, List.set_cons_zero, List.set_cons_succ]
  refine wpAnyH_take (i := 8) (oi := ⟨some 20, _, _, _, _, _⟩) (v := undef) rfl (by kernel_rfl) (by kernel_rfl) (by kernel_rfl) (fun _ _ _ h => h) (Or.inr ⟨by rfl, rfl⟩) HS3.out ?_
  simp only [Act.put, List.setIfInBounds_toArray, List.set_cons_zero, List.set_cons_succ]
  refine wpAnyH_take (i := 9) (oi := ⟨some 21, _, _, _, _, _⟩) (v := undef) rfl (by kernel_rfl) (by kernel_rfl) (by kernel_rfl) (fun _ _ _ h => h) (Or.inr ⟨by rfl, rfl⟩) HS3.out ?_
  simp only [Act.put, List.setIfInBounds_toArray, List.set_cons_zero, List.set_cons_succ]
  refine wpAnyH_take (i := 10) (oi := ⟨some 22, _, _, _, _, _⟩) (v := undef) rfl (by kernel_rfl) (by kernel_rfl) (by kernel_rfl) (fun _ _ _ h => h) (Or.inr ⟨by rfl, rfl⟩) HS3.out ?_
  simp only [Act.put, List.setIfInBounds_toArray, List.set_cons_zero, List.set_cons_succ]
  refine wpAnyH_take (i := 11) (oi := ⟨some 23, _, _, _, _, _⟩) (v := undef) rfl (by kernel_rfl) (by kernel_rfl) (by kernel_rfl) (fun _ _ _ h => h) (Or.inr ⟨by rfl, rfl⟩) HS3.out ?_
  simp only [Act.put, List.setIfInBounds_toArray, List.set_cons_zero, List.set_cons_succ]
  refine wpAnyH_take (i := 12) (oi := ⟨some 24, _, _, _, _, _⟩) (v := undef) rfl (by kernel_rfl) (by kernel_rfl) (by kernel_rfl) (fun _ _ _ h => h) (Or.inr ⟨by rfl, rfl⟩) HS3.out ?_
  simp only [Act.put, List.setIfInBounds_toArray, List.set_cons_zero, List.set_cons_succ]
  refine wpAnyH_take (i := 13) (oi := ⟨some 25, _, _, _, _, _⟩) (v := undef) rfl (by kernel_rfl) (by kernel_rfl) (by kernel_rfl) (fun _ _ _ h => h) (Or.inr ⟨by rfl, rfl⟩) HS3.out ?_
  simp only [Act.put, List.setIfInBounds_toArray, List.set_cons_zero, List.set_cons_succ]
  refine wpAnyH_take (i := 14) (oi := ⟨some 26, _, _, _, _, _⟩) (v := undef) rfl (by kernel_rfl) (by kernel_rfl) (by kernel_rfl) (fun _ _ _ h => h) (Or.inr ⟨by rfl, rfl⟩) HS3.out ?_
  simp only [Act.put, List.setIfInBounds_toArray, List.set_cons_zero, List.set_cons_succ]
  refine wpAnyH_take (i := 15) (oi := ⟨some 27, _, _, _, _, _⟩) (v := .bool true) rfl (by kernel_rfl) (by kernel_rfl) (by kernel_rfl) (fun _ _ _ h => h) (Or.inl ⟨by rfl, ?_⟩) HS3.out ?_
  · intro w' hSw
    obtain ⟨-, z0, z1, z2, z3, z4, z5⟩ := hSw
    first | (go_simp; done) | (go_simp; with_reducible rfl)
  simp only [Act.put, List.setIfInBounds_toArray, List.set_cons_zero, List.set_cons_succ]
  refine anyH_one (i := 16) (o := ⟨some 11, _, _, _, _, _⟩) (by kernel_rfl) rfl (fun K' hK => ?_)
  have HK := Lib.hid hK
  clear hK
  go_simp
  refine HK.out _ _ (HS3.out) ?_
  clear HK
  (try simp only [Act.put, List.setIfInBounds_toArray, List.set_cons_zero, List.set_cons_succ])
  refine wpAnyH_done (by kernel_rfl) ?_ _
  go_wp2
  go_ret
  exact ⟨rfl, joinB HB1.out hs3⟩
end Go.Proofs.YtemogllidmgbfaaGreatDoor

namespace Go.Proofs.YtemogllidmgbfaaGreatDoor
open Go.RowKit

set_option maxRecDepth 100000 in
set_option maxHeartbeats 4000000 in
theorem cpat_mem (c : Ck) (pin pst : List Int) (A0 A1 A2 A3 Ai As : Option Addr) (c0 c1 c2 c3 ci cs : Nat) (w : World) (B : Nat) (hB : B ≤ w.heap.size)
    (hc : Cir w B (.agg #[.slice A0 c.nodes.length c0, .slice A1 c.names.length c1, .slice A2 c.mems.length c2, .slice A3 c.outs.length c3]) c) (hi : Ks w B (.slice Ai pin.length ci) pin) (hs : Ks w B (.slice As pst.length cs) pst) (hsz : c.nodes.length ≤ 1000000) (hmem : c.mems.length ≠ 0) :
    Calls Tryz.prog 49 #[.agg #[.slice A0 c.nodes.length c0, .slice A1 c.names.length c1, .slice A2 c.mems.length c2, .slice A3 c.outs.length c3], .agg #[.slice Ai pin.length ci, .slice As pst.length cs]] w
      fun e w' => e = .returned (.int .i64 7) ∧ Below w.heap.size w w' := by
  obtain ⟨W1, HW1⟩ := named ((w.alloc (.cells #[.slice A0 c.nodes.length c0, .slice A1 c.names.length c1, .slice A2 c.mems.length c2, .slice A3 c.outs.length c3] 46)).alloc (.cells #[.slice Ai pin.length ci, .slice As pst.length cs] 50))
  have hb1 : Below w.heap.size w W1 := by rw [HW1.out]; exact below_new (below_new (Below.refl _ _) _) _
  have hfc : Fr W1 w.heap.size 46 [.slice A0 c.nodes.length c0, .slice A1 c.names.length c1, .slice A2 c.mems.length c2, .slice A3 c.outs.length c3] := by rw [HW1.out]; exact Fr.alloc (Fr.made _ _ _ rfl) _
  have hfp : Fr W1 (w.heap.size + 1) 50 [.slice Ai pin.length ci, .slice As pst.length cs] := by rw [HW1.out]; exact Fr.made _ _ _ (by simp)
  have hm3 : c.mems.length ≤ maxLen := by obtain ⟨v0, v1, v2, v3, e, -, -, h2, -⟩ := hc; simp only [Value.agg.injEq, Array.mk.injEq, List.cons.injEq, and_true] at e; obtain ⟨rfl, rfl, rfl, rfl⟩ := e; exact Arr.len h2
  have hm1 := Arr.len hi
  have hm2 := Arr.len hs
  have HB1 := Lib.hid hb1
  unfold maxLen at hm1 hm2 hm3
  clear hc hi hs hb1
  generalize c.mems.length = n2 at HW1 hfc hmem hm3 ⊢
  generalize c.nodes.length = n0 at HW1 hfc  ⊢
  generalize c.names.length = n1 at HW1 hfc  ⊢
  generalize c.outs.length = n3 at HW1 hfc  ⊢
  generalize pin.length = ni at HW1 hfp hm1 ⊢
  generalize pst.length = ns at HW1 hfp hm2 ⊢
  have hce : ∀ w', BelW W1 w' → BelW W1 w' ∧ w'.cell? ⟨w.heap.size, 0, none⟩ = some (.slice A0 n0 c0) ∧ w'.cell? ⟨w.heap.size, 1, none⟩ = some (.slice A1 n1 c1) ∧ w'.cell? ⟨w.heap.size, 2, none⟩ = some (.slice A2 n2 c2) ∧ w'.cell? ⟨w.heap.size, 3, none⟩ = some (.slice A3 n3 c3) ∧ w'.cell? ⟨w.heap.size + 1, 0, none⟩ = some (.slice Ai ni ci) ∧ w'.cell? ⟨w.heap.size + 1, 1, none⟩ = some (.slice As ns cs) := fun w' h =>
    ⟨h, (hfc.below h).cell 0, (hfc.below h).cell 1, (hfc.below h).cell 2, (hfc.below h).cell 3, (hfp.below h).cell 0, (hfp.below h).cell 1⟩
  have HCE := Lib.hid hce
  clear hce hfc hfp
  go_enter Tryz.func49, Tryz.ntmps49
  go_upto_region 1 with (fail)
  rw [← HW1.out]
  obtain ⟨-, x0, x1, x2, x3, y0, y1⟩ := HCE.out W1 (Below.refl _ _)
  have q0 : (0 : Int) < (n2 : Int) := by omega
  go_wp2
  go_ret
  exact ⟨rfl, HB1.out⟩
set_option maxRecDepth 100000 in
set_option maxHeartbeats 4000000 in
theorem cpat_st (c : Ck) (pin pst : List Int) (A0 A1 A2 A3 Ai As : Option Addr) (c0 c1 c2 c3 ci cs : Nat) (w : World) (B : Nat) (hB : B ≤ w.heap.size)
    (hc : Cir w B (.agg #[.slice A0 c.nodes.length c0, .slice A1 c.names.length c1, .slice A2 c.mems.length c2, .slice A3 c.outs.length c3]) c) (hi : Ks w B (.slice Ai pin.length ci) pin) (hs : Ks w B (.slice As pst.length cs) pst) (hsz : c.nodes.length ≤ 1000000) (hmem : c.mems.length = 0) (hli : pin.length = (ofTo c.nodes [0] c.nodes.length).length) (hls : pst.length ≠ (ofTo c.nodes [14] c.nodes.length).length) :
    Calls Tryz.prog 49 #[.agg #[.slice A0 c.nodes.length c0, .slice A1 c.names.length c1, .slice A2 c.mems.length c2, .slice A3 c.outs.length c3], .agg #[.slice Ai pin.length ci, .slice As pst.length cs]] w
      fun e w' => e = .returned (.int .i64 8) ∧ Below w.heap.size w w' := by
  obtain ⟨W1, HW1⟩ := named ((w.alloc (.cells #[.slice A0 c.nodes.length c0, .slice A1 c.names.length c1, .slice A2 c.mems.length c2, .slice A3 c.outs.length c3] 46)).alloc (.cells #[.slice Ai pin.length ci, .slice As pst.length cs] 50))
  have hb1 : Below w.heap.size w W1 := by rw [HW1.out]; exact below_new (below_new (Below.refl _ _) _) _
  have hfc : Fr W1 w.heap.size 46 [.slice A0 c.nodes.length c0, .slice A1 c.names.length c1, .slice A2 c.mems.length c2, .slice A3 c.outs.length c3] := by rw [HW1.out]; exact Fr.alloc (Fr.made _ _ _ rfl) _
  have hfp : Fr W1 (w.heap.size + 1) 50 [.slice Ai pin.length ci, .slice As pst.length cs] := by rw [HW1.out]; exact Fr.made _ _ _ (by simp)
  obtain ⟨ms, HMS⟩ := named (ofTo c.nodes [14] c.nodes.length).length
  have hne2 : pst.length ≠ ms := by rw [HMS.out]; exact hls
  have hms : ms ≤ 1000000 := by have := ofTo_len c.nodes [14] c.nodes.length; rw [HMS.out]; omega
  have HIN : Hid (∀ W, BelW W1 W → Calls Tryz.prog 46 #[.agg #[.slice A0 c.nodes.length c0, .slice A1 c.names.length c1, .slice A2 c.mems.length c2, .slice A3 c.outs.length c3]] W fun e w' => ∃ A, e = .returned (.slice A pin.length pin.length) ∧ BelW W w') :=
    Lib.hid fun W hb => (inputs_any c _ W B (Nat.le_trans hB (joinB hb1 hb).size) (hc.below ((joinB hb1 hb).mono hB)) hsz).mono fun e w' ⟨A, he, _, h⟩ => ⟨A, by rw [hli]; exact he, h⟩
  have HST : Hid (∀ W, BelW W1 W → Calls Tryz.prog 47 #[.agg #[.slice A0 c.nodes.length c0, .slice A1 c.names.length c1, .slice A2 c.mems.length c2, .slice A3 c.outs.length c3]] W fun e w' => ∃ A, e = .returned (.slice A ms ms) ∧ BelW W w') :=
    Lib.hid fun W hb => (states_any c _ W B (Nat.le_trans hB (joinB hb1 hb).size) (hc.below ((joinB hb1 hb).mono hB)) hsz).mono fun e w' ⟨A, he, _, h⟩ => ⟨A, by rw [HMS.out]; exact he, h⟩
  have hm1 := Arr.len hi
  have hm2 := Arr.len hs
  have HB1 := Lib.hid hb1
  unfold maxLen at hm1 hm2
  clear hc hi hs hls hb1
  rw [hmem] at HW1 hfc HIN HST
  rw [hmem]
  clear hmem HMS
  generalize c.nodes.length = n0 at HW1 hfc HIN HST ⊢
  generalize c.names.length = n1 at HW1 hfc HIN HST ⊢
  generalize c.outs.length = n3 at HW1 hfc HIN HST ⊢
  generalize pin.length = ni at HW1 hfp HIN hm1 ⊢
  generalize pst.length = ns at HW1 hfp hne2 hm2 ⊢
  have hce : ∀ w', BelW W1 w' → BelW W1 w' ∧ w'.cell? ⟨w.heap.size, 0, none⟩ = some (.slice A0 n0 c0) ∧ w'.cell? ⟨w.heap.size, 1, none⟩ = some (.slice A1 n1 c1) ∧ w'.cell? ⟨w.heap.size, 2, none⟩ = some (.slice A2 0 c2) ∧ w'.cell? ⟨w.heap.size, 3, none⟩ = some (.slice A3 n3 c3) ∧ w'.cell? ⟨w.heap.size + 1, 0, none⟩ = some (.slice Ai ni ci) ∧ w'.cell? ⟨w.heap.size + 1, 1, none⟩ = some (.slice As ns cs) := fun w' h =>
    ⟨h, (hfc.below h).cell 0, (hfc.below h).cell 1, (hfc.below h).cell 2, (hfc.below h).cell 3, (hfp.below h).cell 0, (hfp.below h).cell 1⟩
  have HCE := Lib.hid hce
  clear hce hfc hfp
  go_enter Tryz.func49, Tryz.ntmps49
  go_upto_region 1 with (fail)
  rw [← HW1.out]
  obtain ⟨-, x0, x1, x2, x3, y0, y1⟩ := HCE.out W1 (Below.refl _ _)
  go_wp2
  have t1 : ((ns : Int) != (ms : Int)) = true := by rw [bne_iff_ne]; omega
  have t2 : (ns != ms) = true := by rw [bne_iff_ne]; omega
  have t3 : ((ni : Int) != (ni : Int)) = false := by simp
  have t4 : (ni != ni) = false := by simp
  have hs0 : BelW W1 W1 := Below.refl _ _
  clear x0 x1 x2 x3 y0 y1
  go_region_held3 (fun w' => BelW W1 w' ∧ w'.cell? ⟨w.heap.size, 0, none⟩ = some (.slice A0 n0 c0) ∧ w'.cell? ⟨w.heap.size, 1, none⟩ = some (.slice A1 n1 c1) ∧ w'.cell? ⟨w.heap.size, 2, none⟩ = some (.slice A2 0 c2) ∧ w'.cell? ⟨w.heap.size, 3, none⟩ = some (.slice A3 n3 c3) ∧ w'.cell? ⟨w.heap.size + 1, 0, none⟩ = some (.slice Ai ni ci) ∧ w'.cell? ⟨w.heap.size + 1, 1, none⟩ = some (.slice As ns cs))
    ((refine HCE.out _ ?_; first | (with_reducible assumption) | (refine BelW.drew ?_; with_reducible assumption)))
    (first
      | (go_at_call 46; refine Calls.mono (HIN.out _ ?_) ?_; · (first | (with_reducible assumption) | (refine BelW.drew ?_; with_reducible assumption))
         rintro e w3 ⟨A, rfl, hb3⟩
         have hs3 : BelW W1 w3 := (by refine BelW.next ?_ hb3; first | (with_reducible assumption) | (refine BelW.drew ?_; with_reducible assumption)))
      | (go_at_call 47; refine Calls.mono (HST.out _ ?_) ?_; · (first | (with_reducible assumption) | (refine BelW.drew ?_; with_reducible assumption))
         rintro e w4 ⟨A, rfl, hb4⟩
         have hs4 : BelW W1 w4 := (by refine BelW.next ?_ hb4; first | (with_reducible assumption) | (refine BelW.drew ?_; with_reducible assumption))))
  obtain ⟨-, x0, x1, x2, x3, y0, y1⟩ := HCE.out w4 hs4
  go_wp2
  go_ret
  exact ⟨rfl, joinB HB1.out hs4⟩
set_option maxRecDepth 100000 in
set_option maxHeartbeats 4000000 in
theorem cpat_val (c : Ck) (pin pst : List Int) (A0 A1 A2 A3 Ai As : Option Addr) (c0 c1 c2 c3 ci cs : Nat) (w : World) (B : Nat) (hB : B ≤ w.heap.size)
    (hc : Cir w B (.agg #[.slice A0 c.nodes.length c0, .slice A1 c.names.length c1, .slice A2 c.mems.length c2, .slice A3 c.outs.length c3]) c) (hi : Ks w B (.slice Ai pin.length ci) pin) (hs : Ks w B (.slice As pst.length cs) pst) (hsz : c.nodes.length ≤ 1000000) (hmem : c.mems.length = 0) (hli : pin.length = (ofTo c.nodes [0] c.nodes.length).length) (hls : pst.length = (ofTo c.nodes [14] c.nodes.length).length) :
    Calls Tryz.prog 49 #[.agg #[.slice A0 c.nodes.length c0, .slice A1 c.names.length c1, .slice A2 c.mems.length c2, .slice A3 c.outs.length c3], .agg #[.slice Ai pin.length ci, .slice As pst.length cs]] w
      fun e w' => e = .returned (.int .i64 (if anyP abv pin || anyP abv pst then 1 else 0)) ∧ Below w.heap.size w w' := by
  obtain ⟨W1, HW1⟩ := named ((w.alloc (.cells #[.slice A0 c.nodes.length c0, .slice A1 c.names.length c1, .slice A2 c.mems.length c2, .slice A3 c.outs.length c3] 46)).alloc (.cells #[.slice Ai pin.length ci, .slice As pst.length cs] 50))
  have hb1 : Below w.heap.size w W1 := by rw [HW1.out]; exact below_new (below_new (Below.refl _ _) _) _
  have hfc : Fr W1 w.heap.size 46 [.slice A0 c.nodes.length c0, .slice A1 c.names.length c1, .slice A2 c.mems.length c2, .slice A3 c.outs.length c3] := by rw [HW1.out]; exact Fr.alloc (Fr.made _ _ _ rfl) _
  have hfp : Fr W1 (w.heap.size + 1) 50 [.slice Ai pin.length ci, .slice As pst.length cs] := by rw [HW1.out]; exact Fr.made _ _ _ (by simp)
  obtain ⟨t1, HY1⟩ := named (anyP abv pin)
  obtain ⟨t2, HY2⟩ := named (anyP abv pst)
  rw [← HY1.out, ← HY2.out]
  have HIN : Hid (∀ W, BelW W1 W → Calls Tryz.prog 46 #[.agg #[.slice A0 c.nodes.length c0, .slice A1 c.names.length c1, .slice A2 c.mems.length c2, .slice A3 c.outs.length c3]] W fun e w' => ∃ A, e = .returned (.slice A pin.length pin.length) ∧ BelW W w') :=
    Lib.hid fun W hb => (inputs_any c _ W B (Nat.le_trans hB (joinB hb1 hb).size) (hc.below ((joinB hb1 hb).mono hB)) hsz).mono fun e w' ⟨A, he, _, h⟩ => ⟨A, by rw [hli]; exact he, h⟩
  have HST : Hid (∀ W, BelW W1 W → Calls Tryz.prog 47 #[.agg #[.slice A0 c.nodes.length c0, .slice A1 c.names.length c1, .slice A2 c.mems.length c2, .slice A3 c.outs.length c3]] W fun e w' => ∃ A, e = .returned (.slice A pst.length pst.length) ∧ BelW W w') :=
    Lib.hid fun W hb => (states_any c _ W B (Nat.le_trans hB (joinB hb1 hb).size) (hc.below ((joinB hb1 hb).mono hB)) hsz).mono fun e w' ⟨A, he, _, h⟩ => ⟨A, by rw [hls]; exact he, h⟩
  have HVI : Hid (∀ W, BelW W1 W → Calls Tryz.prog 92 #[.slice Ai pin.length ci, .func (.func 91) #[] #[]] W fun e w' => e = .returned (.bool t1) ∧ W = w') :=
    Lib.hid fun W hb => by have := containsV_any pin _ W B (Arr.keep stays_u8 hi (Nat.le_refl _) fun _ hp => (joinB hb1 hb).cell (Nat.lt_of_lt_of_le hp hB)); rw [← HY1.out] at this; exact this
  have HVS : Hid (∀ W, BelW W1 W → Calls Tryz.prog 92 #[.slice As pst.length cs, .func (.func 91) #[] #[]] W fun e w' => e = .returned (.bool t2) ∧ W = w') :=
    Lib.hid fun W hb => by have := containsV_any pst _ W B (Arr.keep stays_u8 hs (Nat.le_refl _) fun _ hp => (joinB hb1 hb).cell (Nat.lt_of_lt_of_le hp hB)); rw [← HY2.out] at this; exact this
  have hm1 := Arr.len hi
  have hm2 := Arr.len hs
  have HB1 := Lib.hid hb1
  unfold maxLen at hm1 hm2
  clear hc hi hs hli hls hb1 HY1 HY2
  rw [hmem] at HW1 hfc HIN HST
  rw [hmem]
  clear hmem
  generalize c.nodes.length = n0 at HW1 hfc HIN HST ⊢
  generalize c.names.length = n1 at HW1 hfc HIN HST ⊢
  generalize c.outs.length = n3 at HW1 hfc HIN HST ⊢
  generalize pin.length = ni at HW1 hfp HIN HVI hm1 ⊢
  generalize pst.length = ns at HW1 hfp HST HVS hm2 ⊢
  have hce : ∀ w', BelW W1 w' → BelW W1 w' ∧ w'.cell? ⟨w.heap.size, 0, none⟩ = some (.slice A0 n0 c0) ∧ w'.cell? ⟨w.heap.size, 1, none⟩ = some (.slice A1 n1 c1) ∧ w'.cell? ⟨w.heap.size, 2, none⟩ = some (.slice A2 0 c2) ∧ w'.cell? ⟨w.heap.size, 3, none⟩ = some (.slice A3 n3 c3) ∧ w'.cell? ⟨w.heap.size + 1, 0, none⟩ = some (.slice Ai ni ci) ∧ w'.cell? ⟨w.heap.size + 1, 1, none⟩ = some (.slice As ns cs) := fun w' h =>
    ⟨h, (hfc.below h).cell 0, (hfc.below h).cell 1, (hfc.below h).cell 2, (hfc.below h).cell 3, (hfp.below h).cell 0, (hfp.below h).cell 1⟩
  have HCE := Lib.hid hce
  clear hce hfc hfp
  go_enter Tryz.func49, Tryz.ntmps49
  go_upto_region 1 with (fail)
  rw [← HW1.out]
  obtain ⟨-, x0, x1, x2, x3, y0, y1⟩ := HCE.out W1 (Below.refl _ _)
  go_wp2
  have hs0 : BelW W1 W1 := Below.refl _ _
  clear x0 x1 x2 x3 y0 y1
  go_region_held3 (fun w' => BelW W1 w' ∧ w'.cell? ⟨w.heap.size, 0, none⟩ = some (.slice A0 n0 c0) ∧ w'.cell? ⟨w.heap.size, 1, none⟩ = some (.slice A1 n1 c1) ∧ w'.cell? ⟨w.heap.size, 2, none⟩ = some (.slice A2 0 c2) ∧ w'.cell? ⟨w.heap.size, 3, none⟩ = some (.slice A3 n3 c3) ∧ w'.cell? ⟨w.heap.size + 1, 0, none⟩ = some (.slice Ai ni ci) ∧ w'.cell? ⟨w.heap.size + 1, 1, none⟩ = some (.slice As ns cs))
    ((refine HCE.out _ ?_; first | (with_reducible assumption) | (refine BelW.drew ?_; with_reducible assumption)))
    (first
      | (go_at_call 46; refine Calls.mono (HIN.out _ ?_) ?_; · (first | (with_reducible assumption) | (refine BelW.drew ?_; with_reducible assumption))
         rintro e w3 ⟨A, rfl, hb3⟩
         have hs3 : BelW W1 w3 := (by refine BelW.next ?_ hb3; first | (with_reducible assumption) | (refine BelW.drew ?_; with_reducible assumption)))
      | (go_at_call 47; refine Calls.mono (HST.out _ ?_) ?_; · (first | (with_reducible assumption) | (refine BelW.drew ?_; with_reducible assumption))
         rintro e w4 ⟨A, rfl, hb4⟩
         have hs4 : BelW W1 w4 := (by refine BelW.next ?_ hb4; first | (with_reducible assumption) | (refine BelW.drew ?_; with_reducible assumption))))
  obtain ⟨-, x0, x1, x2, x3, y0, y1⟩ := HCE.out w4 hs4
  cases t1
  · cases t2
    · go_wp2_with (first
        | (go_at_call 92; (with_reducible refine (HVI.out _ hs4).mono ?_); rintro e w5 ⟨rfl, rfl⟩)
        | (go_at_call 92; (with_reducible refine (HVS.out _ hs4).mono ?_); rintro e w5 ⟨rfl, rfl⟩))
      go_ret
      exact ⟨rfl, joinB HB1.out hs4⟩
    · go_wp2_with (first
        | (go_at_call 92; (with_reducible refine (HVI.out _ hs4).mono ?_); rintro e w5 ⟨rfl, rfl⟩)
        | (go_at_call 92; (with_reducible refine (HVS.out _ hs4).mono ?_); rintro e w5 ⟨rfl, rfl⟩))
      go_ret
      exact ⟨rfl, joinB HB1.out hs4⟩
  · go_wp2_with (first
      | (go_at_call 92; (with_reducible refine (HVI.out _ hs4).mono ?_); rintro e w5 ⟨rfl, rfl⟩)
      | (go_at_call 92; (with_reducible refine (HVS.out _ hs4).mono ?_); rintro e w5 ⟨rfl, rfl⟩))
    go_ret
    exact ⟨rfl, joinB HB1.out hs4⟩

/-- What checkPattern returns. -/
def cpE (c : Ck) (pin pst : List Int) : Int :=
  if c.mems.length ≠ 0 then 7 else if pin.length ≠ (ofTo c.nodes [0] c.nodes.length).length ∨ pst.length ≠ (ofTo c.nodes [14] c.nodes.length).length then 8 else if anyP abv pin || anyP abv pst then 1 else 0
theorem cpat_any (c : Ck) (pin pst : List Int) (A0 A1 A2 A3 Ai As : Option Addr) (c0 c1 c2 c3 ci cs : Nat) (w : World) (B : Nat) (hB : B ≤ w.heap.size)
    (hc : Cir w B (.agg #[.slice A0 c.nodes.length c0, .slice A1 c.names.length c1, .slice A2 c.mems.length c2, .slice A3 c.outs.length c3]) c) (hi : Ks w B (.slice Ai pin.length ci) pin) (hs : Ks w B (.slice As pst.length cs) pst) (hsz : c.nodes.length ≤ 1000000) :
    Calls Tryz.prog 49 #[.agg #[.slice A0 c.nodes.length c0, .slice A1 c.names.length c1, .slice A2 c.mems.length c2, .slice A3 c.outs.length c3], .agg #[.slice Ai pin.length ci, .slice As pst.length cs]] w
      fun e w' => e = .returned (.int .i64 (cpE c pin pst)) ∧ Below w.heap.size w w' := by
  by_cases hm : c.mems.length = 0
  · by_cases h1 : pin.length = (ofTo c.nodes [0] c.nodes.length).length
    · by_cases h2 : pst.length = (ofTo c.nodes [14] c.nodes.length).length
      · have := cpat_val c pin pst A0 A1 A2 A3 Ai As c0 c1 c2 c3 ci cs w B hB hc hi hs hsz hm h1 h2
        rw [show cpE c pin pst = if anyP abv pin || anyP abv pst then 1 else 0 by unfold cpE; rw [if_neg (by simpa using hm), if_neg (by simp [h1, h2])]]
        exact this
      · rw [show cpE c pin pst = 8 by unfold cpE; rw [if_neg (by simpa using hm), if_pos (.inr h2)]]
        exact cpat_st c pin pst A0 A1 A2 A3 Ai As c0 c1 c2 c3 ci cs w B hB hc hi hs hsz hm h1 h2
    · rw [show cpE c pin pst = 8 by unfold cpE; rw [if_neg (by simpa using hm), if_pos (.inl h1)]]
      exact cpat_width c pin pst A0 A1 A2 A3 Ai As c0 c1 c2 c3 ci cs w B hB hc hi hs hsz hm h1
  · rw [show cpE c pin pst = 7 by unfold cpE; rw [if_pos hm]]
    exact cpat_mem c pin pst A0 A1 A2 A3 Ai As c0 c1 c2 c3 ci cs w B hB hc hi hs hsz hm
end Go.Proofs.YtemogllidmgbfaaGreatDoor
