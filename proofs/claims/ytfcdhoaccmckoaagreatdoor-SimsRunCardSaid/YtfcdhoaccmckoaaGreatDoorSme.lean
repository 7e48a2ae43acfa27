/- sims.Run with an error. -/
import Derived.Test.YtfcdhoaccmckoaaGreatDoorSma
import Derived.Test.YtfcdhoaccmckoaaGreatDoorHel
import Derived.Test.YtfcdhoaccmckoaaGreatDoorSmb
import Derived.Test.YtfcdhoaccmckoaaGreatDoorSrs
namespace Go.Proofs.YtfcdhoaccmckoaaGreatDoor
open Go.RowKit

section
variable {P : Program} {ops : Array Oper} {Q : Exit → Act → World → Prop} {md : Region.Mode} {S : World → Prop}
theorem anyH_one {i : Nat} {o : Oper} {f : Nat} {listed : Array Bool} {a : Act} {w : World} (hr : Region.ready md ops listed = [i]) (ho : ops[i]? = some o)
    (h : ∀ K' : Act → World → Prop, (∀ a' w', S w' → wpAnyH P md ops Q S f (listed.setIfInBounds i true) a' w' → K' a' w') → if Region.wanted o (yielded ops a.tmps) = true then Oper.wp P o a w K' Q else K' (a.put o.dst undef) w) : wpAnyH P md ops Q S (f + 1) listed a w := by
  refine wpAnyH_all (rs := [i]) hr (by simp) fun j hj => ?_
  obtain rfl := List.mem_singleton.1 hj
  exact wpOp_step ho (fun K' hK => h K' fun a' w' h1 h2 => hK a' w' ⟨h1, h2⟩)
end

set_option maxRecDepth 100000 in
set_option maxHeartbeats 4000000 in
theorem cpat_width (c : Ck) (pin pst : List Int) (A0 A1 A2 A3 Ai As : Option Addr) (c0 c1 c2 c3 ci cs : Nat) (w : World) (B : Nat) (hB : B ≤ w.heap.size)
    (hc : Cir w B (.agg #[.slice A0 c.nodes.length c0, .slice A1 c.names.length c1, .slice A2 c.mems.length c2, .slice A3 c.outs.length c3]) c) (hi : Ks w B (.slice Ai pin.length ci) pin) (hs : Ks w B (.slice As pst.length cs) pst) (hsz : c.nodes.length ≤ 1000000) (hmem : c.mems.length = 0) (hne : pin.length ≠ (ofTo c.nodes [0] c.nodes.length).length) :
    Calls Tryz.prog 18 #[.agg #[.slice A0 c.nodes.length c0, .slice A1 c.names.length c1, .slice A2 c.mems.length c2, .slice A3 c.outs.length c3], .agg #[.slice Ai pin.length ci, .slice As pst.length cs]] w
      fun e w' => e = .returned (.int .i64 8) ∧ Below w.heap.size w w' := by
  obtain ⟨W1, HW1⟩ := named ((w.alloc (.cells #[.slice A0 c.nodes.length c0, .slice A1 c.names.length c1, .slice A2 c.mems.length c2, .slice A3 c.outs.length c3] 35)).alloc (.cells #[.slice Ai pin.length ci, .slice As pst.length cs] 39))
  have hb1 : Below w.heap.size w W1 := by rw [HW1.out]; exact below_new (below_new (Below.refl _ _) _) _
  have hfc : Fr W1 w.heap.size 35 [.slice A0 c.nodes.length c0, .slice A1 c.names.length c1, .slice A2 c.mems.length c2, .slice A3 c.outs.length c3] := by rw [HW1.out]; exact Fr.alloc (Fr.made _ _ _ rfl) _
  have hfp : Fr W1 (w.heap.size + 1) 39 [.slice Ai pin.length ci, .slice As pst.length cs] := by rw [HW1.out]; exact Fr.made _ _ _ (by simp)
  obtain ⟨mi, HMI⟩ := named (ofTo c.nodes [0] c.nodes.length).length
  have hne2 : pin.length ≠ mi := by rw [HMI.out]; exact hne
  have hmi : mi ≤ 1000000 := by have := ofTo_len c.nodes [0] c.nodes.length; rw [HMI.out]; omega
  have HIN : Hid (∀ W, BelW W1 W → Calls Tryz.prog 20 #[.agg #[.slice A0 c.nodes.length c0, .slice A1 c.names.length c1, .slice A2 c.mems.length c2, .slice A3 c.outs.length c3]] W fun e w' => ∃ A, e = .returned (.slice A mi mi) ∧ BelW W w') :=
    Lib.hid fun W hb => (inputs_any c _ W B (Nat.le_trans hB (joinB hb1 hb).size) (hc.below ((joinB hb1 hb).mono hB)) hsz).mono fun e w' ⟨A, he, _, h⟩ => ⟨A, by rw [HMI.out]; exact he, h⟩
  have hm1 := Arr.len hi
  have hm2 := Arr.len hs
  have HB1 := Lib.hid hb1
  unfold maxLen at hm1 hm2
  clear hc hi hs hb1 hne
  rw [hmem] at HW1 hfc HIN
  rw [hmem]
  clear hmem HMI
  generalize c.nodes.length = n0 at HW1 hfc HIN ⊢
  generalize c.names.length = n1 at HW1 hfc HIN ⊢
  generalize c.outs.length = n3 at HW1 hfc HIN ⊢
  generalize pin.length = ni at HW1 hfp hne2 hm1 ⊢
  generalize pst.length = ns at HW1 hfp hm2 ⊢
  have hce : ∀ w', BelW W1 w' → BelW W1 w' ∧ w'.cell? ⟨w.heap.size, 0, none⟩ = some (.slice A0 n0 c0) ∧ w'.cell? ⟨w.heap.size, 1, none⟩ = some (.slice A1 n1 c1) ∧ w'.cell? ⟨w.heap.size, 2, none⟩ = some (.slice A2 0 c2) ∧ w'.cell? ⟨w.heap.size, 3, none⟩ = some (.slice A3 n3 c3) ∧ w'.cell? ⟨w.heap.size + 1, 0, none⟩ = some (.slice Ai ni ci) ∧ w'.cell? ⟨w.heap.size + 1, 1, none⟩ = some (.slice As ns cs) := fun w' h =>
    ⟨h, (hfc.below h).cell 0, (hfc.below h).cell 1, (hfc.below h).cell 2, (hfc.below h).cell 3, (hfp.below h).cell 0, (hfp.below h).cell 1⟩
  have HCE := Lib.hid hce
  clear hce hfc hfp
  go_enter Tryz.func18, Tryz.ntmps18
  go_upto_region 1 with (fail)
  rw [← HW1.out]
  obtain ⟨-, x0, x1, x2, x3, y0, y1⟩ := HCE.out W1 (Below.refl _ _)
  go_wp2
  have hs0 : BelW W1 W1 := Below.refl _ _
  clear x0 x1 x2 x3 y0 y1
  have t1 : ((ni : Int) != (mi : Int)) = true := by rw [bne_iff_ne]; omega
  have t2 : (ni != mi) = true := by rw [bne_iff_ne]; omega
  have HS0 := Lib.hid (HCE.out _ (BelW.drew hs0))
  refine wp_region_held (S := (fun w' => BelW W1 w' ∧ w'.cell? ⟨w.heap.size, 0, none⟩ = some (.slice A0 n0 c0) ∧ w'.cell? ⟨w.heap.size, 1, none⟩ = some (.slice A1 n1 c1) ∧ w'.cell? ⟨w.heap.size, 2, none⟩ = some (.slice A2 0 c2) ∧ w'.cell? ⟨w.heap.size, 3, none⟩ = some (.slice A3 n3 c3) ∧ w'.cell? ⟨w.heap.size + 1, 0, none⟩ = some (.slice Ai ni ci) ∧ w'.cell? ⟨w.heap.size + 1, 1, none⟩ = some (.slice As ns cs))) (by kernel_rfl) ?_
  refine wpAnyH_take (i := 0) (oi := ⟨some 12, _, _, _, _, _⟩) (v := .pointer (some ⟨w.heap.size + 1, 0, none⟩)) rfl (by kernel_rfl) (by kernel_rfl) (by kernel_rfl) (fun _ _ _ h => h) (Or.inl ⟨by rfl, ?_⟩) HS0.out ?_
  · intro w' hSw
    obtain ⟨-, z0, z1, z2, z3, z4, z5⟩ := hSw
    first | (go_simp; done) | (go_simp; with_reducible rfl)
  simp only [Act.put, List.setIfInBounds_toArray, List.set_cons_zero, List.set_cons_succ]
  refine wpAnyH_take (i := 1) (oi := ⟨some 13, _, _, _, _, _⟩) (v := .slice Ai ni ci) rfl (by kernel_rfl) (by kernel_rfl) (by kernel_rfl) (fun _ _ _ h => h) (Or.inl ⟨by rfl, ?_⟩) HS0.out ?_
  · intro w' hSw
    obtain ⟨-, z0, z1, z2, z3, z4, z5⟩ := hSw
    first | (go_simp; done) | (go_simp; with_reducible rfl)
  simp only [Act.put, List.setIfInBounds_toArray, List.set_cons_zero, List.set_cons_succ]
  refine wpAnyH_take (i := 2) (oi := ⟨some 14, _, _, _, _, _⟩) (v := .int .i64 (ni : Int)) rfl (by kernel_rfl) (by kernel_rfl) (by kernel_rfl) (fun _ _ _ h => h) (Or.inl ⟨by rfl, ?_⟩) HS0.out ?_
  · intro w' hSw
    obtain ⟨-, z0, z1, z2, z3, z4, z5⟩ := hSw
    first | (go_simp; done) | (go_simp; with_reducible rfl)
  simp only [Act.put, List.setIfInBounds_toArray, List.set_cons_zero, List.set_cons_succ]
  refine wpAnyH_take (i := 3) (oi := ⟨some 15, _, _, _, _, _⟩) (v := .agg #[.slice A0 n0 c0, .slice A1 n1 c1, .slice A2 0 c2, .slice A3 n3 c3]) rfl (by kernel_rfl) (by kernel_rfl) (by kernel_rfl) (fun _ _ _ h => h) (Or.inl ⟨by rfl, ?_⟩) HS0.out ?_
  · intro w' hSw
    obtain ⟨-, z0, z1, z2, z3, z4, z5⟩ := hSw
    first | (go_simp; done) | (go_simp; with_reducible rfl)
  simp only [Act.put, List.setIfInBounds_toArray, List.set_cons_zero, List.set_cons_succ]
  refine anyH_one (i := 4) (o := ⟨some 16, _, _, _, _, _⟩) (by kernel_rfl) rfl (fun K' hK => ?_)
  have HK := Lib.hid hK
  clear hK
  go_simp
  go_at_call 20
  (with_reducible refine (HIN.out _ (BelW.drew hs0)).mono ?_)
  rintro e w3 ⟨A, rfl, hb3⟩
  have hs3 : BelW W1 w3 := BelW.next (BelW.drew hs0) hb3
  have HS3 := Lib.hid (HCE.out _ hs3)
  refine HK.out _ _ (HS3.out) ?_
  clear HK
  (try simp only [Act.put, List.setIfInBounds_toArray, List.set_cons_zero, List.set_cons_succ])
  refine wpAnyH_take (i := 5) (oi := ⟨some 17, _, _, _, _, _⟩) (v := .int .i64 (mi : Int)) rfl (by kernel_rfl) (by kernel_rfl) (by kernel_rfl) (fun _ _ _ h => h) (Or.inl ⟨by rfl, ?_⟩) HS3.out ?_
  · intro w' hSw
    obtain ⟨-, z0, z1, z2, z3, z4, z5⟩ := hSw
    first | (go_simp; done) | (go_simp; with_reducible rfl)
  simp only [Act.put, List.setIfInBounds_toArray, List.set_cons_zero, List.set_cons_succ]
  refine wpAnyH_take (i := 6) (oi := ⟨some 18, _, _, _, _, _⟩) (v := .bool true) rfl (by kernel_rfl) (by kernel_rfl) (by kernel_rfl) (fun _ _ _ h => h) (Or.inl ⟨by rfl, ?_⟩) HS3.out ?_
  · intro w' hSw
    obtain ⟨-, z0, z1, z2, z3, z4, z5⟩ := hSw
    first | (go_simp; done) | (go_simp; with_reducible rfl)
  simp only [Act.put, List.setIfInBounds_toArray, List.set_cons_zero, List.set_cons_succ]
  refine wpAnyH_take (i := 7) (oi := ⟨some 19, _, _, _, _, _⟩) (v := .bool true) rfl (by kernel_rfl) (by kernel_rfl) (by kernel_rfl) (fun _ _ _ h => h) (Or.inl ⟨by rfl, ?_⟩) HS3.out ?_
  · intro w' hSw
    obtain ⟨-, z0, z1, z2, z3, z4, z5⟩ := hSw
    first | (go_simp; done) | (go_simp; with_reducible rfl)
  simp only [Act.put, List.setIfInBounds_toArray, List.set_cons_zero, List.set_cons_succ]
  refine wpAnyH_take (i := 8) (oi := ⟨some 20, _, _, _, _, _⟩) (v := undef) rfl (by kernel_rfl) (by kernel_rfl) (by kernel_rfl) (fun _ _ _ h => h) (Or.inr ⟨by rfl, rfl⟩) HS3.out ?_
  simp only [Act.put, List.setIfInBounds_toArray, List.set_cons_zero, List.set_cons_succ]
  refine wpAnyH_take (i := 9) (oi := ⟨some 21, _, _, _, _, _⟩) (v := undef) rfl (by kernel_rfl) (by kernel_rfl) (by kernel_rfl) (fun _ _ _ h => h) (Or.inr ⟨by rfl, rfl⟩) HS3.out ?_
  simp only [Act.put, List.setIfInBounds_toArray, List.set_cons_zero, List.set_cons_succ]
  refine wpAnyH_take (i := 10) (oi := ⟨some 22, _, _, _, _, _⟩) (v := undef) rfl (by kernel_rfl) (by kernel_rfl) (by kernel_rfl) (fun _ _ _ h => h) (Or.inr ⟨by rfl, rfl⟩) HS3.out ?_
  simp only [Act.put, List.setIfInBounds_toArray, List.set_cons_zero, List.set_cons_succ]
  refine wpAnyH_take (i := 11) (oi := ⟨some 23, _, _, _, _, _⟩) (v := undef) rfl (by kernel_rfl) (by kernel_rfl) (by kernel_rfl) (fun _ _ _ h => h) (Or.inr ⟨by rfl, rfl⟩) HS3.out ?_
  simp only [Act.put, List.setIfInBounds_toArray, List.set_cons_zero, List.set_cons_succ]
  refine wpAnyH_take (i := 12) (oi := ⟨some 24, _, _, _, _, _⟩) (v := undef) rfl (by kernel_rfl) (by kernel_rfl) (by kernel_rfl) (fun _ _ _ h => h) (Or.inr ⟨by rfl, rfl⟩) HS3.out ?_
  simp only [Act.put, List.setIfInBounds_toArray, List.set_cons_zero, List.set_cons_succ]
  refine wpAnyH_take (i := 13) (oi := ⟨some 25, _, _, _, _, _⟩) (v := undef) rfl (by kernel_rfl) (by kernel_rfl) (by kernel_rfl) (fun _ _ _ h => h) (Or.inr ⟨by rfl, rfl⟩) HS3.out ?_
  simp only [Act.put, List.setIfInBounds_toArray, List.set_cons_zero, List.set_cons_succ]
  refine wpAnyH_take (i := 14) (oi := ⟨some 26, _, _, _, _, _⟩) (v := undef) rfl (by kernel_rfl) (by kernel_rfl) (by kernel_rfl) (fun _ _ _ h => h) (Or.inr ⟨by rfl, rfl⟩) HS3.out ?_
  simp only [Act.put, List.setIfInBounds_toArray, List.set_cons_zero, List.set_cons_succ]
  refine wpAnyH_take (i := 15) (oi := ⟨some 27, _, _, _, _, _⟩) (v := .bool true) rfl (by kernel_rfl) (by kernel_rfl) (by kernel_rfl) (fun _ _ _ h => h) (Or.inl ⟨by rfl, ?_⟩) HS3.out ?_
  · intro w' hSw
    obtain ⟨-, z0, z1, z2, z3, z4, z5⟩ := hSw
    first | (go_simp; done) | (go_simp; with_reducible rfl)
  simp only [Act.put, List.setIfInBounds_toArray, List.set_cons_zero, List.set_cons_succ]
  refine anyH_one (i := 16) (o := ⟨some 11, _, _, _, _, _⟩) (by kernel_rfl) rfl (fun K' hK => ?_)
  have HK := Lib.hid hK
  clear hK
  go_simp
  refine HK.out _ _ (HS3.out) ?_
  clear HK
  (try simp only [Act.put, List.setIfInBounds_toArray, List.set_cons_zero, List.set_cons_succ])
  refine wpAnyH_done (by kernel_rfl) ?_ _
  go_wp2
  go_ret
  exact ⟨rfl, joinB HB1.out hs3⟩
end Go.Proofs.YtfcdhoaccmckoaaGreatDoor

namespace Go.Proofs.YtfcdhoaccmckoaaGreatDoor
open Go.RowKit

set_option maxRecDepth 100000 in
set_option maxHeartbeats 4000000 in
theorem run_bad (c : Ck) (z : Int) (hz : z ≠ 0) (A0 A1 A2 A3 Ai As : Option Addr) (n0 n1 n2 n3 ni ns c0 c1 c2 c3 ci cs : Nat) (w : World)
    (h : (∀ W, BelW w W → Calls Tryz.prog 17 #[.agg #[.slice A0 n0 c0, .slice A1 n1 c1, .slice A2 n2 c2, .slice A3 n3 c3]] W fun e w' => (∃ s, e = .returned (.tuple #[s, .int .i64 z])) ∧ BelW W w') ∨
      ((∀ W, BelW w W → Calls Tryz.prog 17 #[.agg #[.slice A0 n0 c0, .slice A1 n1 c1, .slice A2 n2 c2, .slice A3 n3 c3]] W fun e w' => (∃ s, e = .returned (.tuple #[s, .int .i64 0])) ∧ BelW W w') ∧
       ∀ W, BelW w W → Calls Tryz.prog 18 #[.agg #[.slice A0 n0 c0, .slice A1 n1 c1, .slice A2 n2 c2, .slice A3 n3 c3], .agg #[.slice Ai ni ci, .slice As ns cs]] W fun e w' => e = .returned (.int .i64 z) ∧ BelW W w')) :
    Calls Tryz.prog 6 #[.agg #[.slice A0 n0 c0, .slice A1 n1 c1, .slice A2 n2 c2, .slice A3 n3 c3], .agg #[.slice Ai ni ci, .slice As ns cs]] w
      fun e w' => e = .returned (.tuple #[.agg #[.slice none 0 0, .slice none 0 0], .slice none 0 0, .int .i64 z]) ∧ Below w.heap.size w w' := by
  obtain ⟨W1, HW1⟩ := named (((w.alloc (.cells #[.slice A0 n0 c0, .slice A1 n1 c1, .slice A2 n2 c2, .slice A3 n3 c3] 35)).alloc (.cells #[.slice Ai ni ci, .slice As ns cs] 39)).alloc (.cells #[.slice none 0 0, .slice none 0 0] 42))
  have hb1 : Below w.heap.size w W1 := by rw [HW1.out]; exact below_new (below_new (below_new (Below.refl _ _) _) _) _
  have hfc : Fr W1 w.heap.size 35 [.slice A0 n0 c0, .slice A1 n1 c1, .slice A2 n2 c2, .slice A3 n3 c3] := by rw [HW1.out]; exact Fr.alloc (Fr.alloc (Fr.made _ _ _ rfl) _) _
  have hfp : Fr W1 (w.heap.size + 1) 39 [.slice Ai ni ci, .slice As ns cs] := by rw [HW1.out]; exact Fr.alloc (Fr.made _ _ _ (by simp)) _
  have hfr : Fr W1 (w.heap.size + 1 + 1) 42 [.slice none 0 0, .slice none 0 0] := by rw [HW1.out]; exact Fr.made _ _ _ (by simp)
  have hz1 : W1.heap.size = w.heap.size + 1 + 1 + 1 := by rw [HW1.out]; simp
  have HCE : Hid (∀ W, BelW W1 W → W.cell? ⟨w.heap.size, 0, none⟩ = some (.slice A0 n0 c0) ∧ W.cell? ⟨w.heap.size, 1, none⟩ = some (.slice A1 n1 c1) ∧ W.cell? ⟨w.heap.size, 2, none⟩ = some (.slice A2 n2 c2) ∧ W.cell? ⟨w.heap.size, 3, none⟩ = some (.slice A3 n3 c3) ∧ W.cell? ⟨w.heap.size + 1, 0, none⟩ = some (.slice Ai ni ci) ∧ W.cell? ⟨w.heap.size + 1, 1, none⟩ = some (.slice As ns cs) ∧ W.cell? ⟨w.heap.size + 1 + 1, 0, none⟩ = some (.slice none 0 0) ∧ W.cell? ⟨w.heap.size + 1 + 1, 1, none⟩ = some (.slice none 0 0) ∧ W.frozen? ⟨w.heap.size + 1 + 1, 0, none⟩ = false ∧ W.frozen? ⟨w.heap.size + 1 + 1, 1, none⟩ = false) :=
    Lib.hid fun W h => ⟨(hfc.below h).cell 0, (hfc.below h).cell 1, (hfc.below h).cell 2, (hfc.below h).cell 3, (hfp.below h).cell 0, (hfp.below h).cell 1, (hfr.below h).cell 0, (hfr.below h).cell 1, (hfr.below h).frozen 0, (hfr.below h).frozen 1⟩
  have HFR : Hid (∀ W, BelW W1 W → Fr W (w.heap.size + 1 + 1) 42 [.slice none 0 0, .slice none 0 0]) := Lib.hid fun W h => hfr.below h
  have HB1 := Lib.hid hb1
  have HZ1 := Lib.hid hz1
  have hzz : (z != 0) = true := by simpa using hz
  have hzf : (z == 0) = false := by simpa using hz
  have hend : ∀ W, BelW W1 W → Below w.heap.size w ((W.setCell ⟨w.heap.size + 1 + 1, 0, none⟩ (.slice none 0 0)).setCell ⟨w.heap.size + 1 + 1, 1, none⟩ (.slice none 0 0)) := fun W hb =>
    ((joinB hb1 hb).setCell (by show w.heap.size ≤ w.heap.size + 1 + 1; omega) _).setCell (by show w.heap.size ≤ w.heap.size + 1 + 1; omega) _
  have HEND := Lib.hid hend
  obtain ⟨x0, x1, x2, x3, y0, y1, r0, r1, f0, f1⟩ := HCE.out W1 (Below.refl _ _)
  rcases h with h | ⟨h, h'⟩
  · have HOR := Lib.hid (h W1 hb1)
    clear h hfc hfp hfr hb1 hz1 hz hend
    go_enter Tryz.func6, Tryz.ntmps6
    go_upto_region 1 with (fail)
    rw [← HW1.out]
    go_wp2_with (go_at_call 17; (with_reducible refine HOR.out.mono ?_); rintro e w2 ⟨⟨s, rfl⟩, hb⟩; have HB2 := Lib.hid hb; clear x0 x1 x2 x3 y0 y1 r0 r1 f0 f1; obtain ⟨x0, x1, x2, x3, y0, y1, r0, r1, f0, f1⟩ := HCE.out _ hb; clear hb)
    have hq := ((HFR.out _ HB2.out).set 0 (.slice none 0 0)).set 1 (.slice none 0 0)
    (try simp only [Exit.inBlock, Exit.then])
    refine bodyPost_ret (results_row_tmp2 rfl _ _ _ _ _ _ _ rfl hq Tryz.underlying42 rfl (by kernel_rfl)) rfl ?_
    exact ⟨rfl, HEND.out _ HB2.out⟩
  · have HOR := Lib.hid (h W1 hb1)
    have HCP : Hid (∀ W, BelW W1 W → Calls Tryz.prog 18 #[.agg #[.slice A0 n0 c0, .slice A1 n1 c1, .slice A2 n2 c2, .slice A3 n3 c3], .agg #[.slice Ai ni ci, .slice As ns cs]] W fun e w' => e = .returned (.int .i64 z) ∧ BelW W w') := Lib.hid fun W hb => h' W (joinB hb1 hb)
    clear h h' hfc hfp hfr hb1 hz1 hz hend
    go_enter Tryz.func6, Tryz.ntmps6
    go_upto_region 1 with (fail)
    rw [← HW1.out]
    go_wp2_with (first
      | (go_at_call 17; (with_reducible refine HOR.out.mono ?_); rintro e w2 ⟨⟨s, rfl⟩, hb⟩; have HB2 := Lib.hid hb; clear x0 x1 x2 x3 y0 y1 r0 r1 f0 f1; obtain ⟨x0, x1, x2, x3, y0, y1, r0, r1, f0, f1⟩ := HCE.out _ hb; clear hb)
      | (go_at_call 18; (with_reducible refine (HCP.out _ HB2.out).mono ?_); rintro e w3 ⟨rfl, hb⟩; have HB3 := Lib.hid (joinB HB2.out hb); clear x0 x1 x2 x3 y0 y1 r0 r1 f0 f1 hb; obtain ⟨x0, x1, x2, x3, y0, y1, r0, r1, f0, f1⟩ := HCE.out _ HB3.out))
    have hq := ((HFR.out _ HB3.out).set 0 (.slice none 0 0)).set 1 (.slice none 0 0)
    (try simp only [Exit.inBlock, Exit.then])
    refine bodyPost_ret (results_row_tmp2 rfl _ _ _ _ _ _ _ rfl hq Tryz.underlying42 rfl (by kernel_rfl)) rfl ?_
    exact ⟨rfl, HEND.out _ HB3.out⟩
end Go.Proofs.YtfcdhoaccmckoaaGreatDoor
