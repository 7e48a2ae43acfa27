/- The texts Eck Wcp Smt. -/
import Derived.Test.YtemogllidmgbfaaGreatDoorM26
import Derived.Test.YtemogllidmgbfaaGreatDoorM27
import Derived.Test.YtemogllidmgbfaaGreatDoorM21
import Derived.Test.YtemogllidmgbfaaGreatDoorM14
import Derived.Deep.AppendLies
namespace Go.Proofs.YtemogllidmgbfaaGreatDoor
open Go.RowKit

theorem no_mem {c : Ck} (h : chkErr c = 0) (hm : c.mems.length = 0) : ofTo c.nodes [15] c.nodes.length = [] := by
  have hs : shapeErr c = 0 := by
    unfold chkErr at h
    split at h
    · rename_i h1; exact absurd h h1
    · rename_i h1; simpa using h1
  unfold ofTo
  rw [List.filter_eq_nil_iff.2, List.map_nil]
  intro i hi hk
  rw [isK_one] at hk
  have hi2 : i < c.nodes.length := List.mem_range.1 hi
  have hp := (nodeErr_zero ((shape_zero hs).2.2.2.2.1 _ (getD_mem_nd hi2))).2.2.2.2.2
  unfold placeOk at hp
  rw [if_pos (by simpa using hk), Bool.and_eq_true] at hp
  have := isIdx_iff.1 hp.1
  omega
/-- The error of a circuit without memories and a pattern. -/
noncomputable def ckE (c : Ck) (pin pst : List Int) : Int := if chkErr c ≠ 0 then chkErr c else cpE c pin pst
theorem ckE_bad {c : Ck} {pin pst : List Int} (h : chkErr c ≠ 0) : ckE c pin pst = chkErr c := by unfold ckE; rw [if_pos h]
theorem ckE_mem {c : Ck} {pin pst : List Int} (h : chkErr c = 0) (hm : c.mems.length ≠ 0) : ckE c pin pst = 7 := by
  unfold ckE cpE; rw [if_neg (by rw [h]; decide), if_pos hm]
theorem ckE_wide {c : Ck} {pin pst : List Int} (h : chkErr c = 0) (hm : c.mems.length = 0) (hw : pin.length ≠ (ofTo c.nodes [0] c.nodes.length).length ∨ pst.length ≠ (ofTo c.nodes [14] c.nodes.length).length) : ckE c pin pst = 8 := by
  unfold ckE cpE; rw [if_neg (by rw [h]; decide), if_neg (by rw [hm]; decide), if_pos hw]
theorem ckE_val {c : Ck} {pin pst : List Int} (h : chkErr c = 0) (hm : c.mems.length = 0) (h1 : pin.length = (ofTo c.nodes [0] c.nodes.length).length) (h2 : pst.length = (ofTo c.nodes [14] c.nodes.length).length) : ckE c pin pst = if anyP abv pin || anyP abv pst then 1 else 0 := by
  unfold ckE cpE; rw [if_neg (by rw [h]; decide), if_neg (by rw [hm]; decide), if_neg (by simp [h1, h2])]
def noT (l : List Int) (k : Nat) : Prop := ∀ j, j < k → ¬ 3 < l.getD j 0
theorem noT_zero {l : List Int} : noT l 0 := fun j h => absurd h (Nat.not_lt_zero j)
theorem noT_succ {l : List Int} {k : Nat} (h : noT l k) (hk : ¬ 3 < l.getD k 0) : noT l (k + 1) := fun j hj => by
  by_cases e : j = k
  · subst e; exact hk
  · exact h j (by omega)
theorem noT_all {l : List Int} (h : noT l l.length) : anyP abv l = false := anyP_no fun j hj => decide_eq_false (h j hj)
theorem abv_one {l : List Int} {k : Nat} (hk : k < l.length) (h : 3 < l.getD k 0) : anyP abv l = true := anyP_yes k hk (decide_eq_true h)

set_option maxRecDepth 100000 in
set_option maxHeartbeats 8000000 in
theorem rck6_any (c : Ck) (pin pst : List Int) (A0 A1 A2 A3 Ai As : Option Addr) (c0 c1 c2 c3 ci cs : Nat) (w : World) (B : Nat) (hB : B ≤ w.heap.size)
    (hc : Cir w B (.agg #[.slice A0 c.nodes.length c0, .slice A1 c.names.length c1, .slice A2 c.mems.length c2, .slice A3 c.outs.length c3]) c) (hi : Ks w B (.slice Ai pin.length ci) pin) (hs : Ks w B (.slice As pst.length cs) pst) (hsz : c.nodes.length ≤ 1000000) :
    Calls Tryz.prog 18 #[.agg #[.slice A0 c.nodes.length c0, .slice A1 c.names.length c1, .slice A2 c.mems.length c2, .slice A3 c.outs.length c3], .agg #[.slice Ai pin.length ci, .slice As pst.length cs]] w
      fun e w' => e = .returned (.int .i64 (ckE c pin pst)) ∧ Below w.heap.size w w' := by
  obtain ⟨W1, HW1⟩ := named ((w.alloc (.cells #[.slice A0 c.nodes.length c0, .slice A1 c.names.length c1, .slice A2 c.mems.length c2, .slice A3 c.outs.length c3] 46)).alloc (.cells #[.slice Ai pin.length ci, .slice As pst.length cs] 50))
  have hb1 : Below w.heap.size w W1 := by rw [HW1.out]; exact below_new (below_new (Below.refl _ _) _) _
  have hfc : Fr W1 w.heap.size 46 [.slice A0 c.nodes.length c0, .slice A1 c.names.length c1, .slice A2 c.mems.length c2, .slice A3 c.outs.length c3] := by rw [HW1.out]; exact Fr.alloc (Fr.made _ _ _ rfl) _
  have hfp : Fr W1 (w.heap.size + 1) 50 [.slice Ai pin.length ci, .slice As pst.length cs] := by rw [HW1.out]; exact Fr.made _ _ _ (by simp)
  have hBW : ∀ {W}, BelW W1 W → B ≤ W.heap.size := fun {W} h => Nat.le_trans hB (joinB hb1 h).size
  have hcW : ∀ {W}, BelW W1 W → Cir W B (.agg #[.slice A0 c.nodes.length c0, .slice A1 c.names.length c1, .slice A2 c.mems.length c2, .slice A3 c.outs.length c3]) c := fun {W} h => hc.below ((joinB hb1 h).mono hB)
  have hm2 : c.mems.length ≤ maxLen := by obtain ⟨v0, v1, v2, v3, e, -, -, h2, -⟩ := hc; simp only [Value.agg.injEq, Array.mk.injEq, List.cons.injEq, and_true] at e; obtain ⟨rfl, rfl, rfl, rfl⟩ := e; exact Arr.len h2
  have hRC : ∀ W, BelW W1 W → Calls Tryz.prog 61 #[.agg #[.slice A0 c.nodes.length c0, .slice A1 c.names.length c1, .slice A2 c.mems.length c2, .slice A3 c.outs.length c3]] W fun e w' => e = .returned (.int .i64 (chkErr c)) ∧ BelW W w' :=
    fun W hb => (rchk_any c _ W B (hBW hb) (hcW hb)).mono fun e w' ⟨h1, h2⟩ => ⟨h1, h2⟩
  have hOF : ∀ kd W, BelW W1 W → Calls Tryz.prog 62 #[.agg #[.slice A0 c.nodes.length c0, .slice A1 c.names.length c1, .slice A2 c.mems.length c2, .slice A3 c.outs.length c3], .int .u8 kd] W fun e w' => ∃ A d, e = .returned (.slice A (ofTo c.nodes [kd] c.nodes.length).length d) ∧ BelW W w' :=
    fun kd W hb => (refOf_any c kd _ W B (hBW hb) (hcW hb) hsz).mono fun e w' ⟨⟨s, h1, h2⟩, h3⟩ => by
      obtain ⟨A, _, _, d, e2, -⟩ := h2.opens
      exact ⟨A, d, by rw [h1, e2], h3⟩
  obtain ⟨Ai', bi, oi, ci', e, hAi, -, hmi, hci⟩ := hi.opens
  simp only [Value.slice.injEq, true_and] at e
  obtain ⟨rfl, rfl⟩ := e
  obtain ⟨As', bs, os, cs', e, hAs, -, hms, hcs⟩ := hs.opens
  simp only [Value.slice.injEq, true_and] at e
  obtain ⟨rfl, rfl⟩ := e
  have hCI : ∀ W, BelW W1 W → ∀ k, k < pin.length → W.cell? ⟨bi, oi + k, none⟩ = some (.int .u8 (pin.getD k 0)) := fun W h k hk => ((joinB hb1 h).cell (p := ⟨bi, oi + k, none⟩) (Nat.lt_of_lt_of_le (hci k hk).1 hB)).trans (hci k hk).2
  have hCS : ∀ W, BelW W1 W → ∀ k, k < pst.length → W.cell? ⟨bs, os + k, none⟩ = some (.int .u8 (pst.getD k 0)) := fun W h k hk => ((joinB hb1 h).cell (p := ⟨bs, os + k, none⟩) (Nat.lt_of_lt_of_le (hcs k hk).1 hB)).trans (hcs k hk).2
  have HE0 : Hid (chkErr c ≠ 0 → ckE c pin pst = chkErr c) := Lib.hid ckE_bad
  have HE1 : Hid (chkErr c = 0 → c.mems.length ≠ 0 → ckE c pin pst = 7) := Lib.hid ckE_mem
  have HE2 : Hid (chkErr c = 0 → c.mems.length = 0 → (pin.length ≠ (ofTo c.nodes [0] c.nodes.length).length ∨ pst.length ≠ (ofTo c.nodes [14] c.nodes.length).length) → ckE c pin pst = 8) := Lib.hid ckE_wide
  have HE3 : Hid (chkErr c = 0 → c.mems.length = 0 → pin.length = (ofTo c.nodes [0] c.nodes.length).length → pst.length = (ofTo c.nodes [14] c.nodes.length).length → (∃ k, k < pin.length ∧ 3 < pin.getD k 0) → ckE c pin pst = 1) := Lib.hid fun h1 h2 h3 h4 ⟨k, hk, h5⟩ => by rw [ckE_val h1 h2 h3 h4, abv_one hk h5]; rfl
  have HE4 : Hid (chkErr c = 0 → c.mems.length = 0 → pin.length = (ofTo c.nodes [0] c.nodes.length).length → pst.length = (ofTo c.nodes [14] c.nodes.length).length → (∃ k, k < pst.length ∧ 3 < pst.getD k 0) → ckE c pin pst = 1) := Lib.hid fun h1 h2 h3 h4 ⟨k, hk, h5⟩ => by rw [ckE_val h1 h2 h3 h4, abv_one hk h5, Bool.or_true]; rfl
  have HE5 : Hid (chkErr c = 0 → c.mems.length = 0 → pin.length = (ofTo c.nodes [0] c.nodes.length).length → pst.length = (ofTo c.nodes [14] c.nodes.length).length → noT pin pin.length → noT pst pst.length → ckE c pin pst = 0) := Lib.hid fun h1 h2 h3 h4 h5 h6 => by rw [ckE_val h1 h2 h3 h4, noT_all h5, noT_all h6]; rfl
  have H15 : Hid (chkErr c = 0 → c.mems.length = 0 → ∀ W, BelW W1 W → Calls Tryz.prog 62 #[.agg #[.slice A0 c.nodes.length c0, .slice A1 c.names.length c1, .slice A2 c.mems.length c2, .slice A3 c.outs.length c3], .int .u8 15] W fun e w' => ∃ A d, e = .returned (.slice A 0 d) ∧ BelW W w') := Lib.hid fun h1 h2 W hb => by
    have := hOF 15 W hb
    rw [no_mem h1 h2] at this
    exact this
  have HO0 := Lib.hid (hOF 0)
  have HO4 := Lib.hid (hOF 14)
  have HRC := Lib.hid hRC
  have HCI := Lib.hid hCI
  have HCS := Lib.hid hCS
  have HAI := Lib.hid hAi
  have HAS := Lib.hid hAs
  have HB1 := Lib.hid hb1
  have hl0 := ofTo_len c.nodes [0] c.nodes.length
  have hl4 := ofTo_len c.nodes [14] c.nodes.length
  unfold maxLen at hmi hms hm2
  clear hc hi hs hb1 hBW hcW hRC hOF hCI hCS hAi hAs hci hcs
  obtain ⟨r, HR⟩ := named (ckE c pin pst)
  rw [← HR.out] at HE0 HE1 HE2 HE3 HE4 HE5
  rw [← HR.out]
  obtain ⟨z, HZ⟩ := named (chkErr c)
  rw [← HZ.out] at HE0 HE1 HE2 HE3 HE4 HE5 H15 HRC
  obtain ⟨mi, HMI⟩ := named (ofTo c.nodes [0] c.nodes.length).length
  rw [← HMI.out] at HE2 HE3 HE4 HE5 HO0 hl0
  obtain ⟨ms, HMS⟩ := named (ofTo c.nodes [14] c.nodes.length).length
  rw [← HMS.out] at HE2 HE3 HE4 HE5 HO4 hl4
  clear HMI HMS HZ
  generalize c.mems.length = n2 at HW1 hfc hm2 HE1 HE2 HE3 HE4 HE5 H15 HRC HO0 HO4 ⊢
  generalize c.nodes.length = n0 at HW1 hfc hsz hl0 hl4 H15 HRC HO0 HO4 ⊢
  generalize c.names.length = n1 at HW1 hfc H15 HRC HO0 HO4 ⊢
  generalize c.outs.length = n3 at HW1 hfc H15 HRC HO0 HO4 ⊢
  obtain ⟨ni, HNI⟩ := named pin.length
  rw [← HNI.out] at HW1 hfp hmi HE2 HE3 HE4 HE5 HCI HAI
  rw [← HNI.out]
  obtain ⟨ns, HNS⟩ := named pst.length
  rw [← HNS.out] at HW1 hfp hms HE2 HE3 HE4 HE5 HCS HAS
  rw [← HNS.out]
  clear HNI HNS HR
  have HCE : Hid (∀ w', BelW W1 w' → BelW W1 w' ∧ w'.cell? ⟨w.heap.size, 0, none⟩ = some (.slice A0 n0 c0) ∧ w'.cell? ⟨w.heap.size, 1, none⟩ = some (.slice A1 n1 c1) ∧ w'.cell? ⟨w.heap.size, 2, none⟩ = some (.slice A2 n2 c2) ∧ w'.cell? ⟨w.heap.size, 3, none⟩ = some (.slice A3 n3 c3) ∧ w'.cell? ⟨w.heap.size + 1, 0, none⟩ = some (.slice Ai ni ci) ∧ w'.cell? ⟨w.heap.size + 1, 1, none⟩ = some (.slice As ns cs)) := Lib.hid fun w' h =>
    ⟨h, (hfc.below h).cell 0, (hfc.below h).cell 1, (hfc.below h).cell 2, (hfc.below h).cell 3, (hfp.below h).cell 0, (hfp.below h).cell 1⟩
  clear hfc hfp
  have hs0 : BelW W1 W1 := Below.refl _ _
  go_enter Tryz.func18, Tryz.ntmps18
  go_upto_region 1 with (fail)
  rw [← HW1.out]
  obtain ⟨-, x0, x1, x2, x3, y0, y1⟩ := HCE.out W1 hs0
  by_cases hz : z = 0
  rotate_left
  · have q0 : (z == 0) = false := by simpa using hz
    have q1 : (z != 0) = true := by simpa using hz
    have HEE := Lib.hid (HE0.out hz)
    clear hz
    go_wp2_with (go_at_call 61; (with_reducible refine (HRC.out _ hs0).mono ?_); rintro e w2 ⟨rfl, hb⟩; have HB2 := Lib.hid hb; clear hb x0 x1 x2 x3 y0 y1)
    go_ret
    exact ⟨by rw [HEE.out]; rfl, joinB HB1.out HB2.out⟩
  subst hz
  by_cases hm : n2 = 0
  rotate_left
  · have q0 : 0 < n2 := by omega
    have HEE := Lib.hid (HE1.out (by trivial) hm)
    clear hm
    go_wp2_with (go_at_call 61; (with_reducible refine (HRC.out _ hs0).mono ?_); rintro e w2 ⟨rfl, hb⟩; have HB2 := Lib.hid hb; clear x0 x1 x2 x3 y0 y1; obtain ⟨-, x0, x1, x2, x3, y0, y1⟩ := HCE.out _ hb; clear hb)
    go_ret
    exact ⟨by rw [HEE.out]; rfl, joinB HB1.out HB2.out⟩
  subst hm
  have HF5 := Lib.hid (H15.out rfl rfl)
  go_upto_region 6 with (first
    | (go_at_call 61; (with_reducible refine (HRC.out _ hs0).mono ?_); rintro e w2 ⟨rfl, hb⟩; have hs2 : BelW W1 w2 := hb; clear x0 x1 x2 x3 y0 y1; obtain ⟨-, x0, x1, x2, x3, y0, y1⟩ := HCE.out _ hb; clear hb)
    | (go_at_call 62; (with_reducible refine (HF5.out _ hs2).mono ?_); rintro e w3 ⟨A, d, rfl, hb⟩; have hs3 : BelW W1 w3 := joinB hs2 hb; clear hb x0 x1 x2 x3 y0 y1))
  by_cases hli : ni = mi
  rotate_left
  · have HEE := Lib.hid (HE2.out (by trivial) (by trivial) (.inl hli))
    have t1 : ((ni : Int) != (mi : Int)) = true := by rw [bne_iff_ne]; omega
    have t2 : (ni != mi) = true := by rw [bne_iff_ne]; omega
    have HS0 := Lib.hid (HCE.out _ (BelW.drew hs3))
    refine wp_region_held (S := (fun w' => BelW W1 w' ∧ w'.cell? ⟨w.heap.size, 0, none⟩ = some (.slice A0 n0 c0) ∧ w'.cell? ⟨w.heap.size, 1, none⟩ = some (.slice A1 n1 c1) ∧ w'.cell? ⟨w.heap.size, 2, none⟩ = some (.slice A2 0 c2) ∧ w'.cell? ⟨w.heap.size, 3, none⟩ = some (.slice A3 n3 c3) ∧ w'.cell? ⟨w.heap.size + 1, 0, none⟩ = some (.slice Ai ni ci) ∧ w'.cell? ⟨w.heap.size + 1, 1, none⟩ = some (.slice As ns cs))) (by kernel_rfl) ?_
    refine wpAnyH_take (i := 0) (oi := ⟨some 23, _, _, _, _, _⟩) (v := .pointer (some ⟨w.heap.size + 1, 0, none⟩)) rfl (by kernel_rfl) (by kernel_rfl) (by kernel_rfl) (fun _ _ _ h => h) (Or.inl ⟨by rfl, ?_⟩) HS0.out ?_
    · intro w' hSw
      obtain ⟨-, z0, z1, z2, z3, z4, z5⟩ := hSw
      first | (go_simp; done) | (go_simp; with_reducible rfl)
    simp only [Act.put, List.setIfInBounds_toArray, List.set_cons_zero, List.set_cons_succ]
    refine wpAnyH_take (i := 1) (oi := ⟨some 24, _, _, _, _, _⟩) (v := .slice Ai ni ci) rfl (by kernel_rfl) (by kernel_rfl) (by kernel_rfl) (fun _ _ _ h => h) (Or.inl ⟨by rfl, ?_⟩) HS0.out ?_
    · intro w' hSw
      obtain ⟨-, z0, z1, z2, z3, z4, z5⟩ := hSw
      first | (go_simp; done) | (go_simp; with_reducible rfl)
    simp only [Act.put, List.setIfInBounds_toArray, List.set_cons_zero, List.set_cons_succ]
    refine wpAnyH_take (i := 2) (oi := ⟨some 25, _, _, _, _, _⟩) (v := .int .i64 (ni : Int)) rfl (by kernel_rfl) (by kernel_rfl) (by kernel_rfl) (fun _ _ _ h => h) (Or.inl ⟨by rfl, ?_⟩) HS0.out ?_
    · intro w' hSw
      obtain ⟨-, z0, z1, z2, z3, z4, z5⟩ := hSw
      first | (go_simp; done) | (go_simp; with_reducible rfl)
    simp only [Act.put, List.setIfInBounds_toArray, List.set_cons_zero, List.set_cons_succ]
    refine wpAnyH_take (i := 3) (oi := ⟨some 26, _, _, _, _, _⟩) (v := .agg #[.slice A0 n0 c0, .slice A1 n1 c1, .slice A2 0 c2, .slice A3 n3 c3]) rfl (by kernel_rfl) (by kernel_rfl) (by kernel_rfl) (fun _ _ _ h => h) (Or.inl ⟨by rfl, ?_⟩) HS0.out ?_
    · intro w' hSw
      obtain ⟨-, z0, z1, z2, z3, z4, z5⟩ := hSw
      first | (go_simp; done) | (go_simp; with_reducible rfl)
    simp only [Act.put, List.setIfInBounds_toArray, List.set_cons_zero, List.set_cons_succ]
    refine anyH_one (i := 4) (o := ⟨some 27, _, _, _, _, _⟩) (by kernel_rfl) rfl (fun K' hK => ?_)
    have HK := Lib.hid hK
    clear hK
    go_simp
    go_at_call 62
    (with_reducible refine (HO0.out _ (BelW.drew hs3)).mono ?_)
    rintro e w4 ⟨A, d, rfl, hb4⟩
    have hs4 : BelW W1 w4 := BelW.next (BelW.drew hs3) hb4
    have HS3 := Lib.hid (HCE.out _ hs4)
    refine HK.out _ _ (HS3.out) ?_
    clear HK
    (try simp only [Act.put, List.setIfInBounds_toArray, List.set_cons_zero, List.set_cons_succ])
    refine wpAnyH_take (i := 5) (oi := ⟨some 28, _, _, _, _, _⟩) (v := .int .i64 (mi : Int)) rfl (by kernel_rfl) (by kernel_rfl) (by kernel_rfl) (fun _ _ _ h => h) (Or.inl ⟨by rfl, ?_⟩) HS3.out ?_
    · intro w' hSw
      obtain ⟨-, z0, z1, z2, z3, z4, z5⟩ := hSw
      first | (go_simp; done) | (go_simp; with_reducible rfl)
    simp only [Act.put, List.setIfInBounds_toArray, List.set_cons_zero, List.set_cons_succ]
    refine wpAnyH_take (i := 6) (oi := ⟨some 29, _, _, _, _, _⟩) (v := .bool true) rfl (by kernel_rfl) (by kernel_rfl) (by kernel_rfl) (fun _ _ _ h => h) (Or.inl ⟨by rfl, ?_⟩) HS3.out ?_
    · intro w' hSw
      obtain ⟨-, z0, z1, z2, z3, z4, z5⟩ := hSw
      first | (go_simp; done) | (go_simp; with_reducible rfl)
    simp only [Act.put, List.setIfInBounds_toArray, List.set_cons_zero, List.set_cons_succ]
    refine wpAnyH_take (i := 7) (oi := ⟨some 30, _, _, _, _, _⟩) (v := .bool true) rfl (by kernel_rfl) (by kernel_rfl) (by kernel_rfl) (fun _ _ _ h => h) (Or.inl ⟨by rfl, ?_⟩) HS3.out ?_
    · intro w' hSw
      obtain ⟨-, z0, z1, z2, z3, z4, z5⟩ := hSw
      first | (go_simp; done) | (go_simp; with_reducible rfl)
    simp only [Act.put, List.setIfInBounds_toArray, List.set_cons_zero, List.set_cons_succ]
    refine wpAnyH_take (i := 8) (oi := ⟨some 31, _, _, _, _, _⟩) (v := undef) rfl (by kernel_rfl) (by kernel_rfl) (by kernel_rfl) (fun _ _ _ h => h) (Or.inr ⟨by rfl, rfl⟩) HS3.out ?_
    simp only [Act.put, List.setIfInBounds_toArray, List.set_cons_zero, List.set_cons_succ]
    refine wpAnyH_take (i := 9) (oi := ⟨some 32, _, _, _, _, _⟩) (v := undef) rfl (by kernel_rfl) (by kernel_rfl) (by kernel_rfl) (fun _ _ _ h => h) (Or.inr ⟨by rfl, rfl⟩) HS3.out ?_
    simp only [Act.put, List.setIfInBounds_toArray, List.set_cons_zero, List.set_cons_succ]
    refine wpAnyH_take (i := 10) (oi := ⟨some 33, _, _, _, _, _⟩) (v := undef) rfl (by kernel_rfl) (by kernel_rfl) (by kernel_rfl) (fun _ _ _ h => h) (Or.inr ⟨by rfl, rfl⟩) HS3.out ?_
    simp only [Act.put, List.setIfInBounds_toArray, List.set_cons_zero, List.set_cons_succ]
    refine wpAnyH_take (i := 11) (oi := ⟨some 34, _, _, _, _, _⟩) (v := undef) rfl (by kernel_rfl) (by kernel_rfl) (by kernel_rfl) (fun _ _ _ h => h) (Or.inr ⟨by rfl, rfl⟩) HS3.out ?_
    simp only [Act.put, List.setIfInBounds_toArray, List.set_cons_zero, List.set_cons_succ]
    refine wpAnyH_take (i := 12) (oi := ⟨some 35, _, _, _, _, _⟩) (v := undef) rfl (by kernel_rfl) (by kernel_rfl) (by kernel_rfl) (fun _ _ _ h => h) (Or.inr ⟨by rfl, rfl⟩) HS3.out ?_
    simp only [Act.put, List.setIfInBounds_toArray, List.set_cons_zero, List.set_cons_succ]
    refine wpAnyH_take (i := 13) (oi := ⟨some 36, _, _, _, _, _⟩) (v := undef) rfl (by kernel_rfl) (by kernel_rfl) (by kernel_rfl) (fun _ _ _ h => h) (Or.inr ⟨by rfl, rfl⟩) HS3.out ?_
    simp only [Act.put, List.setIfInBounds_toArray, List.set_cons_zero, List.set_cons_succ]
    refine wpAnyH_take (i := 14) (oi := ⟨some 37, _, _, _, _, _⟩) (v := undef) rfl (by kernel_rfl) (by kernel_rfl) (by kernel_rfl) (fun _ _ _ h => h) (Or.inr ⟨by rfl, rfl⟩) HS3.out ?_
    simp only [Act.put, List.setIfInBounds_toArray, List.set_cons_zero, List.set_cons_succ]
    refine anyH_one (i := 15) (o := ⟨some 38, _, _, _, _, _⟩) (by kernel_rfl) rfl (fun K' hK => ?_)
    have HK := Lib.hid hK
    clear hK
    go_simp
    refine HK.out _ _ (HS3.out) ?_
    clear HK
    (try simp only [Act.put, List.setIfInBounds_toArray, List.set_cons_zero, List.set_cons_succ])
    refine wpAnyH_done (by kernel_rfl) ?_ _
    go_wp2
    go_ret
    exact ⟨by rw [HEE.out]; rfl, joinB HB1.out hs4⟩
  subst hli
  have t3 : ((ni : Int) != (ni : Int)) = false := by simp
  have t4 : (ni != ni) = false := by simp
  by_cases hls : ns = ms
  rotate_left
  · have HEE := Lib.hid (HE2.out (by trivial) (by trivial) (.inr hls))
    have t1 : ((ns : Int) != (ms : Int)) = true := by rw [bne_iff_ne]; omega
    have t2 : (ns != ms) = true := by rw [bne_iff_ne]; omega
    clear hs0 hs2
    go_region_held3 (fun w' => BelW W1 w' ∧ w'.cell? ⟨w.heap.size, 0, none⟩ = some (.slice A0 n0 c0) ∧ w'.cell? ⟨w.heap.size, 1, none⟩ = some (.slice A1 n1 c1) ∧ w'.cell? ⟨w.heap.size, 2, none⟩ = some (.slice A2 0 c2) ∧ w'.cell? ⟨w.heap.size, 3, none⟩ = some (.slice A3 n3 c3) ∧ w'.cell? ⟨w.heap.size + 1, 0, none⟩ = some (.slice Ai ni ci) ∧ w'.cell? ⟨w.heap.size + 1, 1, none⟩ = some (.slice As ns cs))
      ((refine HCE.out _ ?_; first | (with_reducible assumption) | (refine BelW.drew ?_; with_reducible assumption)))
      (first
        | (go_at_call 62; (with_reducible refine Calls.mono (HO0.out _ ?_) ?_); · (first | (with_reducible assumption) | (refine BelW.drew ?_; with_reducible assumption))
           rintro e w4 ⟨A, d, rfl, hb4⟩
           have hs4 : BelW W1 w4 := (by refine BelW.next ?_ hb4; first | (with_reducible assumption) | (refine BelW.drew ?_; with_reducible assumption)))
        | (go_at_call 62; (with_reducible refine Calls.mono (HO4.out _ ?_) ?_); · (first | (with_reducible assumption) | (refine BelW.drew ?_; with_reducible assumption))
           rintro e w5 ⟨A, d, rfl, hb5⟩
           have hs5 : BelW W1 w5 := (by refine BelW.next ?_ hb5; first | (with_reducible assumption) | (refine BelW.drew ?_; with_reducible assumption))))
    go_wp2
    go_ret
    exact ⟨by rw [HEE.out]; rfl, joinB HB1.out hs5⟩
  subst hls
  have t1 : ((ns : Int) != (ns : Int)) = false := by simp
  have t2 : (ns != ns) = false := by simp
  clear hs0 hs2
  go_region_held3 (fun w' => BelW W1 w' ∧ w'.cell? ⟨w.heap.size, 0, none⟩ = some (.slice A0 n0 c0) ∧ w'.cell? ⟨w.heap.size, 1, none⟩ = some (.slice A1 n1 c1) ∧ w'.cell? ⟨w.heap.size, 2, none⟩ = some (.slice A2 0 c2) ∧ w'.cell? ⟨w.heap.size, 3, none⟩ = some (.slice A3 n3 c3) ∧ w'.cell? ⟨w.heap.size + 1, 0, none⟩ = some (.slice Ai ni ci) ∧ w'.cell? ⟨w.heap.size + 1, 1, none⟩ = some (.slice As ns cs))
    ((refine HCE.out _ ?_; first | (with_reducible assumption) | (refine BelW.drew ?_; with_reducible assumption)))
    (first
      | (go_at_call 62; (with_reducible refine Calls.mono (HO0.out _ ?_) ?_); · (first | (with_reducible assumption) | (refine BelW.drew ?_; with_reducible assumption))
         rintro e w4 ⟨A, d, rfl, hb4⟩
         have hs4 : BelW W1 w4 := (by refine BelW.next ?_ hb4; first | (with_reducible assumption) | (refine BelW.drew ?_; with_reducible assumption)))
      | (go_at_call 62; (with_reducible refine Calls.mono (HO4.out _ ?_) ?_); · (first | (with_reducible assumption) | (refine BelW.drew ?_; with_reducible assumption))
         rintro e w5 ⟨A, d, rfl, hb5⟩
         have hs5 : BelW W1 w5 := (by refine BelW.next ?_ hb5; first | (with_reducible assumption) | (refine BelW.drew ?_; with_reducible assumption))))
  have HS5 := Lib.hid hs5
  obtain ⟨-, x0, x1, x2, x3, y0, y1⟩ := HCE.out w5 hs5
  clear hs3 hs4 hs5 hb4 hb5
  go_wp2
  go_loop [6] (fun i => ∃ k : Nat, k ≤ ni ∧ i = .int .i64 k ∧ noT pin k) (fun i => ni - (intOf i).toNat)
  case atStart => exact ⟨0, Nat.zero_le _, rfl, noT_zero⟩
  case round =>
    obtain ⟨k, hk, rfl, hno⟩ := hrel
    have HNO := Lib.hid hno
    clear hno
    by_cases hlt : k < ni
    · obtain rfl := HAI.out (by omega)
      have f1 := HCI.out _ HS5.out k hlt
      by_cases h3 : 3 < pin.getD k 0
      · have HEE := Lib.hid (HE3.out (by trivial) (by trivial) (by trivial) (by trivial) ⟨k, hlt, h3⟩)
        obtain ⟨y, HY⟩ := named (pin.getD k 0)
        rw [← HY.out] at f1 h3
        go_wp2
        go_ret
        exact ⟨by rw [HEE.out]; rfl, joinB HB1.out HS5.out⟩
      · have HNX := Lib.hid (noT_succ HNO.out h3)
        obtain ⟨y, HY⟩ := named (pin.getD k 0)
        rw [← HY.out] at f1 h3
        go_wp2
        go_round
        case rel => exact ⟨k + 1, by omega, by go_num, HNX.out⟩
        case measure => simp [intOf]; omega
    · obtain rfl : ni = k := by omega
      go_wp2
      go_loop [7] (fun i => ∃ k : Nat, k ≤ ns ∧ i = .int .i64 k ∧ noT pst k) (fun i => ns - (intOf i).toNat)
      case atStart => exact ⟨0, Nat.zero_le _, rfl, noT_zero⟩
      case round =>
        obtain ⟨k, hk, rfl, hno⟩ := hrel
        have HNP := Lib.hid hno
        clear hno
        by_cases hlt : k < ns
        · obtain rfl := HAS.out (by omega)
          have f1 := HCS.out _ HS5.out k hlt
          by_cases h3 : 3 < pst.getD k 0
          · have HEE := Lib.hid (HE4.out (by trivial) (by trivial) (by trivial) (by trivial) ⟨k, hlt, h3⟩)
            obtain ⟨y, HY⟩ := named (pst.getD k 0)
            rw [← HY.out] at f1 h3
            go_wp2
            go_ret
            exact ⟨by rw [HEE.out]; rfl, joinB HB1.out HS5.out⟩
          · have HNX := Lib.hid (noT_succ HNP.out h3)
            obtain ⟨y, HY⟩ := named (pst.getD k 0)
            rw [← HY.out] at f1 h3
            go_wp2
            go_round
            case rel => exact ⟨k + 1, by omega, by go_num, HNX.out⟩
            case measure => simp [intOf]; omega
        · obtain rfl : ns = k := by omega
          have HEE := Lib.hid (HE5.out (by trivial) (by trivial) (by trivial) (by trivial) HNO.out HNP.out)
          go_wp2
          go_ret
          exact ⟨by rw [HEE.out]; rfl, joinB HB1.out HS5.out⟩
end Go.Proofs.YtemogllidmgbfaaGreatDoor

namespace Go.Proofs.YtemogllidmgbfaaGreatDoor

noncomputable def blE (c : Ck) : Int := ckE c (List.replicate (ofTo c.nodes [0] c.nodes.length).length 2) (List.replicate (ofTo c.nodes [14] c.nodes.length).length 2)
noncomputable def foldE (c : Ck) (z : Int) (ps : List (List Int × List Int)) : Int := ps.foldl (fun e x => if e = 0 then ckE c x.1 x.2 else e) z
/-- The error of a circuit and up to 64 patterns. -/
noncomputable def wkE (c : Ck) (ps : List (List Int × List Int)) : Int := if 64 < ps.length then 3 else foldE c (blE c) ps
theorem rep_low (n : Nat) : anyP abv (List.replicate n 2) = false := anyP_no fun j hj => by
  rw [List.getD_eq_getElem?_getD, List.getElem?_replicate]
  split <;> decide
theorem blE_of {c : Ck} (h : chkErr c = 0) (hm : c.mems.length = 0) : blE c = 0 := by
  unfold blE
  rw [ckE_val h hm (by simp) (by simp), rep_low, rep_low]
  rfl
theorem blE_zero {c : Ck} (h : blE c = 0) : chkErr c = 0 ∧ c.mems.length = 0 := by
  by_cases h1 : chkErr c = 0
  · refine ⟨h1, ?_⟩
    by_cases h2 : c.mems.length = 0
    · exact h2
    · unfold blE at h; rw [ckE_mem h1 h2] at h; cases h
  · unfold blE at h; rw [ckE_bad h1] at h; exact absurd h h1
theorem mis_zero {c : Ck} (h : chkErr c = 0) (hm : c.mems.length = 0) (x : List Int × List Int) :
    misB x (ofTo c.nodes [0] c.nodes.length).length (ofTo c.nodes [14] c.nodes.length).length = false ↔ ckE c x.1 x.2 = 0 := by
  unfold misB fitB
  by_cases h1 : x.1.length = (ofTo c.nodes [0] c.nodes.length).length
  · by_cases h2 : x.2.length = (ofTo c.nodes [14] c.nodes.length).length
    · rw [ckE_val h hm h1 h2, decide_eq_true h1, decide_eq_true h2]
      cases anyP abv x.1 <;> cases anyP abv x.2 <;> decide
    · rw [ckE_wide h hm (.inr h2), decide_eq_false h2]
      simp
  · rw [ckE_wide h hm (.inl h1), decide_eq_false h1]
    simp
theorem foldE_nz {c : Ck} {z : Int} (hz : z ≠ 0) : ∀ ps, foldE c z ps = z
  | [] => rfl
  | x :: ps => by
    show foldE c (if z = 0 then ckE c x.1 x.2 else z) ps = z
    rw [if_neg hz]
    exact foldE_nz hz ps
theorem foldE_zero {c : Ck} : ∀ {ps : List (List Int × List Int)}, (∀ k, k < ps.length → ckE c (ps.getD k ([], [])).1 (ps.getD k ([], [])).2 = 0) → foldE c 0 ps = 0
  | [], _ => rfl
  | x :: ps, h => by
    show foldE c (if (0 : Int) = 0 then ckE c x.1 x.2 else 0) ps = 0
    have h0 : ckE c x.1 x.2 = 0 := h 0 (by simp)
    rw [if_pos rfl, h0]
    exact foldE_zero fun k hk => h (k + 1) (by simpa using hk)
theorem foldE_first {c : Ck} : ∀ {ps : List (List Int × List Int)} {k : Nat}, k < ps.length → ckE c (ps.getD k ([], [])).1 (ps.getD k ([], [])).2 ≠ 0 → (∀ j, j < k → ckE c (ps.getD j ([], [])).1 (ps.getD j ([], [])).2 = 0) → foldE c 0 ps = ckE c (ps.getD k ([], [])).1 (ps.getD k ([], [])).2
  | [], k, hk, _, _ => absurd hk (by simp)
  | x :: ps, 0, _, h, _ => by
    show foldE c (if (0 : Int) = 0 then ckE c x.1 x.2 else 0) ps = ckE c x.1 x.2
    rw [if_pos rfl]
    exact foldE_nz h ps
  | x :: ps, k + 1, hk, h, hj => by
    show foldE c (if (0 : Int) = 0 then ckE c x.1 x.2 else 0) ps = ckE c (ps.getD k ([], [])).1 (ps.getD k ([], [])).2
    have h0 : ckE c x.1 x.2 = 0 := hj 0 (by omega)
    rw [if_pos rfl, h0]
    exact foldE_first (by simpa using hk) h fun j hj2 => hj (j + 1) (by omega)
/-- What the search for a pattern that does not fit says of the error. -/
theorem first_fold {c : Ck} (h : chkErr c = 0) (hm : c.mems.length = 0) {ps : List (List Int × List Int)} {i : Int} (hf : FirstBad ps ps.length (ofTo c.nodes [0] c.nodes.length).length (ofTo c.nodes [14] c.nodes.length).length i) :
    (i = -1 ∧ foldE c (blE c) ps = 0) ∨ ∃ k : Nat, k < ps.length ∧ i = (k : Int) ∧ foldE c (blE c) ps = ckE c (ps.getD k ([], [])).1 (ps.getD k ([], [])).2 := by
  rw [blE_of h hm]
  rcases hf with ⟨e, h1⟩ | ⟨k, hk, e, h1, h2⟩
  · exact .inl ⟨e, foldE_zero fun k hk => (mis_zero h hm _).1 (h1 k hk)⟩
  · refine .inr ⟨k, hk, e, foldE_first hk (fun e0 => ?_) fun j hj => (mis_zero h hm _).1 (h2 j hj)⟩
    rw [(mis_zero h hm _).2 e0] at h1
    cases h1
theorem foldE_take {c : Ck} {z : Int} {ps : List (List Int × List Int)} {k : Nat} (hk : k < ps.length) : foldE c z (ps.take (k + 1)) = if foldE c z (ps.take k) = 0 then ckE c (ps.getD k ([], [])).1 (ps.getD k ([], [])).2 else foldE c z (ps.take k) := by
  have e : ps.take (k + 1) = ps.take k ++ [ps.getD k ([], [])] := by
    rw [List.take_add_one, List.getD_eq_getElem?_getD, List.getElem?_eq_getElem hk]; rfl
  unfold foldE
  rw [e, List.foldl_append]
  rfl
theorem foldE_fits {c : Ck} (ps : List (List Int × List Int)) (h : foldE c (blE c) ps = 0) : chkErr c = 0 ∧ c.mems.length = 0 ∧ ∀ k, k < ps.length → ckE c (ps.getD k ([], [])).1 (ps.getD k ([], [])).2 = 0 := by
  have hb : blE c = 0 := by
    by_cases hb : blE c = 0
    · exact hb
    · rw [foldE_nz hb] at h; exact h
  obtain ⟨h1, h2⟩ := blE_zero hb
  refine ⟨h1, h2, ?_⟩
  rw [hb] at h
  suffices ∀ (n : Nat), n ≤ ps.length → ∀ k, k < n → ckE c (ps.getD k ([], [])).1 (ps.getD k ([], [])).2 = 0 from fun k hk => this _ (Nat.le_refl _) k hk
  intro n
  induction n with
  | zero => intro _ k hk; omega
  | succ n ih =>
    intro hn k hk
    by_cases e : k = n
    · subst e
      by_cases h9 : ckE c (ps.getD k ([], [])).1 (ps.getD k ([], [])).2 = 0
      · exact h9
      · rw [foldE_first (by omega) h9 fun j hj => ih (by omega) j hj] at h
        exact h
    · exact ih (by omega) k (by omega)
theorem ckE_fits {c : Ck} {x : List Int × List Int} (hk : chkErr c = 0) (hm : c.mems.length = 0) (hz : ckE c x.1 x.2 = 0) (v1 : ∀ y ∈ x.1, 0 ≤ y) (v2 : ∀ y ∈ x.2, 0 ≤ y) : Fits c x.1 x.2 := by
  have hlow : ∀ {l : List Int}, anyP abv l = false → (∀ y ∈ l, 0 ≤ y) → ∀ y ∈ l, 0 ≤ y ∧ y ≤ 3 := fun {l} h h0 y hy => by
    obtain ⟨k, hk, rfl⟩ := List.mem_iff_getElem.1 hy
    refine ⟨h0 _ hy, ?_⟩
    by_cases h3 : 3 < l[k]
    · have := abv_one (l := l) hk (by rw [List.getD_eq_getElem?_getD, List.getElem?_eq_getElem hk]; exact h3)
      rw [h] at this; cases this
    · omega
  have hw : x.1.length = (ofTo c.nodes [0] c.nodes.length).length ∧ x.2.length = (ofTo c.nodes [14] c.nodes.length).length := by
    by_cases h1 : x.1.length = (ofTo c.nodes [0] c.nodes.length).length
    · by_cases h2 : x.2.length = (ofTo c.nodes [14] c.nodes.length).length
      · exact ⟨h1, h2⟩
      · rw [ckE_wide hk hm (.inr h2)] at hz; cases hz
    · rw [ckE_wide hk hm (.inl h1)] at hz; cases hz
  rw [ckE_val hk hm hw.1 hw.2] at hz
  have hv2 : (anyP abv x.1 || anyP abv x.2) = false := by
    cases h : (anyP abv x.1 || anyP abv x.2)
    · rfl
    · rw [h] at hz; cases hz
  rw [Bool.or_eq_false_iff] at hv2
  exact ⟨hm, hw.1, hw.2, hlow hv2.1 v1, hlow hv2.2 v2⟩
end Go.Proofs.YtemogllidmgbfaaGreatDoor

namespace Go.Proofs.YtemogllidmgbfaaGreatDoor
open Go.RowKit

/-- A row of values of the call's own, with any capacity. -/
def VStk (w : World) (base : Nat) (v : Value) (l : List Int) : Prop := w.ownsRow base 30 1 v l.length (l.map (Value.int .u8))
section
variable {w w' : World} {base : Nat} {v : Value} {l : List Int}
theorem VStk.nil (w : World) (base : Nat) : VStk w base (.slice none 0 0) [] := World.ownsRow_nil w base _ _
theorem VStk.kept {row : Option Nat} (h : VStk w base v l) (hg : w.grownBy w' row) (hne : ∀ q, row = some q → q < base) : VStk w' base v l := by
  refine World.ownsRow.kept h hg ?_
  rcases ho : v.ownBlock with _ | q
  · exact .inl rfl
  · refine .inr fun e => ?_
    have h1 := (World.ownsRow.lt h q ho).1
    have h2 := hne q e.symm
    omega
theorem VStk.below (h : VStk w base v l) (hb : Below w.heap.size w w') : VStk w' base v l :=
  h.kept (row := none) ⟨hb.os, hb.tape, hb.output, hb.size, fun i hi _ => hb.block i hi⟩ (by simp)
theorem VStk.form (h : VStk w base v l) : ∃ A c, v = .slice A l.length c ∧ l.length ≤ c ∧ c ≤ maxLen ∧ (0 < l.length → ∃ q, A = some ⟨q, 0, none⟩ ∧ base ≤ q ∧ q < w.heap.size) := by
  have hlt := World.ownsRow.lt h
  rcases h.2 with ⟨rfl, hn⟩ | ⟨g, cap, cur, rfl, hb, hg, hle, hm, -⟩
  · exact ⟨none, 0, by rw [hn], by omega, by simp, fun h => by omega⟩
  · exact ⟨_, cap, rfl, hle, hm, fun _ => ⟨g, rfl, hb, (hlt g rfl).2⟩⟩
theorem VStk.cell {q c : Nat} (h : VStk w base (.slice (some ⟨q, 0, none⟩) l.length c) l) {j : Nat} (hj : j < l.length) : w.cell? ⟨q, j, none⟩ = some (.int .u8 (l.getD j 0)) := by
  rw [World.ownsRow.cellAt h j (by omega), List.getElem?_map, List.getElem?_eq_getElem hj]
  simp [List.getD_eq_getElem?_getD, List.getElem?_eq_getElem hj]
theorem VStk.ks (h : VStk w base v l) : Ks w w.heap.size v l := by
  obtain ⟨A, c, rfl, hle, hm, hq⟩ := h.form
  by_cases h0 : 0 < l.length
  · obtain ⟨q, rfl, -, hlt⟩ := hq h0
    refine ⟨_, q, 0, c, rfl, fun _ => rfl, hle, Nat.le_trans hle hm, fun j hj => ⟨hlt, ?_⟩⟩
    show World.cell? _ _ = _
    rw [Nat.zero_add, Nat.mul_one]
    exact h.cell hj
  · exact ⟨A, 0, 0, c, rfl, fun h => absurd h h0, hle, Nat.le_trans hle hm, fun j hj => absurd hj (by omega)⟩
end

end Go.Proofs.YtemogllidmgbfaaGreatDoor
