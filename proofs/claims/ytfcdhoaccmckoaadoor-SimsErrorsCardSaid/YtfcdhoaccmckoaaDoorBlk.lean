/- sims.unknown, sims.Blank, sims.Check on any pattern. -/
import Derived.Test.YtfcdhoaccmckoaaDoorEck
import Derived.Test.YtfcdhoaccmckoaaDoorRuw
import Derived.Test.YtfcdhoaccmckoaaDoorSme
namespace Go.Proofs.YtfcdhoaccmckoaaDoor
open Go.RowKit

def UnkPost (n : Nat) (w : World) (e : Ending) (w' : World) : Prop := ∃ g, e = .returned (.slice (some ⟨g, 0, none⟩) n n) ∧ VRow w' g (List.replicate n 2) ∧ w.heap.size ≤ g ∧ Below w.heap.size w w'
def filled (l : List Int) (n k : Nat) : Prop := l.length = n ∧ ∀ j, j < k → l.getD j 0 = 2
theorem filled_all {l : List Int} {n : Nat} (h : filled l n n) : l = List.replicate n 2 := by
  apply List.ext_getElem (by rw [h.1, List.length_replicate])
  intro i h1 h2
  have := h.2 i (by rw [← h.1]; exact h1)
  rw [List.getD_eq_getElem?_getD, List.getElem?_eq_getElem h1] at this
  simpa using this
theorem filled_succ {l : List Int} {n k : Nat} (h : filled l n k) (hk : k < n) : filled (l.set k 2) n (k + 1) := by
  refine ⟨by rw [List.length_set]; exact h.1, fun j hj => ?_⟩
  rw [getD_set _ _ _ _ _ (by rw [h.1]; exact hk)]
  split
  · rfl
  · exact h.2 j (by omega)
set_option maxHeartbeats 4000000 in
theorem unknown_any (n : Nat) (hn : n ≤ 1000000) (w : World) : Calls Tryd.prog 44 #[.int .i64 (n : Int)] w (UnkPost n w) := by
  obtain ⟨i0, hi, hz0, hz1', hz2⟩ := info_parts info_val
  have HI := Lib.hid (And.intro hi (And.intro hz0 (And.intro hz1' hz2)))
  clear hi hz0 hz1' hz2
  go_enter Tryd.func44, Tryd.ntmps44
  go_wp2_with (at_make; refine wpList_make_full _ rfl _ _ 28 rfl w.heap.size 40 i0 (.int .u8 0) 1 Tryd.underlying28 HI.out.1 HI.out.2.1 HI.out.2.2.1 .i64 .i64 _ _ n rfl rfl rfl rfl ?b2 ?b3 ?b4 ?_)
  case b2 => rw [HI.out.2.2.2]; omega
  case b3 => unfold maxLen; omega
  case b4 => exact Nat.le_refl _
  intro w1 hown hgr
  rw [made_vals] at hown
  have hv : VRow w1 w.heap.size (List.replicate n 0) := VRow.of hown (by simp)
  have hb : Below w.heap.size w w1 := (Below.refl _ _).grown hgr (Nat.le_refl _) (fun k h => by cases h)
  have HV := Lib.hid hv
  have HB := Lib.hid hb
  obtain ⟨g, HG⟩ := named w.heap.size
  rw [← HG.out] at HV
  rw [← HG.out]
  clear hown hgr hv hb
  go_wp2
  go_loopw [9] (fun i wr => ∃ (k : Nat) (l : List Int), k ≤ n ∧ i = .int .i64 k ∧ filled l n k ∧ VRow wr g l ∧ Below w.heap.size w wr) (fun i _ => n - (intOf i).toNat)
  case atStart => exact ⟨0, _, Nat.zero_le _, rfl, ⟨by simp, fun j h => absurd h (Nat.not_lt_zero j)⟩, HV.out, HB.out⟩
  case round =>
    obtain ⟨k, l, hk, rfl, hf, hv, hb⟩ := hrel
    have HF := Lib.hid hf
    have HVR := Lib.hid hv
    have HBR := Lib.hid hb
    by_cases hlt : k < n
    · have hkl : k < l.length := by rw [hf.1]; exact hlt
      have x1 := hv.cell hkl
      have x2 := hv.frozen k
      obtain ⟨y, HY⟩ := named (lat l (k : Int))
      rw [← HY.out] at x1
      clear hf hv hb hkl
      go_wp2
      have HN := Lib.hid (filled_succ HF.out hlt)
      have HVN := Lib.hid (HVR.out.set k 2)
      have HBN := Lib.hid (HBR.out.setCell (p := ⟨g, k, none⟩) (by show w.heap.size ≤ g; have := HG.out; omega) (.int .u8 2))
      go_roundw
      case rel => exact ⟨k + 1, l.set k 2, by omega, by go_num, HN.out, HVN.out, HBN.out⟩
      case measure => simp [intOf]; omega
    · obtain rfl : n = k := by omega
      obtain rfl := filled_all HF.out
      clear hf hv hb
      go_wp2
      go_ret
      exact ⟨g, rfl, HVR.out, by have := HG.out; omega, HBR.out⟩

def BlkPost (m k : Nat) (w : World) (e : Ending) (w' : World) : Prop := ∃ g h, e = .returned (.agg #[.slice (some ⟨g, 0, none⟩) m m, .slice (some ⟨h, 0, none⟩) k k]) ∧ VRow w' g (List.replicate m 2) ∧ VRow w' h (List.replicate k 2) ∧ Below w.heap.size w w'
set_option maxRecDepth 100000 in
set_option maxHeartbeats 4000000 in
theorem blank_any (c : Ck) (A0 A1 A2 A3 : Option Addr) (c0 c1 c2 c3 : Nat) (w : World) (B : Nat) (hB : B ≤ w.heap.size)
    (hc : Cir w B (.agg #[.slice A0 c.nodes.length c0, .slice A1 c.names.length c1, .slice A2 c.mems.length c2, .slice A3 c.outs.length c3]) c) (hsz : c.nodes.length ≤ 1000000) :
    Calls Tryd.prog 14 #[.agg #[.slice A0 c.nodes.length c0, .slice A1 c.names.length c1, .slice A2 c.mems.length c2, .slice A3 c.outs.length c3]] w (BlkPost (ofTo c.nodes [0] c.nodes.length).length (ofTo c.nodes [14] c.nodes.length).length w) := by
  obtain ⟨W1, HW1⟩ := named ((w.alloc (.cells #[.slice A0 c.nodes.length c0, .slice A1 c.names.length c1, .slice A2 c.mems.length c2, .slice A3 c.outs.length c3] 27)).alloc (.cells #[.slice none 0 0, .slice none 0 0] 30))
  have hb1 : Below w.heap.size w W1 := by rw [HW1.out]; exact below_new (below_new (Below.refl _ _) _) _
  have hfc : Fr W1 w.heap.size 27 [.slice A0 c.nodes.length c0, .slice A1 c.names.length c1, .slice A2 c.mems.length c2, .slice A3 c.outs.length c3] := by rw [HW1.out]; exact Fr.alloc (Fr.made _ _ _ rfl) _
  have hfr : Fr W1 (w.heap.size + 1) 30 [.slice none 0 0, .slice none 0 0] := by rw [HW1.out]; exact Fr.made _ _ _ (by simp)
  have hz1 : W1.heap.size = w.heap.size + 1 + 1 := by rw [HW1.out]; simp
  obtain ⟨mi, HMI⟩ := named (ofTo c.nodes [0] c.nodes.length).length
  obtain ⟨ms, HMS⟩ := named (ofTo c.nodes [14] c.nodes.length).length
  have hmi : mi ≤ 1000000 := by have := ofTo_len c.nodes [0] c.nodes.length; rw [HMI.out]; omega
  have hms : ms ≤ 1000000 := by have := ofTo_len c.nodes [14] c.nodes.length; rw [HMS.out]; omega
  have HIN : Hid (∀ W, BelW W1 W → Calls Tryd.prog 29 #[.agg #[.slice A0 c.nodes.length c0, .slice A1 c.names.length c1, .slice A2 c.mems.length c2, .slice A3 c.outs.length c3]] W fun e w' => ∃ A, e = .returned (.slice A mi mi) ∧ BelW W w') :=
    Lib.hid fun W hb => (inputs_any c _ W B (Nat.le_trans hB (joinB hb1 hb).size) (hc.below ((joinB hb1 hb).mono hB)) hsz).mono fun e w' ⟨A, he, _, h⟩ => ⟨A, by rw [HMI.out]; exact he, h⟩
  have HST : Hid (∀ W, BelW W1 W → Calls Tryd.prog 30 #[.agg #[.slice A0 c.nodes.length c0, .slice A1 c.names.length c1, .slice A2 c.mems.length c2, .slice A3 c.outs.length c3]] W fun e w' => ∃ A, e = .returned (.slice A ms ms) ∧ BelW W w') :=
    Lib.hid fun W hb => (states_any c _ W B (Nat.le_trans hB (joinB hb1 hb).size) (hc.below ((joinB hb1 hb).mono hB)) hsz).mono fun e w' ⟨A, he, _, h⟩ => ⟨A, by rw [HMS.out]; exact he, h⟩
  have HU1 : Hid (∀ W, Calls Tryd.prog 44 #[.int .i64 (mi : Int)] W (UnkPost mi W)) := Lib.hid fun W => unknown_any mi hmi W
  have HU2 : Hid (∀ W, Calls Tryd.prog 44 #[.int .i64 (ms : Int)] W (UnkPost ms W)) := Lib.hid fun W => unknown_any ms hms W
  rw [← HMI.out, ← HMS.out]
  have HB1 := Lib.hid hb1
  clear hc hb1 hmi hms HMI HMS
  generalize c.nodes.length = n0 at HW1 hfc HIN HST ⊢
  generalize c.names.length = n1 at HW1 hfc HIN HST ⊢
  generalize c.mems.length = n2 at HW1 hfc HIN HST ⊢
  generalize c.outs.length = n3 at HW1 hfc HIN HST ⊢
  have HCE : Hid (∀ w', BelW W1 w' → w'.cell? ⟨w.heap.size, 0, none⟩ = some (.slice A0 n0 c0) ∧ w'.cell? ⟨w.heap.size, 1, none⟩ = some (.slice A1 n1 c1) ∧ w'.cell? ⟨w.heap.size, 2, none⟩ = some (.slice A2 n2 c2) ∧ w'.cell? ⟨w.heap.size, 3, none⟩ = some (.slice A3 n3 c3)) := Lib.hid fun w' h =>
    ⟨(hfc.below h).cell 0, (hfc.below h).cell 1, (hfc.below h).cell 2, (hfc.below h).cell 3⟩
  have HFR : Hid (∀ w', BelW W1 w' → Fr w' (w.heap.size + 1) 30 [.slice none 0 0, .slice none 0 0]) := Lib.hid fun w' h => hfr.below h
  have HFS : Hid (∀ w', BelW W1 w' → ∀ u v, ((w'.setCell ⟨w.heap.size + 1, 0, none⟩ u).setCell ⟨w.heap.size + 1, 1, none⟩ v).cell? ⟨w.heap.size, 0, none⟩ = some (.slice A0 n0 c0) ∧ ((w'.setCell ⟨w.heap.size + 1, 0, none⟩ u).setCell ⟨w.heap.size + 1, 1, none⟩ v).cell? ⟨w.heap.size, 1, none⟩ = some (.slice A1 n1 c1) ∧ ((w'.setCell ⟨w.heap.size + 1, 0, none⟩ u).setCell ⟨w.heap.size + 1, 1, none⟩ v).cell? ⟨w.heap.size, 2, none⟩ = some (.slice A2 n2 c2) ∧ ((w'.setCell ⟨w.heap.size + 1, 0, none⟩ u).setCell ⟨w.heap.size + 1, 1, none⟩ v).cell? ⟨w.heap.size, 3, none⟩ = some (.slice A3 n3 c3)) := Lib.hid fun w' h u v =>
    have f := ((hfc.below h).other (a := ⟨w.heap.size + 1, 0, none⟩) (by simp) u).other (a := ⟨w.heap.size + 1, 1, none⟩) (by simp) v
    ⟨f.cell 0, f.cell 1, f.cell 2, f.cell 3⟩
  have HZ1 := Lib.hid hz1
  clear hfc hfr hz1
  have hs0 : BelW W1 W1 := Below.refl _ _
  go_enter Tryd.func14, Tryd.ntmps14
  go_upto_region 1 with (fail)
  rw [← HW1.out]
  go_region_held3 (fun w' => w'.cell? ⟨w.heap.size, 0, none⟩ = some (.slice A0 n0 c0) ∧ w'.cell? ⟨w.heap.size, 1, none⟩ = some (.slice A1 n1 c1) ∧ w'.cell? ⟨w.heap.size, 2, none⟩ = some (.slice A2 n2 c2) ∧ w'.cell? ⟨w.heap.size, 3, none⟩ = some (.slice A3 n3 c3))
    ((first
      | (refine HCE.out _ ?_; first | (with_reducible assumption) | (refine BelW.drew ?_; with_reducible assumption))
      | (refine HFS.out _ ?_ _ _; first | (with_reducible assumption) | (refine BelW.drew ?_; with_reducible assumption))))
    (first
      | (have hq9 := hsS
         go_at_call 44
         (with_reducible refine Calls.mono (HU2.out _) ?_)
         rintro e w8 ⟨gS, rfl, hvS, hzS, hb8⟩
         have hs8 : BelW W1 w8 := (by refine BelW.next ?_ hb8; first | (with_reducible assumption) | (refine BelW.drew ?_; with_reducible assumption))
         have hv8 := VRow.below (VRow.below hvI hbS) hb8
         have r0 := (HFR.out _ hs8).cell 0
         have r1 := (HFR.out _ hs8).cell 1
         have f0 := (HFR.out _ hs8).frozen 0
         have f1 := (HFR.out _ hs8).frozen 1)
      | (go_at_call 30; (with_reducible refine Calls.mono (HST.out _ ?_) ?_); · (first | (with_reducible assumption) | (refine BelW.drew ?_; with_reducible assumption))
         rintro e wS ⟨A, rfl, hbS⟩
         have hsS : BelW W1 wS := (by refine BelW.next ?_ hbS; first | (with_reducible assumption) | (refine BelW.drew ?_; with_reducible assumption)))
      | (go_at_call 44
         (with_reducible refine Calls.mono (HU1.out _) ?_)
         rintro e wI ⟨gI, rfl, hvI, hzI, hbI⟩
         have hsI : BelW W1 wI := (by refine BelW.next ?_ hbI; first | (with_reducible assumption) | (refine BelW.drew ?_; with_reducible assumption)))
      | (go_at_call 29; (with_reducible refine Calls.mono (HIN.out _ ?_) ?_); · (first | (with_reducible assumption) | (refine BelW.drew ?_; with_reducible assumption))
         rintro e wA ⟨A, rfl, hbA⟩
         have hsA : BelW W1 wA := (by refine BelW.next ?_ hbA; first | (with_reducible assumption) | (refine BelW.drew ?_; with_reducible assumption))))
  have hq := ((HFR.out _ hs8).set 0 (.slice (some ⟨gI, 0, none⟩) mi mi)).set 1 (.slice (some ⟨gS, 0, none⟩) ms ms)
  have k0 := HZ1.out
  have k1 := Below.size hsA
  have k2 := Below.size hsS
  have n1' : w.heap.size + 1 ≠ gI := by omega
  have n2' : w.heap.size + 1 ≠ gS := by omega
  have hbe := (Below.setCell (p := ⟨w.heap.size + 1, 1, none⟩) (Below.setCell (p := ⟨w.heap.size + 1, 0, none⟩) (joinB HB1.out hs8) (by show w.heap.size ≤ w.heap.size + 1; omega) (.slice (some ⟨gI, 0, none⟩) mi mi)) (by show w.heap.size ≤ w.heap.size + 1; omega) (.slice (some ⟨gS, 0, none⟩) ms ms))
  have HEND := Lib.hid (And.intro (((hv8.other (a := ⟨w.heap.size + 1, 0, none⟩) n1' (.slice (some ⟨gI, 0, none⟩) mi mi)).other (a := ⟨w.heap.size + 1, 1, none⟩) n1' (.slice (some ⟨gS, 0, none⟩) ms ms))) (And.intro ((hvS.other (a := ⟨w.heap.size + 1, 0, none⟩) n2' (.slice (some ⟨gI, 0, none⟩) mi mi)).other (a := ⟨w.heap.size + 1, 1, none⟩) n2' (.slice (some ⟨gS, 0, none⟩) ms ms)) hbe))
  have HQ := Lib.hid hq
  clear k0 k1 k2 hbe hq
  go_wp2
  (try simp only [Exit.inBlock, Exit.then])
  refine bodyPost_ret (results_cell_row rfl _ _ _ _ _ _ _ rfl HQ.out Tryd.underlying30 rfl (by kernel_rfl)) rfl ?_
  exact ⟨gI, gS, rfl, HEND.out.1, HEND.out.2.1, HEND.out.2.2⟩

set_option maxRecDepth 100000 in
set_option maxHeartbeats 4000000 in
theorem scheck_any (c : Ck) (pin pst : List Int) (A0 A1 A2 A3 Ai As : Option Addr) (c0 c1 c2 c3 ci cs : Nat) (w : World) (B : Nat) (hB : B ≤ w.heap.size) (hT : Tabs w)
    (hc : Cir w B (.agg #[.slice A0 c.nodes.length c0, .slice A1 c.names.length c1, .slice A2 c.mems.length c2, .slice A3 c.outs.length c3]) c) (hi : Ks w B (.slice Ai pin.length ci) pin) (hs : Ks w B (.slice As pst.length cs) pst) (hsz : c.nodes.length ≤ 1000000) :
    Calls Tryd.prog 13 #[.agg #[.slice A0 c.nodes.length c0, .slice A1 c.names.length c1, .slice A2 c.mems.length c2, .slice A3 c.outs.length c3], .agg #[.slice Ai pin.length ci, .slice As pst.length cs]] w
      fun e w' => e = .returned (.int .i64 (ckE c pin pst)) ∧ Below w.heap.size w w' := by
  obtain ⟨W1, HW1⟩ := named ((w.alloc (.cells #[.slice A0 c.nodes.length c0, .slice A1 c.names.length c1, .slice A2 c.mems.length c2, .slice A3 c.outs.length c3] 27)).alloc (.cells #[.slice Ai pin.length ci, .slice As pst.length cs] 30))
  have hb1 : Below w.heap.size w W1 := by rw [HW1.out]; exact below_new (below_new (Below.refl _ _) _) _
  have hfc : Fr W1 w.heap.size 27 [.slice A0 c.nodes.length c0, .slice A1 c.names.length c1, .slice A2 c.mems.length c2, .slice A3 c.outs.length c3] := by rw [HW1.out]; exact Fr.alloc (Fr.made _ _ _ rfl) _
  have hfp : Fr W1 (w.heap.size + 1) 30 [.slice Ai pin.length ci, .slice As pst.length cs] := by rw [HW1.out]; exact Fr.made _ _ _ (by simp)
  have hBW : ∀ {W}, BelW W1 W → B ≤ W.heap.size := fun {W} h => Nat.le_trans hB (joinB hb1 h).size
  have hcW : ∀ {W}, BelW W1 W → Cir W B (.agg #[.slice A0 c.nodes.length c0, .slice A1 c.names.length c1, .slice A2 c.mems.length c2, .slice A3 c.outs.length c3]) c := fun {W} h => hc.below ((joinB hb1 h).mono hB)
  have HCK : Hid (∀ W, BelW W1 W → Calls Tryd.prog 43 #[.agg #[.slice A0 c.nodes.length c0, .slice A1 c.names.length c1, .slice A2 c.mems.length c2, .slice A3 c.outs.length c3]] W fun e w' => e = .returned (.int .i64 (chkErr c)) ∧ BelW W w') := Lib.hid fun W hb => check_any c _ W B (hBW hb) (hT.below (joinB hb1 hb)) (hcW hb)
  have HCP : Hid (∀ W, BelW W1 W → Calls Tryd.prog 37 #[.agg #[.slice A0 c.nodes.length c0, .slice A1 c.names.length c1, .slice A2 c.mems.length c2, .slice A3 c.outs.length c3], .agg #[.slice Ai pin.length ci, .slice As pst.length cs]] W fun e w' => e = .returned (.int .i64 (cpE c pin pst)) ∧ BelW W w') := Lib.hid fun W hb =>
    cpat_any c pin pst A0 A1 A2 A3 Ai As c0 c1 c2 c3 ci cs W B (hBW hb) (hcW hb) (Arr.keep stays_u8 hi (Nat.le_refl _) fun _ hp => (joinB hb1 hb).cell (Nat.lt_of_lt_of_le hp hB)) (Arr.keep stays_u8 hs (Nat.le_refl _) fun _ hp => (joinB hb1 hb).cell (Nat.lt_of_lt_of_le hp hB)) hsz
  have HE : Hid (ckE c pin pst = if chkErr c ≠ 0 then chkErr c else cpE c pin pst) := Lib.hid rfl
  have HB1 := Lib.hid hb1
  clear hc hi hs hb1 hBW hcW hT
  obtain ⟨r, HR⟩ := named (ckE c pin pst)
  obtain ⟨z, HZ⟩ := named (chkErr c)
  obtain ⟨y, HY⟩ := named (cpE c pin pst)
  rw [← HR.out, ← HZ.out, ← HY.out] at HE
  rw [← HZ.out] at HCK
  rw [← HY.out] at HCP
  rw [← HR.out]
  clear HR HZ HY
  generalize c.nodes.length = n0 at HW1 hfc HCK HCP ⊢
  generalize c.names.length = n1 at HW1 hfc HCK HCP ⊢
  generalize c.mems.length = n2 at HW1 hfc HCK HCP ⊢
  generalize c.outs.length = n3 at HW1 hfc HCK HCP ⊢
  generalize pin.length = ni at HW1 hfp HCP ⊢
  generalize pst.length = ns at HW1 hfp HCP ⊢
  have HCE : Hid (∀ w', BelW W1 w' → BelW W1 w' ∧ w'.cell? ⟨w.heap.size, 0, none⟩ = some (.slice A0 n0 c0) ∧ w'.cell? ⟨w.heap.size, 1, none⟩ = some (.slice A1 n1 c1) ∧ w'.cell? ⟨w.heap.size, 2, none⟩ = some (.slice A2 n2 c2) ∧ w'.cell? ⟨w.heap.size, 3, none⟩ = some (.slice A3 n3 c3) ∧ w'.cell? ⟨w.heap.size + 1, 0, none⟩ = some (.slice Ai ni ci) ∧ w'.cell? ⟨w.heap.size + 1, 1, none⟩ = some (.slice As ns cs)) := Lib.hid fun w' h =>
    ⟨h, (hfc.below h).cell 0, (hfc.below h).cell 1, (hfc.below h).cell 2, (hfc.below h).cell 3, (hfp.below h).cell 0, (hfp.below h).cell 1⟩
  clear hfc hfp
  have hs0 : BelW W1 W1 := Below.refl _ _
  go_enter Tryd.func13, Tryd.ntmps13
  go_upto_region 1 with (fail)
  rw [← HW1.out]
  obtain ⟨-, x0, x1, x2, x3, y0, y1⟩ := HCE.out W1 hs0
  by_cases hz : z = 0
  · subst hz
    have HEE : Hid (r = y) := Lib.hid (by rw [HE.out]; simp)
    go_wp2_with (first
      | (go_at_call 43; (with_reducible refine (HCK.out _ hs0).mono ?_); rintro e w2 ⟨rfl, hb⟩; have hs2 : BelW W1 w2 := hb; clear x0 x1 x2 x3 y0 y1; obtain ⟨-, x0, x1, x2, x3, y0, y1⟩ := HCE.out _ hb; clear hb)
      | (go_at_call 37; (with_reducible refine (HCP.out _ hs2).mono ?_); rintro e w3 ⟨rfl, hb⟩; have hs3 : BelW W1 w3 := joinB hs2 hb; clear hb))
    go_ret
    exact ⟨by rw [HEE.out]; rfl, joinB HB1.out hs3⟩
  · have HEE : Hid (r = z) := Lib.hid (by rw [HE.out, if_pos hz])
    have q0 : (z == 0) = false := by simpa using hz
    have q1 : (z != 0) = true := by simpa using hz
    clear hz
    go_wp2_with (go_at_call 43; (with_reducible refine (HCK.out _ hs0).mono ?_); rintro e w2 ⟨rfl, hb⟩; have hs2 : BelW W1 w2 := hb; clear hb x0 x1 x2 x3 y0 y1)
    go_ret
    exact ⟨by rw [HEE.out]; rfl, joinB HB1.out hs2⟩

/-- What Run returns where a circuit and a pattern have the error z. -/
def RunE (z : Int) (w : World) (e : Ending) (w' : World) : Prop :=
  (∃ A m k B n d D p f, e = .returned (.tuple #[.agg #[.slice A m k, .slice B n d], .slice D p f, .int .i64 z]) ∧ (z ≠ 0 → m = 0 ∧ n = 0 ∧ p = 0)) ∧ Below w.heap.size w w'
theorem abv_fits {l : List Int} (h : anyP abv l = false) (h0 : ∀ y ∈ l, 0 ≤ y) : ∀ y ∈ l, 0 ≤ y ∧ y ≤ 3 := fun y hy => by
  obtain ⟨k, hk, rfl⟩ := List.mem_iff_getElem.1 hy
  refine ⟨h0 _ hy, ?_⟩
  by_cases h3 : 3 < l[k]
  · have := abv_one (l := l) hk (by rw [List.getD_eq_getElem?_getD, List.getElem?_eq_getElem hk]; exact h3)
    rw [h] at this; cases this
  · omega
theorem run_e (c : Ck) (pin pst : List Int) (A0 A1 A2 A3 Ai As : Option Addr) (c0 c1 c2 c3 ci cs : Nat) (w : World) (B : Nat) (hB : B ≤ w.heap.size) (hT : Lg.Tabs w)
    (hc : Cir w B (.agg #[.slice A0 c.nodes.length c0, .slice A1 c.names.length c1, .slice A2 c.mems.length c2, .slice A3 c.outs.length c3]) c) (hi : Ks w B (.slice Ai pin.length ci) pin) (hs : Ks w B (.slice As pst.length cs) pst) (hsz : c.nodes.length ≤ 1000000) (hos : c.outs.length ≤ 17592186044416) (vi : ∀ y ∈ pin, 0 ≤ y) (vs : ∀ y ∈ pst, 0 ≤ y) :
    Calls Tryd.prog 12 #[.agg #[.slice A0 c.nodes.length c0, .slice A1 c.names.length c1, .slice A2 c.mems.length c2, .slice A3 c.outs.length c3], .agg #[.slice Ai pin.length ci, .slice As pst.length cs]] w (RunE (ckE c pin pst) w) := by
  have hBW : ∀ {W}, BelW w W → B ≤ W.heap.size := fun {W} h => Nat.le_trans hB (Below.size h)
  have hcW : ∀ {W}, BelW w W → Cir W B (.agg #[.slice A0 c.nodes.length c0, .slice A1 c.names.length c1, .slice A2 c.mems.length c2, .slice A3 c.outs.length c3]) c := fun {W} h => hc.below (Below.mono h hB)
  have hor : ∀ W, BelW w W → Calls Tryd.prog 31 #[.agg #[.slice A0 c.nodes.length c0, .slice A1 c.names.length c1, .slice A2 c.mems.length c2, .slice A3 c.outs.length c3]] W fun e w' => (∃ s, e = .returned (.tuple #[s, .int .i64 (chkErr c)])) ∧ BelW W w' := fun W h =>
    (order_w c _ W B (hBW h) (tabs_lg (hT.below h)) (hcW h) hsz).mono fun e w' ⟨h1, h2⟩ => by
      rcases h2 with ⟨h0, d, he⟩ | ⟨hne, he⟩
      · exact ⟨⟨_, by rw [h0]; exact he⟩, h1⟩
      · exact ⟨⟨_, he⟩, h1⟩
  by_cases hz : ckE c pin pst = 0
  · have hk : chkErr c = 0 := by
      by_cases h : chkErr c = 0
      · exact h
      · rw [ckE_bad h] at hz; exact hz
    have hm : c.mems.length = 0 := by
      by_cases h : c.mems.length = 0
      · exact h
      · rw [ckE_mem hk h] at hz; cases hz
    have hw : pin.length = (ofTo c.nodes [0] c.nodes.length).length ∧ pst.length = (ofTo c.nodes [14] c.nodes.length).length := by
      by_cases h1 : pin.length = (ofTo c.nodes [0] c.nodes.length).length
      · by_cases h2 : pst.length = (ofTo c.nodes [14] c.nodes.length).length
        · exact ⟨h1, h2⟩
        · rw [ckE_wide hk hm (.inr h2)] at hz; cases hz
      · rw [ckE_wide hk hm (.inl h1)] at hz; cases hz
    have hv := hz
    rw [ckE_val hk hm hw.1 hw.2] at hv
    have hv2 : (anyP abv pin || anyP abv pst) = false := by
      cases h : (anyP abv pin || anyP abv pst)
      · rfl
      · rw [h] at hv; cases hv
    rw [Bool.or_eq_false_iff] at hv2
    rw [hz]
    exact (run_w c pin pst A0 A1 A2 A3 Ai As c0 c1 c2 c3 ci cs w B hB hT hc hi hs hsz hos hk ⟨hm, hw.1, hw.2, abv_fits hv2.1 vi, abv_fits hv2.2 vs⟩).mono fun e w' ⟨A, m, k, B, n, d, D, p, f, he, hb⟩ => ⟨⟨A, m, k, B, n, d, D, p, f, he, fun h => absurd rfl h⟩, hb⟩
  · have h : Calls Tryd.prog 12 #[.agg #[.slice A0 c.nodes.length c0, .slice A1 c.names.length c1, .slice A2 c.mems.length c2, .slice A3 c.outs.length c3], .agg #[.slice Ai pin.length ci, .slice As pst.length cs]] w fun e w' => e = .returned (.tuple #[.agg #[.slice none 0 0, .slice none 0 0], .slice none 0 0, .int .i64 (ckE c pin pst)]) ∧ Below w.heap.size w w' := by
      refine run_bad c (ckE c pin pst) hz A0 A1 A2 A3 Ai As _ _ _ _ _ _ c0 c1 c2 c3 ci cs w ?_
      by_cases hk : chkErr c = 0
      · right
        refine ⟨fun W h => (hor W h).mono fun e w' ⟨⟨s, he⟩, hb⟩ => ⟨⟨s, by rw [hk] at he; exact he⟩, hb⟩, fun W h => ?_⟩
        have := cpat_any c pin pst A0 A1 A2 A3 Ai As c0 c1 c2 c3 ci cs W B (hBW h) (hcW h) (Arr.keep stays_u8 hi (Nat.le_refl _) fun _ hp => Below.cell h (Nat.lt_of_lt_of_le hp hB)) (Arr.keep stays_u8 hs (Nat.le_refl _) fun _ hp => Below.cell h (Nat.lt_of_lt_of_le hp hB)) hsz
        have e9 : ckE c pin pst = cpE c pin pst := by unfold ckE; rw [if_neg (by rw [hk]; decide)]
        rw [e9]; exact this
      · left
        rw [ckE_bad hk]
        exact hor
    exact h.mono fun e w' ⟨he, hb⟩ => ⟨⟨none, 0, 0, none, 0, 0, none, 0, 0, he, fun _ => ⟨rfl, rfl, rfl⟩⟩, hb⟩
end Go.Proofs.YtfcdhoaccmckoaaDoor
