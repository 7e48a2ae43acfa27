/- The texts Srw Blk Wck Wsl. -/
import Derived.Test.YtemogllidmgbfaaGreatDoorM10
import Derived.Deep.LoopGhost
import Derived.Deep.CutBlock
import Derived.Deep.DeepCutAuto
import Derived.Test.YtemogllidmgbfaaGreatDoorM29
import Derived.Test.YtemogllidmgbfaaGreatDoorM16
import Derived.Test.YtemogllidmgbfaaGreatDoorM28
import Derived.Test.YtemogllidmgbfaaGreatDoorM17
import Derived.Test.YtemogllidmgbfaaGreatDoorM37
import Derived.Test.YtemogllidmgbfaaGreatDoorM24
namespace Go.Proofs.YtemogllidmgbfaaGreatDoor
open Go.RowKit

def Rg (n : Nat) (R : List Int) : Prop := R.length = n ∧ ∀ x ∈ R, 0 ≤ x ∧ x < (n : Int)
theorem Rg.at {n : Nat} {R : List Int} (h : Rg n R) {j : Nat} (hj : j < n) : ∃ y : Nat, lat R (j : Int) = (y : Int) ∧ y < n := by
  have hm : R.getD j 0 ∈ R := by
    rw [List.getD_eq_getElem?_getD, List.getElem?_eq_getElem (by rw [h.1]; exact hj)]
    exact List.getElem_mem _
  have := h.2 _ hm
  refine ⟨(R.getD j 0).toNat, ?_, by omega⟩
  show R.getD ((j : Int).toNat) 0 = _
  rw [Int.toNat_natCast]; omega
theorem Rg.set {n : Nat} {R : List Int} (h : Rg n R) (j y : Nat) (hy : y < n) : Rg n (R.set j (y : Int)) :=
  ⟨by rw [List.length_set]; exact h.1, fun x hx => by
    rcases List.mem_or_eq_of_mem_set hx with h' | h'
    · exact h.2 x h'
    · omega⟩
def SV (w : World) (B d g q n : Nat) (L : List Int) (wr : World) : Prop := ∃ R, Rg n R ∧ SW w B d g q n L R wr
section
variable {w wr : World} {B d g q n : Nat} {L : List Int}
theorem SV.drewN (h : SV w B d g q n L wr) (k : Nat) : SV w B d g q n L (wr.drewN k) := by
  obtain ⟨R, h1, h2⟩ := h; exact ⟨R, h1, h2.drewN k⟩
theorem SV.drew (h : SV w B d g q n L wr) : SV w B d g q n L wr.drew := by
  obtain ⟨R, h1, h2⟩ := h; exact ⟨R, h1, h2.drew⟩
theorem SV.set (h : SV w B d g q n L wr) (hd : B ≤ d) (hg : d ≠ g) (hq : d ≠ q) (j y : Nat) (hy : y < n) : SV w B d g q n L (wr.setCell ⟨d, j, none⟩ (.int .i64 (y : Int))) := by
  obtain ⟨R, h1, h2⟩ := h; exact ⟨_, h1.set j y hy, h2.set hd hg hq j y⟩
theorem SV.at (h : SV w B d g q n L wr) {j : Nat} (hj : j < n) : ∃ y : Nat, y < n ∧ wr.cell? ⟨d, j, none⟩ = some (.int .i64 (y : Int)) ∧ wr.frozen? ⟨d, j, none⟩ = false := by
  obtain ⟨R, h1, h2⟩ := h
  obtain ⟨y, hy, hyn⟩ := h1.at hj
  refine ⟨y, hyn, ?_, h2.row.frozen j⟩
  rw [h2.row.cell (by rw [h1.1]; exact hj), hy]
theorem SV.cmp (h : SV w B d g q n L wr) (hL : L.length = n) (hn : n ≤ 1000000) {a b : Nat} (ha : a < n) (hb : b < n) (m : Nat) :
    Calls Tryz.prog 89 #[.int .i64 a, .int .i64 b, .pointer (some ⟨q, 0, none⟩)] (wr.drewN m) fun e w' => e = .returned (.int .i64 (cmpI (lat L a) (lat L b))) ∧ ∃ n, w' = (wr.drewN m).drewN n := by
  obtain ⟨R, h1, h2⟩ := h
  exact order1_any L a b (by omega) (by omega) (by omega) g q _ (h2.lev) (by rw [hL]; exact h2.cell)
end
end Go.Proofs.YtemogllidmgbfaaGreatDoor

namespace Go.Proofs.YtemogllidmgbfaaGreatDoor
open Go.RowKit

def UnkPost (n : Nat) (w : World) (e : Ending) (w' : World) : Prop := ∃ g, e = .returned (.slice (some ⟨g, 0, none⟩) n n) ∧ VRow w' g (List.replicate n 2) ∧ w.heap.size ≤ g ∧ Below w.heap.size w w'
def filled (l : List Int) (n k : Nat) : Prop := l.length = n ∧ ∀ j, j < k → l.getD j 0 = 2
theorem filled_all {l : List Int} {n : Nat} (h : filled l n n) : l = List.replicate n 2 := by
  apply List.ext_getElem (by rw [h.1, List.length_replicate])
  intro i h1 h2
  have := h.2 i (by rw [← h.1]; exact h1)
  rw [List.getD_eq_getElem?_getD, List.getElem?_eq_getElem h1] at this
  simpa using this
theorem filled_succ {l : List Int} {n k : Nat} (h : filled l n k) (hk : k < n) : filled (l.set k 2) n (k + 1) := by
  refine ⟨by rw [List.length_set]; exact h.1, fun j hj => ?_⟩
  rw [getD_set _ _ _ _ _ (by rw [h.1]; exact hk)]
  split
  · rfl
  · exact h.2 j (by omega)
set_option maxHeartbeats 4000000 in
theorem unknown_any (n : Nat) (hn : n ≤ 1000000) (w : World) : Calls Tryz.prog 45 #[.int .i64 (n : Int)] w (UnkPost n w) := by
  obtain ⟨i0, hi, hz0, hz1', hz2⟩ := info_parts info_val
  have HI := Lib.hid (And.intro hi (And.intro hz0 (And.intro hz1' hz2)))
  clear hi hz0 hz1' hz2
  go_enter Tryz.func45, Tryz.ntmps45
  go_wp2_with (at_make; refine wpList_make_full _ rfl _ _ 29 rfl w.heap.size 30 i0 (.int .u8 0) 1 Tryz.underlying29 HI.out.1 HI.out.2.1 HI.out.2.2.1 .i64 .i64 _ _ n rfl rfl rfl rfl ?b2 ?b3 ?b4 ?_)
  case b2 => rw [HI.out.2.2.2]; omega
  case b3 => unfold maxLen; omega
  case b4 => exact Nat.le_refl _
  intro w1 hown hgr
  rw [made_vals] at hown
  have hv : VRow w1 w.heap.size (List.replicate n 0) := VRow.of hown (by simp)
  have hb : Below w.heap.size w w1 := (Below.refl _ _).grown hgr (Nat.le_refl _) (fun k h => by cases h)
  have HV := Lib.hid hv
  have HB := Lib.hid hb
  obtain ⟨g, HG⟩ := named w.heap.size
  rw [← HG.out] at HV
  rw [← HG.out]
  clear hown hgr hv hb
  go_wp2
  go_loopw [9] (fun i wr => ∃ (k : Nat) (l : List Int), k ≤ n ∧ i = .int .i64 k ∧ filled l n k ∧ VRow wr g l ∧ Below w.heap.size w wr) (fun i _ => n - (intOf i).toNat)
  case atStart => exact ⟨0, _, Nat.zero_le _, rfl, ⟨by simp, fun j h => absurd h (Nat.not_lt_zero j)⟩, HV.out, HB.out⟩
  case round =>
    obtain ⟨k, l, hk, rfl, hf, hv, hb⟩ := hrel
    have HF := Lib.hid hf
    have HVR := Lib.hid hv
    have HBR := Lib.hid hb
    by_cases hlt : k < n
    · have hkl : k < l.length := by rw [hf.1]; exact hlt
      have x1 := hv.cell hkl
      have x2 := hv.frozen k
      obtain ⟨y, HY⟩ := named (lat l (k : Int))
      rw [← HY.out] at x1
      clear hf hv hb hkl
      go_wp2
      have HN := Lib.hid (filled_succ HF.out hlt)
      have HVN := Lib.hid (HVR.out.set k 2)
      have HBN := Lib.hid (HBR.out.setCell (p := ⟨g, k, none⟩) (by show w.heap.size ≤ g; have := HG.out; omega) (.int .u8 2))
      go_roundw
      case rel => exact ⟨k + 1, l.set k 2, by omega, by go_num, HN.out, HVN.out, HBN.out⟩
      case measure => simp [intOf]; omega
    · obtain rfl : n = k := by omega
      obtain rfl := filled_all HF.out
      clear hf hv hb
      go_wp2
      go_ret
      exact ⟨g, rfl, HVR.out, by have := HG.out; omega, HBR.out⟩

def BlkPost (m k : Nat) (w : World) (e : Ending) (w' : World) : Prop := ∃ g h, e = .returned (.agg #[.slice (some ⟨g, 0, none⟩) m m, .slice (some ⟨h, 0, none⟩) k k]) ∧ VRow w' g (List.replicate m 2) ∧ VRow w' h (List.replicate k 2) ∧ Below w.heap.size w w'
set_option maxRecDepth 100000 in
set_option maxHeartbeats 4000000 in
theorem blank_any (c : Ck) (A0 A1 A2 A3 : Option Addr) (c0 c1 c2 c3 : Nat) (w : World) (B : Nat) (hB : B ≤ w.heap.size)
    (hc : Cir w B (.agg #[.slice A0 c.nodes.length c0, .slice A1 c.names.length c1, .slice A2 c.mems.length c2, .slice A3 c.outs.length c3]) c) (hsz : c.nodes.length ≤ 1000000) :
    Calls Tryz.prog 14 #[.agg #[.slice A0 c.nodes.length c0, .slice A1 c.names.length c1, .slice A2 c.mems.length c2, .slice A3 c.outs.length c3]] w (BlkPost (ofTo c.nodes [0] c.nodes.length).length (ofTo c.nodes [14] c.nodes.length).length w) := by
  obtain ⟨W1, HW1⟩ := named ((w.alloc (.cells #[.slice A0 c.nodes.length c0, .slice A1 c.names.length c1, .slice A2 c.mems.length c2, .slice A3 c.outs.length c3] 46)).alloc (.cells #[.slice none 0 0, .slice none 0 0] 50))
  have hb1 : Below w.heap.size w W1 := by rw [HW1.out]; exact below_new (below_new (Below.refl _ _) _) _
  have hfc : Fr W1 w.heap.size 46 [.slice A0 c.nodes.length c0, .slice A1 c.names.length c1, .slice A2 c.mems.length c2, .slice A3 c.outs.length c3] := by rw [HW1.out]; exact Fr.alloc (Fr.made _ _ _ rfl) _
  have hfr : Fr W1 (w.heap.size + 1) 50 [.slice none 0 0, .slice none 0 0] := by rw [HW1.out]; exact Fr.made _ _ _ (by simp)
  have hz1 : W1.heap.size = w.heap.size + 1 + 1 := by rw [HW1.out]; simp
  obtain ⟨mi, HMI⟩ := named (ofTo c.nodes [0] c.nodes.length).length
  obtain ⟨ms, HMS⟩ := named (ofTo c.nodes [14] c.nodes.length).length
  have hmi : mi ≤ 1000000 := by have := ofTo_len c.nodes [0] c.nodes.length; rw [HMI.out]; omega
  have hms : ms ≤ 1000000 := by have := ofTo_len c.nodes [14] c.nodes.length; rw [HMS.out]; omega
  have HIN : Hid (∀ W, BelW W1 W → Calls Tryz.prog 46 #[.agg #[.slice A0 c.nodes.length c0, .slice A1 c.names.length c1, .slice A2 c.mems.length c2, .slice A3 c.outs.length c3]] W fun e w' => ∃ A, e = .returned (.slice A mi mi) ∧ BelW W w') :=
    Lib.hid fun W hb => (inputs_any c _ W B (Nat.le_trans hB (joinB hb1 hb).size) (hc.below ((joinB hb1 hb).mono hB)) hsz).mono fun e w' ⟨A, he, _, h⟩ => ⟨A, by rw [HMI.out]; exact he, h⟩
  have HST : Hid (∀ W, BelW W1 W → Calls Tryz.prog 47 #[.agg #[.slice A0 c.nodes.length c0, .slice A1 c.names.length c1, .slice A2 c.mems.length c2, .slice A3 c.outs.length c3]] W fun e w' => ∃ A, e = .returned (.slice A ms ms) ∧ BelW W w') :=
    Lib.hid fun W hb => (states_any c _ W B (Nat.le_trans hB (joinB hb1 hb).size) (hc.below ((joinB hb1 hb).mono hB)) hsz).mono fun e w' ⟨A, he, _, h⟩ => ⟨A, by rw [HMS.out]; exact he, h⟩
  have HU1 : Hid (∀ W, Calls Tryz.prog 45 #[.int .i64 (mi : Int)] W (UnkPost mi W)) := Lib.hid fun W => unknown_any mi hmi W
  have HU2 : Hid (∀ W, Calls Tryz.prog 45 #[.int .i64 (ms : Int)] W (UnkPost ms W)) := Lib.hid fun W => unknown_any ms hms W
  rw [← HMI.out, ← HMS.out]
  have HB1 := Lib.hid hb1
  clear hc hb1 hmi hms HMI HMS
  generalize c.nodes.length = n0 at HW1 hfc HIN HST ⊢
  generalize c.names.length = n1 at HW1 hfc HIN HST ⊢
  generalize c.mems.length = n2 at HW1 hfc HIN HST ⊢
  generalize c.outs.length = n3 at HW1 hfc HIN HST ⊢
  have HCE : Hid (∀ w', BelW W1 w' → w'.cell? ⟨w.heap.size, 0, none⟩ = some (.slice A0 n0 c0) ∧ w'.cell? ⟨w.heap.size, 1, none⟩ = some (.slice A1 n1 c1) ∧ w'.cell? ⟨w.heap.size, 2, none⟩ = some (.slice A2 n2 c2) ∧ w'.cell? ⟨w.heap.size, 3, none⟩ = some (.slice A3 n3 c3)) := Lib.hid fun w' h =>
    ⟨(hfc.below h).cell 0, (hfc.below h).cell 1, (hfc.below h).cell 2, (hfc.below h).cell 3⟩
  have HFR : Hid (∀ w', BelW W1 w' → Fr w' (w.heap.size + 1) 50 [.slice none 0 0, .slice none 0 0]) := Lib.hid fun w' h => hfr.below h
  have HFS : Hid (∀ w', BelW W1 w' → ∀ u v, ((w'.setCell ⟨w.heap.size + 1, 0, none⟩ u).setCell ⟨w.heap.size + 1, 1, none⟩ v).cell? ⟨w.heap.size, 0, none⟩ = some (.slice A0 n0 c0) ∧ ((w'.setCell ⟨w.heap.size + 1, 0, none⟩ u).setCell ⟨w.heap.size + 1, 1, none⟩ v).cell? ⟨w.heap.size, 1, none⟩ = some (.slice A1 n1 c1) ∧ ((w'.setCell ⟨w.heap.size + 1, 0, none⟩ u).setCell ⟨w.heap.size + 1, 1, none⟩ v).cell? ⟨w.heap.size, 2, none⟩ = some (.slice A2 n2 c2) ∧ ((w'.setCell ⟨w.heap.size + 1, 0, none⟩ u).setCell ⟨w.heap.size + 1, 1, none⟩ v).cell? ⟨w.heap.size, 3, none⟩ = some (.slice A3 n3 c3)) := Lib.hid fun w' h u v =>
    have f := ((hfc.below h).other (a := ⟨w.heap.size + 1, 0, none⟩) (by simp) u).other (a := ⟨w.heap.size + 1, 1, none⟩) (by simp) v
    ⟨f.cell 0, f.cell 1, f.cell 2, f.cell 3⟩
  have HZ1 := Lib.hid hz1
  clear hfc hfr hz1
  have hs0 : BelW W1 W1 := Below.refl _ _
  go_enter Tryz.func14, Tryz.ntmps14
  go_upto_region 1 with (fail)
  rw [← HW1.out]
  go_region_held3 (fun w' => w'.cell? ⟨w.heap.size, 0, none⟩ = some (.slice A0 n0 c0) ∧ w'.cell? ⟨w.heap.size, 1, none⟩ = some (.slice A1 n1 c1) ∧ w'.cell? ⟨w.heap.size, 2, none⟩ = some (.slice A2 n2 c2) ∧ w'.cell? ⟨w.heap.size, 3, none⟩ = some (.slice A3 n3 c3))
    ((first
      | (refine HCE.out _ ?_; first | (with_reducible assumption) | (refine BelW.drew ?_; with_reducible assumption))
      | (refine HFS.out _ ?_ _ _; first | (with_reducible assumption) | (refine BelW.drew ?_; with_reducible assumption))))
    (first
      | (have hq9 := hsS
         go_at_call 45
         (with_reducible refine Calls.mono (HU2.out _) ?_)
         rintro e w8 ⟨gS, rfl, hvS, hzS, hb8⟩
         have hs8 : BelW W1 w8 := (by refine BelW.next ?_ hb8; first | (with_reducible assumption) | (refine BelW.drew ?_; with_reducible assumption))
         have hv8 := VRow.below (VRow.below hvI hbS) hb8
         have r0 := (HFR.out _ hs8).cell 0
         have r1 := (HFR.out _ hs8).cell 1
         have f0 := (HFR.out _ hs8).frozen 0
         have f1 := (HFR.out _ hs8).frozen 1)
      | (go_at_call 47; (with_reducible refine Calls.mono (HST.out _ ?_) ?_); · (first | (with_reducible assumption) | (refine BelW.drew ?_; with_reducible assumption))
         rintro e wS ⟨A, rfl, hbS⟩
         have hsS : BelW W1 wS := (by refine BelW.next ?_ hbS; first | (with_reducible assumption) | (refine BelW.drew ?_; with_reducible assumption)))
      | (go_at_call 45
         (with_reducible refine Calls.mono (HU1.out _) ?_)
         rintro e wI ⟨gI, rfl, hvI, hzI, hbI⟩
         have hsI : BelW W1 wI := (by refine BelW.next ?_ hbI; first | (with_reducible assumption) | (refine BelW.drew ?_; with_reducible assumption)))
      | (go_at_call 46; (with_reducible refine Calls.mono (HIN.out _ ?_) ?_); · (first | (with_reducible assumption) | (refine BelW.drew ?_; with_reducible assumption))
         rintro e wA ⟨A, rfl, hbA⟩
         have hsA : BelW W1 wA := (by refine BelW.next ?_ hbA; first | (with_reducible assumption) | (refine BelW.drew ?_; with_reducible assumption))))
  have hq := ((HFR.out _ hs8).set 0 (.slice (some ⟨gI, 0, none⟩) mi mi)).set 1 (.slice (some ⟨gS, 0, none⟩) ms ms)
  have k0 := HZ1.out
  have k1 := Below.size hsA
  have k2 := Below.size hsS
  have n1' : w.heap.size + 1 ≠ gI := by omega
  have n2' : w.heap.size + 1 ≠ gS := by omega
  have hbe := (Below.setCell (p := ⟨w.heap.size + 1, 1, none⟩) (Below.setCell (p := ⟨w.heap.size + 1, 0, none⟩) (joinB HB1.out hs8) (by show w.heap.size ≤ w.heap.size + 1; omega) (.slice (some ⟨gI, 0, none⟩) mi mi)) (by show w.heap.size ≤ w.heap.size + 1; omega) (.slice (some ⟨gS, 0, none⟩) ms ms))
  have HEND := Lib.hid (And.intro (((hv8.other (a := ⟨w.heap.size + 1, 0, none⟩) n1' (.slice (some ⟨gI, 0, none⟩) mi mi)).other (a := ⟨w.heap.size + 1, 1, none⟩) n1' (.slice (some ⟨gS, 0, none⟩) ms ms))) (And.intro ((hvS.other (a := ⟨w.heap.size + 1, 0, none⟩) n2' (.slice (some ⟨gI, 0, none⟩) mi mi)).other (a := ⟨w.heap.size + 1, 1, none⟩) n2' (.slice (some ⟨gS, 0, none⟩) ms ms)) hbe))
  have HQ := Lib.hid hq
  clear k0 k1 k2 hbe hq
  go_wp2
  (try simp only [Exit.inBlock, Exit.then])
  refine bodyPost_ret (results_cell_row rfl _ _ _ _ _ _ _ rfl HQ.out Tryz.underlying50 rfl (by kernel_rfl)) rfl ?_
  exact ⟨gI, gS, rfl, HEND.out.1, HEND.out.2.1, HEND.out.2.2⟩

set_option maxRecDepth 100000 in
set_option maxHeartbeats 4000000 in
theorem scheck_any (c : Ck) (pin pst : List Int) (A0 A1 A2 A3 Ai As : Option Addr) (c0 c1 c2 c3 ci cs : Nat) (w : World) (B : Nat) (hB : B ≤ w.heap.size) (hT : Tabs w)
    (hc : Cir w B (.agg #[.slice A0 c.nodes.length c0, .slice A1 c.names.length c1, .slice A2 c.mems.length c2, .slice A3 c.outs.length c3]) c) (hi : Ks w B (.slice Ai pin.length ci) pin) (hs : Ks w B (.slice As pst.length cs) pst) (hsz : c.nodes.length ≤ 1000000) :
    Calls Tryz.prog 78 #[.agg #[.slice A0 c.nodes.length c0, .slice A1 c.names.length c1, .slice A2 c.mems.length c2, .slice A3 c.outs.length c3], .agg #[.slice Ai pin.length ci, .slice As pst.length cs]] w
      fun e w' => e = .returned (.int .i64 (ckE c pin pst)) ∧ Below w.heap.size w w' := by
  obtain ⟨W1, HW1⟩ := named ((w.alloc (.cells #[.slice A0 c.nodes.length c0, .slice A1 c.names.length c1, .slice A2 c.mems.length c2, .slice A3 c.outs.length c3] 46)).alloc (.cells #[.slice Ai pin.length ci, .slice As pst.length cs] 50))
  have hb1 : Below w.heap.size w W1 := by rw [HW1.out]; exact below_new (below_new (Below.refl _ _) _) _
  have hfc : Fr W1 w.heap.size 46 [.slice A0 c.nodes.length c0, .slice A1 c.names.length c1, .slice A2 c.mems.length c2, .slice A3 c.outs.length c3] := by rw [HW1.out]; exact Fr.alloc (Fr.made _ _ _ rfl) _
  have hfp : Fr W1 (w.heap.size + 1) 50 [.slice Ai pin.length ci, .slice As pst.length cs] := by rw [HW1.out]; exact Fr.made _ _ _ (by simp)
  have hBW : ∀ {W}, BelW W1 W → B ≤ W.heap.size := fun {W} h => Nat.le_trans hB (joinB hb1 h).size
  have hcW : ∀ {W}, BelW W1 W → Cir W B (.agg #[.slice A0 c.nodes.length c0, .slice A1 c.names.length c1, .slice A2 c.mems.length c2, .slice A3 c.outs.length c3]) c := fun {W} h => hc.below ((joinB hb1 h).mono hB)
  have HCK : Hid (∀ W, BelW W1 W → Calls Tryz.prog 99 #[.agg #[.slice A0 c.nodes.length c0, .slice A1 c.names.length c1, .slice A2 c.mems.length c2, .slice A3 c.outs.length c3]] W fun e w' => e = .returned (.int .i64 (chkErr c)) ∧ BelW W w') := Lib.hid fun W hb => check_any c _ W B (hBW hb) (hT.below (joinB hb1 hb)) (hcW hb)
  have HCP : Hid (∀ W, BelW W1 W → Calls Tryz.prog 49 #[.agg #[.slice A0 c.nodes.length c0, .slice A1 c.names.length c1, .slice A2 c.mems.length c2, .slice A3 c.outs.length c3], .agg #[.slice Ai pin.length ci, .slice As pst.length cs]] W fun e w' => e = .returned (.int .i64 (cpE c pin pst)) ∧ BelW W w') := Lib.hid fun W hb =>
    cpat_any c pin pst A0 A1 A2 A3 Ai As c0 c1 c2 c3 ci cs W B (hBW hb) (hcW hb) (Arr.keep stays_u8 hi (Nat.le_refl _) fun _ hp => (joinB hb1 hb).cell (Nat.lt_of_lt_of_le hp hB)) (Arr.keep stays_u8 hs (Nat.le_refl _) fun _ hp => (joinB hb1 hb).cell (Nat.lt_of_lt_of_le hp hB)) hsz
  have HE : Hid (ckE c pin pst = if chkErr c ≠ 0 then chkErr c else cpE c pin pst) := Lib.hid rfl
  have HB1 := Lib.hid hb1
  clear hc hi hs hb1 hBW hcW hT
  obtain ⟨r, HR⟩ := named (ckE c pin pst)
  obtain ⟨z, HZ⟩ := named (chkErr c)
  obtain ⟨y, HY⟩ := named (cpE c pin pst)
  rw [← HR.out, ← HZ.out, ← HY.out] at HE
  rw [← HZ.out] at HCK
  rw [← HY.out] at HCP
  rw [← HR.out]
  clear HR HZ HY
  generalize c.nodes.length = n0 at HW1 hfc HCK HCP ⊢
  generalize c.names.length = n1 at HW1 hfc HCK HCP ⊢
  generalize c.mems.length = n2 at HW1 hfc HCK HCP ⊢
  generalize c.outs.length = n3 at HW1 hfc HCK HCP ⊢
  generalize pin.length = ni at HW1 hfp HCP ⊢
  generalize pst.length = ns at HW1 hfp HCP ⊢
  have HCE : Hid (∀ w', BelW W1 w' → BelW W1 w' ∧ w'.cell? ⟨w.heap.size, 0, none⟩ = some (.slice A0 n0 c0) ∧ w'.cell? ⟨w.heap.size, 1, none⟩ = some (.slice A1 n1 c1) ∧ w'.cell? ⟨w.heap.size, 2, none⟩ = some (.slice A2 n2 c2) ∧ w'.cell? ⟨w.heap.size, 3, none⟩ = some (.slice A3 n3 c3) ∧ w'.cell? ⟨w.heap.size + 1, 0, none⟩ = some (.slice Ai ni ci) ∧ w'.cell? ⟨w.heap.size + 1, 1, none⟩ = some (.slice As ns cs)) := Lib.hid fun w' h =>
    ⟨h, (hfc.below h).cell 0, (hfc.below h).cell 1, (hfc.below h).cell 2, (hfc.below h).cell 3, (hfp.below h).cell 0, (hfp.below h).cell 1⟩
  clear hfc hfp
  have hs0 : BelW W1 W1 := Below.refl _ _
  go_enter Tryz.func78, Tryz.ntmps78
  go_upto_region 1 with (fail)
  rw [← HW1.out]
  obtain ⟨-, x0, x1, x2, x3, y0, y1⟩ := HCE.out W1 hs0
  by_cases hz : z = 0
  · subst hz
    have HEE : Hid (r = y) := Lib.hid (by rw [HE.out]; simp)
    go_wp2_with (first
      | (go_at_call 99; (with_reducible refine (HCK.out _ hs0).mono ?_); rintro e w2 ⟨rfl, hb⟩; have hs2 : BelW W1 w2 := hb; clear x0 x1 x2 x3 y0 y1; obtain ⟨-, x0, x1, x2, x3, y0, y1⟩ := HCE.out _ hb; clear hb)
      | (go_at_call 49; (with_reducible refine (HCP.out _ hs2).mono ?_); rintro e w3 ⟨rfl, hb⟩; have hs3 : BelW W1 w3 := joinB hs2 hb; clear hb))
    go_ret
    exact ⟨by rw [HEE.out]; rfl, joinB HB1.out hs3⟩
  · have HEE : Hid (r = z) := Lib.hid (by rw [HE.out, if_pos hz])
    have q0 : (z == 0) = false := by simpa using hz
    have q1 : (z != 0) = true := by simpa using hz
    clear hz
    go_wp2_with (go_at_call 99; (with_reducible refine (HCK.out _ hs0).mono ?_); rintro e w2 ⟨rfl, hb⟩; have hs2 : BelW W1 w2 := hb; clear hb x0 x1 x2 x3 y0 y1)
    go_ret
    exact ⟨by rw [HEE.out]; rfl, joinB HB1.out hs2⟩

end Go.Proofs.YtemogllidmgbfaaGreatDoor

namespace Go.Proofs.YtemogllidmgbfaaGreatDoor
open Go.RowKit

set_option maxRecDepth 100000 in
set_option maxHeartbeats 4000000 in
theorem wcheck_any (c : Ck) (ps : List (List Int × List Int)) (A0 A1 A2 A3 Al : Option Addr) (c0 c1 c2 c3 np cl : Nat) (w : World) (B : Nat) (hB : B ≤ w.heap.size) (hT : Lg.Tabs w)
    (hc : Cir w B (.agg #[.slice A0 c.nodes.length c0, .slice A1 c.names.length c1, .slice A2 c.mems.length c2, .slice A3 c.outs.length c3]) c) (hp : Pts w B (.slice Al np cl) ps) (hsz : c.nodes.length ≤ 1000000) :
    Calls Tryz.prog 41 #[.agg #[.slice A0 c.nodes.length c0, .slice A1 c.names.length c1, .slice A2 c.mems.length c2, .slice A3 c.outs.length c3], .slice Al np cl] w
      fun e w' => e = .returned (.int .i64 (wkE c ps)) ∧ BelW w w' := by
  obtain ⟨A', b, o, c', e, hA, -, hm, hcell⟩ := id hp
  simp only [Value.slice.injEq] at e
  obtain ⟨rfl, hpl, rfl⟩ := e
  rw [← hpl] at hA hm hcell
  unfold maxLen at hm
  obtain ⟨W1, HW1⟩ := named (w.alloc (.cells #[.slice A0 c.nodes.length c0, .slice A1 c.names.length c1, .slice A2 c.mems.length c2, .slice A3 c.outs.length c3] 46))
  have hb1 : BelW w W1 := by rw [HW1.out]; exact below_new (Below.refl _ _) _
  have hfc : Fr W1 w.heap.size 46 [.slice A0 c.nodes.length c0, .slice A1 c.names.length c1, .slice A2 c.mems.length c2, .slice A3 c.outs.length c3] := by rw [HW1.out]; exact Fr.made _ _ _ rfl
  have hBW : ∀ {W}, BelW W1 W → B ≤ W.heap.size := fun {W} h => Nat.le_trans hB (Below.size (joinB hb1 h))
  have hcW : ∀ {W}, BelW W1 W → Cir W B (.agg #[.slice A0 c.nodes.length c0, .slice A1 c.names.length c1, .slice A2 c.mems.length c2, .slice A3 c.outs.length c3]) c := fun {W} h => hc.below ((joinB hb1 h).mono hB)
  have hpW : ∀ {W}, BelW W1 W → Pts W B (.slice Al np cl) ps := fun {W} h => Arr.keep stays_pat hp (Nat.le_refl _) fun _ hp => Below.cell (joinB hb1 h) (Nat.lt_of_lt_of_le hp hB)
  have hTW : ∀ {W}, BelW W1 W → Lg.Tabs W := fun {W} h => hT.below (joinB hb1 h)
  obtain ⟨mi, HMI⟩ := named (ofTo c.nodes [0] c.nodes.length).length
  obtain ⟨ms, HMS⟩ := named (ofTo c.nodes [14] c.nodes.length).length
  have HBL : Hid (∀ W, BelW W1 W → Calls Tryz.prog 14 #[.agg #[.slice A0 c.nodes.length c0, .slice A1 c.names.length c1, .slice A2 c.mems.length c2, .slice A3 c.outs.length c3]] W (BlkPost mi ms W)) :=
    Lib.hid fun W h => by
      have := blank_any c A0 A1 A2 A3 c0 c1 c2 c3 W B (hBW h) (hcW h) hsz
      rw [← HMI.out, ← HMS.out] at this
      exact this
  have HSC : Hid (∀ W g h, BelW W1 W → VRow W g (List.replicate mi 2) → VRow W h (List.replicate ms 2) → Calls Tryz.prog 78 #[.agg #[.slice A0 c.nodes.length c0, .slice A1 c.names.length c1, .slice A2 c.mems.length c2, .slice A3 c.outs.length c3], .agg #[.slice (some ⟨g, 0, none⟩) mi mi, .slice (some ⟨h, 0, none⟩) ms ms]] W fun e w' => e = .returned (.int .i64 (blE c)) ∧ BelW W w') :=
    Lib.hid fun W g h hb h1 h2 => by
      have := scheck_any c (List.replicate mi 2) (List.replicate ms 2) A0 A1 A2 A3 (some ⟨g, 0, none⟩) (some ⟨h, 0, none⟩) c0 c1 c2 c3 mi ms W W.heap.size (Nat.le_refl _) (tabs_lg (hTW hb)) ((hcW hb).more (hBW hb)) (by have := h1.ks; simpa using this) (by have := h2.ks; simpa using this) hsz
      rw [List.length_replicate, List.length_replicate] at this
      unfold blE
      rw [← HMI.out, ← HMS.out]
      exact this
  have HIX : Hid (∀ W q d1 d2 Bi Bs, BelW W1 W → np ≤ 64 → W.cell? ⟨q, 0, none⟩ = some (.slice Bi mi d1) → W.cell? ⟨q, 1, none⟩ = some (.slice Bs ms d2) → Calls Tryz.prog 79 #[.slice Al np cl, .func (.func 80) #[] #[.pointer (some ⟨q, 0, none⟩)]] W fun e w' => ∃ i, e = .returned (.int .i64 i) ∧ FirstBad ps ps.length (ofTo c.nodes [0] c.nodes.length).length (ofTo c.nodes [14] c.nodes.length).length i ∧ BelW W w') :=
    Lib.hid fun W q d1 d2 Bi Bs hb hn h1 h2 => by
      have := indexP_any ps Al Bi Bs np cl d1 d2 mi ms q W B (hBW hb) (hpW hb) hn h1 h2
      rw [HMI.out, HMS.out, hpl] at this
      rw [hpl]
      exact this
  obtain ⟨ce, HCE0⟩ : ∃ ce : Nat → Int, Hid (∀ k, ce k = ckE c (ps.getD k ([], [])).1 (ps.getD k ([], [])).2) := ⟨_, Lib.hid fun _ => rfl⟩
  have HPT : Hid (∀ W, BelW W1 W → ∀ k, k < np → ∃ Ai As ni ns ci cs, Al = some ⟨b, o, none⟩ ∧ W.cell? ⟨b, o + k * 2, none⟩ = some (.slice Ai ni ci) ∧ W.cell? ⟨b, o + k * 2 + 1, none⟩ = some (.slice As ns cs) ∧ ∀ W2, BelW W1 W2 → Calls Tryz.prog 78 #[.agg #[.slice A0 c.nodes.length c0, .slice A1 c.names.length c1, .slice A2 c.mems.length c2, .slice A3 c.outs.length c3], .agg #[.slice Ai ni ci, .slice As ns cs]] W2 fun e w' => e = .returned (.int .i64 (ce k)) ∧ BelW W2 w') := Lib.hid fun W h k hk => by
    obtain ⟨hbb, Ai, As, ci, cs, h1, h2, h3, h4⟩ := hcell k hk
    refine ⟨Ai, As, _, _, ci, cs, hA (by omega), (Below.cell (joinB hb1 h) (p := ⟨b, _, none⟩) (Nat.lt_of_lt_of_le hbb hB)).trans h1, (Below.cell (joinB hb1 h) (p := ⟨b, _, none⟩) (Nat.lt_of_lt_of_le hbb hB)).trans h2, fun W2 hW2 => ?_⟩
    have hw2 := joinB hb1 hW2
    rw [HCE0.out]
    exact scheck_any c _ _ A0 A1 A2 A3 Ai As c0 c1 c2 c3 ci cs W2 B (hBW hW2) (tabs_lg (hTW hW2)) (hcW hW2) (Arr.keep stays_u8 h3 (Nat.le_refl _) fun _ hp => Below.cell hw2 (Nat.lt_of_lt_of_le hp hB)) (Arr.keep stays_u8 h4 (Nat.le_refl _) fun _ hp => Below.cell hw2 (Nat.lt_of_lt_of_le hp hB)) hsz
  have HLIM : Hid (64 < np → wkE c ps = 3) := Lib.hid fun h => by unfold wkE; rw [if_pos (by omega)]
  have HNOL : Hid (¬ 64 < np → wkE c ps = foldE c (blE c) ps) := Lib.hid fun h => by unfold wkE; rw [if_neg (by omega)]
  have HNZ : Hid (blE c ≠ 0 → foldE c (blE c) ps = blE c) := Lib.hid fun h => foldE_nz h ps
  have HFI : Hid (blE c = 0 → ∀ i, FirstBad ps ps.length (ofTo c.nodes [0] c.nodes.length).length (ofTo c.nodes [14] c.nodes.length).length i → (i = -1 ∧ foldE c (blE c) ps = 0) ∨ ∃ k : Nat, k < np ∧ i = (k : Int) ∧ foldE c (blE c) ps = ce k) := Lib.hid fun h i hf => by
    rw [hpl]
    rcases first_fold (blE_zero h).1 (blE_zero h).2 hf with h1 | ⟨k, hk, e1, e2⟩
    · exact .inl h1
    · exact .inr ⟨k, hk, e1, by rw [HCE0.out]; exact e2⟩
  obtain ⟨FB, HFB⟩ : ∃ FB : Int → Prop, FB = fun i => FirstBad ps ps.length (ofTo c.nodes [0] c.nodes.length).length (ofTo c.nodes [14] c.nodes.length).length i := ⟨_, rfl⟩
  have HIX2 : Hid (∀ W q d1 d2 Bi Bs, BelW W1 W → np ≤ 64 → W.cell? ⟨q, 0, none⟩ = some (.slice Bi mi d1) → W.cell? ⟨q, 1, none⟩ = some (.slice Bs ms d2) → Calls Tryz.prog 79 #[.slice Al np cl, .func (.func 80) #[] #[.pointer (some ⟨q, 0, none⟩)]] W fun e w' => ∃ i, e = .returned (.int .i64 i) ∧ FB i ∧ BelW W w') := Lib.hid (by rw [HFB]; exact HIX.out)
  have HFI2 : Hid (blE c = 0 → ∀ i, FB i → (i = -1 ∧ foldE c (blE c) ps = 0) ∨ ∃ k : Nat, k < np ∧ i = (k : Int) ∧ foldE c (blE c) ps = ce k) := Lib.hid (by rw [HFB]; exact HFI.out)
  have HB1 := Lib.hid hb1
  have hs0 : BelW W1 W1 := Below.refl _ _
  clear HIX HFI HFB hc hp hb1 hBW hcW hpW hTW hT hcell hpl hA HCE0
  obtain ⟨r, HR⟩ := named (wkE c ps)
  rw [← HR.out] at HLIM HNOL ⊢
  obtain ⟨z, HZ⟩ := named (blE c)
  rw [← HZ.out] at HSC HNOL HNZ HFI2
  obtain ⟨fo, HFO⟩ := named (foldE c z ps)
  rw [← HFO.out] at HNOL HNZ HFI2
  clear HR HZ HFO HMI HMS
  generalize c.nodes.length = n0 at HW1 hfc HBL HSC HPT hsz ⊢
  generalize c.names.length = n1 at HW1 hfc HBL HSC HPT ⊢
  generalize c.mems.length = n2 at HW1 hfc HBL HSC HPT ⊢
  generalize c.outs.length = n3 at HW1 hfc HBL HSC HPT ⊢
  have HCE : Hid (∀ w', BelW W1 w' → w'.cell? ⟨w.heap.size, 0, none⟩ = some (.slice A0 n0 c0) ∧ w'.cell? ⟨w.heap.size, 1, none⟩ = some (.slice A1 n1 c1) ∧ w'.cell? ⟨w.heap.size, 2, none⟩ = some (.slice A2 n2 c2) ∧ w'.cell? ⟨w.heap.size, 3, none⟩ = some (.slice A3 n3 c3)) := Lib.hid fun w' h =>
    ⟨(hfc.below h).cell 0, (hfc.below h).cell 1, (hfc.below h).cell 2, (hfc.below h).cell 3⟩
  clear hfc
  by_cases hl : 64 < np
  · have e3 := HLIM.out hl
    subst e3
    have hl' : (64 : Int) < (np : Int) := by omega
    go_enter Tryz.func41, Tryz.ntmps41
    go_upto_region 1 with (fail)
    rw [← HW1.out]
    go_wp2
    go_ret
    exact ⟨rfl, HB1.out⟩
  have e3 := HNOL.out hl
  subst e3
  have hl' : ¬ (64 : Int) < (np : Int) := by omega
  have hl2 : np ≤ 64 := by omega
  clear HLIM HNOL
  go_enter Tryz.func41, Tryz.ntmps41
  go_upto_region 1 with (fail)
  rw [← HW1.out]
  obtain ⟨x0, x1, x2, x3⟩ := HCE.out W1 hs0
  go_upto_region 4 with (go_at_call 14; (with_reducible refine (HBL.out _ hs0).mono ?_); rintro e w2 ⟨g, h, rfl, hg, hh, hb⟩; have HG := Lib.hid hg; have HH := Lib.hid hh; have hs2 : BelW W1 w2 := hb; clear hg hh hb)
  obtain ⟨V2, HV2⟩ := named (w2.alloc (.cells #[.slice (some ⟨g, 0, none⟩) mi mi, .slice (some ⟨h, 0, none⟩) ms ms] 50))
  have hn2 : BelW w2 V2 := by rw [HV2.out]; exact below_new (Below.refl _ _) _
  have hfp : Fr V2 w2.heap.size 50 [.slice (some ⟨g, 0, none⟩) mi mi, .slice (some ⟨h, 0, none⟩) ms ms] := by rw [HV2.out]; exact Fr.made _ _ _ rfl
  have hs3 : BelW W1 V2 := joinB hs2 hn2
  have HG2 := Lib.hid (HG.out.below hn2)
  have HH2 := Lib.hid (HH.out.below hn2)
  obtain ⟨q, HQ⟩ := named w2.heap.size
  rw [← HQ.out] at hfp
  rw [← HV2.out, ← HQ.out]
  clear x0 x1 x2 x3 hn2
  obtain ⟨x0, x1, x2, x3⟩ := HCE.out V2 hs3
  have y0 := hfp.cell 0
  have y1 := hfp.cell 1
  have HFP := Lib.hid hfp
  clear hfp
  by_cases hz : z = 0
  rotate_left
  · have e4 := HNZ.out hz
    subst e4
    have q0 : (r == 0) = false := by simpa using hz
    have q1 : (r != 0) = true := by simpa using hz
    clear hz
    go_wp2_with (go_at_call 78; (with_reducible refine (HSC.out _ _ _ hs3 HG2.out HH2.out).mono ?_); rintro e w3 ⟨rfl, hb⟩; have hs4 : BelW W1 w3 := joinB hs3 hb; clear hb x0 x1 x2 x3 y0 y1)
    go_ret
    exact ⟨rfl, joinB HB1.out hs4⟩
  · have HF0 := Lib.hid (HFI2.out hz)
    subst hz
    clear HFI2 HNZ
    go_upto_region 7 with (go_at_call 78; (with_reducible refine (HSC.out _ _ _ hs3 HG2.out HH2.out).mono ?_); rintro e w3 ⟨rfl, hb⟩; have hs4 : BelW W1 w3 := joinB hs3 hb; have HB3 : Hid (BelW V2 w3) := Lib.hid hb; clear hb x0 x1 x2 x3 y0 y1)
    have hfp3 := HFP.out.below HB3.out
    have y0 := hfp3.cell 0
    have y1 := hfp3.cell 1
    go_upto_region 8 with (go_at_call 79; (with_reducible refine (HIX2.out _ _ _ _ _ _ hs4 hl2 y0 y1).mono ?_); rintro e w4 ⟨i, rfl, hi, hb⟩; have HI := Lib.hid hi; have hs5 : BelW W1 w4 := joinB hs4 hb; clear hi hb)
    clear y0 y1 hfp3
    rcases HF0.out i HI.out with ⟨rfl, e5⟩ | ⟨k, hk, rfl, e5⟩
    · subst e5
      go_wp2
      go_ret
      exact ⟨rfl, joinB HB1.out hs5⟩
    · subst e5
      obtain ⟨Ai, As, ni, ns, ci, cs, rfl, u0, u1, hsc⟩ := HPT.out w4 hs5 k hk
      have HSK := Lib.hid (fun W2 (h : BelW w4 W2) => hsc W2 (joinB hs5 h))
      clear hsc
      obtain ⟨x0, x1, x2, x3⟩ := HCE.out w4 hs5
      have hk2 : (k : Int) < (np : Int) := by omega
      have HKE : Hid (∀ w', BelW w4 w' → BelW w4 w' ∧ w'.cell? ⟨w.heap.size, 0, none⟩ = some (.slice A0 n0 c0) ∧ w'.cell? ⟨w.heap.size, 1, none⟩ = some (.slice A1 n1 c1) ∧ w'.cell? ⟨w.heap.size, 2, none⟩ = some (.slice A2 n2 c2) ∧ w'.cell? ⟨w.heap.size, 3, none⟩ = some (.slice A3 n3 c3) ∧ w'.cell? ⟨b, o + k * 2, none⟩ = some (.slice Ai ni ci) ∧ w'.cell? ⟨b, o + k * 2 + 1, none⟩ = some (.slice As ns cs)) := Lib.hid fun w' h => by
        obtain ⟨z0, z1, z2, z3⟩ := HCE.out w' (joinB hs5 h)
        exact ⟨h, z0, z1, z2, z3, (Below.cell h (p := ⟨b, _, none⟩) (cell_lt u0)).trans u0, (Below.cell h (p := ⟨b, _, none⟩) (cell_lt u1)).trans u1⟩
      have HS5 := Lib.hid hs5
      have hs9 : BelW w4 w4 := Below.refl _ _
      clear HPT HF0 HI hs5 hs4 hs3 hs2
      go_wp2
      go_region_held3 (fun w' => BelW w4 w' ∧ w'.cell? ⟨w.heap.size, 0, none⟩ = some (.slice A0 n0 c0) ∧ w'.cell? ⟨w.heap.size, 1, none⟩ = some (.slice A1 n1 c1) ∧ w'.cell? ⟨w.heap.size, 2, none⟩ = some (.slice A2 n2 c2) ∧ w'.cell? ⟨w.heap.size, 3, none⟩ = some (.slice A3 n3 c3) ∧ w'.cell? ⟨b, o + k * 2, none⟩ = some (.slice Ai ni ci) ∧ w'.cell? ⟨b, o + k * 2 + 1, none⟩ = some (.slice As ns cs))
        ((refine HKE.out _ ?_; first | (with_reducible assumption) | (refine BelW.drew ?_; with_reducible assumption)))
        (first
          | (go_at_call 78; (with_reducible refine Calls.mono (HSK.out _ ?_) ?_); · (first | (with_reducible assumption) | (refine BelW.drew ?_; with_reducible assumption))
             rintro e w6 ⟨rfl, hb6⟩
             have hs6 : BelW w4 w6 := (by refine BelW.next ?_ hb6; first | (with_reducible assumption) | (refine BelW.drew ?_; with_reducible assumption))))
      go_wp2
      go_ret
      exact ⟨rfl, joinB HB1.out (joinB HS5.out hs6)⟩
end Go.Proofs.YtemogllidmgbfaaGreatDoor

namespace Go.Proofs.YtemogllidmgbfaaGreatDoor
open Go.RowKit

theorem flatW_u64 {l : List (Nat × Nat)} {j : Nat} {v : Value} (h : (flatW l)[j]? = some v) : ∃ x : Nat, v = .int .u64 (x : Int) := by
  obtain ⟨k, hk⟩ : ∃ k, j = k * 2 ∨ j = k * 2 + 1 := ⟨j / 2, by omega⟩
  rcases hk with rfl | rfl
  · rw [(flatW_get l k).1] at h
    obtain ⟨x, -, rfl⟩ := Option.map_eq_some_iff.1 h
    exact ⟨_, rfl⟩
  · rw [(flatW_get l k).2] at h
    obtain ⟨x, -, rfl⟩ := Option.map_eq_some_iff.1 h
    exact ⟨_, rfl⟩
/-- A number of Go's int lies in no row of words. -/
theorem WRow.ne {w : World} {g b j : Nat} {l : List (Nat × Nat)} {x : Int} (h : WRow w g l) (hc : w.cell? ⟨b, j, none⟩ = some (.int .i64 x)) : b ≠ g := by
  rintro rfl
  rw [h.1.cell] at hc
  obtain ⟨y, hy⟩ := flatW_u64 hc
  cases hy
theorem asgW_take {k : Nat} : ∀ {l : List Int} {vs out : Wls}, k < l.length → k < vs.length → asgW out (l.take (k + 1)) (vs.take (k + 1)) = (asgW out (l.take k) (vs.take k)).set (l.getD k 0).toNat (vs.getD k (0, 0)) := by
  induction k with
  | zero =>
    intro l vs out h1 h2
    cases l with
    | nil => exact absurd h1 (by simp)
    | cons x l =>
      cases vs with
      | nil => exact absurd h2 (by simp)
      | cons v vs => rfl
  | succ k ih =>
    intro l vs out h1 h2
    cases l with
    | nil => exact absurd h1 (by simp)
    | cons x l =>
      cases vs with
      | nil => exact absurd h2 (by simp)
      | cons v vs => exact ih (out := out.set x.toNat v) (by simpa using h1) (by simpa using h2)
theorem asgW_all {l : List Int} {vs out : Wls} (h : l.length = vs.length) : asgW out (l.take l.length) (vs.take l.length) = asgW out l vs := by
  rw [List.take_of_length_le (Nat.le_refl _), List.take_of_length_le (by omega)]
theorem rowW_at {l : List (List Int)} {m k : Nat} (hk : k < m) : (rowW l m).getD k (0, 0) = colW l k := by
  unfold rowW
  rw [List.getD_eq_getElem?_getD, List.getElem?_map, List.getElem?_range hk]
  rfl
theorem colW_1 {ps : List (List Int × List Int)} {n : Nat} (hn : n = ps.length) (h : n ≤ 64) (i : Nat) : colW (ps.map (·.1)) i = (pkA (col1 ps i) n, pkB (col1 ps i) n) := by
  unfold colW col1
  rw [List.length_map, List.map_map, ← hn, Nat.min_eq_left h]
  rfl
theorem colW_2 {ps : List (List Int × List Int)} {n : Nat} (hn : n = ps.length) (h : n ≤ 64) (i : Nat) : colW (ps.map (·.2)) i = (pkA (col2 ps i) n, pkB (col2 ps i) n) := by
  unfold colW col2
  rw [List.length_map, List.map_map, ← hn, Nat.min_eq_left h]
  rfl
end Go.Proofs.YtemogllidmgbfaaGreatDoor
