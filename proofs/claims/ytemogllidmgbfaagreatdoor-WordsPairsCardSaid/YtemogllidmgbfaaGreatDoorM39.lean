/- The texts Wru Sml Wun Lq7. -/
import Derived.Test.YtemogllidmgbfaaGreatDoorM36
import Derived.Test.YtemogllidmgbfaaGreatDoorM37
import Derived.Test.YtemogllidmgbfaaGreatDoorM38
import Derived.Test.YtemogllidmgbfaaGreatDoorM18
import Derived.Test.YtemogllidmgbfaaGreatDoorM17
import Derived.Deep.AppendLies
import Derived.Test.YtemogllidmgbfaaGreatDoorM30
import Derived.Test.YtemogllidmgbfaaGreatDoorM21
import Derived.Deep.DeepCutAuto
import Derived.Test.YtemogllidmgbfaaGreatDoorM19
namespace Go.Proofs.YtemogllidmgbfaaGreatDoor
open Go.RowKit

def respW (c : Ck) (out : Wls) (i : Nat) : List Int × List Int := (outV c (lanes out i), nextV c (lanes out i))
/-- What Run returns without an error: the words of the nets, of which Q says more, and the responses of the lanes. -/
def RunQ (c : Ck) (np : Nat) (Q : Wls → Prop) (w : World) (e : Ending) (w' : World) : Prop :=
  ∃ gr g out, e = .returned (.tuple #[.slice (some ⟨gr, 0, none⟩) np np, .slice (some ⟨g, 0, none⟩) c.nodes.length c.nodes.length, .int .i64 0]) ∧ Q out ∧ WRow w' g out ∧ WOk out ∧ out.length = c.nodes.length ∧ RRow w' gr (respW c out) np np ∧ BelW w w'
set_option maxRecDepth 100000 in
set_option maxHeartbeats 4000000 in
theorem wrun_gen (c : Ck) (ps : List (List Int × List Int)) (A0 A1 A2 A3 Al : Option Addr) (c0 c1 c2 c3 np cl : Nat) (w : World) (B : Nat) (hB : B ≤ w.heap.size) (hT : Lg.Tabs w) (hft : Ft w)
    (hc : Cir w B (.agg #[.slice A0 c.nodes.length c0, .slice A1 c.names.length c1, .slice A2 c.mems.length c2, .slice A3 c.outs.length c3]) c) (hp : Pts w B (.slice Al np cl) ps) (hsz : c.nodes.length ≤ 1000000) (hos : c.outs.length ≤ 17592186044416) (hne : wkE c ps = 0) (hnp : np ≤ 64)
    (Q : Wls → Prop) (hsim : ∀ W, BelW w W → Calls Tryz.prog 42 #[.agg #[.slice A0 c.nodes.length c0, .slice A1 c.names.length c1, .slice A2 c.mems.length c2, .slice A3 c.outs.length c3], .slice Al np cl] W fun e w' => ∃ g out, e = .returned (.slice (some ⟨g, 0, none⟩) c.nodes.length c.nodes.length) ∧ WRow w' g out ∧ WOk out ∧ out.length = c.nodes.length ∧ Q out ∧ W.heap.size ≤ g ∧ BelW W w') :
    Calls Tryz.prog 13 #[.agg #[.slice A0 c.nodes.length c0, .slice A1 c.names.length c1, .slice A2 c.mems.length c2, .slice A3 c.outs.length c3], .slice Al np cl] w (RunQ c np Q w) := by
  obtain ⟨W1, HW1⟩ := named (w.alloc (.cells #[.slice A0 c.nodes.length c0, .slice A1 c.names.length c1, .slice A2 c.mems.length c2, .slice A3 c.outs.length c3] 46))
  have hb1 : BelW w W1 := by rw [HW1.out]; exact below_new (Below.refl _ _) _
  have hfc : Fr W1 w.heap.size 46 [.slice A0 c.nodes.length c0, .slice A1 c.names.length c1, .slice A2 c.mems.length c2, .slice A3 c.outs.length c3] := by rw [HW1.out]; exact Fr.made _ _ _ rfl
  have hck : Calls Tryz.prog 41 #[.agg #[.slice A0 c.nodes.length c0, .slice A1 c.names.length c1, .slice A2 c.mems.length c2, .slice A3 c.outs.length c3], .slice Al np cl] W1 fun e w' => e = .returned (.int .i64 0) ∧ BelW W1 w' := by
    have := wcheck_any c ps A0 A1 A2 A3 Al c0 c1 c2 c3 np cl W1 B (Nat.le_trans hB (Below.size hb1)) (hT.below hb1) (hc.below (Below.mono hb1 hB)) (Arr.keep stays_pat hp (Nat.le_refl _) fun _ hp => Below.cell hb1 (Nat.lt_of_lt_of_le hp hB)) hsz
    rw [hne] at this
    exact this
  have HCK := Lib.hid hck
  have HSIM : Hid (∀ W, BelW W1 W → Calls Tryz.prog 42 #[.agg #[.slice A0 c.nodes.length c0, .slice A1 c.names.length c1, .slice A2 c.mems.length c2, .slice A3 c.outs.length c3], .slice Al np cl] W fun e w' => ∃ g out, e = .returned (.slice (some ⟨g, 0, none⟩) c.nodes.length c.nodes.length) ∧ WRow w' g out ∧ WOk out ∧ out.length = c.nodes.length ∧ Q out ∧ W.heap.size ≤ g ∧ BelW W w') := Lib.hid fun W h => hsim W (joinB hb1 h)
  have HVO : Hid (∀ W g out k, BelW W1 W → k < np → WRow W g out → WOk out → out.length = c.nodes.length → Calls Tryz.prog 44 #[.slice (some ⟨g, 0, none⟩) c.nodes.length c.nodes.length, .int .i64 (k : Int)] W fun e w' => ∃ gv, e = .returned (.slice (some ⟨gv, 0, none⟩) c.nodes.length c.nodes.length) ∧ VRow w' gv (lanes out k) ∧ W.heap.size ≤ gv ∧ BelW W w') := Lib.hid fun W g out k h hk hr hok hl => by
    have hwd := hr.wd fun k _ => hok k
    rw [hl] at hwd
    exact valof_any out _ _ _ k (by omega) W W.heap.size (Nat.le_refl _) (hft.below (joinB hb1 h)) hwd hsz
  have HOB : Hid (∀ W gv out k, BelW W1 W → out.length = c.nodes.length → VRow W gv (lanes out k) → Calls Tryz.prog 43 #[.agg #[.slice A0 c.nodes.length c0, .slice A1 c.names.length c1, .slice A2 c.mems.length c2, .slice A3 c.outs.length c3], .slice (some ⟨gv, 0, none⟩) c.nodes.length c.nodes.length] W (RespPost (respW c out k).1 (respW c out k).2 W)) := Lib.hid fun W gv out k h hl hv => by
    have hk := hv.ks
    rw [lanes_len, hl] at hk
    exact observe_any c (lanes out k) A0 A1 A2 A3 _ c0 c1 c2 c3 _ _ W W.heap.size (Nat.le_refl _) ((hc.below (Below.mono (joinB hb1 h) hB)).more (Nat.le_trans hB (Below.size (joinB hb1 h)))) hk hsz hos
  obtain ⟨i0, hi0, hz0, hz1, hz2⟩ := info_parts info_resp
  have HI := Lib.hid (And.intro hi0 (And.intro hz0 (And.intro hz1 hz2)))
  have HB1 := Lib.hid hb1
  have HP : Hid (∀ e w', RunQ c np Q w e w' ↔ ∃ gr g out, e = .returned (.tuple #[.slice (some ⟨gr, 0, none⟩) np np, .slice (some ⟨g, 0, none⟩) c.nodes.length c.nodes.length, .int .i64 0]) ∧ Q out ∧ WRow w' g out ∧ WOk out ∧ out.length = c.nodes.length ∧ RRow w' gr (respW c out) np np ∧ BelW w w') := Lib.hid fun e w' => Iff.rfl
  obtain ⟨F, HF⟩ : ∃ F : Wls → Nat → List Int × List Int, F = respW c := ⟨_, rfl⟩
  rw [← HF] at HOB HP
  clear hi0 hz0 hz1 hz2 hc hp hb1 hT hft hck hsim HF
  obtain ⟨RQ, HRQ⟩ : ∃ RQ, RQ = RunQ c np Q w := ⟨_, rfl⟩
  rw [← HRQ] at HP ⊢
  clear HRQ
  generalize c.nodes.length = n0 at HW1 hfc HCK HSIM HVO HOB HP hsz ⊢
  generalize c.names.length = n1 at HW1 hfc HCK HSIM HOB ⊢
  generalize c.mems.length = n2 at HW1 hfc HCK HSIM HOB ⊢
  generalize c.outs.length = n3 at HW1 hfc HCK HSIM HOB hos ⊢
  have HCE : Hid (∀ w', BelW W1 w' → w'.cell? ⟨w.heap.size, 0, none⟩ = some (.slice A0 n0 c0) ∧ w'.cell? ⟨w.heap.size, 1, none⟩ = some (.slice A1 n1 c1) ∧ w'.cell? ⟨w.heap.size, 2, none⟩ = some (.slice A2 n2 c2) ∧ w'.cell? ⟨w.heap.size, 3, none⟩ = some (.slice A3 n3 c3)) := Lib.hid fun w' h =>
    ⟨(hfc.below h).cell 0, (hfc.below h).cell 1, (hfc.below h).cell 2, (hfc.below h).cell 3⟩
  have HLT := Lib.hid hfc.lt
  clear hfc
  have hs0 : BelW W1 W1 := Below.refl _ _
  obtain ⟨x0, x1, x2, x3⟩ := HCE.out W1 hs0
  go_enter Tryz.func13, Tryz.ntmps13
  go_upto_region 1 with (fail)
  rw [← HW1.out]
  go_upto_region 5 with (first
    | (go_at_call 41; (with_reducible refine HCK.out.mono ?_); rintro e w2 ⟨rfl, hb⟩; have hs2 : BelW W1 w2 := hb; clear hb x0 x1 x2 x3; obtain ⟨x0, x1, x2, x3⟩ := HCE.out w2 hs2)
    | (go_at_call 42; (with_reducible refine (HSIM.out _ hs2).mono ?_); rintro e w3 ⟨g, out, rfl, hr, hok, hol, hq, hgz, hb⟩; have HR3 := Lib.hid hr; have HOK := Lib.hid hok; have HOL := Lib.hid hol; have HQ := Lib.hid hq; have hs3 : BelW W1 w3 := joinB hs2 hb; clear hr hok hol hq hgz hb x0 x1 x2 x3))
  go_wp2_with (at_make; refine wpList_make_full _ rfl _ _ 54 rfl w3.heap.size 59 i0 (.agg #[.slice none 0 0, .slice none 0 0]) 2 Tryz.underlying54 HI.out.1 HI.out.2.1 HI.out.2.2.1 .i64 .i64 _ _ np rfl rfl rfl rfl ?b2 ?b3 ?b4 ?_)
  case b2 => rw [HI.out.2.2.2]; omega
  case b3 => unfold maxLen; omega
  case b4 => exact Nat.le_refl _
  intro w4 hown hgr
  rw [flatP_zero] at hown
  have hrow : RRow w4 w3.heap.size (F out) np 0 := RRow.of hown
  have hb4 : BelW w3 w4 := (Below.refl _ _).grown hgr (Nat.le_refl _) (fun k h => by cases h)
  obtain ⟨gr, HGR⟩ := named w3.heap.size
  rw [← HGR.out] at hrow
  rw [← HGR.out]
  have hgl : w3.heap.size ≤ gr := by rw [HGR.out]; exact Nat.le_refl _
  have hqg : w.heap.size ≠ gr := by have h1 := HLT.out; have h2 := Below.size hs3; omega
  have HROW := Lib.hid hrow
  have HB4 := Lib.hid hb4
  have HS3 := Lib.hid hs3
  clear hown hgr hrow hb4 hs3
  go_wp2
  go_loopw [25] (fun j wr => ∃ k : Nat, k ≤ np ∧ j = .int .i64 k ∧ RRow wr gr (F out) np k ∧ BelW w3 wr) (fun j _ => np - (intOf j).toNat)
  case atStart => exact ⟨0, Nat.zero_le _, rfl, HROW.out, HB4.out⟩
  case round =>
    obtain ⟨k, hk, rfl, hrr, hb⟩ := hrel
    have HRR := Lib.hid hrr
    have HBR := Lib.hid hb
    by_cases hlt : k < np
    · have hsr : BelW W1 wr := joinB HS3.out hb
      have HRW : Hid (∀ W, BelW wr W → WRow W g out) := Lib.hid fun W h => HR3.out.below (joinB HBR.out h)
      have HVX : Hid (∀ W, BelW wr W → Calls Tryz.prog 44 #[.slice (some ⟨g, 0, none⟩) n0 n0, .int .i64 (k : Int)] W fun e w' => ∃ gv, e = .returned (.slice (some ⟨gv, 0, none⟩) n0 n0) ∧ VRow w' gv (lanes out k) ∧ W.heap.size ≤ gv ∧ BelW W w') := Lib.hid fun W h => HVO.out W g out k (joinB hsr h) hlt (HRW.out W h) HOK.out HOL.out
      have HOX : Hid (∀ W gv, BelW wr W → VRow W gv (lanes out k) → Calls Tryz.prog 43 #[.agg #[.slice A0 n0 c0, .slice A1 n1 c1, .slice A2 n2 c2, .slice A3 n3 c3], .slice (some ⟨gv, 0, none⟩) n0 n0] W (RespPost (F out k).1 (F out k).2 W)) := Lib.hid fun W gv h hv => HOB.out W gv out k (joinB hsr h) HOL.out hv
      obtain ⟨vl9, HVL⟩ := named (lanes out k)
      rw [← HVL.out] at HVX HOX
      obtain ⟨lo, HLO⟩ := named (F out k).1
      obtain ⟨ln, HLN⟩ := named (F out k).2
      rw [← HLO.out, ← HLN.out] at HOX
      have hg0 : wr.grownBy wr (some gr) := World.grownBy.refl _ _
      have hs0 : BelW wr wr := Below.refl _ _
      obtain ⟨x0, x1, x2, x3⟩ := HCE.out wr hsr
      have hke : ∀ w', wr.grownBy w' (some gr) → wr.grownBy w' (some gr) ∧ w'.cell? ⟨w.heap.size, 0, none⟩ = some (.slice A0 n0 c0) ∧ w'.cell? ⟨w.heap.size, 1, none⟩ = some (.slice A1 n1 c1) ∧ w'.cell? ⟨w.heap.size, 2, none⟩ = some (.slice A2 n2 c2) ∧ w'.cell? ⟨w.heap.size, 3, none⟩ = some (.slice A3 n3 c3) := fun w' hg =>
        have h2 : some w.heap.size ≠ some gr := by simpa using hqg
        ⟨hg, hg.cell x0 h2, hg.cell x1 h2, hg.cell x2 h2, hg.cell x3 h2⟩
      have HKE := Lib.hid hke
      have HG0 := Lib.hid hg0
      have HGW := Lib.hid hrr.lt
      have hk2 : (k : Int) < (np : Int) := by omega
      clear hke hrr hb x0 x1 x2 x3
      go_wp2
      go_region_held3 (fun w' => wr.grownBy w' (some gr) ∧ w'.cell? ⟨w.heap.size, 0, none⟩ = some (.slice A0 n0 c0) ∧ w'.cell? ⟨w.heap.size, 1, none⟩ = some (.slice A1 n1 c1) ∧ w'.cell? ⟨w.heap.size, 2, none⟩ = some (.slice A2 n2 c2) ∧ w'.cell? ⟨w.heap.size, 3, none⟩ = some (.slice A3 n3 c3))
        ((refine HKE.out _ ?_; first | (with_reducible assumption) | (refine gdrew ?_; with_reducible assumption) | (refine grown_v (grown_v ?_ _ _) _ _; with_reducible assumption)))
        (first
          | (go_at_call 44; refine Calls.mono (HVX.out _ ?_) ?_; · (first | (with_reducible assumption) | (refine BelW.drew ?_; with_reducible assumption))
             rintro e wA ⟨gv, rfl, hvA, hgvz, hbA⟩
             have hsA : BelW wr wA := (by refine BelW.next ?_ hbA; first | (with_reducible assumption) | (refine BelW.drew ?_; with_reducible assumption))
             have hgA := gnext HG0.out hsA)
          | (go_at_call 43; refine Calls.mono (HOX.out _ _ ?_ ?_) ?_; · (with_reducible assumption)
             · (with_reducible assumption)
             rintro e wB ⟨ga, gb, rfl, va, vb, za, zb, hne', hbB⟩
             have hsB : BelW wr wB := BelW.next hsA hbB
             have hgB := gnext HG0.out hsB
             have hrB := RRow.below HRR.out hsB
             obtain ⟨u0, u1, q0, q1⟩ := RRow.there hrB hlt
             have q2 := RRow.frozen hrB (k * 2)
             have q3 := RRow.frozen hrB (k * 2 + 1)))
      have HRB := Lib.hid hrB
      have HVA := Lib.hid va
      have HVB := Lib.hid vb
      have hna : ga ≠ gr := by have h1 := HGW.out; have h2 := Below.size hsA; omega
      have hnb : gb ≠ gr := by have h1 := HGW.out; have h2 := Below.size hsA; omega
      have HSB := Lib.hid hsB
      clear hrB va vb q0 q1 q2 q3 hgB hsB hgA hvA hbA hbB hg0 hs0 hsA za zb hne' hgvz
      go_wp2
      go_roundw
      case rel =>
        refine ⟨k + 1, by omega, by go_num, ?_, BelW.set (BelW.set (joinB HBR.out HSB.out) hgl _) hgl _⟩
        have hv1 := HVA.out
        have hv2 := HVB.out
        rw [HLO.out] at hv1
        rw [HLN.out] at hv2
        have h := HRB.out.step hlt hv1 hv2 hna hnb
        rw [← HLO.out, ← HLN.out] at h
        exact h
      case measure => simp [intOf]; omega
    · obtain rfl : np = k := by omega
      clear hrr hb
      go_wp2
      go_ret3
      rw [HP.out]
      exact ⟨gr, g, out, rfl, HQ.out, HR3.out.below HBR.out, HOK.out, HOL.out, HRR.out, joinB HB1.out (joinB HS3.out HBR.out)⟩
end Go.Proofs.YtemogllidmgbfaaGreatDoor

namespace Go.Proofs.YtemogllidmgbfaaGreatDoor
open Go.RowKit

theorem text_vr {W : World} {g : Nat} {s : ByteArray} {l : List Int} (h : VRow W g l) (ht : TV s l) (hT : Lg.Tabs W) :
    Calls Tryz.prog 23 #[.slice (some ⟨g, 0, none⟩) l.length l.length] W fun e w' => e = .returned (.string s) ∧ BelW W w' := by
  have h1 := Lg.text_any (Nat.le_refl _) h.ks.vs ht.2.1 ht.2.2 hT
  rw [ht.1] at h1
  exact h1
theorem ks_new (w : World) (l : List Int) (t : TypeId) (hm : l.length ≤ maxLen) : Ks (w.alloc (.cells (l.map (Value.int .u8)).toArray t)) (w.alloc (.cells (l.map (Value.int .u8)).toArray t)).heap.size (.slice (some ⟨w.heap.size, 0, none⟩) l.length l.length) l :=
  ⟨_, w.heap.size, 0, _, rfl, fun _ => rfl, Nat.le_refl _, hm, fun k hk => ⟨by simp, by
    unfold U8At
    rw [cell_of_row _ w.heap.size _ _ t _ (heap_alloc_new _ _)]
    simp [hk, List.getD_eq_getElem?_getD]⟩⟩
end Go.Proofs.YtemogllidmgbfaaGreatDoor

namespace Go.Proofs.YtemogllidmgbfaaGreatDoor
open Go.RowKit

/-- The first k of m values unpacked. -/
def unp (a b m k : Nat) : List Int := (List.range m).map fun i => if i < k then lnV a b i else 0
theorem unp_len (a b m k : Nat) : (unp a b m k).length = m := by simp [unp]
theorem unp_zero (a b m : Nat) : unp a b m 0 = List.replicate m 0 := by
  apply List.ext_getElem?
  intro i
  by_cases h : i < m
  · simp [unp, h]
  · rw [List.getElem?_eq_none (by rw [unp_len]; omega), List.getElem?_eq_none (by simp; omega)]
theorem unp_succ {a b m k : Nat} (hk : k < m) : unp a b m (k + 1) = (unp a b m k).set k (lnV a b k) := by
  apply List.ext_getElem?
  intro i
  rw [List.getElem?_set, unp_len]
  by_cases h : i < m
  · by_cases e : k = i
    · subst e; simp [unp, h]
    · rw [if_neg e]
      have : (i < k + 1) = (i < k) := by rw [eq_iff_iff]; omega
      simp [unp, h, this]
  · rw [List.getElem?_eq_none (by rw [unp_len]; omega)]
    by_cases e : k = i
    · omega
    · rw [if_neg e, List.getElem?_eq_none (by rw [unp_len]; omega)]
theorem unp_all (a b m : Nat) : unp a b m m = (List.range m).map (lnV a b) := by
  unfold unp
  exact List.map_congr_left fun i hi => by rw [if_pos (List.mem_range.1 hi)]
set_option maxRecDepth 100000 in
set_option maxHeartbeats 4000000 in
theorem unpack_any (a b : Nat) (ha : W64 a) (hb : W64 b) (z : Int) (m : Nat) (hm : m ≤ 64) (hz : (z < 0 ∧ m = 0) ∨ z = (m : Int) ∨ (64 < z ∧ m = 64)) (w : World) (hf : Ft w) :
    Calls Tryz.prog 24 #[wv a b, .int .i64 z] w fun e w' => ∃ g, e = .returned (.slice (some ⟨g, 0, none⟩) m m) ∧ VRow w' g ((List.range m).map (lnV a b)) ∧ BelW w w' := by
  obtain ⟨W1, HW1⟩ := named (w.alloc (.cells #[.int .u64 (a : Int), .int .u64 (b : Int)] 27))
  have hb1 : BelW w W1 := by rw [HW1.out]; exact below_new (Below.refl _ _) _
  have hfp : Fr W1 w.heap.size 27 [.int .u64 (a : Int), .int .u64 (b : Int)] := by rw [HW1.out]; exact Fr.made _ _ _ rfl
  obtain ⟨q, HQ⟩ := named w.heap.size
  rw [← HQ.out] at hfp
  have HFP := Lib.hid hfp
  have HB1 := Lib.hid hb1
  have HAT : Hid (∀ W, BelW w W → ∀ k : Nat, k < 64 → Calls Tryz.prog 21 #[wv a b, .int .i64 (k : Int)] W fun e w' => e = .returned (.int .u8 (lnV a b k)) ∧ BelW W w') := Lib.hid fun W h k hk => wat_any a b k ha hb hk W (hf.below h)
  obtain ⟨i0, hi0, hz0, hz1, hz2⟩ := info_parts info_val
  have HI := Lib.hid (And.intro hi0 (And.intro hz0 (And.intro hz1 hz2)))
  clear hi0 hz0 hz1 hz2 hb1 hfp hf
  unfold wv at *
  go_enter Tryz.func24, Tryz.ntmps24
  go_upto_region 1 with (fail)
  rw [← HW1.out, ← HQ.out]
  go_cut [5] (fun s wx => ∃ g, s = .slice (some ⟨g, 0, none⟩) m m ∧ VRow wx g (List.replicate m 0) ∧ BelW W1 wx ∧ W1.heap.size ≤ g)
  case first =>
    rcases hz with ⟨h1, rfl⟩ | rfl | ⟨h1, rfl⟩
    · have h2 : ¬ 0 < z := by omega
      go_wp2_with (at_make; refine wpList_make_full _ rfl _ _ 29 rfl W1.heap.size 30 i0 (.int .u8 0) 1 Tryz.underlying29 HI.out.1 HI.out.2.1 HI.out.2.2.1 .i64 .i64 _ _ 0 rfl rfl rfl rfl (by rw [HI.out.2.2.2]; omega) (by unfold maxLen; omega) (Nat.le_refl _) ?_; intro w4 hown hgr)
      rw [show (Value.int .u8 0).cells = #[Value.int .u8 0] from rfl, Nat.mul_one, made_vals] at hown
      go_wp2
      go_meet
      case rel => exact ⟨W1.heap.size, rfl, VRow.of hown (by simp), (Below.refl _ _).grown hgr (Nat.le_refl _) (fun k h => by cases h), Nat.le_refl _⟩
    · have h2 : ¬ (64 : Int) < (m : Int) := by omega
      go_wp2_with (at_make; refine wpList_make_full _ rfl _ _ 29 rfl W1.heap.size 30 i0 (.int .u8 0) 1 Tryz.underlying29 HI.out.1 HI.out.2.1 HI.out.2.2.1 .i64 .i64 _ _ m rfl rfl rfl rfl (by rw [HI.out.2.2.2]; omega) (by unfold maxLen; omega) (Nat.le_refl _) ?_; intro w4 hown hgr)
      rw [show (Value.int .u8 0).cells = #[Value.int .u8 0] from rfl, Nat.mul_one, made_vals] at hown
      go_wp2
      go_meet
      case rel => exact ⟨W1.heap.size, rfl, VRow.of hown (by simp), (Below.refl _ _).grown hgr (Nat.le_refl _) (fun k h => by cases h), Nat.le_refl _⟩
    · have h2 : ¬ z < 64 := by omega
      have h3 : ¬ z < 0 := by omega
      go_wp2_with (at_make; refine wpList_make_full _ rfl _ _ 29 rfl W1.heap.size 30 i0 (.int .u8 0) 1 Tryz.underlying29 HI.out.1 HI.out.2.1 HI.out.2.2.1 .i64 .i64 _ _ 64 rfl rfl rfl rfl (by rw [HI.out.2.2.2]; omega) (by unfold maxLen; omega) (Nat.le_refl _) ?_; intro w4 hown hgr)
      rw [show (Value.int .u8 0).cells = #[Value.int .u8 0] from rfl, Nat.mul_one, made_vals] at hown
      go_wp2
      go_meet
      case rel => exact ⟨W1.heap.size, rfl, VRow.of hown (by simp), (Below.refl _ _).grown hgr (Nat.le_refl _) (fun k h => by cases h), Nat.le_refl _⟩
  case rest =>
    obtain ⟨g, rfl, hrow, hbx, hgl⟩ := hcut
    obtain ⟨V2, rfl⟩ : ∃ V0 : World, V0 = wc := ⟨_, rfl⟩
    have HROW := Lib.hid hrow
    have HBX := Lib.hid hbx
    clear hrow hbx
    go_wp2
    go_loopw [13] (fun i wr => ∃ k : Nat, k ≤ m ∧ i = .int .i64 k ∧ BelW W1 wr ∧ VRow wr g (unp a b m k)) (fun i _ => m - (intOf i).toNat)
    case atStart => exact ⟨0, Nat.zero_le _, rfl, HBX.out, by rw [unp_zero]; exact HROW.out⟩
    case round =>
      obtain ⟨k, hk, rfl, hb, hrow⟩ := hrel
      have HB := Lib.hid hb
      have HRO := Lib.hid hrow
      by_cases hlt : k < m
      · have x0 := (HFP.out.below hb).cell 0
        have x1 := (HFP.out.below hb).cell 1
        have HA := Lib.hid (HAT.out wr (joinB HB1.out hb) k (by omega))
        have HSU : Hid (unp a b m (k + 1) = (unp a b m k).set k (lnV a b k)) := Lib.hid (unp_succ hlt)
        obtain ⟨y, HY⟩ := named (lnV a b k)
        rw [← HY.out] at HA HSU
        have hkl : k < (unp a b m k).length := by rw [unp_len]; exact hlt
        clear hb hrow
        go_wp2_with (go_at_call 21; (with_reducible refine HA.out.mono ?_); rintro e w3 ⟨rfl, hb3⟩; have HB3 : Hid (BelW wr w3) := Lib.hid hb3; have hr3 := HRO.out.below hb3; have z0 := hr3.cell hkl; have z1 := hr3.frozen k; have HR3 := Lib.hid hr3; clear hb3 hr3)
        go_roundw
        case rel => exact ⟨k + 1, by omega, by go_num, Below.setCell (joinB HB.out HB3.out) hgl _, by rw [HSU.out]; exact HR3.out.set k y⟩
        case measure => simp [intOf]; omega
      · obtain rfl : m = k := by omega
        clear hb hrow
        go_wp2
        go_ret
        exact ⟨g, rfl, by rw [← unp_all]; exact HRO.out, joinB HB1.out HB.out⟩
end Go.Proofs.YtemogllidmgbfaaGreatDoor

namespace Go.Proofs.YtemogllidmgbfaaGreatDoor
open Go.RowKit

theorem pack_new (l : List Int) {n a b : Nat} (hn : n = l.length) (hn64 : n ≤ 64) (h0 : ∀ y ∈ l, 0 ≤ y) (he : (pkA l n, pkB l n) = (a, b)) {v : Value} (hv : wv a b = v) (w : World) (hf : Ft w) (cs : Array Value) (hcs : cs = (l.map (Value.int .u8)).toArray) :
    Calls Tryz.prog 19 #[.slice (some ⟨w.heap.size, 0, none⟩) n n] (w.alloc (.cells cs 30)) fun e w' => e = .returned v ∧ BelW w w' := by
  subst hcs hn hv
  have hb : BelW w (w.alloc (.cells (l.map (Value.int .u8)).toArray 30)) := below_new (Below.refl _ _) _
  refine (pack_any l _ _ _ _ _ (Nat.le_refl _) (hf.below hb) (ks_new w l _ (by unfold maxLen; omega)) h0).mono fun e w' ⟨h1, h2⟩ => ?_
  rw [Nat.min_eq_left hn64] at h1
  rw [(Prod.mk.inj he).1, (Prod.mk.inj he).2] at h1
  exact ⟨h1, joinB hb h2⟩
theorem weval_new (k : Int) (hk : 0 ≤ k) (l : Wls) {n a b : Nat} (hn : n = l.length) (hn64 : n ≤ 64) (hw : ∀ k, k < l.length → W64 (l.getD k (0, 0)).1 ∧ W64 (l.getD k (0, 0)).2) (he : evW k l = (a, b)) {v : Value} (hv : wv a b = v) (w : World) (hT : Lg.Tabs w) (hf : Ft w) (cs : Array Value) (hcs : cs = (flatW l).toArray) :
    Calls Tryz.prog 8 #[.int .u8 k, .slice (some ⟨w.heap.size, 0, none⟩) n n] (w.alloc (.cells cs 27)) fun e w' => e = .returned v ∧ BelW w w' := by
  subst hcs hn hv
  have hb : BelW w (w.alloc (.cells (flatW l).toArray 27)) := below_new (Below.refl _ _) _
  have hr : WRow (w.alloc (.cells (flatW l).toArray 27)) w.heap.size l := ⟨Fr.made _ _ _ rfl, by unfold maxLen; omega⟩
  refine (weval_any k hk l _ _ _ _ _ (Nat.le_refl _) (hT.below hb) (hf.below hb) (hr.wd hw)).mono fun e w' ⟨h1, h2⟩ => ?_
  rw [he] at h1
  exact ⟨h1, joinB hb h2⟩
theorem sevenW (w W : World) (o0 o1 o2 o3 o4 o5 o6 : Obj) (h : W = ((((((w.alloc o0).alloc o1).alloc o2).alloc o3).alloc o4).alloc o5).alloc o6) :
    W.heap.size = w.heap.size + 7 ∧ W.heap[w.heap.size]? = some o0 ∧ W.heap[w.heap.size + 1]? = some o1 ∧ W.heap[w.heap.size + 1 + 1]? = some o2 ∧ W.heap[w.heap.size + 1 + 1 + 1]? = some o3 ∧ W.heap[w.heap.size + 1 + 1 + 1 + 1]? = some o4 ∧ W.heap[w.heap.size + 1 + 1 + 1 + 1 + 1]? = some o5 ∧ W.heap[w.heap.size + 1 + 1 + 1 + 1 + 1 + 1]? = some o6 ∧ Below w.heap.size w W := by
  subst h
  refine ⟨by simp, ?_, ?_, ?_, ?_, ?_, ?_, ?_, ?_⟩
  any_goals (simp only [World.alloc, Array.getElem?_push, Array.size_push, if_true] <;> (repeat' split) <;> first | rfl | omega)
  exact below_new (below_new (below_new (below_new (below_new (below_new (below_new (Below.refl _ _) _) _) _) _) _) _) _
/-- What Run returns for the example. -/
theorem run7_any (A0 A1 A3 Al : Option Addr) (c0 c1 c3 cl : Nat) (w : World) (hT : Lg.Tabs w) (hf : Ft w) (hc : Cir w w.heap.size (.agg #[.slice A0 6 c0, .slice A1 6 c1, .slice none 0 0, .slice A3 2 c3]) E6) (hp : Pts w w.heap.size (.slice Al 3 cl) P7) :
    Calls Tryz.prog 13 #[.agg #[.slice A0 6 c0, .slice A1 6 c1, .slice none 0 0, .slice A3 2 c3], .slice Al 3 cl] w fun e w' => ∃ gr g a, e = .returned (.tuple #[.slice (some ⟨gr, 0, none⟩) 3 3, .slice (some ⟨g, 0, none⟩) 6 6, .int .i64 0]) ∧ w'.cell? ⟨g, 8, none⟩ = some (.int .u64 1) ∧ w'.cell? ⟨g, 9, none⟩ = some (.int .u64 3) ∧ w'.cell? ⟨gr, 0, none⟩ = some (.slice (some ⟨a, 0, none⟩) 2 2) ∧ VRow w' a [1, 3] ∧ BelW w w' := by
  have hsim : ∀ W, BelW w W → Calls Tryz.prog 42 #[.agg #[.slice A0 6 c0, .slice A1 6 c1, .slice none 0 0, .slice A3 2 c3], .slice Al 3 cl] W fun e w' => ∃ g out, e = .returned (.slice (some ⟨g, 0, none⟩) 6 6) ∧ WRow w' g out ∧ WOk out ∧ out.length = 6 ∧ out = W7 ∧ W.heap.size ≤ g ∧ BelW W w' := fun W h =>
    (simw_any E6 P7 A0 A1 none A3 Al c0 c1 0 c3 3 cl W W.heap.size (Nat.le_refl _) (hT.below h) (hf.below h) ((hc.below h).more (Below.size h)) (Arr.keep stays_pat hp (Below.size h) fun _ hp => Below.cell h hp) (by decide) e6_ok (by decide) p7_fits).mono fun e w' ⟨g, L, P, out, he, hr, hl, hs, hP, hg, hb⟩ =>
      ⟨g, out, he, hr, hs.ok, hs.len, w7_out (P := P) (by
        have e : baseW E6.nodes.length (ofTo E6.nodes [0] E6.nodes.length) (ofTo E6.nodes [14] E6.nodes.length) (rowW (P7.map (·.1)) (ofTo E6.nodes [0] E6.nodes.length).length) (rowW (P7.map (·.2)) (ofTo E6.nodes [14] E6.nodes.length).length) = B7 := by decide
        rw [e] at hs
        exact hs) hP, hg, hb⟩
  refine (wrun_gen E6 P7 A0 A1 none A3 Al c0 c1 0 c3 3 cl w w.heap.size (Nat.le_refl _) hT hf hc hp (by decide) (by decide) p7_ok (by decide) (fun out => out = W7) hsim).mono fun e w' ⟨gr, g, out, he, hq, hr, _, _, hrr, hb⟩ => ?_
  subst hq
  obtain ⟨a, b, h1, -, h3, -⟩ := hrr.at (j := 0) (by decide)
  have hv : (respW E6 W7 0).1 = [1, 3] := by decide
  rw [hv] at h1 h3
  have h8 := hr.cell (k := 4) (by decide)
  exact ⟨gr, g, a, he, h8.1, h8.2, h1, h3, hb⟩

theorem l7_pa (W : World) (h : Ft W) : Calls Tryz.prog 19 #[.slice (some ⟨W.heap.size, 0, none⟩) 4 4] (W.alloc (.cells #[.int .u8 1, .int .u8 0, .int .u8 2, .int .u8 3] 30)) fun e w' => e = .returned (.agg #[.int .u64 9, .int .u64 10]) ∧ BelW W w' :=
  pack_new [1, 0, 2, 3] (n := 4) (a := 9) (b := 10) rfl (by decide) (by decide) pk7a (v := .agg #[.int .u64 9, .int .u64 10]) rfl W h _ rfl
theorem l7_pb (W : World) (h : Ft W) : Calls Tryz.prog 19 #[.slice (some ⟨W.heap.size, 0, none⟩) 3 3] (W.alloc (.cells #[.int .u8 1, .int .u8 1, .int .u8 0] 30)) fun e w' => e = .returned (.agg #[.int .u64 3, .int .u64 4]) ∧ BelW W w' :=
  pack_new [1, 1, 0] (n := 3) (a := 3) (b := 4) rfl (by decide) (by decide) pk7b (v := .agg #[.int .u64 3, .int .u64 4]) rfl W h _ rfl
theorem l7_pc (W : World) (h : Ft W) : Calls Tryz.prog 19 #[.slice (some ⟨W.heap.size, 0, none⟩) 3 3] (W.alloc (.cells #[.int .u8 1, .int .u8 2, .int .u8 2] 30)) fun e w' => e = .returned (.agg #[.int .u64 1, .int .u64 0]) ∧ BelW W w' :=
  pack_new [1, 2, 2] (n := 3) (a := 1) (b := 0) rfl (by decide) (by decide) pk7c (v := .agg #[.int .u64 1, .int .u64 0]) rfl W h _ rfl
theorem l7_pd (W : World) (h : Ft W) : Calls Tryz.prog 19 #[.slice (some ⟨W.heap.size, 0, none⟩) 2 2] (W.alloc (.cells #[.int .u8 0, .int .u8 1] 30)) fun e w' => e = .returned (.agg #[.int .u64 2, .int .u64 1]) ∧ BelW W w' :=
  pack_new [0, 1] (n := 2) (a := 2) (b := 1) rfl (by decide) (by decide) pk7d (v := .agg #[.int .u64 2, .int .u64 1]) rfl W h _ rfl
theorem l7_pe (W : World) (h : Ft W) : Calls Tryz.prog 19 #[.slice (some ⟨W.heap.size, 0, none⟩) 2 2] (W.alloc (.cells #[.int .u8 1, .int .u8 1] 30)) fun e w' => e = .returned (.agg #[.int .u64 3, .int .u64 0]) ∧ BelW W w' :=
  pack_new [1, 1] (n := 2) (a := 3) (b := 0) rfl (by decide) (by decide) pk7e (v := .agg #[.int .u64 3, .int .u64 0]) rfl W h _ rfl
theorem w4_ok {a b c d : Nat} (ha : W64 a) (hb : W64 b) (hc : W64 c) (hd : W64 d) : ∀ k, k < ([(a, b), (c, d)] : Wls).length → W64 (([(a, b), (c, d)] : Wls).getD k (0, 0)).1 ∧ W64 (([(a, b), (c, d)] : Wls).getD k (0, 0)).2 := fun k hk => by
  have : k = 0 ∨ k = 1 := by simp at hk; omega
  rcases this with rfl | rfl
  · exact ⟨ha, hb⟩
  · exact ⟨hc, hd⟩
theorem small_w {a : Nat} (h : a < 8) : W64 a := Nat.lt_of_lt_of_le h (by decide)
theorem l7_ea (W : World) (hT : Lg.Tabs W) (h : Ft W) : Calls Tryz.prog 8 #[.int .u8 5, .slice (some ⟨W.heap.size, 0, none⟩) 2 2] (W.alloc (.cells #[.int .u64 3, .int .u64 4, .int .u64 1, .int .u64 0] 27)) fun e w' => e = .returned (.agg #[.int .u64 1, .int .u64 4]) ∧ BelW W w' :=
  weval_new 5 (by decide) [(3, 4), (1, 0)] (n := 2) (a := 1) (b := 4) rfl (by decide) (w4_ok (small_w (by decide)) (small_w (by decide)) (small_w (by decide)) (small_w (by decide))) ev7a (v := .agg #[.int .u64 1, .int .u64 4]) rfl W hT h _ rfl
theorem l7_eb (W : World) (hT : Lg.Tabs W) (h : Ft W) : Calls Tryz.prog 8 #[.int .u8 12, .slice (some ⟨W.heap.size, 0, none⟩) 2 2] (W.alloc (.cells #[.int .u64 2, .int .u64 1, .int .u64 3, .int .u64 0] 27)) fun e w' => e = .returned (.agg #[.int .u64 3, .int .u64 1]) ∧ BelW W w' :=
  weval_new 12 (by decide) [(2, 1), (3, 0)] (n := 2) (a := 3) (b := 1) rfl (by decide) (w4_ok (small_w (by decide)) (small_w (by decide)) (small_w (by decide)) (small_w (by decide))) ev7b (v := .agg #[.int .u64 3, .int .u64 1]) rfl W hT h _ rfl
theorem fw_1 : wv (fA (cln 1)) (fB (cln 1)) = .agg #[.int .u64 18446744073709551615, .int .u64 0] := by
  have h1 : fA (cln 1) = 18446744073709551615 := by decide
  have h2 : fB (cln 1) = 0 := by decide
  rw [h1, h2]; rfl
theorem fw_3 : wv (fA (cln 3)) (fB (cln 3)) = .agg #[.int .u64 18446744073709551615, .int .u64 18446744073709551615] := by
  have h1 : fA (cln 3) = 18446744073709551615 := by decide
  have h2 : fB (cln 3) = 18446744073709551615 := by decide
  rw [h1, h2]; rfl
theorem l7_f1 (W : World) (h : Ft W) : Calls Tryz.prog 22 #[.int .u8 1] W fun e w' => e = .returned (.agg #[.int .u64 18446744073709551615, .int .u64 0]) ∧ BelW W w' := by
  have := fill_any 1 (by decide) W h
  rw [fw_1] at this
  exact this
theorem l7_f3 (W : World) (h : Ft W) : Calls Tryz.prog 22 #[.int .u8 3] W fun e w' => e = .returned (.agg #[.int .u64 18446744073709551615, .int .u64 18446744073709551615]) ∧ BelW W w' := by
  have := fill_any 3 (by decide) W h
  rw [fw_3] at this
  exact this
theorem w9 : wv 9 10 = .agg #[.int .u64 9, .int .u64 10] := rfl
theorem l7_un (W : World) (h : Ft W) : Calls Tryz.prog 24 #[.agg #[.int .u64 9, .int .u64 10], .int .i64 5] W fun e w' => ∃ g, e = .returned (.slice (some ⟨g, 0, none⟩) 5 5) ∧ VRow w' g [1, 0, 2, 3, 2] ∧ BelW W w' := by
  have := unpack_any 9 10 (by unfold W64; decide) (by unfold W64; decide) 5 5 (by decide) (.inr (.inl rfl)) W h
  rw [un7, w9] at this
  exact this
theorem l7_a3 (W : World) (h : Ft W) : Calls Tryz.prog 21 #[.agg #[.int .u64 9, .int .u64 10], .int .i64 3] W fun e w' => e = .returned (.int .u8 3) ∧ BelW W w' := by
  have := wat_any 9 10 3 (by unfold W64; decide) (by unfold W64; decide) (by decide) W h
  rw [at7, w9] at this
  exact this
theorem l7_a6 (W : World) : Calls Tryz.prog 21 #[.agg #[.int .u64 9, .int .u64 10], .int .i64 64] W fun e w' => e = .returned (.int .u8 2) ∧ BelW W w' := by
  have := wat_out 9 10 64 (by decide) W
  rw [w9] at this
  exact this
theorem l7_tx (W : World) (g : Nat) (hT : Lg.Tabs W) (hv : VRow W g [1, 0, 2, 3, 2]) : Calls Tryz.prog 23 #[.slice (some ⟨g, 0, none⟩) 5 5] W fun e w' => e = .returned (.string ⟨#[49, 48, 88, 90, 88]⟩) ∧ BelW W w' := by
  have := text_vr (l := [1, 0, 2, 3, 2]) hv tv7a hT
  exact this
theorem l7_ty (W : World) (g : Nat) (hT : Lg.Tabs W) (hv : VRow W g [1, 3]) : Calls Tryz.prog 23 #[.slice (some ⟨g, 0, none⟩) 2 2] W fun e w' => e = .returned (.string ⟨#[49, 90]⟩) ∧ BelW W w' := by
  have := text_vr (l := [1, 3]) hv tv7b hT
  exact this
theorem ks_at {W : World} {g B : Nat} {t : TypeId} (l : List Int) (h : W.heap[g]? = some (.cells (l.map (Value.int .u8)).toArray t (0, 0))) (hm : l.length ≤ maxLen) (hB : g < B) : Ks W B (.slice (some ⟨g, 0, none⟩) l.length l.length) l :=
  ⟨_, g, 0, _, rfl, fun _ => rfl, Nat.le_refl _, hm, fun k hk => ⟨hB, by
    unfold U8At
    rw [cell_of_row _ g _ _ t _ h]
    simp [hk, List.getD_eq_getElem?_getD]⟩⟩
end Go.Proofs.YtemogllidmgbfaaGreatDoor
