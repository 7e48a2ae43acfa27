/- The texts Smy Own Smz Sma. -/
import Derived.Test.YtemogllidmgbfaaGreatDoorM16
import Derived.Deep.RegionHeld3
import Derived.Deep.DeepCutAuto
import Derived.Deep.CutBlock
namespace Go.Proofs.YtemogllidmgbfaaGreatDoor
open Go.RowKit

theorem grown_v {w wr : World} {g : Nat} (h : w.grownBy wr (some g)) (j : Nat) (v : Value) : w.grownBy (wr.setCell ⟨g, j, none⟩ v) (some g) := by
  obtain ⟨h1, h2, h3, h4, h5⟩ := h
  exact ⟨h1, h2, h3, by simpa [World.setCell] using h4, fun i hi hne => (Below.heap_setCell _ _ _ _ (fun e => hne (by rw [e]))).trans (h5 i hi hne)⟩
set_option maxRecDepth 100000 in
set_option maxHeartbeats 4000000 in
theorem observe_any (c : Ck) (nets : List Int) (A0 A1 A2 A3 A : Option Addr) (c0 c1 c2 c3 n cc : Nat) (w : World) (B : Nat) (hB : B ≤ w.heap.size)
    (hc : Cir w B (.agg #[.slice A0 c.nodes.length c0, .slice A1 c.names.length c1, .slice A2 c.mems.length c2, .slice A3 c.outs.length c3]) c) (hs : Ks w B (.slice A n cc) nets) (hsz : c.nodes.length ≤ 1000000) (hos : c.outs.length ≤ 17592186044416) :
    Calls Tryz.prog 43 #[.agg #[.slice A0 c.nodes.length c0, .slice A1 c.names.length c1, .slice A2 c.mems.length c2, .slice A3 c.outs.length c3], .slice A n cc] w (RespPost (outV c nets) (nextV c nets) w) := by
  obtain ⟨W1, HW1⟩ := named ((w.alloc (.cells #[.slice A0 c.nodes.length c0, .slice A1 c.names.length c1, .slice A2 c.mems.length c2, .slice A3 c.outs.length c3] 46)).alloc (.cells #[.slice none 0 0, .slice none 0 0] 59))
  have hb1 : Below w.heap.size w W1 := by rw [HW1.out]; exact below_new (below_new (Below.refl _ _) _) _
  have hfc : Fr W1 w.heap.size 46 [.slice A0 c.nodes.length c0, .slice A1 c.names.length c1, .slice A2 c.mems.length c2, .slice A3 c.outs.length c3] := by rw [HW1.out]; exact Fr.alloc (Fr.made _ _ _ rfl) _
  have hfr : Fr W1 (w.heap.size + 1) 59 [.slice none 0 0, .slice none 0 0] := by rw [HW1.out]; exact Fr.made _ _ _ (by simp)
  have hz1 : W1.heap.size = w.heap.size + 1 + 1 := by rw [HW1.out]; simp
  have HSO := Lib.hid (stateOf_any nets A0 A1 A2 A3 A c.nodes.length c.names.length c.mems.length c.outs.length n c0 c1 c2 c3 cc W1 B (Nat.le_trans hB hb1.size) (Arr.keep stays_u8 hs (Nat.le_refl _) fun _ hp => hb1.cell (Nat.lt_of_lt_of_le hp hB)))
  have HRE : Hid (∀ W q, Below W1.heap.size W1 W → Nv W q nets → Calls Tryz.prog 54 #[.agg #[.slice A0 c.nodes.length c0, .slice A1 c.names.length c1, .slice A2 c.mems.length c2, .slice A3 c.outs.length c3, .func (.func 93) #[] #[.pointer (some ⟨q, 0, none⟩)]]] W (RespPost (outV c nets) (nextV c nets) W)) :=
    Lib.hid fun W q hb hn => response_any c nets A0 A1 A2 A3 c0 c1 c2 c3 q W B (Nat.le_trans hB (joinB hb1 hb).size) hn (hc.below ((joinB hb1 hb).mono hB)) hsz hos
  have HB1 := Lib.hid hb1
  clear hc hs hb1
  obtain ⟨lo, HLO⟩ := named (outV c nets)
  obtain ⟨ln, HLN⟩ := named (nextV c nets)
  rw [← HLO.out, ← HLN.out] at HRE
  rw [← HLO.out, ← HLN.out]
  generalize c.nodes.length = n0 at HW1 hfc HSO HRE ⊢
  generalize c.names.length = n1 at HW1 hfc HSO HRE ⊢
  generalize c.mems.length = n2 at HW1 hfc HSO HRE ⊢
  generalize c.outs.length = n3 at HW1 hfc HSO HRE ⊢
  have x0 := hfc.cell 0
  have x1 := hfc.cell 1
  have x2 := hfc.cell 2
  have x3 := hfc.cell 3
  have HFR := Lib.hid hfr
  have HZ1 := Lib.hid hz1
  clear hfc hfr hz1
  go_enter Tryz.func43, Tryz.ntmps43
  go_upto_region 1 with (fail)
  rw [← HW1.out]
  go_wp2_with (first
    | (go_at_call 51; (with_reducible refine HSO.out.mono ?_); rintro e w2 ⟨⟨q, rfl, hn, hqz, -⟩, hb⟩; have HNV := Lib.hid hn; have HB2 := Lib.hid hb; clear hn hb)
    | (go_at_call 54; (with_reducible refine (HRE.out _ _ HB2.out HNV.out).mono ?_); rintro e w3 ⟨g, h, rfl, hg, hh, hgz, hhz, hgh, hb⟩; have HGR := Lib.hid hg; have HHR := Lib.hid hh; have HGH := Lib.hid hgh; have HB3 := Lib.hid hb; have hfx := (HFR.out.below (joinB HB2.out hb)); have r0 := hfx.cell 0; have r1 := hfx.cell 1; have f0 := hfx.frozen 0; have f1 := hfx.frozen 1; have HFX := Lib.hid hfx; clear hg hh hgh hb hfx))
  have hq := (HFX.out.set 0 (.slice (some ⟨g, 0, none⟩) lo.length lo.length)).set 1 (.slice (some ⟨h, 0, none⟩) ln.length ln.length)
  (try simp only [Exit.inBlock, Exit.then])
  refine bodyPost_ret (results_cell_row rfl _ _ _ _ _ _ _ rfl hq Tryz.underlying59 rfl (by kernel_rfl)) rfl ?_
  have hzb := HB2.out.size
  have hz1 := HZ1.out
  have hb5 := joinB HB1.out (joinB HB2.out HB3.out)
  have n1 : w.heap.size + 1 ≠ g := by omega
  have n2 : w.heap.size + 1 ≠ h := by omega
  exact ⟨g, h, rfl, (HGR.out.other (a := ⟨_, 0, none⟩) n1 _).other (a := ⟨_, 1, none⟩) n1 _, (HHR.out.other (a := ⟨_, 0, none⟩) n2 _).other (a := ⟨_, 1, none⟩) n2 _, by omega, by omega, HGH.out, (hb5.setCell (Nat.le_succ _) _).setCell (Nat.le_succ _) _⟩

def abv (v : Int) : Bool := decide (3 < v)
theorem abv_any (v : Int) (w : World) : Calls Tryz.prog 91 #[.int .u8 v] w fun e w' => e = .returned (.bool (abv v)) ∧ w = w' := by
  by_cases h : 3 < v
  · have hv : abv v = true := decide_eq_true h
    rw [hv]
    go_enter Tryz.func91, Tryz.ntmps91
    go_wp2
    go_ret
    exact ⟨ret_bool (by simp), rfl⟩
  · have hv : abv v = false := decide_eq_false h
    rw [hv]
    go_enter Tryz.func91, Tryz.ntmps91
    go_wp2
    go_ret
    exact ⟨ret_bool (by simp), rfl⟩
set_option maxHeartbeats 1000000 in
theorem indexV_any (l : List Int) (s : Value) (w : World) (B : Nat) (hs : Ks w B s l) :
    Calls Tryz.prog 107 #[s, .func (.func 91) #[] #[]] w (IdxP (anyP abv l) w) := by
  obtain ⟨A, b, o, c, rfl, hA, -, hm, hc⟩ := hs.opens
  unfold maxLen at hm
  have HC := Lib.hid hc
  have HAA := Lib.hid hA
  clear hc hA hs
  obtain ⟨n, hn⟩ : ∃ n, n = l.length := ⟨_, rfl⟩
  rw [← hn] at hm
  rw [← hn]
  have HN := Lib.hid hn
  have HAB := Lib.hid abv_any
  clear hn
  go_enter Tryz.func107, Tryz.ntmps107
  go_wp2
  go_loopw [8] (fun i wr => wr = w ∧ ∃ k : Nat, k ≤ n ∧ i = .int .i64 k ∧ ∀ j, j < k → abv (l.getD j 0) = false) (fun i _ => n - (intOf i).toNat)
  case atStart => exact ⟨rfl, 0, Nat.zero_le _, rfl, fun j hj => absurd hj (by omega)⟩
  case round =>
    obtain ⟨rfl, k, hk, rfl, hno⟩ := hrel
    have HNO := Lib.hid hno
    clear hno
    by_cases hlt : k < n
    · obtain rfl := HAA.out (by rw [← HN.out]; omega)
      have hcell := (HC.out k (by rw [← HN.out]; omega)).2
      obtain ⟨y, HX⟩ := named (l.getD k 0)
      rw [← HX.out] at hcell
      have HA1 := Lib.hid (fun w => HAB.out y w)
      cases hv : abv y
      · have HV := Lib.hid hv
        rw [hv] at HA1
        go_wp2_with (go_at_call 91; (with_reducible refine (HA1.out _).mono ?_); rintro e w' ⟨rfl, rfl⟩)
        go_roundw
        case rel =>
          refine ⟨by trivial, k + 1, by omega, by go_num, fun j hj => ?_⟩
          by_cases hjk : j = k
          · rw [hjk, ← HX.out]; exact HV.out
          · exact HNO.out j (by omega)
        case measure => simp [intOf]; omega
      · have HV := Lib.hid hv
        rw [hv] at HA1
        go_wp2_with (go_at_call 91; (with_reducible refine (HA1.out _).mono ?_); rintro e w' ⟨rfl, rfl⟩)
        go_ret
        exact ⟨k, rfl, ⟨fun _ => anyP_yes k (by rw [← HN.out]; omega) (by rw [← HX.out]; exact HV.out), fun _ => by omega⟩, rfl⟩
    · go_wp2
      go_ret
      exact ⟨-1, rfl, ⟨fun h => absurd h (by omega), fun h => by rw [anyP_no (fun j hj => HNO.out j (by rw [← HN.out] at hj; omega))] at h; cases h⟩, rfl⟩
set_option maxHeartbeats 400000 in
theorem containsV_any (l : List Int) (s : Value) (w : World) (B : Nat) (hs : Ks w B s l) :
    Calls Tryz.prog 92 #[s, .func (.func 91) #[] #[]] w fun e w' => e = .returned (.bool (anyP abv l)) ∧ w = w' := by
  obtain ⟨y, HY⟩ := named (anyP abv l)
  rw [← HY.out]
  have HI := Lib.hid (indexV_any l s w B hs)
  clear hs
  rw [← HY.out] at HI
  go_enter Tryz.func92, Tryz.ntmps92
  go_wp2_with (go_at_call 107; (with_reducible refine HI.out.mono ?_); rintro e w' ⟨i, rfl, hi, rfl⟩; have HI2 := Lib.hid hi; clear hi)
  go_ret
  exact ⟨ret_bool (Bool.eq_iff_iff.2 (by simpa using HI2.out)), rfl⟩
end Go.Proofs.YtemogllidmgbfaaGreatDoor

namespace Go.Proofs.YtemogllidmgbfaaGreatDoor
open Go.RowKit

/-- What fits in the slices. -/
structure Fit (x : Ck) : Prop where
  n : x.nodes.length ≤ maxLen
  s : x.names.length ≤ maxLen
  m : x.mems.length ≤ maxLen
  o : x.outs.length ≤ maxLen
  k : ∀ i, i < x.nodes.length → 0 ≤ (x.nodes.getD i default).kind ∧ (x.nodes.getD i default).kind ≤ 255 ∧ (x.nodes.getD i default).ins.length ≤ maxLen
  t : ∀ i, i < x.names.length → (x.names.getD i ByteArray.empty).size ≤ maxLen
  a : ∀ i, i < x.mems.length → (x.mems.getD i default).addr.length ≤ maxLen ∧ (x.mems.getD i default).data.length ≤ maxLen
theorem Arr.len {α : Type} {d : α} {sz : Nat} {R : World → Nat → Nat → Nat → α → Prop} {w : World} {B : Nat} {v : Value} {l : List α} (h : Arr d sz R w B v l) : l.length ≤ maxLen := by
  obtain ⟨_, _, _, _, -, -, -, h4, -⟩ := h
  exact h4
theorem Cir.fit {w : World} {B : Nat} {v : Value} {x : Ck} (h : Cir w B v x) : Fit x := by
  obtain ⟨v0, v1, v2, v3, -, h1, h2, h3, h4⟩ := h
  refine ⟨Arr.len h1, Arr.len h2, Arr.len h3, Arr.len h4, fun i hi => ?_, fun i hi => ?_, fun i hi => ?_⟩
  · obtain ⟨A, b, o, c, -, -, -, -, hc⟩ := h1
    obtain ⟨-, s, -, -, -, -, hi', hk⟩ := hc i hi
    exact ⟨hk.1, hk.2, Arr.len hi'⟩
  · obtain ⟨A, b, o, c, -, -, -, -, hc⟩ := h2
    exact (hc i hi).2.2
  · obtain ⟨A, b, o, c, -, -, -, -, hc⟩ := h3
    obtain ⟨-, s, t, -, -, -, ha, hd⟩ := hc i hi
    exact ⟨Arr.len ha, Arr.len hd⟩
theorem Row.is {w : World} {g : Nat} {l : List Int} (h : Row w g l) (hm : l.length ≤ maxLen) : Is w w.heap.size (.slice (some ⟨g, 0, none⟩) l.length l.length) l :=
  ⟨_, g, 0, _, rfl, fun _ => rfl, Nat.le_refl _, hm, fun k hk => ⟨h.lt, by
    show World.cell? _ _ = _
    rw [Nat.zero_add, Nat.mul_one, h.cell hk]
    rfl⟩⟩
/-- The value of the circuit in these blocks. -/
def ownV (x : Ck) (g0 g1 g2 g3 : Nat) : Value :=
  .agg #[.slice (some ⟨g0, 0, none⟩) x.nodes.length x.nodes.length, .slice (some ⟨g1, 0, none⟩) x.names.length x.names.length, .slice (some ⟨g2, 0, none⟩) x.mems.length x.mems.length, .slice (some ⟨g3, 0, none⟩) x.outs.length x.outs.length]
section
variable {x : Ck} {G g0 g1 g2 g3 : Nat} {h ha hd : Nat → Nat} {w w' : World}
theorem OwnC.cir (H : OwnC x G g0 g1 g2 g3 h ha hd w) (F : Fit x) : Cir w w.heap.size (ownV x g0 g1 g2 g3) x := by
  refine ⟨_, _, _, _, rfl, ?_, ?_, ?_, H.f3.is F.o⟩
  · refine ⟨_, g0, 0, _, rfl, fun _ => rfl, Nat.le_refl _, F.n, fun k hk => ⟨H.f0.lt, ?_⟩⟩
    obtain ⟨k1, k2, k3⟩ := F.k k hk
    refine ⟨_, ?_, ?_, ?_, ?_, (H.rn k hk).2.is k3, k1, k2⟩
    · rw [Nat.zero_add, H.f0.cell, ndC_get (by omega), ndF_0]
    · rw [Nat.zero_add, H.f0.cell, ndC_get (by omega), ndF_1, if_pos hk]
    · rw [Nat.zero_add, H.f0.cell, ndC_get (by omega), ndF_2]
    · rw [Nat.zero_add, H.f0.cell, ndC_get (by omega), ndF_3]
  · refine ⟨_, g1, 0, _, rfl, fun _ => rfl, Nat.le_refl _, F.s, fun k hk => ⟨H.f1.lt, ?_, F.t k hk⟩⟩
    rw [Nat.zero_add, Nat.mul_one, H.f1.cell]
    simp [hk, List.getD_eq_getElem?_getD]
  · refine ⟨_, g2, 0, _, rfl, fun _ => rfl, Nat.le_refl _, F.m, fun k hk => ⟨H.f2.lt, ?_⟩⟩
    obtain ⟨k1, k2⟩ := F.a k hk
    obtain ⟨-, r1, -, r2⟩ := H.rm k hk
    refine ⟨_, _, ?_, ?_, ?_, r1.is k1, r2.is k2⟩
    · rw [Nat.zero_add, H.f2.cell, mmC_get (by omega), mmF_0, if_pos hk]
    · rw [Nat.zero_add, H.f2.cell, mmC_get (by omega), mmF_1, if_pos hk]
    · rw [Nat.zero_add, H.f2.cell, mmC_get (by omega), mmF_2]
theorem OwnC.below (H : OwnC x G g0 g1 g2 g3 h ha hd w) (hb : Below w.heap.size w w') : OwnC x G g0 g1 g2 g3 h ha hd w' :=
  ⟨H.low, H.f0.below hb, H.f1.below hb, H.f2.below hb, H.f3.below hb, fun k hk => ⟨(H.rn k hk).1, (H.rn k hk).2.below hb⟩,
    fun k hk => ⟨(H.rm k hk).1, (H.rm k hk).2.1.below hb, (H.rm k hk).2.2.1, (H.rm k hk).2.2.2.below hb⟩, H.nn, H.nm, H.mm, H.ml⟩
theorem getD_set {α : Type} (l : List α) (k i : Nat) (a d : α) (hk : k < l.length) : (l.set k a).getD i d = if i = k then a else l.getD i d := by
  rw [List.getD_eq_getElem?_getD, List.getD_eq_getElem?_getD, List.getElem?_set]
  by_cases e : k = i
  · subst e; simp [hk]
  · rw [if_neg e, if_neg (fun q => e q.symm)]
theorem ndC_ins (l : List Nd) (k : Nat) (hk : k < l.length) (li : List Int) (hl : li.length = (l.getD k default).ins.length) (o : Nat → Value) :
    ndC (l.set k { l.getD k default with ins := li }) h o (l.set k { l.getD k default with ins := li }).length = ndC l h o l.length := by
  apply List.ext_getElem?
  intro j
  by_cases hj : j < l.length * 4
  · rw [ndC_get (by rw [List.length_set]; exact hj), ndC_get hj, List.length_set]
    unfold ndF
    rw [getD_set _ _ _ _ _ hk]
    by_cases e : j / 4 = k
    · rw [if_pos e, e]
      simp only [hl]
    · rw [if_neg e]
  · rw [List.getElem?_eq_none (by simp [ndC_len]; omega), List.getElem?_eq_none (by simp [ndC_len]; omega)]
theorem ndC_kind (l : List Nd) (k : Nat) (hk : k < l.length) (v : Int) (o : Nat → Value) :
    ndC (l.set k { l.getD k default with kind := v }) h o (l.set k { l.getD k default with kind := v }).length = (ndC l h o l.length).set (k * 4) (.int .u8 v) := by
  apply List.ext_getElem?
  intro j
  rw [List.getElem?_set]
  by_cases hj : j < l.length * 4
  · rw [ndC_get (by rw [List.length_set]; exact hj), ndC_get hj, List.length_set]
    by_cases e0 : k * 4 = j
    · subst e0
      rw [if_pos rfl, if_pos (by simp [ndC_len]; omega), ndF_0, getD_set _ _ _ _ _ hk, if_pos rfl]
    · rw [if_neg e0]
      unfold ndF
      rw [getD_set _ _ _ _ _ hk]
      by_cases e : j / 4 = k
      · have h00 : ¬ j % 4 = 0 := by omega
        rw [if_pos e, e, if_neg h00, if_neg h00]
      · rw [if_neg e]
  · rw [List.getElem?_eq_none (by simp [ndC_len]; omega), List.getElem?_eq_none (by simp [ndC_len]; omega), if_neg (by omega)]
theorem OwnC.ins (H : OwnC x G g0 g1 g2 g3 h ha hd w) {k : Nat} (hk : k < x.nodes.length) (j : Nat) (v : Int) :
    OwnC { x with nodes := x.nodes.set k { x.nodes.getD k default with ins := (x.nodes.getD k default).ins.set j v } } G g0 g1 g2 g3 h ha hd (w.setCell ⟨h k, j, none⟩ (.int .i64 v)) := by
  have hg := grown_set w (h k) j (.int .i64 v)
  have hgk := (H.rn k hk).1
  have hl := H.low
  refine ⟨H.low, ?_, H.f1.kept hg (by simp; omega), H.f2.kept hg (by simp; omega), H.f3.kept hg (by simp; omega), ?_, ?_, ?_, ?_, H.mm, H.ml⟩
  · show Fr _ _ _ (ndC _ _ _ _)
    rw [ndC_ins _ _ hk _ (by simp)]
    exact H.f0.kept hg (by simp; omega)
  · intro i hi
    have hi' : i < x.nodes.length := by simpa using hi
    refine ⟨(H.rn i hi').1, ?_⟩
    show Row _ _ ((x.nodes.set k _).getD i default).ins
    rw [getD_set _ _ _ _ _ hk]
    by_cases e : i = k
    · subst e
      rw [if_pos rfl]
      exact (H.rn i hi').2.set j v
    · rw [if_neg e]
      refine (H.rn i hi').2.kept hg ?_
      have : h i ≠ h k := by
        rcases Nat.lt_or_gt_of_ne e with q | q
        · have := H.nn i k q hk; omega
        · have := H.nn k i q hi'; omega
      simpa using this
  · intro i hi
    obtain ⟨r1, r2, r3, r4⟩ := H.rm i hi
    have n1 := H.nm k i hk hi
    have n2 := H.mm i hi
    exact ⟨r1, r2.kept hg (by simp; omega), r3, r4.kept hg (by simp; omega)⟩
  · intro i j' hij hj'
    exact H.nn i j' hij (by simpa using hj')
  · intro i j' hi hj'
    exact H.nm i j' (by simpa using hi) hj'
theorem OwnC.kind (H : OwnC x G g0 g1 g2 g3 h ha hd w) {k : Nat} (hk : k < x.nodes.length) (v : Int) :
    OwnC { x with nodes := x.nodes.set k { x.nodes.getD k default with kind := v } } G g0 g1 g2 g3 h ha hd (w.setCell ⟨g0, k * 4, none⟩ (.int .u8 v)) := by
  have hg := grown_set w g0 (k * 4) (.int .u8 v)
  have hl := H.low
  refine ⟨H.low, ?_, H.f1.kept hg (by simp; omega), H.f2.kept hg (by simp; omega), H.f3.kept hg (by simp; omega), ?_, ?_, ?_, ?_, H.mm, H.ml⟩
  · show Fr _ _ _ (ndC _ _ _ _)
    rw [ndC_kind _ _ hk]
    exact H.f0.set _ _
  · intro i hi
    have hi' : i < x.nodes.length := by simpa using hi
    have hh := (H.rn i hi').1
    refine ⟨hh, ?_⟩
    show Row _ _ ((x.nodes.set k _).getD i default).ins
    have e2 : ((x.nodes.set k { x.nodes.getD k default with kind := v }).getD i default).ins = (x.nodes.getD i default).ins := by
      rw [getD_set _ _ _ _ _ hk]
      by_cases e : i = k
      · rw [if_pos e, e]
      · rw [if_neg e]
    rw [e2]
    exact (H.rn i hi').2.kept hg (by simp; omega)
  · intro i hi
    obtain ⟨r1, r2, r3, r4⟩ := H.rm i hi
    exact ⟨r1, r2.kept hg (by simp; omega), r3, r4.kept hg (by simp; omega)⟩
  · intro i j' hij hj'
    exact H.nn i j' hij (by simpa using hj')
  · intro i j' hi hj'
    exact H.nm i j' (by simpa using hi) hj'
end

end Go.Proofs.YtemogllidmgbfaaGreatDoor

namespace Go.Proofs.YtemogllidmgbfaaGreatDoor
open Go.RowKit

/-- The pattern fits the circuit without memories. -/
structure Fits (c : Ck) (pin pst : List Int) : Prop where
  mems : c.mems.length = 0
  li : pin.length = (ofTo c.nodes [0] c.nodes.length).length
  ls : pst.length = (ofTo c.nodes [14] c.nodes.length).length
  vi : ∀ x ∈ pin, 0 ≤ x ∧ x ≤ 3
  vs : ∀ x ∈ pst, 0 ≤ x ∧ x ≤ 3
theorem abv_none {l : List Int} (h : ∀ x ∈ l, 0 ≤ x ∧ x ≤ 3) : anyP abv l = false :=
  anyP_no fun j hj => decide_eq_false (by
    have := (h (l.getD j 0) (by rw [List.getD_eq_getElem?_getD, List.getElem?_eq_getElem hj]; exact List.getElem_mem hj)).2
    omega)

end Go.Proofs.YtemogllidmgbfaaGreatDoor

namespace Go.Proofs.YtemogllidmgbfaaGreatDoor
open Go.RowKit

theorem hi_all (k : Int) : hi k ≤ 16 := by
  unfold hi
  split
  · decide
  · have h : ∀ i : Fin 16, spansL.getD (2 * i.val + 1) 0 ≤ 16 := by decide
    exact h ⟨k.toNat, by omega⟩
theorem tabs_lg {w : World} (h : Lg.Tabs w) : Tabs w := ⟨h.1, h.2.1⟩
theorem made_vals (n : Nat) : (madeCells #[Value.int .u8 0] n).toList = (List.replicate n (0 : Int)).map (Value.int .u8) := by
  apply List.ext_getElem?
  intro j
  by_cases hj : j < n
  · simp [madeCells, hj, Nat.mod_one]
  · rw [List.getElem?_eq_none (by simp [madeCells]; omega), List.getElem?_eq_none (by simp; omega)]
theorem gnext {w wr w' : World} {g : Nat} (h : w.grownBy wr (some g)) (hb : Below wr.heap.size wr w') : w.grownBy w' (some g) := by
  obtain ⟨h1, h2, h3, h4, h5⟩ := h
  exact ⟨hb.os.trans h1, hb.tape.trans h2, hb.output.trans h3, Nat.le_trans h4 hb.size, fun i hi hne => (hb.block i (Nat.lt_of_lt_of_le hi h4)).trans (h5 i hi hne)⟩
theorem gdrew {w wr : World} {g : Nat} (h : w.grownBy wr (some g)) : w.grownBy wr.drew (some g) := gnext h (Below.drew (Below.refl _ _))
theorem bgrown {w0 w wr : World} {g : Nat} (h : BelW w0 w) (hg : w.grownBy wr (some g)) (h0 : w0.heap.size ≤ g) : BelW w0 wr :=
  Below.grown h hg (Below.size h) (fun k e => by cases e; exact h0)
theorem VRow.drew {w : World} {g : Nat} {l : List Int} (h : VRow w g l) : VRow w.drew g l := h

/-- What Run's loop keeps: g is the row of the nets, s the state, q the variable that names the row, d the row of the order. -/
structure RL (W1 : World) (g s q d n : Nat) (R : List Int) (cs : List Value) (out : List Int) (wr : World) : Prop where
  bel : BelW W1 wr
  row : VRow wr g out
  st : Fr wr s 106 cs
  qc : wr.cell? ⟨q, 0, none⟩ = some (.slice (some ⟨g, 0, none⟩) n n)
  ord : Row wr d R
  ne : s ≠ g ∧ q ≠ g ∧ d ≠ g
  low : W1.heap.size ≤ g
  len : out.length = n
section
variable {W1 wr w' : World} {g s q d n : Nat} {R out : List Int} {cs : List Value}
theorem RL.next (h : RL W1 g s q d n R cs out wr) (hb : Below wr.heap.size wr w') : RL W1 g s q d n R cs out w' :=
  ⟨joinB h.bel hb, h.row.below hb, h.st.below hb, (hb.cell (p := ⟨q, 0, none⟩) (cell_lt h.qc)).trans h.qc, h.ord.below hb, h.ne, h.low, h.len⟩
theorem RL.set (h : RL W1 g s q d n R cs out wr) (x : Nat) (v : Int) : RL W1 g s q d n R cs (out.set x v) (wr.setCell ⟨g, x, none⟩ (.int .u8 v)) :=
  ⟨Below.setCell h.bel h.low _, h.row.set x v, h.st.other (a := ⟨g, x, none⟩) (fun e => h.ne.1 e.symm) _, by rw [World.cell?_setCell_other _ _ _ _ (by have hne : ¬ q = g := h.ne.2.1; simp [hne])]; exact h.qc, h.ord.otherS (a := ⟨g, x, none⟩) (fun e => h.ne.2.2 e.symm) _, h.ne, h.low, by rw [List.length_set]; exact h.len⟩
theorem RL.drew (h : RL W1 g s q d n R cs out wr) : RL W1 g s q d n R cs out wr.drew := h.next (Below.drew (Below.refl _ _))
end
end Go.Proofs.YtemogllidmgbfaaGreatDoor
