/- The texts Smy Own Smz. -/
import Derived.Test.YtemogllidmgbfaaDoorM17
import Derived.Deep.RegionHeld3
import Derived.Deep.DeepCutAuto
import Derived.Deep.CutBlock
namespace Go.Proofs.YtemogllidmgbfaaDoor
open Go.RowKit

theorem grown_v {w wr : World} {g : Nat} (h : w.grownBy wr (some g)) (j : Nat) (v : Value) : w.grownBy (wr.setCell ⟨g, j, none⟩ v) (some g) := by
  obtain ⟨h1, h2, h3, h4, h5⟩ := h
  exact ⟨h1, h2, h3, by simpa [World.setCell] using h4, fun i hi hne => (Below.heap_setCell _ _ _ _ (fun e => hne (by rw [e]))).trans (h5 i hi hne)⟩
theorem own_fr {w : World} {base : Nat} {e : TypeId} {size g n : Nat} {xs : List Value} (h : w.ownsRow base e size (.slice (some ⟨g, 0, none⟩) n n) n xs) : Fr w g e xs := by
  obtain ⟨h1, h2⟩ := h
  rcases h2 with ⟨e', -⟩ | ⟨g', cap, cur, e', hb, hg, hle, hm, hs, ht⟩
  · cases e'
  · simp only [Value.slice.injEq, Option.some.injEq, Addr.mk.injEq, and_true, true_and] at e'
    obtain ⟨rfl, rfl⟩ := e'
    have hc : cur = xs.toArray := by
      apply Array.ext'
      rw [← ht, List.take_of_length_le (by rw [Array.length_toList]; omega)]
    rw [hc] at hg
    exact hg
theorem VRow.not_int {w : World} {g j : Nat} {l : List Int} {x : Int} (h : VRow w g l) : w.cell? ⟨g, j, none⟩ ≠ some (.int .i64 x) := fun e => by
  have h1 := (own_fr h).cell j
  rw [e, List.getElem?_map] at h1
  cases h2 : l[j]? with
  | none => rw [h2] at h1; cases h1
  | some y => rw [h2] at h1; simp at h1
def asgTo (out l vs : List Int) (k : Nat) : List Int := ((l.zip vs).take k).foldl (fun o p => o.set p.1.toNat p.2) out
theorem asgTo_len (out l vs : List Int) (k : Nat) : (asgTo out l vs k).length = out.length := by
  unfold asgTo
  induction (l.zip vs).take k generalizing out with
  | nil => rfl
  | cons p t ih => rw [List.foldl_cons, ih, List.length_set]
theorem asgTo_succ {out l vs : List Int} {k : Nat} (h1 : k < l.length) (h2 : k < vs.length) : asgTo out l vs (k + 1) = (asgTo out l vs k).set (l.getD k 0).toNat (lat vs k) := by
  unfold asgTo
  have hz : k < (l.zip vs).length := by rw [List.length_zip]; omega
  rw [List.take_succ_eq_append_getElem hz, List.foldl_append]
  have e : (l.zip vs)[k] = (l.getD k 0, lat vs k) := by
    rw [List.getElem_zip]
    unfold lat
    rw [Int.toNat_natCast, List.getD_eq_getElem?_getD, List.getD_eq_getElem?_getD, List.getElem?_eq_getElem h1, List.getElem?_eq_getElem h2]; rfl
  rw [e]; rfl
theorem asgTo_all {out l vs : List Int} (h : l.length = vs.length) : asgTo out l vs l.length = asg out l vs := by
  unfold asgTo asg
  rw [List.take_of_length_le (by rw [List.length_zip]; omega)]

set_option maxRecDepth 100000 in
set_option maxHeartbeats 4000000 in
theorem observe_any (c : Ck) (nets : List Int) (A0 A1 A2 A3 A : Option Addr) (c0 c1 c2 c3 n cc : Nat) (w : World) (B : Nat) (hB : B ≤ w.heap.size)
    (hc : Cir w B (.agg #[.slice A0 c.nodes.length c0, .slice A1 c.names.length c1, .slice A2 c.mems.length c2, .slice A3 c.outs.length c3]) c) (hs : Ks w B (.slice A n cc) nets) (hsz : c.nodes.length ≤ 1000000) (hos : c.outs.length ≤ 17592186044416) :
    Calls Tryd.prog 24 #[.agg #[.slice A0 c.nodes.length c0, .slice A1 c.names.length c1, .slice A2 c.mems.length c2, .slice A3 c.outs.length c3], .slice A n cc] w (RespPost (outV c nets) (nextV c nets) w) := by
  obtain ⟨W1, HW1⟩ := named ((w.alloc (.cells #[.slice A0 c.nodes.length c0, .slice A1 c.names.length c1, .slice A2 c.mems.length c2, .slice A3 c.outs.length c3] 56)).alloc (.cells #[.slice none 0 0, .slice none 0 0] 59))
  have hb1 : Below w.heap.size w W1 := by rw [HW1.out]; exact below_new (below_new (Below.refl _ _) _) _
  have hfc : Fr W1 w.heap.size 56 [.slice A0 c.nodes.length c0, .slice A1 c.names.length c1, .slice A2 c.mems.length c2, .slice A3 c.outs.length c3] := by rw [HW1.out]; exact Fr.alloc (Fr.made _ _ _ rfl) _
  have hfr : Fr W1 (w.heap.size + 1) 59 [.slice none 0 0, .slice none 0 0] := by rw [HW1.out]; exact Fr.made _ _ _ (by simp)
  have hz1 : W1.heap.size = w.heap.size + 1 + 1 := by rw [HW1.out]; simp
  have HSO := Lib.hid (stateOf_any nets A0 A1 A2 A3 A c.nodes.length c.names.length c.mems.length c.outs.length n c0 c1 c2 c3 cc W1 B (Nat.le_trans hB hb1.size) (Arr.keep stays_u8 hs (Nat.le_refl _) fun _ hp => hb1.cell (Nat.lt_of_lt_of_le hp hB)))
  have HRE : Hid (∀ W q, Below W1.heap.size W1 W → Nv W q nets → Calls Tryd.prog 47 #[.agg #[.slice A0 c.nodes.length c0, .slice A1 c.names.length c1, .slice A2 c.mems.length c2, .slice A3 c.outs.length c3, .func (.func 59) #[] #[.pointer (some ⟨q, 0, none⟩)]]] W (RespPost (outV c nets) (nextV c nets) W)) :=
    Lib.hid fun W q hb hn => response_any c nets A0 A1 A2 A3 c0 c1 c2 c3 q W B (Nat.le_trans hB (joinB hb1 hb).size) hn (hc.below ((joinB hb1 hb).mono hB)) hsz hos
  have HB1 := Lib.hid hb1
  clear hc hs hb1
  obtain ⟨lo, HLO⟩ := named (outV c nets)
  obtain ⟨ln, HLN⟩ := named (nextV c nets)
  rw [← HLO.out, ← HLN.out] at HRE
  rw [← HLO.out, ← HLN.out]
  generalize c.nodes.length = n0 at HW1 hfc HSO HRE ⊢
  generalize c.names.length = n1 at HW1 hfc HSO HRE ⊢
  generalize c.mems.length = n2 at HW1 hfc HSO HRE ⊢
  generalize c.outs.length = n3 at HW1 hfc HSO HRE ⊢
  have x0 := hfc.cell 0
  have x1 := hfc.cell 1
  have x2 := hfc.cell 2
  have x3 := hfc.cell 3
  have HFR := Lib.hid hfr
  have HZ1 := Lib.hid hz1
  clear hfc hfr hz1
  go_enter Tryd.func24, Tryd.ntmps24
  go_upto_region 1 with (fail)
  rw [← HW1.out]
  go_wp2_with (first
    | (go_at_call 46; (with_reducible refine HSO.out.mono ?_); rintro e w2 ⟨⟨q, rfl, hn, hqz, -⟩, hb⟩; have HNV := Lib.hid hn; have HB2 := Lib.hid hb; clear hn hb)
    | (go_at_call 47; (with_reducible refine (HRE.out _ _ HB2.out HNV.out).mono ?_); rintro e w3 ⟨g, h, rfl, hg, hh, hgz, hhz, hgh, hb⟩; have HGR := Lib.hid hg; have HHR := Lib.hid hh; have HGH := Lib.hid hgh; have HB3 := Lib.hid hb; have hfx := (HFR.out.below (joinB HB2.out hb)); have r0 := hfx.cell 0; have r1 := hfx.cell 1; have f0 := hfx.frozen 0; have f1 := hfx.frozen 1; have HFX := Lib.hid hfx; clear hg hh hgh hb hfx))
  have hq := (HFX.out.set 0 (.slice (some ⟨g, 0, none⟩) lo.length lo.length)).set 1 (.slice (some ⟨h, 0, none⟩) ln.length ln.length)
  (try simp only [Exit.inBlock, Exit.then])
  refine bodyPost_ret (results_cell_row rfl _ _ _ _ _ _ _ rfl hq Tryd.underlying59 rfl (by kernel_rfl)) rfl ?_
  have hzb := HB2.out.size
  have hz1 := HZ1.out
  have hb5 := joinB HB1.out (joinB HB2.out HB3.out)
  have n1 : w.heap.size + 1 ≠ g := by omega
  have n2 : w.heap.size + 1 ≠ h := by omega
  exact ⟨g, h, rfl, (HGR.out.other (a := ⟨_, 0, none⟩) n1 _).other (a := ⟨_, 1, none⟩) n1 _, (HHR.out.other (a := ⟨_, 0, none⟩) n2 _).other (a := ⟨_, 1, none⟩) n2 _, by omega, by omega, HGH.out, (hb5.setCell (Nat.le_succ _) _).setCell (Nat.le_succ _) _⟩

def abv (v : Int) : Bool := decide (3 < v)
theorem abv_any (v : Int) (w : World) : Calls Tryd.prog 62 #[.int .u8 v] w fun e w' => e = .returned (.bool (abv v)) ∧ w = w' := by
  by_cases h : 3 < v
  · have hv : abv v = true := decide_eq_true h
    rw [hv]
    go_enter Tryd.func62, Tryd.ntmps62
    go_wp2
    go_ret
    exact ⟨ret_bool (by simp), rfl⟩
  · have hv : abv v = false := decide_eq_false h
    rw [hv]
    go_enter Tryd.func62, Tryd.ntmps62
    go_wp2
    go_ret
    exact ⟨ret_bool (by simp), rfl⟩
set_option maxHeartbeats 1000000 in
theorem indexV_any (l : List Int) (s : Value) (w : World) (B : Nat) (hs : Ks w B s l) :
    Calls Tryd.prog 63 #[s, .func (.func 62) #[] #[]] w (IdxP (anyP abv l) w) := by
  obtain ⟨A, b, o, c, rfl, hA, -, hm, hc⟩ := hs.opens
  unfold maxLen at hm
  have HC := Lib.hid hc
  have HAA := Lib.hid hA
  clear hc hA hs
  obtain ⟨n, hn⟩ : ∃ n, n = l.length := ⟨_, rfl⟩
  rw [← hn] at hm
  rw [← hn]
  have HN := Lib.hid hn
  have HAB := Lib.hid abv_any
  clear hn
  go_enter Tryd.func63, Tryd.ntmps63
  go_wp2
  go_loopw [8] (fun i wr => wr = w ∧ ∃ k : Nat, k ≤ n ∧ i = .int .i64 k ∧ ∀ j, j < k → abv (l.getD j 0) = false) (fun i _ => n - (intOf i).toNat)
  case atStart => exact ⟨rfl, 0, Nat.zero_le _, rfl, fun j hj => absurd hj (by omega)⟩
  case round =>
    obtain ⟨rfl, k, hk, rfl, hno⟩ := hrel
    have HNO := Lib.hid hno
    clear hno
    by_cases hlt : k < n
    · obtain rfl := HAA.out (by rw [← HN.out]; omega)
      have hcell := (HC.out k (by rw [← HN.out]; omega)).2
      obtain ⟨y, HX⟩ := named (l.getD k 0)
      rw [← HX.out] at hcell
      have HA1 := Lib.hid (fun w => HAB.out y w)
      cases hv : abv y
      · have HV := Lib.hid hv
        rw [hv] at HA1
        go_wp2_with (go_at_call 62; (with_reducible refine (HA1.out _).mono ?_); rintro e w' ⟨rfl, rfl⟩)
        go_roundw
        case rel =>
          refine ⟨by trivial, k + 1, by omega, by go_num, fun j hj => ?_⟩
          by_cases hjk : j = k
          · rw [hjk, ← HX.out]; exact HV.out
          · exact HNO.out j (by omega)
        case measure => simp [intOf]; omega
      · have HV := Lib.hid hv
        rw [hv] at HA1
        go_wp2_with (go_at_call 62; (with_reducible refine (HA1.out _).mono ?_); rintro e w' ⟨rfl, rfl⟩)
        go_ret
        exact ⟨k, rfl, ⟨fun _ => anyP_yes k (by rw [← HN.out]; omega) (by rw [← HX.out]; exact HV.out), fun _ => by omega⟩, rfl⟩
    · go_wp2
      go_ret
      exact ⟨-1, rfl, ⟨fun h => absurd h (by omega), fun h => by rw [anyP_no (fun j hj => HNO.out j (by rw [← HN.out] at hj; omega))] at h; cases h⟩, rfl⟩
set_option maxHeartbeats 400000 in
theorem containsV_any (l : List Int) (s : Value) (w : World) (B : Nat) (hs : Ks w B s l) :
    Calls Tryd.prog 52 #[s, .func (.func 62) #[] #[]] w fun e w' => e = .returned (.bool (anyP abv l)) ∧ w = w' := by
  obtain ⟨y, HY⟩ := named (anyP abv l)
  rw [← HY.out]
  have HI := Lib.hid (indexV_any l s w B hs)
  clear hs
  rw [← HY.out] at HI
  go_enter Tryd.func52, Tryd.ntmps52
  go_wp2_with (go_at_call 63; (with_reducible refine HI.out.mono ?_); rintro e w' ⟨i, rfl, hi, rfl⟩; have HI2 := Lib.hid hi; clear hi)
  go_ret
  exact ⟨ret_bool (Bool.eq_iff_iff.2 (by simpa using HI2.out)), rfl⟩
end Go.Proofs.YtemogllidmgbfaaDoor

namespace Go.Proofs.YtemogllidmgbfaaDoor
open Go.RowKit

/-- What fits in the slices. -/
structure Fit (x : Ck) : Prop where
  n : x.nodes.length ≤ maxLen
  s : x.names.length ≤ maxLen
  m : x.mems.length ≤ maxLen
  o : x.outs.length ≤ maxLen
  k : ∀ i, i < x.nodes.length → 0 ≤ (x.nodes.getD i default).kind ∧ (x.nodes.getD i default).kind ≤ 255 ∧ (x.nodes.getD i default).ins.length ≤ maxLen
  t : ∀ i, i < x.names.length → (x.names.getD i ByteArray.empty).size ≤ maxLen
  a : ∀ i, i < x.mems.length → (x.mems.getD i default).addr.length ≤ maxLen ∧ (x.mems.getD i default).data.length ≤ maxLen
theorem Arr.len {α : Type} {d : α} {sz : Nat} {R : World → Nat → Nat → Nat → α → Prop} {w : World} {B : Nat} {v : Value} {l : List α} (h : Arr d sz R w B v l) : l.length ≤ maxLen := by
  obtain ⟨_, _, _, _, -, -, -, h4, -⟩ := h
  exact h4
theorem Cir.fit {w : World} {B : Nat} {v : Value} {x : Ck} (h : Cir w B v x) : Fit x := by
  obtain ⟨v0, v1, v2, v3, -, h1, h2, h3, h4⟩ := h
  refine ⟨Arr.len h1, Arr.len h2, Arr.len h3, Arr.len h4, fun i hi => ?_, fun i hi => ?_, fun i hi => ?_⟩
  · obtain ⟨A, b, o, c, -, -, -, -, hc⟩ := h1
    obtain ⟨-, s, -, -, -, -, hi', hk⟩ := hc i hi
    exact ⟨hk.1, hk.2, Arr.len hi'⟩
  · obtain ⟨A, b, o, c, -, -, -, -, hc⟩ := h2
    exact (hc i hi).2.2
  · obtain ⟨A, b, o, c, -, -, -, -, hc⟩ := h3
    obtain ⟨-, s, t, -, -, -, ha, hd⟩ := hc i hi
    exact ⟨Arr.len ha, Arr.len hd⟩
theorem Row.is {w : World} {g : Nat} {l : List Int} (h : Row w g l) (hm : l.length ≤ maxLen) : Is w w.heap.size (.slice (some ⟨g, 0, none⟩) l.length l.length) l :=
  ⟨_, g, 0, _, rfl, fun _ => rfl, Nat.le_refl _, hm, fun k hk => ⟨h.lt, by
    show World.cell? _ _ = _
    rw [Nat.zero_add, Nat.mul_one, h.cell hk]
    rfl⟩⟩
/-- The value of the circuit in these blocks. -/
def ownV (x : Ck) (g0 g1 g2 g3 : Nat) : Value :=
  .agg #[.slice (some ⟨g0, 0, none⟩) x.nodes.length x.nodes.length, .slice (some ⟨g1, 0, none⟩) x.names.length x.names.length, .slice (some ⟨g2, 0, none⟩) x.mems.length x.mems.length, .slice (some ⟨g3, 0, none⟩) x.outs.length x.outs.length]
section
variable {x : Ck} {G g0 g1 g2 g3 : Nat} {h ha hd : Nat → Nat} {w w' : World}
theorem OwnC.cir (H : OwnC x G g0 g1 g2 g3 h ha hd w) (F : Fit x) : Cir w w.heap.size (ownV x g0 g1 g2 g3) x := by
  refine ⟨_, _, _, _, rfl, ?_, ?_, ?_, H.f3.is F.o⟩
  · refine ⟨_, g0, 0, _, rfl, fun _ => rfl, Nat.le_refl _, F.n, fun k hk => ⟨H.f0.lt, ?_⟩⟩
    obtain ⟨k1, k2, k3⟩ := F.k k hk
    refine ⟨_, ?_, ?_, ?_, ?_, (H.rn k hk).2.is k3, k1, k2⟩
    · rw [Nat.zero_add, H.f0.cell, ndC_get (by omega), ndF_0]
    · rw [Nat.zero_add, H.f0.cell, ndC_get (by omega), ndF_1, if_pos hk]
    · rw [Nat.zero_add, H.f0.cell, ndC_get (by omega), ndF_2]
    · rw [Nat.zero_add, H.f0.cell, ndC_get (by omega), ndF_3]
  · refine ⟨_, g1, 0, _, rfl, fun _ => rfl, Nat.le_refl _, F.s, fun k hk => ⟨H.f1.lt, ?_, F.t k hk⟩⟩
    rw [Nat.zero_add, Nat.mul_one, H.f1.cell]
    simp [hk, List.getD_eq_getElem?_getD]
  · refine ⟨_, g2, 0, _, rfl, fun _ => rfl, Nat.le_refl _, F.m, fun k hk => ⟨H.f2.lt, ?_⟩⟩
    obtain ⟨k1, k2⟩ := F.a k hk
    obtain ⟨-, r1, -, r2⟩ := H.rm k hk
    refine ⟨_, _, ?_, ?_, ?_, r1.is k1, r2.is k2⟩
    · rw [Nat.zero_add, H.f2.cell, mmC_get (by omega), mmF_0, if_pos hk]
    · rw [Nat.zero_add, H.f2.cell, mmC_get (by omega), mmF_1, if_pos hk]
    · rw [Nat.zero_add, H.f2.cell, mmC_get (by omega), mmF_2]
theorem OwnC.below (H : OwnC x G g0 g1 g2 g3 h ha hd w) (hb : Below w.heap.size w w') : OwnC x G g0 g1 g2 g3 h ha hd w' :=
  ⟨H.low, H.f0.below hb, H.f1.below hb, H.f2.below hb, H.f3.below hb, fun k hk => ⟨(H.rn k hk).1, (H.rn k hk).2.below hb⟩,
    fun k hk => ⟨(H.rm k hk).1, (H.rm k hk).2.1.below hb, (H.rm k hk).2.2.1, (H.rm k hk).2.2.2.below hb⟩, H.nn, H.nm, H.mm, H.ml⟩
theorem getD_set {α : Type} (l : List α) (k i : Nat) (a d : α) (hk : k < l.length) : (l.set k a).getD i d = if i = k then a else l.getD i d := by
  rw [List.getD_eq_getElem?_getD, List.getD_eq_getElem?_getD, List.getElem?_set]
  by_cases e : k = i
  · subst e; simp [hk]
  · rw [if_neg e, if_neg (fun q => e q.symm)]
theorem ndC_ins (l : List Nd) (k : Nat) (hk : k < l.length) (li : List Int) (hl : li.length = (l.getD k default).ins.length) (o : Nat → Value) :
    ndC (l.set k { l.getD k default with ins := li }) h o (l.set k { l.getD k default with ins := li }).length = ndC l h o l.length := by
  apply List.ext_getElem?
  intro j
  by_cases hj : j < l.length * 4
  · rw [ndC_get (by rw [List.length_set]; exact hj), ndC_get hj, List.length_set]
    unfold ndF
    rw [getD_set _ _ _ _ _ hk]
    by_cases e : j / 4 = k
    · rw [if_pos e, e]
      simp only [hl]
    · rw [if_neg e]
  · rw [List.getElem?_eq_none (by simp [ndC_len]; omega), List.getElem?_eq_none (by simp [ndC_len]; omega)]
theorem ndC_kind (l : List Nd) (k : Nat) (hk : k < l.length) (v : Int) (o : Nat → Value) :
    ndC (l.set k { l.getD k default with kind := v }) h o (l.set k { l.getD k default with kind := v }).length = (ndC l h o l.length).set (k * 4) (.int .u8 v) := by
  apply List.ext_getElem?
  intro j
  rw [List.getElem?_set]
  by_cases hj : j < l.length * 4
  · rw [ndC_get (by rw [List.length_set]; exact hj), ndC_get hj, List.length_set]
    by_cases e0 : k * 4 = j
    · subst e0
      rw [if_pos rfl, if_pos (by simp [ndC_len]; omega), ndF_0, getD_set _ _ _ _ _ hk, if_pos rfl]
    · rw [if_neg e0]
      unfold ndF
      rw [getD_set _ _ _ _ _ hk]
      by_cases e : j / 4 = k
      · have h00 : ¬ j % 4 = 0 := by omega
        rw [if_pos e, e, if_neg h00, if_neg h00]
      · rw [if_neg e]
  · rw [List.getElem?_eq_none (by simp [ndC_len]; omega), List.getElem?_eq_none (by simp [ndC_len]; omega), if_neg (by omega)]
theorem OwnC.ins (H : OwnC x G g0 g1 g2 g3 h ha hd w) {k : Nat} (hk : k < x.nodes.length) (j : Nat) (v : Int) :
    OwnC { x with nodes := x.nodes.set k { x.nodes.getD k default with ins := (x.nodes.getD k default).ins.set j v } } G g0 g1 g2 g3 h ha hd (w.setCell ⟨h k, j, none⟩ (.int .i64 v)) := by
  have hg := grown_set w (h k) j (.int .i64 v)
  have hgk := (H.rn k hk).1
  have hl := H.low
  refine ⟨H.low, ?_, H.f1.kept hg (by simp; omega), H.f2.kept hg (by simp; omega), H.f3.kept hg (by simp; omega), ?_, ?_, ?_, ?_, H.mm, H.ml⟩
  · show Fr _ _ _ (ndC _ _ _ _)
    rw [ndC_ins _ _ hk _ (by simp)]
    exact H.f0.kept hg (by simp; omega)
  · intro i hi
    have hi' : i < x.nodes.length := by simpa using hi
    refine ⟨(H.rn i hi').1, ?_⟩
    show Row _ _ ((x.nodes.set k _).getD i default).ins
    rw [getD_set _ _ _ _ _ hk]
    by_cases e : i = k
    · subst e
      rw [if_pos rfl]
      exact (H.rn i hi').2.set j v
    · rw [if_neg e]
      refine (H.rn i hi').2.kept hg ?_
      have : h i ≠ h k := by
        rcases Nat.lt_or_gt_of_ne e with q | q
        · have := H.nn i k q hk; omega
        · have := H.nn k i q hi'; omega
      simpa using this
  · intro i hi
    obtain ⟨r1, r2, r3, r4⟩ := H.rm i hi
    have n1 := H.nm k i hk hi
    have n2 := H.mm i hi
    exact ⟨r1, r2.kept hg (by simp; omega), r3, r4.kept hg (by simp; omega)⟩
  · intro i j' hij hj'
    exact H.nn i j' hij (by simpa using hj')
  · intro i j' hi hj'
    exact H.nm i j' (by simpa using hi) hj'
theorem OwnC.kind (H : OwnC x G g0 g1 g2 g3 h ha hd w) {k : Nat} (hk : k < x.nodes.length) (v : Int) :
    OwnC { x with nodes := x.nodes.set k { x.nodes.getD k default with kind := v } } G g0 g1 g2 g3 h ha hd (w.setCell ⟨g0, k * 4, none⟩ (.int .u8 v)) := by
  have hg := grown_set w g0 (k * 4) (.int .u8 v)
  have hl := H.low
  refine ⟨H.low, ?_, H.f1.kept hg (by simp; omega), H.f2.kept hg (by simp; omega), H.f3.kept hg (by simp; omega), ?_, ?_, ?_, ?_, H.mm, H.ml⟩
  · show Fr _ _ _ (ndC _ _ _ _)
    rw [ndC_kind _ _ hk]
    exact H.f0.set _ _
  · intro i hi
    have hi' : i < x.nodes.length := by simpa using hi
    have hh := (H.rn i hi').1
    refine ⟨hh, ?_⟩
    show Row _ _ ((x.nodes.set k _).getD i default).ins
    have e2 : ((x.nodes.set k { x.nodes.getD k default with kind := v }).getD i default).ins = (x.nodes.getD i default).ins := by
      rw [getD_set _ _ _ _ _ hk]
      by_cases e : i = k
      · rw [if_pos e, e]
      · rw [if_neg e]
    rw [e2]
    exact (H.rn i hi').2.kept hg (by simp; omega)
  · intro i hi
    obtain ⟨r1, r2, r3, r4⟩ := H.rm i hi
    exact ⟨r1, r2.kept hg (by simp; omega), r3, r4.kept hg (by simp; omega)⟩
  · intro i j' hij hj'
    exact H.nn i j' hij (by simpa using hj')
  · intro i j' hi hj'
    exact H.nm i j' (by simpa using hi) hj'
theorem OwnC.name (H : OwnC x G g0 g1 g2 g3 h ha hd w) (k : Nat) (s : ByteArray) :
    OwnC { x with names := x.names.set k s } G g0 g1 g2 g3 h ha hd (w.setCell ⟨g1, k, none⟩ (.string s)) := by
  have hg := grown_set w g1 k (.string s)
  have hl := H.low
  refine ⟨H.low, H.f0.kept hg (by simp; omega), ?_, H.f2.kept hg (by simp; omega), H.f3.kept hg (by simp; omega), ?_, ?_, H.nn, H.nm, H.mm, H.ml⟩
  · show Fr _ _ _ ((x.names.set k s).map Value.string)
    rw [List.map_set]
    exact H.f1.set _ _
  · intro i hi
    have hh := (H.rn i hi).1
    exact ⟨hh, (H.rn i hi).2.kept hg (by simp; omega)⟩
  · intro i hi
    obtain ⟨r1, r2, r3, r4⟩ := H.rm i hi
    exact ⟨r1, r2.kept hg (by simp; omega), r3, r4.kept hg (by simp; omega)⟩
end

end Go.Proofs.YtemogllidmgbfaaDoor

namespace Go.Proofs.YtemogllidmgbfaaDoor
open Go.RowKit

/-- The pattern fits the circuit without memories. -/
structure Fits (c : Ck) (pin pst : List Int) : Prop where
  mems : c.mems.length = 0
  li : pin.length = (ofTo c.nodes [0] c.nodes.length).length
  ls : pst.length = (ofTo c.nodes [14] c.nodes.length).length
  vi : ∀ x ∈ pin, 0 ≤ x ∧ x ≤ 3
  vs : ∀ x ∈ pst, 0 ≤ x ∧ x ≤ 3
theorem abv_none {l : List Int} (h : ∀ x ∈ l, 0 ≤ x ∧ x ≤ 3) : anyP abv l = false :=
  anyP_no fun j hj => decide_eq_false (by
    have := (h (l.getD j 0) (by rw [List.getD_eq_getElem?_getD, List.getElem?_eq_getElem hj]; exact List.getElem_mem hj)).2
    omega)

set_option maxRecDepth 100000 in
set_option maxHeartbeats 4000000 in
theorem cpat_ok (c : Ck) (pin pst : List Int) (A0 A1 A2 A3 Ai As : Option Addr) (c0 c1 c2 c3 ci cs : Nat) (w : World) (B : Nat) (hB : B ≤ w.heap.size)
    (hc : Cir w B (.agg #[.slice A0 c.nodes.length c0, .slice A1 c.names.length c1, .slice A2 c.mems.length c2, .slice A3 c.outs.length c3]) c) (hi : Ks w B (.slice Ai pin.length ci) pin) (hs : Ks w B (.slice As pst.length cs) pst) (hsz : c.nodes.length ≤ 1000000) (hf : Fits c pin pst) :
    Calls Tryd.prog 51 #[.agg #[.slice A0 c.nodes.length c0, .slice A1 c.names.length c1, .slice A2 c.mems.length c2, .slice A3 c.outs.length c3], .agg #[.slice Ai pin.length ci, .slice As pst.length cs]] w
      fun e w' => e = .returned (.int .i64 0) ∧ Below w.heap.size w w' := by
  obtain ⟨W1, HW1⟩ := named ((w.alloc (.cells #[.slice A0 c.nodes.length c0, .slice A1 c.names.length c1, .slice A2 c.mems.length c2, .slice A3 c.outs.length c3] 56)).alloc (.cells #[.slice Ai pin.length ci, .slice As pst.length cs] 45))
  have hb1 : Below w.heap.size w W1 := by rw [HW1.out]; exact below_new (below_new (Below.refl _ _) _) _
  have hfc : Fr W1 w.heap.size 56 [.slice A0 c.nodes.length c0, .slice A1 c.names.length c1, .slice A2 c.mems.length c2, .slice A3 c.outs.length c3] := by rw [HW1.out]; exact Fr.alloc (Fr.made _ _ _ rfl) _
  have hfp : Fr W1 (w.heap.size + 1) 45 [.slice Ai pin.length ci, .slice As pst.length cs] := by rw [HW1.out]; exact Fr.made _ _ _ (by simp)
  have HIN : Hid (∀ W, BelW W1 W → Calls Tryd.prog 38 #[.agg #[.slice A0 c.nodes.length c0, .slice A1 c.names.length c1, .slice A2 c.mems.length c2, .slice A3 c.outs.length c3]] W fun e w' => ∃ A, e = .returned (.slice A pin.length pin.length) ∧ BelW W w') :=
    Lib.hid fun W hb => (inputs_any c _ W B (Nat.le_trans hB (joinB hb1 hb).size) (hc.below ((joinB hb1 hb).mono hB)) hsz).mono fun e w' ⟨A, he, _, h⟩ => ⟨A, by rw [hf.li]; exact he, h⟩
  have HST : Hid (∀ W, BelW W1 W → Calls Tryd.prog 41 #[.agg #[.slice A0 c.nodes.length c0, .slice A1 c.names.length c1, .slice A2 c.mems.length c2, .slice A3 c.outs.length c3]] W fun e w' => ∃ A, e = .returned (.slice A pst.length pst.length) ∧ BelW W w') :=
    Lib.hid fun W hb => (states_any c _ W B (Nat.le_trans hB (joinB hb1 hb).size) (hc.below ((joinB hb1 hb).mono hB)) hsz).mono fun e w' ⟨A, he, _, h⟩ => ⟨A, by rw [hf.ls]; exact he, h⟩
  have HVI : Hid (∀ W, BelW W1 W → Calls Tryd.prog 52 #[.slice Ai pin.length ci, .func (.func 62) #[] #[]] W fun e w' => e = .returned (.bool false) ∧ W = w') :=
    Lib.hid fun W hb => by have := containsV_any pin _ W B (Arr.keep stays_u8 hi (Nat.le_refl _) fun _ hp => (joinB hb1 hb).cell (Nat.lt_of_lt_of_le hp hB)); rw [abv_none hf.vi] at this; exact this
  have HVS : Hid (∀ W, BelW W1 W → Calls Tryd.prog 52 #[.slice As pst.length cs, .func (.func 62) #[] #[]] W fun e w' => e = .returned (.bool false) ∧ W = w') :=
    Lib.hid fun W hb => by have := containsV_any pst _ W B (Arr.keep stays_u8 hs (Nat.le_refl _) fun _ hp => (joinB hb1 hb).cell (Nat.lt_of_lt_of_le hp hB)); rw [abv_none hf.vs] at this; exact this
  have hm1 := Arr.len hi
  have hm2 := Arr.len hs
  have HB1 := Lib.hid hb1
  have hmem := hf.mems
  unfold maxLen at hm1 hm2
  clear hc hi hs hf hb1
  rw [hmem] at HW1 hfc HIN HST
  rw [hmem]
  clear hmem
  generalize c.nodes.length = n0 at HW1 hfc HIN HST ⊢
  generalize c.names.length = n1 at HW1 hfc HIN HST ⊢
  generalize c.outs.length = n3 at HW1 hfc HIN HST ⊢
  generalize pin.length = ni at HW1 hfp HIN HVI hm1 ⊢
  generalize pst.length = ns at HW1 hfp HST HVS hm2 ⊢
  have hce : ∀ w', BelW W1 w' → BelW W1 w' ∧ w'.cell? ⟨w.heap.size, 0, none⟩ = some (.slice A0 n0 c0) ∧ w'.cell? ⟨w.heap.size, 1, none⟩ = some (.slice A1 n1 c1) ∧ w'.cell? ⟨w.heap.size, 2, none⟩ = some (.slice A2 0 c2) ∧ w'.cell? ⟨w.heap.size, 3, none⟩ = some (.slice A3 n3 c3) ∧ w'.cell? ⟨w.heap.size + 1, 0, none⟩ = some (.slice Ai ni ci) ∧ w'.cell? ⟨w.heap.size + 1, 1, none⟩ = some (.slice As ns cs) := fun w' h =>
    ⟨h, (hfc.below h).cell 0, (hfc.below h).cell 1, (hfc.below h).cell 2, (hfc.below h).cell 3, (hfp.below h).cell 0, (hfp.below h).cell 1⟩
  have HCE := Lib.hid hce
  clear hce hfc hfp
  go_enter Tryd.func51, Tryd.ntmps51
  go_upto_region 1 with (fail)
  rw [← HW1.out]
  obtain ⟨-, x0, x1, x2, x3, y0, y1⟩ := HCE.out W1 (Below.refl _ _)
  go_wp2
  have hs0 : BelW W1 W1 := Below.refl _ _
  clear x0 x1 x2 x3 y0 y1
  go_region_held3 (fun w' => BelW W1 w' ∧ w'.cell? ⟨w.heap.size, 0, none⟩ = some (.slice A0 n0 c0) ∧ w'.cell? ⟨w.heap.size, 1, none⟩ = some (.slice A1 n1 c1) ∧ w'.cell? ⟨w.heap.size, 2, none⟩ = some (.slice A2 0 c2) ∧ w'.cell? ⟨w.heap.size, 3, none⟩ = some (.slice A3 n3 c3) ∧ w'.cell? ⟨w.heap.size + 1, 0, none⟩ = some (.slice Ai ni ci) ∧ w'.cell? ⟨w.heap.size + 1, 1, none⟩ = some (.slice As ns cs))
    ((refine HCE.out _ ?_; first | (with_reducible assumption) | (refine BelW.drew ?_; with_reducible assumption)))
    (first
      | (go_at_call 38; refine Calls.mono (HIN.out _ ?_) ?_; · (first | (with_reducible assumption) | (refine BelW.drew ?_; with_reducible assumption))
         rintro e w3 ⟨A, rfl, hb3⟩
         have hs3 : BelW W1 w3 := (by refine BelW.next ?_ hb3; first | (with_reducible assumption) | (refine BelW.drew ?_; with_reducible assumption)))
      | (go_at_call 41; refine Calls.mono (HST.out _ ?_) ?_; · (first | (with_reducible assumption) | (refine BelW.drew ?_; with_reducible assumption))
         rintro e w4 ⟨A, rfl, hb4⟩
         have hs4 : BelW W1 w4 := (by refine BelW.next ?_ hb4; first | (with_reducible assumption) | (refine BelW.drew ?_; with_reducible assumption))))
  obtain ⟨-, x0, x1, x2, x3, y0, y1⟩ := HCE.out w4 hs4
  go_wp2_with (first
    | (go_at_call 52; (with_reducible refine (HVI.out _ hs4).mono ?_); rintro e w5 ⟨rfl, rfl⟩)
    | (go_at_call 52; (with_reducible refine (HVS.out _ hs4).mono ?_); rintro e w5 ⟨rfl, rfl⟩))
  go_ret
  exact ⟨rfl, joinB HB1.out hs4⟩
end Go.Proofs.YtemogllidmgbfaaDoor
