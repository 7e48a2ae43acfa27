/- The texts Lcv Sna Unp Wnt Wl7 Wvo Wrr. -/
import Derived.Test.YtemogllidmgbfaaGreatDoorM30
import Derived.Test.YtemogllidmgbfaaGreatDoorM10
import Derived.Test.YtemogllidmgbfaaGreatDoorM33
import Derived.Test.YtemogllidmgbfaaGreatDoorM34
import Derived.Test.YtemogllidmgbfaaGreatDoorM36
import Derived.Test.YtemogllidmgbfaaGreatDoorM22
import Derived.Test.YtemogllidmgbfaaGreatDoorM20
import Derived.Test.YtemogllidmgbfaaGreatDoorM18
import Derived.Test.YtemogllidmgbfaaGreatDoorM29
import Derived.Test.YtemogllidmgbfaaGreatDoorM19
import Derived.Test.YtemogllidmgbfaaGreatDoorM16
namespace Go.Proofs.YtemogllidmgbfaaGreatDoor
open Go.RowKit


theorem ofc_any (x : Cx) (hx : Cok x) (sG sA : Value) (w : World) (B : Nat) (hB : B ≤ w.heap.size) (hG : Gs w B sG x.gates) (hA : Ks w B sA x.outs) :
    Calls Tryz.prog 11 #[.agg #[.int .u8 x.inN, .int .u8 x.dffs, .int .u8 x.d0, .int .u8 x.d1, .bool x.bus, .bool x.mem, .int .u8 x.p0, .int .u8 x.p1, .int .u8 x.p2, .int .u8 x.p3, sG, sA]] w
      fun e w' => (∃ v, e = .returned v ∧ Cir w' w'.heap.size v (ofC x)) ∧ Below w.heap.size w w' := by
  cases h : x.mem
  · rw [← h]; exact ofc_false x h hx sG sA w B hB hG hA
  · rw [← h]; exact ofc_true x h hx sG sA w B hB hG hA


theorem chk_shape {c : Ck} (h : chkErr c = 0) : shapeErr c = 0 := by
  unfold chkErr at h
  by_cases e : shapeErr c = 0
  · exact e
  · rw [if_pos e] at h; exact absurd h e
/-- A valid circuit of fewer than 20 nodes, with its levels. -/
structure Vld (c : Ck) (L : List Int) (n : Nat) : Prop where
  ok : chkErr c = 0
  lvl : Lvl c.nodes L
  len : n = c.nodes.length
  few : n < 20
section
variable {c : Ck} {L : List Int} {n : Nat}
theorem Vld.wf (V : Vld c L n) : Wf c.nodes := wf_of_shape (chk_shape V.ok)
variable {w w1 W : World} {q : Nat} {A0 A1 A2 A3 : Option Addr} {n1 n2 n3 c0 c1 c2 c3 : Nat}
end
theorem vld_c (x : Cx) (hx : Cok x) : ∃ L, Vld (ofC x) L (sizeN x) := by
  obtain ⟨L, hL⟩ := ofC_lvl x hx
  exact ⟨L, ofC_ok x hx, hL, (ofC_len x).symm, by have := sizeN_le x; omega⟩
/-- A row of truths of the call's own, in block g. -/
def BRow (w : World) (g : Nat) (l : List Bool) : Prop := w.ownsRow g 4 1 (.slice (some ⟨g, 0, none⟩) l.length l.length) l.length (l.map Value.bool)
section
variable {w w' : World} {g : Nat} {l : List Bool}
theorem BRow.cell (h : BRow w g l) {j : Nat} {b : Bool} (hj : l[j]? = some b) : w.cell? ⟨g, j, none⟩ = some (.bool b) := by
  have hl : j < l.length := (List.getElem?_eq_some_iff.1 hj).1
  rw [World.ownsRow.cellAt h j (by omega), List.getElem?_map, hj]; rfl
theorem BRow.frozen (h : BRow w g l) (j : Nat) : w.frozen? ⟨g, j, none⟩ = false := World.ownsRow.frozenAt h j
theorem BRow.set (h : BRow w g l) (j : Nat) (x : Bool) : BRow (w.setCell ⟨g, j, none⟩ (.bool x)) g (l.set j x) := by
  have := (World.ownsRow.stored h j (.bool x)).1
  unfold BRow
  rw [List.length_set, List.map_set]
  exact this
theorem BRow.lt (h : BRow w g l) : g < w.heap.size := (World.ownsRow.lt h g rfl).2
theorem BRow.kept {row : Option Nat} (h : BRow w g l) (hg : w.grownBy w' row) (hne : some g ≠ row) : BRow w' g l := World.ownsRow.kept h hg (.inr hne)
theorem BRow.below (h : BRow w g l) (hb : Below w.heap.size w w') : BRow w' g l :=
  h.kept (row := none) ⟨hb.os, hb.tape, hb.output, hb.size, fun i hi _ => hb.block i hi⟩ (by simp)
end
end Go.Proofs.YtemogllidmgbfaaGreatDoor

namespace Go.Proofs.YtemogllidmgbfaaGreatDoor
open Go.RowKit

theorem pOf_at (c : Ck) (a b : List Int) (A0 A1 A2 A3 Aa Ab : Option Addr) (n n1 n2 n3 ni ns c0 c1 c2 c3 ma mb ca cb : Nat) (w : World) (B : Nat) (hB : B ≤ w.heap.size) (hn : c.nodes.length = n) (hn1 : c.names.length = n1) (hn2 : c.mems.length = n2) (hn3 : c.outs.length = n3) (hni : (ofTo c.nodes [0] n).length = ni) (hns : (ofTo c.nodes [14] n).length = ns)
    (hc : Cir w B (.agg #[.slice A0 n c0, .slice A1 n1 c1, .slice A2 n2 c2, .slice A3 n3 c3]) c) (hi : Ks w B (.slice Aa ma ca) a) (hs : Ks w B (.slice Ab mb cb) b) (hsz : n ≤ 1000000) (va : ∀ y ∈ a, 0 ≤ y ∧ y ≤ 255) (vb : ∀ y ∈ b, 0 ≤ y ∧ y ≤ 255) :
    Calls Tryz.prog 12 #[.agg #[.slice Aa ma ca, .slice Ab mb cb], .agg #[.slice A0 n c0, .slice A1 n1 c1, .slice A2 n2 c2, .slice A3 n3 c3]] w fun e w' => ∃ AI cI AS cS, e = .returned (.agg #[.slice AI ni cI, .slice AS ns cS]) ∧ VStk w' w.heap.size (.slice AI ni cI) (takL a 4 ni) ∧ VStk w' w.heap.size (.slice AS ns cS) (takL b 3 ns) ∧ (∀ a b, (Value.slice AI ni cI).ownBlock = some a → (Value.slice AS ns cS).ownBlock = some b → a ≠ b) ∧ BelW w w' := by
  subst hn hn1 hn2 hn3 hni hns
  have hp := pOf_any c a b A0 A1 A2 A3 Aa Ab c0 c1 c2 c3 ma mb ca cb w B hB hc hi hs hsz va vb
  refine hp.mono fun e w' ⟨AI, cI, AS, cS, he, r1, r2, r3, r4⟩ => ?_
  rw [takL_len] at he r1 r3
  rw [takL_len] at he r2 r3
  exact ⟨AI, cI, AS, cS, he, r1, r2, r3, r4⟩

theorem run_at (c : Ck) (li ls : List Int) (A0 A1 A2 A3 Ai As : Option Addr) (n n1 n2 n3 ni ns c0 c1 c2 c3 ci cs : Nat) (w : World) (B : Nat) (hB : B ≤ w.heap.size) (hT : Lg.Tabs w) (hn : c.nodes.length = n) (hn1 : c.names.length = n1) (hn2 : c.mems.length = n2) (hn20 : n2 = 0) (hn3 : c.outs.length = n3) (hni : (ofTo c.nodes [0] n).length = ni) (hns : (ofTo c.nodes [14] n).length = ns)
    (hc : Cir w B (.agg #[.slice A0 n c0, .slice A1 n1 c1, .slice A2 n2 c2, .slice A3 n3 c3]) c) (hpi : Ks w B (.slice Ai ni ci) li) (hps : Ks w B (.slice As ns cs) ls) (hfew : n < 20) (hos : c.outs.length ≤ 17592186044416) (hck : chkErr c = 0) (l1 : li.length = ni) (l2 : ls.length = ns) (v1 : ∀ y ∈ li, 0 ≤ y ∧ y ≤ 3) (v2 : ∀ y ∈ ls, 0 ≤ y ∧ y ≤ 3) :
    Calls Tryz.prog 15 #[.agg #[.slice A0 n c0, .slice A1 n1 c1, .slice A2 n2 c2, .slice A3 n3 c3], .agg #[.slice Ai ni ci, .slice As ns cs]] w fun e w' => ∃ nets g h k, Net c.nodes (baseV n (ofTo c.nodes [0] n) (ofTo c.nodes [14] n) li ls) nets ∧ nets.length = n ∧ e = .returned (.tuple #[.agg #[.slice (some ⟨g, 0, none⟩) n3 n3, .slice (some ⟨h, 0, none⟩) ns ns], .slice (some ⟨k, 0, none⟩) n n, .int .i64 0]) ∧ VRow w' g (outV c nets) ∧ VRow w' h (nextV c nets) ∧ VRow w' k nets ∧ BelW w w' := by
  subst hn hn1 hn2 hn3
  have hf : Fits c li ls := ⟨hn20, by rw [l1, hni], by rw [l2, hns], v1, v2⟩
  subst l1 l2
  have hr := run_ok c li ls A0 A1 A2 A3 Ai As c0 c1 c2 c3 ci cs w B hB hT hc hpi hps hfew hos hck hf
  refine hr.mono fun e w' ⟨nets, g, h, k, hn, he, r1, r2, r3, _, _, _, r4⟩ => ?_
  have hnl : nets.length = c.nodes.length := hn.1
  have lo : (outV c nets).length = c.outs.length := List.length_map _
  have ln : (nextV c nets).length = ls.length := by rw [← hns]; exact List.length_map _
  refine ⟨nets, g, h, k, hn, hnl, ?_, r1, r2, r3, r4⟩
  rw [lo, ln, hnl] at he
  exact he

theorem ofC_outs4 (x : Cx) : (ofC x).outs.length ≤ 4 := by
  simp only [ofC, List.length_append, outsTo, List.length_map, List.length_range, List.length_cons, List.length_nil, outsN]
  omega
end Go.Proofs.YtemogllidmgbfaaGreatDoor

namespace Go.Proofs.YtemogllidmgbfaaGreatDoor

theorem asg_cons (out : List Int) (x : Int) (l : List Int) (v : Int) (vs : List Int) : asg out (x :: l) (v :: vs) = asg (out.set x.toNat v) l vs := rfl
theorem asg_off : ∀ (l vs out : List Int) (i : Nat), (∀ y ∈ l, 0 ≤ y ∧ y ≠ (i : Int)) → lat (asg out l vs) i = lat out i := by
  intro l
  induction l with
  | nil => intro vs out i _; rfl
  | cons x l ih =>
    intro vs out i h
    cases vs with
    | nil => rfl
    | cons v vs =>
      rw [asg_cons, ih _ _ _ fun y hy => h y (List.mem_cons_of_mem _ hy), lat_set _ (by omega), if_neg (fun e => (h x List.mem_cons_self).2 (by have := (h x List.mem_cons_self).1; omega))]
theorem asg_on : ∀ (l vs out : List Int), l.Pairwise (· < ·) → (∀ y ∈ l, 0 ≤ y ∧ y < (out.length : Int)) → l.length = vs.length → ∀ k, k < l.length → lat (asg out l vs) (l.getD k 0) = vs.getD k 0 := by
  intro l
  induction l with
  | nil => intro vs out _ _ _ k hk; exact absurd hk (by simp)
  | cons x l ih =>
    intro vs out hp hr hl k hk
    cases vs with
    | nil => cases hl
    | cons v vs =>
      have hx := hr x List.mem_cons_self
      rw [asg_cons]
      cases k with
      | zero =>
        obtain ⟨j, rfl⟩ := Int.eq_ofNat_of_zero_le hx.1
        show lat _ (j : Int) = v
        rw [asg_off l vs _ j fun y hy => ⟨(hr y (List.mem_cons_of_mem _ hy)).1, fun e => by have := (List.pairwise_cons.1 hp).1 y hy; omega⟩, lat_set _ (by omega), if_pos ⟨by omega, by omega⟩]
      | succ k =>
        show lat _ (l.getD k 0) = vs.getD k 0
        exact ih vs _ (List.pairwise_cons.1 hp).2 (fun y hy => by rw [List.length_set]; exact hr y (List.mem_cons_of_mem _ hy)) (by simpa using hl) k (by simpa using hk)
theorem ofTo_pair (nodes : List Nd) (kl : List Int) (n : Nat) : (ofTo nodes kl n).Pairwise (· < ·) := by
  unfold ofTo
  rw [List.pairwise_map]
  exact (List.pairwise_lt_range.filter _).imp fun h => by omega
theorem ofTo_at {nodes : List Nd} {kl : List Int} : ∀ (n : Nat) {i : Nat}, i < n → isK kl (nodes.getD i default).kind = true → (ofTo nodes kl i).length < (ofTo nodes kl n).length ∧ (ofTo nodes kl n).getD (ofTo nodes kl i).length 0 = (i : Int) := by
  intro n
  induction n with
  | zero => intro i hi; exact absurd hi (by omega)
  | succ n ih =>
    intro i hi hk
    rw [ofTo_succ]
    by_cases e : i = n
    · subst e
      rw [if_pos hk]
      refine ⟨by simp, ?_⟩
      simp [List.getD_eq_getElem?_getD]
    · obtain ⟨h1, h2⟩ := ih (i := i) (by omega) hk
      refine ⟨by rw [List.length_append]; omega, ?_⟩
      rw [List.getD_eq_getElem?_getD, List.getElem?_append_left h1, ← List.getD_eq_getElem?_getD]
      exact h2
/-- The base of a pattern at an input. -/
theorem base_in {nodes : List Nd} {n : Nat} {pin pst : List Int} (hi : (ofTo nodes [0] n).length = pin.length) {i : Nat} (hn : i < n) (hk : (nodes.getD i default).kind = 0) :
    lat (baseV n (ofTo nodes [0] n) (ofTo nodes [14] n) pin pst) i = pin.getD (ofTo nodes [0] i).length 0 := by
  have hat := ofTo_at n hn (kl := [0]) (nodes := nodes) (by rw [isK_one, hk]; rfl)
  unfold baseV
  rw [asg_off _ _ _ i fun y hy => ?_, ← hat.2]
  · exact asg_on _ _ _ (ofTo_pair _ _ _) (fun y hy => by have := ofTo_in hy; simp; omega) hi _ hat.1
  · obtain ⟨j, rfl, hj, hj2⟩ := ofTo_mem hy
    refine ⟨by omega, fun e => ?_⟩
    have : j = i := by omega
    subst this
    rw [isK_one, hk] at hj2
    simp at hj2
/-- The base of a pattern at a state. -/
theorem base_st {nodes : List Nd} {n : Nat} {pin pst : List Int} (hs : (ofTo nodes [14] n).length = pst.length) {i : Nat} (hn : i < n) (hk : (nodes.getD i default).kind = 14) :
    lat (baseV n (ofTo nodes [0] n) (ofTo nodes [14] n) pin pst) i = pst.getD (ofTo nodes [14] i).length 0 := by
  have hat := ofTo_at n hn (kl := [14]) (nodes := nodes) (by rw [isK_one, hk]; rfl)
  unfold baseV
  rw [← hat.2]
  exact asg_on _ _ _ (ofTo_pair _ _ _) (fun y hy => by have := ofTo_in hy; simp [asg_len]; omega) hs _ hat.1

theorem cln_low {v : Int} (h : v ≤ 3) : cln v = v := by unfold cln; rw [if_neg (by omega)]
/-- A valid circuit without memories has nodes of these kinds. -/
theorem kinds_of {c : Ck} {L : List Int} {m : Nat} (V : Vld c L m) (hm : c.mems.length = 0) {i : Nat} (hi : i < c.nodes.length) (h0 : 0 ≤ (c.nodes.getD i default).kind) :
    ((c.nodes.getD i default).kind = 0 ∨ (c.nodes.getD i default).kind = 14 ∨ cmb (c.nodes.getD i default).kind = true) ∧ ∀ j, j < (c.nodes.getD i default).ins.length → 0 ≤ (c.nodes.getD i default).ins.getD j 0 ∧ (c.nodes.getD i default).ins.getD j 0 < (c.nodes.length : Int) := by
  have h := nodeErr_zero ((shape_zero (chk_shape V.ok)).2.2.2.2.1 _ (getD_mem_nd hi))
  refine ⟨?_, fun j hj => ?_⟩
  · have h15 : (c.nodes.getD i default).kind ≠ 15 := fun e => by
      have hp := h.2.2.2.2.2
      unfold placeOk at hp
      rw [if_pos e, hm] at hp
      simp [isIdx] at hp
      omega
    unfold cmb
    by_cases e0 : (c.nodes.getD i default).kind = 0
    · exact .inl e0
    · by_cases e1 : (c.nodes.getD i default).kind = 14
      · exact .inr (.inl e1)
      · refine .inr (.inr ?_)
        have := h.1
        rw [Bool.and_eq_true, decide_eq_true_iff, decide_eq_true_iff]
        omega
  · have ha := h.2.2.2.1
    unfold areIdx at ha
    have hz : anyP (fun x => !isIdx c.nodes.length x) (c.nodes.getD i default).ins = false := by
      cases hh : anyP (fun x => !isIdx c.nodes.length x) (c.nodes.getD i default).ins
      · rfl
      · rw [hh] at ha; cases ha
    have hb := List.any_eq_false.1 hz _ (ints_mem hj)
    cases hx : isIdx c.nodes.length ((c.nodes.getD i default).ins.getD j 0)
    · rw [hx] at hb; exact absurd rfl hb
    · unfold isIdx at hx
      rw [Bool.and_eq_true, decide_eq_true_iff, decide_eq_true_iff] at hx
      exact hx
end Go.Proofs.YtemogllidmgbfaaGreatDoor

namespace Go.Proofs.YtemogllidmgbfaaGreatDoor

abbrev Wls := List (Nat × Nat)
def WOk (l : Wls) : Prop := ∀ k, W64 (l.getD k (0, 0)).1 ∧ W64 (l.getD k (0, 0)).2
theorem WOk.set {l : Wls} (h : WOk l) (k : Nat) {x : Nat × Nat} (hx : W64 x.1 ∧ W64 x.2) : WOk (l.set k x) := fun j => by
  rw [List.getD_eq_getElem?_getD, List.getElem?_set]
  split
  · split
    · exact hx
    · exact ⟨w_zero, w_zero⟩
  · have := h j
    rw [List.getD_eq_getElem?_getD] at this
    exact this
theorem WOk.nil_ (n : Nat) : WOk (List.replicate n (0, 0)) := fun k => by
  rw [List.getD_eq_getElem?_getD, List.getElem?_replicate]
  split <;> exact ⟨w_zero, w_zero⟩
def wlat (out : Wls) (y : Int) : Nat × Nat := out.getD y.toNat (0, 0)
theorem lanes_lat {out : Wls} {i : Nat} {y : Int} (hy : y.toNat < out.length) : lat (lanes out i) y = lnV (wlat out y).1 (wlat out y).2 i := by
  unfold lat wlat
  exact lanes_at hy
theorem lanes_set (out : Wls) (i k : Nat) (x : Nat × Nat) : lanes (out.set k x) i = (lanes out i).set k (lnV x.1 x.2 i) := by
  unfold lanes
  rw [List.map_set]
/-- One node settled in all lanes. -/
def wstl (nodes : List Nd) (out : Wls) (x : Int) : Wls := if cmb (nodes.getD x.toNat default).kind = true then out.set x.toNat (evW (nodes.getD x.toNat default).kind ((nodes.getD x.toNat default).ins.map (wlat out))) else out
theorem wmap_ok {out : Wls} (h : WOk out) (ins : List Int) : WOk (ins.map (wlat out)) := fun k => by
  rw [List.getD_eq_getElem?_getD, List.getElem?_map]
  cases e : ins[k]? with
  | none => exact ⟨w_zero, w_zero⟩
  | some y => exact h _
theorem wstl_ok {nodes : List Nd} {out : Wls} (h : WOk out) (x : Int) : WOk (wstl nodes out x) := by
  unfold wstl
  split
  · exact h.set _ (evW_w (wmap_ok h _) _)
  · exact h
theorem wstl_len (nodes : List Nd) (out : Wls) (x : Int) : (wstl nodes out x).length = out.length := by
  unfold wstl
  split
  · exact List.length_set
  · rfl
theorem wstl_lane {nodes : List Nd} {out : Wls} (h : WOk out) {i : Nat} (hi : i < 64) {x : Int} (hr : ∀ y ∈ (nodes.getD x.toNat default).ins, 0 ≤ y ∧ y < (out.length : Int)) : lanes (wstl nodes out x) i = stl nodes (lanes out i) x := by
  unfold wstl stl
  split
  · rw [lanes_set, evW_ln (wmap_ok h _) hi]
    unfold gateV
    congr 2
    unfold lanes
    rw [List.map_map]
    refine List.map_congr_left fun y hy => ?_
    have hy2 := hr y hy
    have e := lanes_lat (out := out) (i := i) (y := y) (by omega)
    unfold lanes at e
    rw [e]
    exact (lnV_cln _ _ _).symm
  · rfl
/-- The nodes of P are settled in all lanes. -/
structure WSt (nodes : List Nd) (wb : Wls) (P : List Int) (out : Wls) : Prop where
  ok : WOk out
  len : out.length = nodes.length
  st : ∀ i, i < 64 → StI nodes (lanes wb i) P (lanes out i)
theorem WSt.start {nodes : List Nd} {wb : Wls} (h : WOk wb) (hl : wb.length = nodes.length) : WSt nodes wb [] wb := ⟨h, hl, fun i _ => StI.start _ _ (by rw [lanes_len]; exact hl)⟩
theorem WSt.step {nodes : List Nd} {wb out : Wls} {P L : List Int} (hw : Wf nodes) (hL : Lvl nodes L) (h : WSt nodes wb P out) {x : Int} (h0 : 0 ≤ x) (hx : x < (nodes.length : Int)) (hP : ∀ y ∈ P, 0 ≤ y ∧ y < (nodes.length : Int) ∧ y ≠ x ∧ lat L y ≤ lat L x) : WSt nodes wb (P ++ [x]) (wstl nodes out x) :=
  ⟨wstl_ok h.ok x, by rw [wstl_len]; exact h.len, fun i hi => by
    rw [wstl_lane h.ok hi fun y hy => by have := hw x.toNat (by omega) y hy; rw [h.len]; exact this]
    exact (h.st i hi).step hw hL h0 hx hP⟩
def asgW (out : Wls) (l : List Int) (vs : Wls) : Wls := (l.zip vs).foldl (fun o p => o.set p.1.toNat p.2) out
theorem lanes_asg (l : List Int) : ∀ (vs out : Wls) (i : Nat), lanes (asgW out l vs) i = asg (lanes out i) l (lanes vs i) := by
  induction l with
  | nil => intro vs out i; rfl
  | cons x l ih =>
    intro vs out i
    cases vs with
    | nil => rfl
    | cons v vs =>
      have := ih vs (out.set x.toNat v) i
      rw [lanes_set] at this
      exact this
theorem asgW_len (l : List Int) : ∀ (vs out : Wls), (asgW out l vs).length = out.length := by
  induction l with
  | nil => intro vs out; rfl
  | cons x l ih =>
    intro vs out
    cases vs with
    | nil => rfl
    | cons v vs => exact (ih vs (out.set x.toNat v)).trans List.length_set
theorem asgW_ok (l : List Int) : ∀ (vs out : Wls), (∀ x ∈ vs, W64 x.1 ∧ W64 x.2) → WOk out → WOk (asgW out l vs) := by
  induction l with
  | nil => intro vs out _ h; exact h
  | cons x l ih =>
    intro vs out hv h
    cases vs with
    | nil => exact h
    | cons v vs => exact ih vs (out.set x.toNat v) (fun y hy => hv y (List.mem_cons_of_mem _ hy)) (h.set _ (hv v List.mem_cons_self))
/-- The words of the inputs and states. -/
def baseW (n : Nat) (ins sts : List Int) (pin pst : Wls) : Wls := asgW (asgW (List.replicate n (0, 0)) ins pin) sts pst
theorem baseW_len (n : Nat) (ins sts : List Int) (pin pst : Wls) : (baseW n ins sts pin pst).length = n := by unfold baseW; rw [asgW_len, asgW_len]; simp
theorem baseW_ok {n : Nat} {ins sts : List Int} {pin pst : Wls} (h1 : ∀ x ∈ pin, W64 x.1 ∧ W64 x.2) (h2 : ∀ x ∈ pst, W64 x.1 ∧ W64 x.2) : WOk (baseW n ins sts pin pst) := asgW_ok _ _ _ h2 (asgW_ok _ _ _ h1 (WOk.nil_ n))
theorem lanes_rep (n i : Nat) : lanes (List.replicate n (0, 0)) i = List.replicate n 2 := by
  unfold lanes
  rw [List.map_replicate]
  unfold lnV
  rw [Nat.zero_testBit]; rfl
theorem base_in2 {nodes : List Nd} {n : Nat} {pin pst : List Int} (hi : (ofTo nodes [0] n).length = pin.length) {i : Nat} (hn : i < n) (hk : (nodes.getD i default).kind = 0) :
    lat (asg (asg (List.replicate n 2) (ofTo nodes [0] n) pin) (ofTo nodes [14] n) pst) i = pin.getD (ofTo nodes [0] i).length 0 := by
  have hat := ofTo_at n hn (kl := [0]) (nodes := nodes) (by rw [isK_one, hk]; rfl)
  rw [asg_off _ _ _ i fun y hy => ?_, ← hat.2]
  · exact asg_on _ _ _ (ofTo_pair _ _ _) (fun y hy => by have := ofTo_in hy; simp; omega) hi _ hat.1
  · obtain ⟨j, rfl, hj, hj2⟩ := ofTo_mem hy
    refine ⟨by omega, fun e => ?_⟩
    have : j = i := by omega
    subst this
    rw [isK_one, hk] at hj2
    simp at hj2
theorem base_st2 {nodes : List Nd} {n : Nat} {pin pst : List Int} (hs : (ofTo nodes [14] n).length = pst.length) {i : Nat} (hn : i < n) (hk : (nodes.getD i default).kind = 14) :
    lat (asg (asg (List.replicate n 2) (ofTo nodes [0] n) pin) (ofTo nodes [14] n) pst) i = pst.getD (ofTo nodes [14] i).length 0 := by
  have hat := ofTo_at n hn (kl := [14]) (nodes := nodes) (by rw [isK_one, hk]; rfl)
  rw [← hat.2]
  exact asg_on _ _ _ (ofTo_pair _ _ _) (fun y hy => by have := ofTo_in hy; simp [asg_len]; omega) hs _ hat.1
/-- At the end each lane has the nets of its pattern. -/
theorem WSt.stop {c : Ck} {L : List Int} {n : Nat} (V : Vld c L n) (hm : c.mems.length = 0) (hk : ∀ i : Nat, i < n → 0 ≤ (c.nodes.getD i default).kind) {pinW pstW out : Wls} {P : List Int}
    (hi : (ofTo c.nodes [0] n).length = pinW.length) (hs : (ofTo c.nodes [14] n).length = pstW.length) (h : WSt c.nodes (baseW n (ofTo c.nodes [0] n) (ofTo c.nodes [14] n) pinW pstW) P out) (hP : ∀ i : Nat, i < n → (i : Int) ∈ P) {i : Nat} (hi64 : i < 64) :
    Net c.nodes (baseV n (ofTo c.nodes [0] n) (ofTo c.nodes [14] n) (lanes pinW i) (lanes pstW i)) (lanes out i) := by
  have hlen := V.len
  have hn := (h.st i hi64).stop fun j hj => hP j (by omega)
  refine ⟨hn.1, fun j hj => ?_⟩
  rw [hn.2 j hj]
  split
  · rfl
  · rename_i hc
    unfold baseW
    rw [lanes_asg, lanes_asg, lanes_rep]
    rcases (kinds_of V hm (i := j) hj (hk j (by omega))).1 with e | e | e
    · rw [base_in2 (by rw [lanes_len]; exact hi) (by omega) e, base_in (by rw [lanes_len]; exact hi) (by omega) e]
    · rw [base_st2 (by rw [lanes_len]; exact hs) (by omega) e, base_st (by rw [lanes_len]; exact hs) (by omega) e]
    · exact absurd e hc
/-- The word of a value of each pattern. -/
def colW (l : List (List Int)) (j : Nat) : Nat × Nat := (pkA (l.map fun p => p.getD j 0) (min l.length 64), pkB (l.map fun p => p.getD j 0) (min l.length 64))
def rowW (l : List (List Int)) (m : Nat) : Wls := (List.range m).map (colW l)
/-- The values of the pattern of lane i. -/
def rowV (l : List (List Int)) (m i : Nat) : List Int := if i < l.length then l.getD i [] else List.replicate m 2
theorem rowW_ok (l : List (List Int)) (m : Nat) : ∀ x ∈ rowW l m, W64 x.1 ∧ W64 x.2 := fun x hx => by
  unfold rowW at hx
  obtain ⟨j, -, rfl⟩ := List.mem_map.1 hx
  exact ⟨pkA_w _ _ (by omega), pkB_w _ _ (by omega)⟩
theorem rowW_len (l : List (List Int)) (m : Nat) : (rowW l m).length = m := by simp [rowW]
theorem rowW_lane {l : List (List Int)} {m i : Nat} (hl : l.length ≤ 64) (hv : ∀ p ∈ l, p.length = m ∧ ∀ y ∈ p, 0 ≤ y ∧ y ≤ 3) (hi : i < 64) : lanes (rowW l m) i = rowV l m i := by
  have h0 : ∀ j, ∀ y ∈ l.map (fun p => p.getD j 0), 0 ≤ y := fun j y hy => by
    obtain ⟨p, hp, rfl⟩ := List.mem_map.1 hy
    rw [List.getD_eq_getElem?_getD]
    by_cases h : j < p.length
    · rw [List.getElem?_eq_getElem h]; exact ((hv p hp).2 _ (List.getElem_mem h)).1
    · rw [List.getElem?_eq_none (by omega)]; exact Int.le_refl _
  have hlane : ∀ j, j < m → lnV (colW l j).1 (colW l j).2 i = (rowV l m i).getD j 0 := fun j hj => by
    unfold colW
    rw [pack_ln (h0 j) hi]
    unfold rowV
    by_cases h : i < l.length
    · have hp := hv _ (List.getElem_mem h)
      have e1 : (l.map fun p => p.getD j 0).getD i 0 = l[i].getD j 0 := by
        rw [List.getD_eq_getElem?_getD, List.getElem?_map, List.getElem?_eq_getElem h]; rfl
      have e2 : l.getD i [] = l[i] := by rw [List.getD_eq_getElem?_getD, List.getElem?_eq_getElem h]; rfl
      rw [if_pos (by omega), if_pos h, e1, e2]
      have e3 : l[i].getD j 0 = l[i][j]'(by rw [hp.1]; exact hj) := by rw [List.getD_eq_getElem?_getD, List.getElem?_eq_getElem (by rw [hp.1]; exact hj)]; rfl
      rw [e3]
      exact cln_low (hp.2 _ (List.getElem_mem _)).2
    · rw [if_neg (by omega), if_neg h, List.getD_eq_getElem?_getD, List.getElem?_replicate, if_pos hj]; rfl
  have hlen : (rowV l m i).length = m := by
    unfold rowV
    split
    · rename_i h
      rw [List.getD_eq_getElem?_getD, List.getElem?_eq_getElem h]
      exact (hv _ (List.getElem_mem h)).1
    · simp
  have e0 : lanes (rowW l m) i = (List.range m).map fun j => lnV (colW l j).1 (colW l j).2 i := by
    unfold lanes rowW
    rw [List.map_map]; rfl
  rw [e0]
  apply List.ext_getElem
  · simp [hlen]
  · intro j h1 h2
    have hj : j < m := by simpa using h1
    rw [List.getElem_map, List.getElem_range, hlane j hj, List.getD_eq_getElem?_getD, List.getElem?_eq_getElem h2]
    rfl
end Go.Proofs.YtemogllidmgbfaaGreatDoor

namespace Go.Proofs.YtemogllidmgbfaaGreatDoor
open Go.RowKit

def P7 : List (List Int × List Int) := [([0], [1]), ([1], [2]), ([2], [1])]
theorem p7_fits : ∀ x ∈ P7, Fits E6 x.1 x.2 := fun x hx => by
  have h : x = ([0], [1]) ∨ x = ([1], [2]) ∨ x = ([2], [1]) := by simpa [P7] using hx
  rcases h with rfl | rfl | rfl <;> exact fits_one (by decide) (by decide)
theorem fits_zero {c : Ck} {l k : List Int} (h : Fits c l k) (hc : chkErr c = 0) : ckE c l k = 0 := by
  rw [ckE_val hc h.mems h.li h.ls, abv_none h.vi, abv_none h.vs]; rfl
theorem wk_fits {c : Ck} {ps : List (List Int × List Int)} (hn : ps.length ≤ 64) (hc : chkErr c = 0) (hm : c.mems.length = 0) (h : ∀ x ∈ ps, Fits c x.1 x.2) : wkE c ps = 0 := by
  unfold wkE
  rw [if_neg (by omega), blE_of hc hm]
  refine foldE_zero fun k hk => ?_
  rw [List.getD_eq_getElem?_getD, List.getElem?_eq_getElem hk]
  exact fits_zero (h _ (List.getElem_mem hk)) hc
theorem p7_ok : wkE E6 P7 = 0 := wk_fits (by decide) e6_ok rfl p7_fits
def W7 : Wls := [(2, 1), (5, 0), (1, 2), (1, 2), (1, 3), (1, 3)]
def B7 : Wls := [(2, 1), (5, 0), (0, 0), (0, 0), (0, 0), (0, 0)]
theorem b7 : baseW 6 [0] [1] (rowW (P7.map (·.1)) 1) (rowW (P7.map (·.2)) 1) = B7 := by decide
theorem low_lane {a b i : Nat} (ha : a < 8) (hb : b < 8) (hi : 3 ≤ i) : lnV a b i = 2 := by
  have h : ∀ x : Nat, x < 8 → x.testBit i = false := fun x hx => Nat.testBit_lt_two_pow (Nat.lt_of_lt_of_le (show x < 2 ^ 3 from hx) (Nat.pow_le_pow_right (by decide) hi))
  unfold lnV
  rw [h a ha, h b hb]; rfl
theorem net7 (i : Nat) : Net e6N (lanes B7 i) (lanes W7 i) := by
  by_cases h3 : 3 ≤ i
  · have e1 : lanes W7 i = [2, 2, 2, 2, 2, 2] := by
      simp only [lanes, W7, List.map_cons, List.map_nil]
      rw [low_lane (by decide) (by decide) h3, low_lane (by decide) (by decide) h3, low_lane (by decide) (by decide) h3, low_lane (by decide) (by decide) h3]
    have e2 : lanes B7 i = [2, 2, 2, 2, 2, 2] := by
      simp only [lanes, B7, List.map_cons, List.map_nil]
      rw [low_lane (by decide) (by decide) h3, low_lane (by decide) (by decide) h3, low_lane (by decide) (by decide) h3]
    rw [e1, e2]
    exact ⟨rfl, six_of (by decide) (by decide) (by decide) (by decide) (by decide) (by decide)⟩
  · have : i = 0 ∨ i = 1 ∨ i = 2 := by omega
    rcases this with rfl | rfl | rfl <;> exact ⟨rfl, six_of (by decide) (by decide) (by decide) (by decide) (by decide) (by decide)⟩
theorem w7_ok : WOk W7 := fun k => by
  have : k = 0 ∨ k = 1 ∨ k = 2 ∨ k = 3 ∨ k = 4 ∨ k = 5 ∨ 6 ≤ k := by omega
  rcases this with rfl | rfl | rfl | rfl | rfl | rfl | h
  all_goals first
    | (unfold W64; decide)
    | (rw [List.getD_eq_getElem?_getD, List.getElem?_eq_none (by simp [W7]; omega)]; exact ⟨w_zero, w_zero⟩)
theorem words_all {l k : Wls} (hl : WOk l) (hk : WOk k) (hn : l.length = k.length) (h : ∀ i, i < 64 → lanes l i = lanes k i) : l = k := by
  apply List.ext_getElem hn
  intro j h1 h2
  have a1 := hl j
  have a2 := hk j
  rw [List.getD_eq_getElem?_getD, List.getElem?_eq_getElem h1] at a1
  rw [List.getD_eq_getElem?_getD, List.getElem?_eq_getElem h2] at a2
  have e := words_ext a1.1 a1.2 a2.1 a2.2 fun i hi => by
    have h3 : (lanes l i).getD j 0 = (lanes k i).getD j 0 := by rw [h i hi]
    rw [lanes_at h1, lanes_at h2] at h3
    unfold vl at h3
    rw [List.getD_eq_getElem?_getD, List.getElem?_eq_getElem h1, List.getD_eq_getElem?_getD, List.getElem?_eq_getElem h2] at h3
    exact h3
  exact Prod.ext e.1 e.2
/-- What simulate says of the words, for the example: they are these. -/
theorem w7_out {out : Wls} {P : List Int} (h : WSt e6N B7 P out) (hP : ∀ i : Nat, i < 6 → (i : Int) ∈ P) : out = W7 :=
  words_all h.ok w7_ok (h.len.trans rfl) fun i hi => e6_net (net7 i) ((h.st i hi).stop hP)
theorem pk7a : (pkA [1, 0, 2, 3] 4, pkB [1, 0, 2, 3] 4) = (9, 10) := by decide
theorem pk7b : (pkA [1, 1, 0] 3, pkB [1, 1, 0] 3) = (3, 4) := by decide
theorem pk7c : (pkA [1, 2, 2] 3, pkB [1, 2, 2] 3) = (1, 0) := by decide
theorem pk7d : (pkA [0, 1] 2, pkB [0, 1] 2) = (2, 1) := by decide
theorem pk7e : (pkA [1, 1] 2, pkB [1, 1] 2) = (3, 0) := by decide
theorem ev7a : evW 5 [(3, 4), (1, 0)] = (1, 4) := by decide
theorem ev7b : evW 12 [(2, 1), (3, 0)] = (3, 1) := by decide
theorem un7 : (List.range 5).map (lnV 9 10) = [1, 0, 2, 3, 2] := by decide
theorem at7 : lnV 9 10 3 = 3 := by decide
theorem tv7a : TV ⟨#[49, 48, 88, 90, 88]⟩ [1, 0, 2, 3, 2] := tv_of rfl (by decide) (by decide)
theorem tv7b : TV ⟨#[49, 90]⟩ [1, 3] := tv_of rfl (by decide) (by decide)
end Go.Proofs.YtemogllidmgbfaaGreatDoor

namespace Go.Proofs.YtemogllidmgbfaaGreatDoor
open Go.RowKit

def laid (l : List (Nat × Nat)) (i n : Nat) (out : List Int) (k : Nat) : Prop := out.length = n ∧ ∀ j, j < k → out.getD j 0 = vl l i j
theorem laid_all {l : List (Nat × Nat)} {i n : Nat} {out : List Int} (hn : n = l.length) (h : laid l i n out n) : out = lanes l i := by
  apply List.ext_getElem (by rw [h.1, lanes_len, hn])
  intro j h1 h2
  have hj : j < l.length := by rw [← lanes_len l i]; exact h2
  have e1 := h.2 j (by omega)
  have e2 := lanes_at (l := l) (i := i) hj
  rw [List.getD_eq_getElem?_getD, List.getElem?_eq_getElem h1] at e1
  rw [List.getD_eq_getElem?_getD, List.getElem?_eq_getElem h2] at e2
  exact (show out[j] = vl l i j from e1).trans (show vl l i j = (lanes l i)[j] from e2.symm)
theorem laid_succ {l : List (Nat × Nat)} {i n k : Nat} {out : List Int} (h : laid l i n out k) (hk : k < n) : laid l i n (out.set k (vl l i k)) (k + 1) := by
  refine ⟨by rw [List.length_set]; exact h.1, fun j hj => ?_⟩
  rw [List.getD_eq_getElem?_getD, List.getElem?_set]
  split
  · rename_i e
    subst e
    rw [if_pos (by rw [h.1]; exact hk)]; rfl
  · rename_i e
    rw [← List.getD_eq_getElem?_getD]
    exact h.2 j (by omega)
set_option maxRecDepth 100000 in
set_option maxHeartbeats 4000000 in
theorem valof_any (l : List (Nat × Nat)) (A : Option Addr) (n cl i : Nat) (hi : i < 64) (w : World) (B : Nat) (hB : B ≤ w.heap.size) (hf : Ft w) (hs : Wd w B (.slice A n cl) l) (hsz : n ≤ 1000000) :
    Calls Tryz.prog 44 #[.slice A n cl, .int .i64 (i : Int)] w fun e w' => ∃ g, e = .returned (.slice (some ⟨g, 0, none⟩) n n) ∧ VRow w' g (lanes l i) ∧ w.heap.size ≤ g ∧ BelW w w' := by
  obtain ⟨A', b, o, c', e, hA, -, -, hc⟩ := id hs
  simp only [Value.slice.injEq] at e
  obtain ⟨rfl, hml, rfl⟩ := e
  rw [← hml] at hA hc
  have HA := Lib.hid hA
  have HC : Hid (∀ W, BelW w W → ∀ k, k < n → W.cell? ⟨b, o + k * 2, none⟩ = some (.int .u64 ((l.getD k (0, 0)).1 : Int)) ∧ W.cell? ⟨b, o + k * 2 + 1, none⟩ = some (.int .u64 ((l.getD k (0, 0)).2 : Int)) ∧ W64 (l.getD k (0, 0)).1 ∧ W64 (l.getD k (0, 0)).2) := Lib.hid fun W h k hk => by
    obtain ⟨hb, h0, h1, h2, h3⟩ := hc k hk
    exact ⟨(Below.cell h (p := ⟨b, _, none⟩) (Nat.lt_of_lt_of_le hb hB)).trans h0, (Below.cell h (p := ⟨b, _, none⟩) (Nat.lt_of_lt_of_le hb hB)).trans h1, h2, h3⟩
  have HF := Lib.hid (fun W (h : BelW w W) => hf.below h)
  have HML := Lib.hid hml
  obtain ⟨i0, hi0, hz0, hz1, hz2⟩ := info_parts info_val
  have HI := Lib.hid (And.intro hi0 (And.intro hz0 (And.intro hz1 hz2)))
  clear hi0 hz0 hz1 hz2 hs hf hA hc hml
  go_enter Tryz.func44, Tryz.ntmps44
  go_wp2_with (at_make; refine wpList_make_full _ rfl _ _ 29 rfl w.heap.size 30 i0 (.int .u8 0) 1 Tryz.underlying29 HI.out.1 HI.out.2.1 HI.out.2.2.1 .i64 .i64 _ _ n rfl rfl rfl rfl ?b2 ?b3 ?b4 ?_)
  case b2 => rw [HI.out.2.2.2]; omega
  case b3 => unfold maxLen; omega
  case b4 => exact Nat.le_refl _
  intro w1 hown hgr
  rw [made_vals] at hown
  have hv : VRow w1 w.heap.size (List.replicate n 0) := VRow.of hown (by simp)
  have hb : BelW w w1 := (Below.refl _ _).grown hgr (Nat.le_refl _) (fun k h => by cases h)
  have HV := Lib.hid hv
  have HB := Lib.hid hb
  obtain ⟨g, HG⟩ := named w.heap.size
  rw [← HG.out] at HV
  rw [← HG.out]
  have hgl : w.heap.size ≤ g := by rw [HG.out]; exact Nat.le_refl _
  clear hown hgr hv hb
  go_wp2
  go_loopw [13] (fun j wr => ∃ (k : Nat) (out : List Int), k ≤ n ∧ j = .int .i64 k ∧ laid l i n out k ∧ VRow wr g out ∧ BelW w wr) (fun j _ => n - (intOf j).toNat)
  case atStart => exact ⟨0, _, Nat.zero_le _, rfl, ⟨by simp, fun j h => absurd h (Nat.not_lt_zero j)⟩, HV.out, HB.out⟩
  case round =>
    obtain ⟨k, out, hk, rfl, hl, hv, hb⟩ := hrel
    have HL := Lib.hid hl
    have HVR := Lib.hid hv
    have HBR := Lib.hid hb
    by_cases hlt : k < n
    · obtain rfl := HA.out (by omega)
      obtain ⟨f0, f1, u0, u1⟩ := HC.out wr hb k hlt
      have hgw : g < wr.heap.size := hv.lt
      have hvl : vl l i k = lnV (l.getD k (0, 0)).1 (l.getD k (0, 0)).2 i := rfl
      have HNL := Lib.hid (laid_succ hl hlt)
      obtain ⟨a, HAA⟩ := named (l.getD k (0, 0)).1
      obtain ⟨c, HCC⟩ := named (l.getD k (0, 0)).2
      rw [← HAA.out] at f0 u0 hvl
      rw [← HCC.out] at f1 u1 hvl
      rw [hvl] at HNL
      have hat : ∀ W, BelW w W → Calls Tryz.prog 21 #[wv a c, .int .i64 (i : Int)] W fun e w' => e = .returned (.int .u8 (lnV a c i)) ∧ BelW W w' := fun W h => wat_any a c i u0 u1 hi W (HF.out W h)
      unfold wv at hat
      obtain ⟨z, HZ⟩ := named (lnV a c i)
      rw [← HZ.out] at hat HNL
      have HAT := Lib.hid hat
      have hbl : b < wr.heap.size := cell_lt f0
      obtain ⟨V, HV'⟩ := named (wr.alloc (.cells #[.int .u64 (a : Int), .int .u64 (c : Int)] 27))
      have hn : BelW wr V := by rw [HV'.out]; exact below_new (Below.refl _ _) _
      have hfv : Fr V wr.heap.size 27 [.int .u64 (a : Int), .int .u64 (c : Int)] := by rw [HV'.out]; exact Fr.made _ _ _ rfl
      have hsV : BelW w V := joinB hb hn
      have hrV := HVR.out.below hn
      obtain ⟨q, HQ⟩ := named wr.heap.size
      rw [← HQ.out] at hfv
      have d0 := hfv.cell 0
      have d1 := hfv.cell 1
      have HRV := Lib.hid hrV
      have HLO := Lib.hid (show k < out.length by rw [hl.1]; exact hlt)
      clear hn hfv hrV hat hvl hl hv hb
      go_upto_region 5 with (fail)
      rw [← HV'.out, ← HQ.out]
      go_wp2_with (go_at_call 21; (with_reducible refine (HAT.out _ hsV).mono ?_); rintro e w5 ⟨rfl, hb5⟩; have hv5 := HRV.out.below hb5; have e1 := hv5.cell HLO.out; have e2 := hv5.frozen k; have HV5 := Lib.hid hv5; have HB5 : Hid (BelW w w5) := Lib.hid (joinB hsV hb5); clear hb5 hv5)
      go_roundw
      case rel => exact ⟨k + 1, out.set k z, by omega, by go_num, HNL.out, HV5.out.set k z, BelW.set HB5.out hgl _⟩
      case measure => simp [intOf]; omega
    · obtain rfl : n = k := by omega
      obtain rfl := laid_all HML.out HL.out
      clear hl hv hb
      go_wp2
      go_ret
      exact ⟨g, rfl, HVR.out, hgl, HBR.out⟩
end Go.Proofs.YtemogllidmgbfaaGreatDoor

namespace Go.Proofs.YtemogllidmgbfaaGreatDoor
open Go.RowKit

theorem info_resp : (Tryz.prog.info? 59).map (fun i => (i.zero, i.size, i.bytes)) = some (some (.agg #[.slice none 0 0, .slice none 0 0]), 2, 48) := by kernel_rfl
/-- The cells of a list of pairs of values. -/
def flatP : List (Value × Value) → List Value
  | [] => []
  | x :: l => x.1 :: x.2 :: flatP l
theorem flatP_len (l : List (Value × Value)) : (flatP l).length = l.length * 2 := by
  induction l with
  | nil => rfl
  | cons x l ih => simp [flatP, ih]; omega
theorem flatP_get (l : List (Value × Value)) (k : Nat) : (flatP l)[k * 2]? = l[k]?.map (·.1) ∧ (flatP l)[k * 2 + 1]? = l[k]?.map (·.2) := by
  induction l generalizing k with
  | nil => simp [flatP]
  | cons x l ih =>
    cases k with
    | zero => simp [flatP]
    | succ k =>
      have e1 : (k + 1) * 2 = k * 2 + 1 + 1 := by omega
      rw [e1]
      simp only [flatP, List.getElem?_cons_succ]
      exact ih k
theorem flatP_set (l : List (Value × Value)) (k : Nat) (x : Value × Value) : ((flatP l).set (k * 2) x.1).set (k * 2 + 1) x.2 = flatP (l.set k x) := by
  induction l generalizing k with
  | nil => simp [flatP]
  | cons y l ih =>
    cases k with
    | zero => simp [flatP]
    | succ k =>
      have e1 : (k + 1) * 2 = k * 2 + 1 + 1 := by omega
      rw [e1]
      simp only [flatP, List.set_cons_succ]
      rw [ih k]
theorem flatP_zero (z : Value) (n : Nat) : (madeCells #[z, z] (n * 2)).toList = flatP (List.replicate n (z, z)) := by
  apply List.ext_getElem?
  intro j
  by_cases hj : j < n * 2
  · obtain ⟨k, hk⟩ : ∃ k, j = k * 2 ∨ j = k * 2 + 1 := ⟨j / 2, by omega⟩
    have hkn : k < n := by omega
    rcases hk with rfl | rfl
    · rw [(flatP_get _ k).1]
      simp [madeCells, hj, hkn]
    · rw [(flatP_get _ k).2]
      have : (k * 2 + 1) % 2 = 1 := by omega
      simp [madeCells, hj, hkn, this]
  · rw [List.getElem?_eq_none (by simp [madeCells]; omega), List.getElem?_eq_none (by rw [flatP_len]; simp; omega)]

/-- Block g is a row of n responses, of which the first k are those of f. -/
def RRow (w : World) (g : Nat) (f : Nat → List Int × List Int) (n k : Nat) : Prop :=
  ∃ vs : List (Value × Value), Fr w g 59 (flatP vs) ∧ vs.length = n ∧ ∀ j, j < k → ∃ a b, vs[j]? = some (.slice (some ⟨a, 0, none⟩) (f j).1.length (f j).1.length, .slice (some ⟨b, 0, none⟩) (f j).2.length (f j).2.length) ∧ VRow w a (f j).1 ∧ VRow w b (f j).2 ∧ a ≠ g ∧ b ≠ g
section
variable {w w' : World} {g n k : Nat} {f : Nat → List Int × List Int}
theorem RRow.lt (h : RRow w g f n k) : g < w.heap.size := by obtain ⟨vs, h1, -⟩ := h; exact h1.lt
theorem RRow.below (h : RRow w g f n k) (hb : BelW w w') : RRow w' g f n k := by
  obtain ⟨vs, h1, h2, h3⟩ := h
  exact ⟨vs, h1.below hb, h2, fun j hj => by
    obtain ⟨a, b, e, va, vb, na, nb⟩ := h3 j hj
    exact ⟨a, b, e, va.below hb, vb.below hb, na, nb⟩⟩
theorem RRow.frozen (h : RRow w g f n k) (j : Nat) : w.frozen? ⟨g, j, none⟩ = false := by obtain ⟨vs, h1, -⟩ := h; exact h1.frozen j
theorem RRow.there (h : RRow w g f n k) {j : Nat} (hj : j < n) : ∃ u v, w.cell? ⟨g, j * 2, none⟩ = some u ∧ w.cell? ⟨g, j * 2 + 1, none⟩ = some v := by
  obtain ⟨vs, h1, h2, -⟩ := h
  have e : vs[j]? = some vs[j] := List.getElem?_eq_getElem (by omega)
  refine ⟨vs[j].1, vs[j].2, ?_, ?_⟩
  · rw [h1.cell, (flatP_get vs j).1, e]; rfl
  · rw [h1.cell, (flatP_get vs j).2, e]; rfl
theorem RRow.at (h : RRow w g f n k) {j : Nat} (hj : j < k) : ∃ a b, w.cell? ⟨g, j * 2, none⟩ = some (.slice (some ⟨a, 0, none⟩) (f j).1.length (f j).1.length) ∧ w.cell? ⟨g, j * 2 + 1, none⟩ = some (.slice (some ⟨b, 0, none⟩) (f j).2.length (f j).2.length) ∧ VRow w a (f j).1 ∧ VRow w b (f j).2 := by
  obtain ⟨vs, h1, h2, h3⟩ := h
  obtain ⟨a, b, e, va, vb, -, -⟩ := h3 j hj
  refine ⟨a, b, ?_, ?_, va, vb⟩
  · rw [h1.cell, (flatP_get vs j).1, e]; rfl
  · rw [h1.cell, (flatP_get vs j).2, e]; rfl
theorem RRow.step (h : RRow w g f n k) (hk : k < n) {a b : Nat} (va : VRow w a (f k).1) (vb : VRow w b (f k).2) (na : a ≠ g) (nb : b ≠ g) :
    RRow ((w.setCell ⟨g, k * 2, none⟩ (.slice (some ⟨a, 0, none⟩) (f k).1.length (f k).1.length)).setCell ⟨g, k * 2 + 1, none⟩ (.slice (some ⟨b, 0, none⟩) (f k).2.length (f k).2.length)) g f n (k + 1) := by
  obtain ⟨vs, h1, h2, h3⟩ := h
  refine ⟨vs.set k (.slice (some ⟨a, 0, none⟩) (f k).1.length (f k).1.length, .slice (some ⟨b, 0, none⟩) (f k).2.length (f k).2.length), ?_, by rw [List.length_set]; exact h2, fun j hj => ?_⟩
  · rw [← flatP_set]
    exact (h1.set _ _).set _ _
  · by_cases e : j = k
    · subst e
      exact ⟨a, b, by rw [List.getElem?_set]; simp [h2, hk], (va.other (a := ⟨g, _, none⟩) (Ne.symm na) _).other (a := ⟨g, _, none⟩) (Ne.symm na) _, (vb.other (a := ⟨g, _, none⟩) (Ne.symm nb) _).other (a := ⟨g, _, none⟩) (Ne.symm nb) _, na, nb⟩
    · obtain ⟨a', b', e', va', vb', na', nb'⟩ := h3 j (by omega)
      refine ⟨a', b', by rw [List.getElem?_set, if_neg (by omega)]; exact e', ?_, ?_, na', nb'⟩
      · exact (va'.other (a := ⟨g, _, none⟩) (Ne.symm na') _).other (a := ⟨g, _, none⟩) (Ne.symm na') _
      · exact (vb'.other (a := ⟨g, _, none⟩) (Ne.symm nb') _).other (a := ⟨g, _, none⟩) (Ne.symm nb') _
theorem RRow.of {B : Nat} (h : w.ownsRow B 59 2 (.slice (some ⟨g, 0, none⟩) n n) n (flatP (List.replicate n (.slice none 0 0, .slice none 0 0)))) : RRow w g f n 0 := by
  rcases h.2 with ⟨e, -⟩ | ⟨g', cap, cur, e, hb', hg', hle, hmx, hs', ht'⟩
  · cases e
  · simp only [Value.slice.injEq, Option.some.injEq, Addr.mk.injEq] at e
    obtain ⟨⟨rfl, -⟩, -, rfl⟩ := e
    refine ⟨List.replicate n (.slice none 0 0, .slice none 0 0), ?_, by simp, fun j hj => absurd hj (by omega)⟩
    unfold Fr
    rw [hg']
    have e : cur.toList = flatP (List.replicate n (.slice none 0 0, .slice none 0 0)) := by rw [← ht', List.take_of_length_le (by simp [hs'])]
    rw [← e, Array.toArray_toList]
end
end Go.Proofs.YtemogllidmgbfaaGreatDoor
