/- The walk of Copy: a circuit in blocks of the call's own. -/
import Derived.Test.YtmghdeodkeenoaaDoorCpp
import Derived.Deep.DeepCutAuto
import Derived.Deep.CutBlock
import Derived.Deep.RegionHeld3
import Derived.Deep.OwnRows
namespace Go.Proofs.YtmghdeodkeenoaaDoor
open Go.RowKit

theorem Fr.alloc {w : World} {g : Nat} {t : TypeId} {cs : List Value} (h : Fr w g t cs) (o : Obj) : Fr (w.alloc o) g t cs := h.below ((Below.refl _ _).alloc (Nat.le_refl _) o)
theorem Fr.drew {w : World} {g : Nat} {t : TypeId} {cs : List Value} (h : Fr w g t cs) : Fr w.drew g t cs := h
theorem Fr.other {w : World} {g : Nat} {t : TypeId} {cs : List Value} (h : Fr w g t cs) {a : Addr} (ha : a.block ≠ g) (v : Value) : Fr (w.setCell a v) g t cs :=
  h.kept (row := some a.block) ⟨rfl, rfl, rfl, by simp [World.setCell], fun i _ hne => Below.heap_setCell _ _ _ _ (fun e => hne (by rw [e]))⟩ (fun e => ha (by injection e with e; exact e.symm))
/-- What was there is as it was. -/
def BelW (w w' : World) : Prop := Below w.heap.size w w'
theorem BelW.next {w w1 w2 : World} (h : BelW w w1) (hb : Below w1.heap.size w1 w2) : BelW w w2 := joinB h hb
theorem BelW.trans {w w1 w2 : World} (h : BelW w w1) (hb : BelW w1 w2) : BelW w w2 := joinB h hb
theorem BelW.alloc {w w1 : World} (h : BelW w w1) (o : Obj) : BelW w (w1.alloc o) := below_new h o
theorem BelW.drew {w w1 : World} (h : BelW w w1) : BelW w w1.drew := Below.drew h
theorem BelW.set {w w1 : World} (h : BelW w w1) {a : Addr} (ha : w.heap.size ≤ a.block) (v : Value) : BelW w (w1.setCell a v) := Below.setCell h ha v

/-- What the first statement of Copy leaves. -/
structure Cp1 (n0 n1 n2 n3 : Nat) (w : World) (b0 o0 b1 o1 b2 o2 b3 o3 : Nat) (D g0 g1 g2 g3 : Nat) (wx : World) : Prop where
  bel : BelW w wx
  low : w.heap.size + 1 < g0 ∧ g0 < g1 ∧ g1 < g2 ∧ g2 < g3 ∧ w.heap.size + 1 < D ∧ D ≠ g0 ∧ D ≠ g1 ∧ D ≠ g2 ∧ D ≠ g3
  f0 : Fr wx g0 49 (rdC w b0 o0 (n0 * 4))
  f1 : Fr wx g1 9 (rdC w b1 o1 (n1 * 1))
  f2 : Fr wx g2 70 (rdC w b2 o2 (n2 * 3))
  f3 : Fr wx g3 3 (rdC w b3 o3 (n3 * 1))
  fd : Fr wx D 27 [.slice (some ⟨g0, 0, none⟩) n0 n0, .slice (some ⟨g1, 0, none⟩) n1 n1, .slice (some ⟨g2, 0, none⟩) n2 n2, .slice (some ⟨g3, 0, none⟩) n3 n3]
  fr : Fr wx (w.heap.size + 1) 27 [.slice none 0 0, .slice none 0 0, .slice none 0 0, .slice none 0 0]

theorem Fr.via {wa wc wb : World} {g : Nat} {t : TypeId} {cs : List Value} (h : Fr wa g t cs) (hb : Below wc.heap.size wc wb) (hab : BelW wa wc) : Fr wb g t cs := (Fr.below h hab).below hb
theorem BelW.set4 {w w1 : World} {D : Nat} (h : BelW w w1) (hD : w.heap.size ≤ D) (a b c d : Value) :
    BelW w ((((w1.setCell ⟨D, 0, none⟩ a).setCell ⟨D, 1, none⟩ b).setCell ⟨D, 2, none⟩ c).setCell ⟨D, 3, none⟩ d) := (((h.set hD a).set hD b).set hD c).set hD d
theorem Fr.other4 {w : World} {g D : Nat} {t : TypeId} {cs : List Value} (h : Fr w g t cs) (hD : D ≠ g) (a b c d : Value) :
    Fr ((((w.setCell ⟨D, 0, none⟩ a).setCell ⟨D, 1, none⟩ b).setCell ⟨D, 2, none⟩ c).setCell ⟨D, 3, none⟩ d) g t cs := (((h.other hD a).other hD b).other hD c).other hD d
theorem Fr.set4 {w : World} {D : Nat} {t : TypeId} {x y z u : Value} (h : Fr w D t [x, y, z, u]) (a b c d : Value) :
    Fr ((((w.setCell ⟨D, 0, none⟩ a).setCell ⟨D, 1, none⟩ b).setCell ⟨D, 2, none⟩ c).setCell ⟨D, 3, none⟩ d) D t [a, b, c, d] := (((h.set 0 a).set 1 b).set 2 c).set 3 d
theorem Fr.made (w : World) (cs : List Value) (t : TypeId) {g : Nat} (hg : g = w.heap.size) : Fr (w.alloc (.cells cs.toArray t)) g t cs := by
  subst hg; unfold Fr; exact heap_alloc_new _ _

/-- A copy of numbers that read as a list. -/
theorem cloneIs {l : List Int} {A : Option Addr} {c : Nat} {w : World} {B : Nat} (h : Is w B (.slice A l.length c) l) (hl : l.length ≤ 17592186044416) :
    Calls Tryd.prog 40 #[.slice A l.length c] w fun e w' => e = .returned (.slice (some ⟨w.heap.size, 0, none⟩) l.length l.length) ∧ Below w.heap.size w w' ∧ Row w' w.heap.size l := by
  obtain ⟨A1, b, o, c1, e, hA, -, -, hc⟩ := h.opens
  simp only [Value.slice.injEq, true_and] at e
  obtain ⟨rfl, rfl⟩ := e
  refine (cloneI_any A l.length c b o w hA hl (by omega) (fun j hj => ⟨_, (hc j (by omega)).2, rfl⟩)).mono fun e w' ⟨h1, h2, h3⟩ => ⟨h1, h2, ?_⟩
  rw [rdI_of fun k hk => (hc k hk).2] at h3
  exact h3.row (by unfold maxLen; omega)
/-- Sizes that a copy can bear. -/
structure SzOk (c : Ck) : Prop where
  n : c.nodes.length ≤ 1000000
  s : c.names.length ≤ 1000000
  m : c.mems.length ≤ 1000000
  o : c.outs.length ≤ 1000000
  i : ∀ k, k < c.nodes.length → (c.nodes.getD k default).ins.length ≤ 17592186044416
  a : ∀ k, k < c.mems.length → (c.mems.getD k default).addr.length ≤ 17592186044416
  d : ∀ k, k < c.mems.length → (c.mems.getD k default).data.length ≤ 17592186044416

def CopyPost (c : Ck) (w : World) (e : Ending) (w' : World) : Prop :=
  BelW w w' ∧ ∃ g0 g1 g2 g3 h ha hd, e = .returned (.agg #[.slice (some ⟨g0, 0, none⟩) c.nodes.length c.nodes.length, .slice (some ⟨g1, 0, none⟩) c.names.length c.names.length, .slice (some ⟨g2, 0, none⟩) c.mems.length c.mems.length, .slice (some ⟨g3, 0, none⟩) c.outs.length c.outs.length]) ∧ OwnC c w.heap.size g0 g1 g2 g3 h ha hd w'

/-- What the loop over the nodes keeps. -/
structure Nd1 (c : Ck) (w : World) (D g0 g1 g2 g3 n0 n1 n2 n3 T : Nat) (sN sA sD : Nat → Value) (k : Nat) (h : Nat → Nat) (wr : World) : Prop where
  bel : BelW w wr
  top : T ≤ wr.heap.size
  f0 : Fr wr g0 49 (ndC c.nodes h sN k)
  f1 : Fr wr g1 9 (c.names.map Value.string)
  f2 : Fr wr g2 70 (mmC c.mems (fun _ => 0) (fun _ => 0) sA sD 0)
  f3 : Fr wr g3 3 (c.outs.map (Value.int .i64))
  fd : Fr wr D 27 [.slice (some ⟨g0, 0, none⟩) n0 n0, .slice (some ⟨g1, 0, none⟩) n1 n1, .slice (some ⟨g2, 0, none⟩) n2 n2, .slice (some ⟨g3, 0, none⟩) n3 n3]
  fr : Fr wr (w.heap.size + 1) 27 [.slice none 0 0, .slice none 0 0, .slice none 0 0, .slice none 0 0]
  rows : ∀ j, j < k → T ≤ h j ∧ Row wr (h j) (c.nodes.getD j default).ins
  inc : ∀ i j, i < j → j < k → h i < h j

theorem Row.other {w : World} {g : Nat} {l : List Int} (h : Row w g l) {a : Addr} (ha : a.block ≠ g) (v : Value) : Row (w.setCell a v) g l :=
  h.kept (row := some a.block) ⟨rfl, rfl, rfl, by simp [World.setCell], fun i _ hne => Below.heap_setCell _ _ _ _ (fun e => hne (by rw [e]))⟩ (fun e => ha (by injection e with e; exact e.symm))
theorem Nd1.step {c : Ck} {w : World} {D g0 g1 g2 g3 n0 n1 n2 n3 T : Nat} {sN sA sD : Nat → Value} {k : Nat} {h : Nat → Nat} {wr w1 : World} (hnd : Nd1 c w D g0 g1 g2 g3 n0 n1 n2 n3 T sN sA sD k h wr)
    (hk : k < c.nodes.length) (hb : BelW wr w1) {y : Nat} (hy : wr.heap.size ≤ y) (hr : Row w1 y (c.nodes.getD k default).ins)
    (h0 : w.heap.size + 1 < g0) (h1 : g0 < g1) (h2 : g1 < g2) (h3 : g2 < g3) (h4 : g3 < T) (hD : D ≠ g0) :
    Nd1 c w D g0 g1 g2 g3 n0 n1 n2 n3 T sN sA sD (k + 1) (fun i => if i = k then y else h i) (w1.setCell ⟨g0, k * 4 + 1, none⟩ (.slice (some ⟨y, 0, none⟩) (c.nodes.getD k default).ins.length (c.nodes.getD k default).ins.length)) := by
  have ht := hnd.top
  have hlt : ∀ j, j < k → h j < wr.heap.size := fun j hj => (hnd.rows j hj).2.lt
  refine ⟨(hnd.bel.trans hb).set (by show w.heap.size ≤ g0; omega) _, ?_, ?_, Fr.other (Fr.below hnd.f1 hb) (by show g0 ≠ g1; omega) _, Fr.other (Fr.below hnd.f2 hb) (by show g0 ≠ g2; omega) _, Fr.other (Fr.below hnd.f3 hb) (by show g0 ≠ g3; omega) _, Fr.other (Fr.below hnd.fd hb) (by show g0 ≠ D; omega) _, Fr.other (Fr.below hnd.fr hb) (by show g0 ≠ w.heap.size + 1; omega) _, fun j hj => ?_, fun i j hij hj => ?_⟩
  · have := hb.size
    simp only [World.size_setCell]; omega
  · rw [← ndC_set hk]
    exact (Fr.below hnd.f0 hb).set _ _
  · by_cases e : j = k
    · subst e
      rw [if_pos rfl]
      exact ⟨by omega, hr.other (by show g0 ≠ y; omega) _⟩
    · rw [if_neg e]
      have hj' := hnd.rows j (by omega)
      exact ⟨hj'.1, (hj'.2.below hb).other (by show g0 ≠ h j; omega) _⟩
  · have hi : i ≠ k := by omega
    rw [if_neg hi]
    by_cases e : j = k
    · rw [if_pos e]; have := hlt i (by omega); omega
    · rw [if_neg e]; exact hnd.inc i j hij (by omega)

/-- What the loop over the memories keeps. -/
structure Nd2 (c : Ck) (w : World) (D g0 g1 g2 g3 n0 n1 n2 n3 T : Nat) (sN sA sD : Nat → Value) (h : Nat → Nat) (k : Nat) (ha hd : Nat → Nat) (wr : World) : Prop where
  bel : BelW w wr
  top : T ≤ wr.heap.size
  f0 : Fr wr g0 49 (ndC c.nodes h sN c.nodes.length)
  f1 : Fr wr g1 9 (c.names.map Value.string)
  f2 : Fr wr g2 70 (mmC c.mems ha hd sA sD k)
  f3 : Fr wr g3 3 (c.outs.map (Value.int .i64))
  fd : Fr wr D 27 [.slice (some ⟨g0, 0, none⟩) n0 n0, .slice (some ⟨g1, 0, none⟩) n1 n1, .slice (some ⟨g2, 0, none⟩) n2 n2, .slice (some ⟨g3, 0, none⟩) n3 n3]
  fr : Fr wr (w.heap.size + 1) 27 [.slice none 0 0, .slice none 0 0, .slice none 0 0, .slice none 0 0]
  rows : ∀ j, j < c.nodes.length → T ≤ h j ∧ Row wr (h j) (c.nodes.getD j default).ins
  inc : ∀ i j, i < j → j < c.nodes.length → h i < h j
  mrows : ∀ j, j < k → T ≤ ha j ∧ Row wr (ha j) (c.mems.getD j default).addr ∧ ha j < hd j ∧ Row wr (hd j) (c.mems.getD j default).data
  nm : ∀ i j, i < c.nodes.length → j < k → h i < ha j
  ml : ∀ i j, i < j → j < k → hd i < ha j
theorem Nd2.step {c : Ck} {w : World} {D g0 g1 g2 g3 n0 n1 n2 n3 T : Nat} {sN sA sD : Nat → Value} {h : Nat → Nat} {k : Nat} {ha hd : Nat → Nat} {wr w2 : World} (hnd : Nd2 c w D g0 g1 g2 g3 n0 n1 n2 n3 T sN sA sD h k ha hd wr)
    (hk : k < c.mems.length) (hb : BelW wr w2) {y z : Nat} (hy : wr.heap.size ≤ y) (hyz : y < z) (hr : Row w2 y (c.mems.getD k default).addr) (hs : Row w2 z (c.mems.getD k default).data)
    (h0 : w.heap.size + 1 < g0) (h1 : g0 < g1) (h2 : g1 < g2) (h3 : g2 < g3) (h4 : g3 < T) (hD : D ≠ g2) :
    Nd2 c w D g0 g1 g2 g3 n0 n1 n2 n3 T sN sA sD h (k + 1) (fun i => if i = k then y else ha i) (fun i => if i = k then z else hd i) ((w2.setCell ⟨g2, k * 3, none⟩ (.slice (some ⟨y, 0, none⟩) (c.mems.getD k default).addr.length (c.mems.getD k default).addr.length)).setCell ⟨g2, k * 3 + 1, none⟩ (.slice (some ⟨z, 0, none⟩) (c.mems.getD k default).data.length (c.mems.getD k default).data.length)) := by
  have ht := hnd.top
  have hlt : ∀ j, j < c.nodes.length → h j < wr.heap.size := fun j hj => (hnd.rows j hj).2.lt
  have hlm : ∀ j, j < k → hd j < wr.heap.size := fun j hj => (hnd.mrows j hj).2.2.2.lt
  have fo : ∀ {g : Nat} {t : TypeId} {cs : List Value} {p q : Nat} {u v : Value}, g ≠ g2 → Fr wr g t cs → Fr ((w2.setCell ⟨g2, p, none⟩ u).setCell ⟨g2, q, none⟩ v) g t cs := fun hne hf => ((Fr.below hf hb).other (fun e => hne e.symm) _).other (fun e => hne e.symm) _
  have ro : ∀ {g : Nat} {l : List Int} {p q : Nat} {u v : Value}, g ≠ g2 → Row w2 g l → Row ((w2.setCell ⟨g2, p, none⟩ u).setCell ⟨g2, q, none⟩ v) g l := fun hne hf => (hf.other (fun e => hne e.symm) _).other (fun e => hne e.symm) _
  refine ⟨((hnd.bel.trans hb).set (by show w.heap.size ≤ g2; omega) _).set (by show w.heap.size ≤ g2; omega) _, ?_, fo (by omega) hnd.f0, fo (by omega) hnd.f1, ?_, fo (by omega) hnd.f3, fo hD hnd.fd, fo (by omega) hnd.fr, fun j hj => ?_, hnd.inc, fun j hj => ?_, fun i j hi hj => ?_, fun i j hij hj => ?_⟩
  · have := hb.size
    simp only [World.size_setCell]; omega
  · rw [← mmC_set hk]
    exact ((Fr.below hnd.f2 hb).set _ _).set _ _
  · have hj' := hnd.rows j hj
    exact ⟨hj'.1, ro (by omega) (hj'.2.below hb)⟩
  · by_cases e : j = k
    · subst e
      rw [if_pos rfl, if_pos rfl]
      exact ⟨by omega, ro (by omega) hr, hyz, ro (by omega) hs⟩
    · rw [if_neg e, if_neg e]
      obtain ⟨q1, q2, q3, q4⟩ := hnd.mrows j (by omega)
      exact ⟨q1, ro (by omega) (q2.below hb), q3, ro (by omega) (q4.below hb)⟩
  · by_cases e : j = k
    · rw [if_pos e]; have := hlt i hi; omega
    · rw [if_neg e]; exact hnd.nm i j hi (by omega)
  · have hi : i ≠ k := by omega
    rw [if_neg hi]
    by_cases e : j = k
    · rw [if_pos e]; have := hlm i (by omega); omega
    · rw [if_neg e]; exact hnd.ml i j hij (by omega)

set_option maxRecDepth 100000 in
set_option maxHeartbeats 4000000 in
theorem copy_any (c : Ck) (v : Value) (w : World) (B : Nat) (hB : B ≤ w.heap.size) (hc : Cir w B v c) (hsz : SzOk c) :
    Calls Tryd.prog 13 #[v] w (CopyPost c w) := by
  obtain ⟨v0, v1, v2, v3, rfl, hns, hss, hms, hos⟩ := hc
  obtain ⟨A0, b0, o0, c0, rfl, hA0, -, -, hc0⟩ := id hns
  obtain ⟨A1, b1, o1, c1, rfl, hA1, -, -, hc1⟩ := hss.opens
  obtain ⟨A2, b2, o2, c2, rfl, hA2, -, -, hc2⟩ := id hms
  obtain ⟨A3, b3, o3, c3, rfl, hA3, -, -, hc3⟩ := hos.opens
  -- the slices in the nodes and memories
  obtain ⟨sN, hsN⟩ : ∃ sN : Nat → Value, ∀ k, k < c.nodes.length → b0 < B ∧ w.cell? ⟨b0, o0 + k * 4, none⟩ = some (.int .u8 (c.nodes.getD k default).kind) ∧ w.cell? ⟨b0, o0 + k * 4 + 1, none⟩ = some (sN k) ∧ w.cell? ⟨b0, o0 + k * 4 + 2, none⟩ = some (.int .i64 (c.nodes.getD k default).mem) ∧ w.cell? ⟨b0, o0 + k * 4 + 3, none⟩ = some (.int .i64 (c.nodes.getD k default).bit) ∧ Is w B (sN k) (c.nodes.getD k default).ins := by
    refine ⟨fun k => (w.cell? ⟨b0, o0 + k * 4 + 1, none⟩).getD undef, fun k hk => ?_⟩
    obtain ⟨hlt, s, h0, h1, h2, h3, h4, -⟩ := hc0 k hk
    refine ⟨hlt, h0, ?_, h2, h3, ?_⟩
    · simp only [h1, Option.getD_some]
    · simp only [h1, Option.getD_some]; exact h4
  obtain ⟨sA, sD, hsM⟩ : ∃ sA sD : Nat → Value, ∀ k, k < c.mems.length → b2 < B ∧ w.cell? ⟨b2, o2 + k * 3, none⟩ = some (sA k) ∧ w.cell? ⟨b2, o2 + k * 3 + 1, none⟩ = some (sD k) ∧ w.cell? ⟨b2, o2 + k * 3 + 2, none⟩ = some (.int .i64 (c.mems.getD k default).write) ∧ Is w B (sA k) (c.mems.getD k default).addr ∧ Is w B (sD k) (c.mems.getD k default).data := by
    refine ⟨fun k => (w.cell? ⟨b2, o2 + k * 3, none⟩).getD undef, fun k => (w.cell? ⟨b2, o2 + k * 3 + 1, none⟩).getD undef, fun k hk => ?_⟩
    obtain ⟨hlt, s, t, h0, h1, h2, h3, h4⟩ := hc2 k hk
    refine ⟨hlt, ?_, ?_, h2, ?_, ?_⟩
    · simp only [h0, Option.getD_some]
    · simp only [h1, Option.getD_some]
    · simp only [h0, Option.getD_some]; exact h3
    · simp only [h1, Option.getD_some]; exact h4
  have hone : ∀ {W : World} {B : Nat} {s : Value} {l : List Int}, Is W B s l → s.oneCell' = true := fun h => by
    obtain ⟨_, _, _, _, rfl, -⟩ := h; rfl
  have hrd : ∀ wc, BelW w wc → ∀ b o m, (∀ j, j < m → ∃ v, w.cell? ⟨b, o + j, none⟩ = some v) → rdC wc b o m = rdC w b o m := fun wc hb b o m hx => by
    apply List.ext_getElem?
    intro j
    by_cases hj : j < m
    · obtain ⟨v, hv⟩ := hx j hj
      rw [rdC_get hj hv, rdC_get hj ((hb.cell (p := ⟨b, o + j, none⟩) (cell_lt hv)).trans hv)]
    · rw [List.getElem?_eq_none (by simp [rdC_len]; omega), List.getElem?_eq_none (by simp [rdC_len]; omega)]
  have kN : ∀ j, j < c.nodes.length * 4 → ∃ v, w.cell? ⟨b0, o0 + j, none⟩ = some v ∧ v.oneCell' = true := fun j hj => by
    obtain ⟨-, h0, h1, h2, h3, h4⟩ := hsN (j / 4) (by omega)
    have hm : j % 4 = 0 ∨ j % 4 = 1 ∨ j % 4 = 2 ∨ j % 4 = 3 := by omega
    rcases hm with e | e | e | e
    · exact ⟨_, by rw [show o0 + j = o0 + j / 4 * 4 by omega]; exact h0, rfl⟩
    · exact ⟨_, by rw [show o0 + j = o0 + j / 4 * 4 + 1 by omega]; exact h1, hone h4⟩
    · exact ⟨_, by rw [show o0 + j = o0 + j / 4 * 4 + 2 by omega]; exact h2, rfl⟩
    · exact ⟨_, by rw [show o0 + j = o0 + j / 4 * 4 + 3 by omega]; exact h3, rfl⟩
  have kS : ∀ j, j < c.names.length * 1 → ∃ v, w.cell? ⟨b1, o1 + j, none⟩ = some v ∧ v.oneCell' = true := fun j hj => ⟨_, (hc1 j (by omega)).2.1, rfl⟩
  have kM : ∀ j, j < c.mems.length * 3 → ∃ v, w.cell? ⟨b2, o2 + j, none⟩ = some v ∧ v.oneCell' = true := fun j hj => by
    obtain ⟨-, h0, h1, h2, h3, h4⟩ := hsM (j / 3) (by omega)
    have hm : j % 3 = 0 ∨ j % 3 = 1 ∨ j % 3 = 2 := by omega
    rcases hm with e | e | e
    · exact ⟨_, by rw [show o2 + j = o2 + j / 3 * 3 by omega]; exact h0, hone h3⟩
    · exact ⟨_, by rw [show o2 + j = o2 + j / 3 * 3 + 1 by omega]; exact h1, hone h4⟩
    · exact ⟨_, by rw [show o2 + j = o2 + j / 3 * 3 + 2 by omega]; exact h2, rfl⟩
  have kI : ∀ j, j < c.outs.length * 1 → ∃ v, w.cell? ⟨b3, o3 + j, none⟩ = some v ∧ v.oneCell' = true := fun j hj => ⟨_, (hc3 j (by omega)).2, rfl⟩
  have hN : ∀ wc, BelW w wc → Calls Tryd.prog 37 #[.slice A0 c.nodes.length c0] wc fun e w' => e = .returned (.slice (some ⟨wc.heap.size, 0, none⟩) c.nodes.length c.nodes.length) ∧ Below wc.heap.size wc w' ∧ Fr w' wc.heap.size 49 (rdC w b0 o0 (c.nodes.length * 4)) := fun wc hb => by
    rw [← hrd wc hb b0 o0 _ (fun j hj => ⟨_, (kN j hj).choose_spec.1⟩)]
    exact cloneN_any A0 _ c0 b0 o0 wc hA0 (by have := hsz.n; omega) (by have := hsz.n; omega) (fun j hj => by obtain ⟨v, h1, h2⟩ := kN j hj; exact ⟨v, (hb.cell (p := ⟨b0, o0 + j, none⟩) (cell_lt h1)).trans h1, h2⟩)
  have hS : ∀ wc, BelW w wc → Calls Tryd.prog 38 #[.slice A1 c.names.length c1] wc fun e w' => e = .returned (.slice (some ⟨wc.heap.size, 0, none⟩) c.names.length c.names.length) ∧ Below wc.heap.size wc w' ∧ Fr w' wc.heap.size 9 (rdC w b1 o1 (c.names.length * 1)) := fun wc hb => by
    rw [← hrd wc hb b1 o1 _ (fun j hj => ⟨_, (kS j hj).choose_spec.1⟩)]
    exact cloneS_any A1 _ c1 b1 o1 wc hA1 (by have := hsz.s; omega) (by have := hsz.s; omega) (fun j hj => by obtain ⟨v, h1, h2⟩ := kS j hj; exact ⟨v, (hb.cell (p := ⟨b1, o1 + j, none⟩) (cell_lt h1)).trans h1, h2⟩)
  have hM : ∀ wc, BelW w wc → Calls Tryd.prog 39 #[.slice A2 c.mems.length c2] wc fun e w' => e = .returned (.slice (some ⟨wc.heap.size, 0, none⟩) c.mems.length c.mems.length) ∧ Below wc.heap.size wc w' ∧ Fr w' wc.heap.size 70 (rdC w b2 o2 (c.mems.length * 3)) := fun wc hb => by
    rw [← hrd wc hb b2 o2 _ (fun j hj => ⟨_, (kM j hj).choose_spec.1⟩)]
    exact cloneM_any A2 _ c2 b2 o2 wc hA2 (by have := hsz.m; omega) (by have := hsz.m; omega) (fun j hj => by obtain ⟨v, h1, h2⟩ := kM j hj; exact ⟨v, (hb.cell (p := ⟨b2, o2 + j, none⟩) (cell_lt h1)).trans h1, h2⟩)
  have hI : ∀ wc, BelW w wc → Calls Tryd.prog 40 #[.slice A3 c.outs.length c3] wc fun e w' => e = .returned (.slice (some ⟨wc.heap.size, 0, none⟩) c.outs.length c.outs.length) ∧ Below wc.heap.size wc w' ∧ Fr w' wc.heap.size 3 (rdC w b3 o3 (c.outs.length * 1)) := fun wc hb => by
    rw [← hrd wc hb b3 o3 _ (fun j hj => ⟨_, (kI j hj).choose_spec.1⟩)]
    exact cloneI_any A3 _ c3 b3 o3 wc hA3 (by have := hsz.o; omega) (by have := hsz.o; omega) (fun j hj => by obtain ⟨v, h1, h2⟩ := kI j hj; exact ⟨v, (hb.cell (p := ⟨b3, o3 + j, none⟩) (cell_lt h1)).trans h1, h2⟩)
  have e0 := ndC_of (B := B) (fun _ => 0) (fun k hk => ⟨(hsN k hk).2.1, (hsN k hk).2.2.1, (hsN k hk).2.2.2.1, (hsN k hk).2.2.2.2.1⟩)
  have e1 := rdS_of fun k hk => (hc1 k hk).2.1
  have e2 := mmC_of (fun _ => 0) (fun _ => 0) (fun k hk => ⟨(hsM k hk).2.1, (hsM k hk).2.2.1, (hsM k hk).2.2.2.1⟩)
  have e3 := rdI_of fun k hk => (hc3 k hk).2
  have HE := Lib.hid (And.intro e0 (And.intro e1 (And.intro e2 e3)))
  have HSN := Lib.hid hsN
  have HSM := Lib.hid hsM
  have HSZ := Lib.hid hsz
  have HBB := Lib.hid hB
  clear hns hss hms hos hA0 hA1 hA2 hA3 hc0 hc1 hc2 hc3 kN kS kM kI e0 e1 e2 e3 hsN hsM hsz hB hrd hone
  have HN := Lib.hid hN
  have HS := Lib.hid hS
  have HM := Lib.hid hM
  have HI := Lib.hid hI
  clear hN hS hM hI
  obtain ⟨n0, H0⟩ := named c.nodes.length
  obtain ⟨n1, H1⟩ := named c.names.length
  obtain ⟨n2, H2⟩ := named c.mems.length
  obtain ⟨n3, H3⟩ := named c.outs.length
  rw [← H0.out] at HN
  rw [← H1.out] at HS
  rw [← H2.out] at HM
  rw [← H3.out] at HI
  rw [← H0.out, ← H1.out, ← H2.out, ← H3.out]
  go_enter Tryd.func13, Tryd.ntmps13
  go_wp2
  go_cut [3] (fun s3 wx => ∃ D g0 g1 g2 g3 : Nat, s3 = .pointer (some ⟨D, 0, none⟩) ∧ Cp1 n0 n1 n2 n3 w b0 o0 b1 o1 b2 o2 b3 o3 D g0 g1 g2 g3 wx)
  case first =>
    obtain ⟨W2, HW2⟩ := named ((w.alloc (.cells #[.slice A0 n0 c0, .slice A1 n1 c1, .slice A2 n2 c2, .slice A3 n3 c3] 27)).alloc (.cells #[.slice none 0 0, .slice none 0 0, .slice none 0 0, .slice none 0 0] 27))
    have hz2 : W2.heap.size = w.heap.size + 2 := by rw [HW2.out]; simp
    have hbW : BelW w W2 := by rw [HW2.out]; exact ((Below.refl _ _).alloc (Nat.le_refl _) _).alloc (by simp) _
    have hfr : Fr W2 (w.heap.size + 1) 27 [.slice none 0 0, .slice none 0 0, .slice none 0 0, .slice none 0 0] := by rw [HW2.out]; exact Fr.made _ _ _ (by simp)
    have hbx : Fr W2 w.heap.size 27 [.slice A0 n0 c0, .slice A1 n1 c1, .slice A2 n2 c2, .slice A3 n3 c3] := by rw [HW2.out]; exact (Fr.made _ _ _ rfl).alloc _
    have hce : ∀ w', BelW W2 w' → BelW W2 w' ∧ w'.cell? ⟨w.heap.size, 0, none⟩ = some (.slice A0 n0 c0) ∧ w'.cell? ⟨w.heap.size, 1, none⟩ = some (.slice A1 n1 c1) ∧ w'.cell? ⟨w.heap.size, 2, none⟩ = some (.slice A2 n2 c2) ∧ w'.cell? ⟨w.heap.size, 3, none⟩ = some (.slice A3 n3 c3) := fun w' h =>
      ⟨h, (hbx.below h).cell 0, (hbx.below h).cell 1, (hbx.below h).cell 2, (hbx.below h).cell 3⟩
    have HCE := Lib.hid hce
    have HBW := Lib.hid hbW
    have HFR := Lib.hid hfr
    have HZ2 := Lib.hid hz2
    rw [← HW2.out]
    have hs0 : BelW W2 W2 := Below.refl _ _
    clear hz2 hbW hfr hbx hce
    go_region_held3 (fun w' => BelW W2 w' ∧ w'.cell? ⟨w.heap.size, 0, none⟩ = some (.slice A0 n0 c0) ∧ w'.cell? ⟨w.heap.size, 1, none⟩ = some (.slice A1 n1 c1) ∧ w'.cell? ⟨w.heap.size, 2, none⟩ = some (.slice A2 n2 c2) ∧ w'.cell? ⟨w.heap.size, 3, none⟩ = some (.slice A3 n3 c3))
      ((refine HCE.out _ ?_; first | (first | (with_reducible assumption) | (refine BelW.drew ?_; with_reducible assumption) | (refine BelW.alloc ?_ _; with_reducible assumption) | (refine BelW.drew (BelW.alloc ?_ _); with_reducible assumption) | (refine BelW.alloc (BelW.drew ?_) _; with_reducible assumption)) | (refine BelW.set (BelW.set (BelW.set (BelW.set ?_ ?_ _) ?_ _) ?_ _) ?_ _ <;> first | (with_reducible assumption) | ((try dsimp only) <;> omega))))
      (first
        | (go_at_call 37; refine Calls.mono (HN.out _ (HBW.out.trans ?_)) ?_; · (first | (with_reducible assumption) | (refine BelW.drew ?_; with_reducible assumption) | (refine BelW.alloc ?_ _; with_reducible assumption) | (refine BelW.drew (BelW.alloc ?_ _); with_reducible assumption) | (refine BelW.alloc (BelW.drew ?_) _; with_reducible assumption))
           rintro e w1 ⟨rfl, hb1, hf0⟩
           have hs1 : BelW W2 w1 := (by refine BelW.next ?_ hb1; (first | (with_reducible assumption) | (refine BelW.drew ?_; with_reducible assumption) | (refine BelW.alloc ?_ _; with_reducible assumption) | (refine BelW.drew (BelW.alloc ?_ _); with_reducible assumption) | (refine BelW.alloc (BelW.drew ?_) _; with_reducible assumption)))
           have hl1 := hf0.lt
           have hz01 : W2.heap.size < w1.heap.size := (by (try simp at hl1); omega)
           obtain ⟨hcc1, hff1⟩ := bcell hb1)
        | (go_at_call 38; refine Calls.mono (HS.out _ (HBW.out.trans ?_)) ?_; · (first | (with_reducible assumption) | (refine BelW.drew ?_; with_reducible assumption) | (refine BelW.alloc ?_ _; with_reducible assumption) | (refine BelW.drew (BelW.alloc ?_ _); with_reducible assumption) | (refine BelW.alloc (BelW.drew ?_) _; with_reducible assumption))
           rintro e w2 ⟨rfl, hb2, hf1⟩
           have hs2 : BelW W2 w2 := (by refine BelW.next ?_ hb2; (first | (with_reducible assumption) | (refine BelW.drew ?_; with_reducible assumption) | (refine BelW.alloc ?_ _; with_reducible assumption) | (refine BelW.drew (BelW.alloc ?_ _); with_reducible assumption) | (refine BelW.alloc (BelW.drew ?_) _; with_reducible assumption)))
           have hl2 := hf1.lt
           have hz12 : w1.heap.size < w2.heap.size := (by (try simp at hl2); omega)
           have hz02 : W2.heap.size < w2.heap.size := (by (try simp at hl2); omega)
           obtain ⟨hcc2, hff2⟩ := bcell hb2)
        | (go_at_call 39; refine Calls.mono (HM.out _ (HBW.out.trans ?_)) ?_; · (first | (with_reducible assumption) | (refine BelW.drew ?_; with_reducible assumption) | (refine BelW.alloc ?_ _; with_reducible assumption) | (refine BelW.drew (BelW.alloc ?_ _); with_reducible assumption) | (refine BelW.alloc (BelW.drew ?_) _; with_reducible assumption))
           rintro e w3 ⟨rfl, hb3, hf2⟩
           have hs3 : BelW W2 w3 := (by refine BelW.next ?_ hb3; (first | (with_reducible assumption) | (refine BelW.drew ?_; with_reducible assumption) | (refine BelW.alloc ?_ _; with_reducible assumption) | (refine BelW.drew (BelW.alloc ?_ _); with_reducible assumption) | (refine BelW.alloc (BelW.drew ?_) _; with_reducible assumption)))
           have hl3 := hf2.lt
           have hz23 : w2.heap.size < w3.heap.size := (by (try simp at hl3); omega)
           have hz13 : w1.heap.size < w3.heap.size := (by (try simp at hl3); omega)
           have hz03 : W2.heap.size < w3.heap.size := (by (try simp at hl3); omega)
           obtain ⟨hcc3, hff3⟩ := bcell hb3)
        | (go_at_call 40; refine Calls.mono (HI.out _ (HBW.out.trans ?_)) ?_; · (first | (with_reducible assumption) | (refine BelW.drew ?_; with_reducible assumption) | (refine BelW.alloc ?_ _; with_reducible assumption) | (refine BelW.drew (BelW.alloc ?_ _); with_reducible assumption) | (refine BelW.alloc (BelW.drew ?_) _; with_reducible assumption))
           rintro e w4 ⟨rfl, hb4, hf3⟩
           have hs4 : BelW W2 w4 := (by refine BelW.next ?_ hb4; (first | (with_reducible assumption) | (refine BelW.drew ?_; with_reducible assumption) | (refine BelW.alloc ?_ _; with_reducible assumption) | (refine BelW.drew (BelW.alloc ?_ _); with_reducible assumption) | (refine BelW.alloc (BelW.drew ?_) _; with_reducible assumption)))
           have hl4 := hf3.lt
           have hz34 : w3.heap.size < w4.heap.size := (by (try simp at hl4); omega)
           have hz24 : w2.heap.size < w4.heap.size := (by (try simp at hl4); omega)
           have hz14 : w1.heap.size < w4.heap.size := (by (try simp at hl4); omega)
           have hz04 : W2.heap.size < w4.heap.size := (by (try simp at hl4); omega)
           obtain ⟨hcc4, hff4⟩ := bcell hb4))
    all_goals
      go_wp2_with fail
      go_meet
      have ar1 := HFR.out.via hb1 (by first | exact Below.refl _ _ | exact (Below.refl _ _).drew | exact below_new (Below.refl _ _) _ | exact (below_new (Below.refl _ _) _).drew | exact below_new (Below.refl _ _).drew _)
      have ar2 := ar1.via hb2 (by first | exact Below.refl _ _ | exact (Below.refl _ _).drew | exact below_new (Below.refl _ _) _ | exact (below_new (Below.refl _ _) _).drew | exact below_new (Below.refl _ _).drew _)
      have ar3 := ar2.via hb3 (by first | exact Below.refl _ _ | exact (Below.refl _ _).drew | exact below_new (Below.refl _ _) _ | exact (below_new (Below.refl _ _) _).drew | exact below_new (Below.refl _ _).drew _)
      have ar4 := ar3.via hb4 (by first | exact Below.refl _ _ | exact (Below.refl _ _).drew | exact below_new (Below.refl _ _) _ | exact (below_new (Below.refl _ _) _).drew | exact below_new (Below.refl _ _).drew _)
      have p2 := hf0.via hb2 (by first | exact Below.refl _ _ | exact (Below.refl _ _).drew | exact below_new (Below.refl _ _) _ | exact (below_new (Below.refl _ _) _).drew | exact below_new (Below.refl _ _).drew _)
      have p3 := p2.via hb3 (by first | exact Below.refl _ _ | exact (Below.refl _ _).drew | exact below_new (Below.refl _ _) _ | exact (below_new (Below.refl _ _) _).drew | exact below_new (Below.refl _ _).drew _)
      have p4 := p3.via hb4 (by first | exact Below.refl _ _ | exact (Below.refl _ _).drew | exact below_new (Below.refl _ _) _ | exact (below_new (Below.refl _ _) _).drew | exact below_new (Below.refl _ _).drew _)
      have q3 := hf1.via hb3 (by first | exact Below.refl _ _ | exact (Below.refl _ _).drew | exact below_new (Below.refl _ _) _ | exact (below_new (Below.refl _ _) _).drew | exact below_new (Below.refl _ _).drew _)
      have q4 := q3.via hb4 (by first | exact Below.refl _ _ | exact (Below.refl _ _).drew | exact below_new (Below.refl _ _) _ | exact (below_new (Below.refl _ _) _).drew | exact below_new (Below.refl _ _).drew _)
      have r4 := hf2.via hb4 (by first | exact Below.refl _ _ | exact (Below.refl _ _).drew | exact below_new (Below.refl _ _) _ | exact (below_new (Below.refl _ _) _).drew | exact below_new (Below.refl _ _).drew _)
      simp only [World.size_alloc, World.size_drew] at p4 q4 r4 hf3
      try simp only [World.size_alloc, World.size_drew] at hl1
      try simp only [World.size_alloc, World.size_drew] at hl2
      try simp only [World.size_alloc, World.size_drew] at hl3
      try simp only [World.size_alloc, World.size_drew] at hl4
      have hz := HZ2.out
      have hsE := HBW.out.trans hs4
      have hzW := HBW.out.size
      first
        | (refine ⟨w4.heap.size, W2.heap.size, w1.heap.size, w2.heap.size, w3.heap.size, ?_, ?_⟩
           · with_reducible rfl
           exact ⟨hsE.alloc _, by omega, p4.alloc _, q4.alloc _, r4.alloc _, hf3.alloc _, Fr.made _ _ _ rfl, ar4.alloc _⟩)
        | (refine ⟨w3.heap.size, W2.heap.size, w1.heap.size, w2.heap.size, w3.heap.size + 1, ?_, ?_⟩
           · with_reducible rfl
           have d4 : Fr w4 w3.heap.size 27 [.slice none 0 0, .slice none 0 0, .slice none 0 0, .slice none 0 0] := (by first | exact (Fr.made w3 _ _ rfl).below hb4 | exact (Fr.made w3 _ _ rfl).drew.below hb4 | exact (Fr.made w3.drew _ _ rfl).below hb4)
           exact ⟨hsE.set4 (by omega) _ _ _ _, by omega, p4.other4 (by omega) _ _ _ _, q4.other4 (by omega) _ _ _ _, r4.other4 (by omega) _ _ _ _, hf3.other4 (by omega) _ _ _ _, d4.set4 _ _ _ _, ar4.other4 (by omega) _ _ _ _⟩)
        | (refine ⟨w2.heap.size, W2.heap.size, w1.heap.size, w2.heap.size + 1, w3.heap.size, ?_, ?_⟩
           · with_reducible rfl
           have d3 : Fr w3 w2.heap.size 27 [.slice none 0 0, .slice none 0 0, .slice none 0 0, .slice none 0 0] := (by first | exact (Fr.made w2 _ _ rfl).below hb3 | exact (Fr.made w2 _ _ rfl).drew.below hb3 | exact (Fr.made w2.drew _ _ rfl).below hb3)
           have d4 := d3.below hb4
           exact ⟨hsE.set4 (by omega) _ _ _ _, by omega, p4.other4 (by omega) _ _ _ _, q4.other4 (by omega) _ _ _ _, r4.other4 (by omega) _ _ _ _, hf3.other4 (by omega) _ _ _ _, d4.set4 _ _ _ _, ar4.other4 (by omega) _ _ _ _⟩)
        | (refine ⟨w1.heap.size, W2.heap.size, w1.heap.size + 1, w2.heap.size, w3.heap.size, ?_, ?_⟩
           · with_reducible rfl
           have d2 : Fr w2 w1.heap.size 27 [.slice none 0 0, .slice none 0 0, .slice none 0 0, .slice none 0 0] := (by first | exact (Fr.made w1 _ _ rfl).below hb2 | exact (Fr.made w1 _ _ rfl).drew.below hb2 | exact (Fr.made w1.drew _ _ rfl).below hb2)
           have d3 := d2.below hb3
           have d4 := d3.below hb4
           exact ⟨hsE.set4 (by omega) _ _ _ _, by omega, p4.other4 (by omega) _ _ _ _, q4.other4 (by omega) _ _ _ _, r4.other4 (by omega) _ _ _ _, hf3.other4 (by omega) _ _ _ _, d4.set4 _ _ _ _, ar4.other4 (by omega) _ _ _ _⟩)
        | (refine ⟨W2.heap.size, W2.heap.size + 1, w1.heap.size, w2.heap.size, w3.heap.size, ?_, ?_⟩
           · with_reducible rfl
           have d1 : Fr w1 W2.heap.size 27 [.slice none 0 0, .slice none 0 0, .slice none 0 0, .slice none 0 0] := (by first | exact (Fr.made W2 _ _ rfl).below hb1 | exact (Fr.made W2 _ _ rfl).drew.below hb1 | exact (Fr.made W2.drew _ _ rfl).below hb1)
           have d2 := d1.below hb2
           have d3 := d2.below hb3
           have d4 := d3.below hb4
           exact ⟨hsE.set4 (by omega) _ _ _ _, by omega, p4.other4 (by omega) _ _ _ _, q4.other4 (by omega) _ _ _ _, r4.other4 (by omega) _ _ _ _, hf3.other4 (by omega) _ _ _ _, d4.set4 _ _ _ _, ar4.other4 (by omega) _ _ _ _⟩)
  case rest =>
    obtain ⟨D, g0, g1, g2, g3, rfl, hcp⟩ := hcut
    obtain ⟨hbel, hlow, f0, f1, f2, f3, fd, fr⟩ := hcp
    rw [H0.out] at f0
    rw [H1.out] at f1
    rw [H2.out] at f2
    rw [H3.out] at f3
    rw [HE.out.1] at f0
    rw [HE.out.2.1] at f1
    rw [HE.out.2.2.1] at f2
    rw [HE.out.2.2.2] at f3
    obtain ⟨hl1, hl2, hl3, hl4, hl5, hd0, hd1, hd2, hd3⟩ := hlow
    have cd0 := fd.cell 0
    have cd2 := fd.cell 2
    simp only [List.getElem?_cons_zero, List.getElem?_cons_succ] at cd0 cd2
    obtain ⟨T, hT⟩ : ∃ T, T = wc.heap.size := ⟨_, rfl⟩
    have hDT : D < T := by rw [hT]; exact fd.lt
    have hgT : g3 < T := by rw [hT]; exact Fr.lt f3
    have HT := Lib.hid hT
    have HF := Lib.hid (And.intro hbel (And.intro f0 (And.intro f1 (And.intro f2 (And.intro f3 (And.intro fd fr))))))
    clear hbel f0 f1 f2 f3 fd fr hT
    go_wp2
    go_loopw [24] (fun i wr => ∃ (k : Nat) (h : Nat → Nat), k ≤ n0 ∧ i = .int .i64 k ∧ Nd1 c w D g0 g1 g2 g3 n0 n1 n2 n3 T sN sA sD k h wr) (fun i _ => n0 - (intOf i).toNat)
    case atStart => exact ⟨0, fun _ => 0, Nat.zero_le _, rfl, ⟨HF.out.1, by rw [HT.out]; exact Nat.le_refl _, HF.out.2.1, HF.out.2.2.1, HF.out.2.2.2.1, HF.out.2.2.2.2.1, HF.out.2.2.2.2.2.1, HF.out.2.2.2.2.2.2, fun j hj => absurd hj (by omega), fun i j _ hj => absurd hj (by omega)⟩⟩
    case round =>
      clear HF
      obtain ⟨k, h, hk, rfl, hnd⟩ := hrel
      have htop := hnd.top
      by_cases hlt : k < n0
      · have hkc : k < c.nodes.length := by rw [← H0.out]; exact hlt
        have hlen := HSZ.out.n
        rw [← H0.out] at hlen
        obtain ⟨hbB, -, -, -, -, hIs⟩ := HSN.out k hkc
        obtain ⟨A4, b4, o4, c4, hs4, -⟩ := id hIs
        have HIS := Lib.hid hIs
        have hin := HSZ.out.i k hkc
        have hst := ndC_set (h := h) (orig := sN) (b := wr.heap.size + 1) hkc
        -- the node's cells
        have e0 := (hnd.f0.cell (k * 4)).trans (ndC_get (by omega))
        have e1 := (hnd.f0.cell (k * 4 + 1)).trans (ndC_get (by omega))
        have e2 := (hnd.f0.cell (k * 4 + 2)).trans (ndC_get (by omega))
        have e3 := (hnd.f0.cell (k * 4 + 3)).trans (ndC_get (by omega))
        rw [ndF_0] at e0
        rw [ndF_1, if_neg (by omega), hs4] at e1
        rw [ndF_2] at e2
        rw [ndF_3] at e3
        have efz := hnd.f0.frozen (k * 4 + 1)
        have ed := hnd.fd.cell 0
        simp only [List.getElem?_cons_zero] at ed
        have edz : D < wr.heap.size := hnd.fd.lt
        have egz : g0 < wr.heap.size := Fr.lt hnd.f0
        obtain ⟨kd, HKD⟩ := named (c.nodes.getD k default).kind
        obtain ⟨mm, HMM⟩ := named (c.nodes.getD k default).mem
        obtain ⟨bt, HBT⟩ := named (c.nodes.getD k default).bit
        rw [← HKD.out] at e0
        rw [← HMM.out] at e2
        rw [← HBT.out] at e3
        have hcl : ∀ w', BelW wr w' → Calls Tryd.prog 40 #[.slice A4 (c.nodes.getD k default).ins.length c4] w' fun e w'' => e = .returned (.slice (some ⟨w'.heap.size, 0, none⟩) (c.nodes.getD k default).ins.length (c.nodes.getD k default).ins.length) ∧ Below w'.heap.size w' w'' ∧ Row w'' w'.heap.size (c.nodes.getD k default).ins := fun w' hb => by
          refine cloneIs (B := B) ?_ hin
          rw [← hs4]
          exact hIs.below ((hnd.bel.trans hb).mono HBB.out)
        have HCL := Lib.hid hcl
        have HND := Lib.hid hnd
        have HST := Lib.hid hst
        clear hnd hst hcl hIs hs4
        generalize hni : (c.nodes.getD k default).ins.length = ni at e1 HCL HST hin
        have HNI := Lib.hid hni
        clear hni
        go_wp2
        obtain ⟨wq, HWQ⟩ := named (wr.alloc (.cells #[.int .u8 kd, .slice A4 ni c4, .int .i64 mm, .int .i64 bt] 49))
        have hbq : BelW wr wq := by rw [HWQ.out]; exact (Below.refl _ _).alloc (Nat.le_refl _) _
        have hzq : wq.heap.size = wr.heap.size + 1 := by rw [HWQ.out]; simp
        have ed' := (hbq.cell (p := ⟨D, 0, none⟩) edz).trans ed
        have ex' : wq.cell? ⟨wr.heap.size, 1, none⟩ = some (.slice A4 ni c4) := by rw [HWQ.out, World.cell?_alloc_at _ _ _ _ rfl]; rfl
        have eg' := (hbq.cell (p := ⟨g0, k * 4 + 1, none⟩) egz).trans e1
        have ef' : wq.frozen? ⟨g0, k * 4 + 1, none⟩ = false := (hbq.frozen (p := ⟨g0, k * 4 + 1, none⟩) egz).trans efz
        rw [← HWQ.out]
        have hDq : D < wq.heap.size := by omega
        have hgq : g0 < wq.heap.size := by omega
        have hxq : wr.heap.size < wq.heap.size := by omega
        obtain ⟨x, HX⟩ := named wr.heap.size
        rw [← HX.out] at ex' hxq
        rw [← HX.out]
        have hDg : D ≠ g0 := hd0
        have hgD : g0 ≠ D := fun e => hd0 e.symm
        have hxg : x ≠ g0 := by rw [HX.out]; omega
        have hgx : g0 ≠ x := fun e => hxg e.symm
        have HBQ := Lib.hid hbq
        have HZQ := Lib.hid hzq
        have hin4 : (k : Int) < (n0 : Int) := by omega
        clear hbq hzq e0 e1 e2 e3 efz ed edz egz htop hd0
        go_region_held3 (fun w' => w'.cell? ⟨D, 0, none⟩ = some (.slice (some ⟨g0, 0, none⟩) n0 n0) ∧ w'.cell? ⟨x, 1, none⟩ = some (.slice A4 ni c4))
          ((first
            | exact ⟨ed', ex'⟩
            | exact ⟨(hcc1 D 0 hDq).trans ed', (hcc1 x 1 hxq).trans ex'⟩
            | (refine ⟨(World.cell?_setCell_other _ _ _ _ ?_).trans ((hcc1 D 0 hDq).trans ed'), (World.cell?_setCell_other _ _ _ _ ?_).trans ((hcc1 x 1 hxq).trans ex')⟩ <;> simp [hDg, hxg, hgD, hgx])))
          (first
            | (go_at_call 40; refine Calls.mono (HCL.out _ (HBQ.out.trans ?_)) ?_; · (first | exact Below.refl _ _ | exact (Below.refl _ _).drew)
               rintro e w1 ⟨rfl, hb1, hr1⟩
               have hlr1 := hr1.lt
               obtain ⟨hcc1, hff1⟩ := bcell hb1
               have eg1 : w1.cell? ⟨g0, k * 4 + 1, none⟩ = some (.slice A4 ni c4) := (hcc1 g0 _ hgq).trans eg'
               have ef1 : w1.frozen? ⟨g0, k * 4 + 1, none⟩ = false := (hff1 g0 _ hgq).trans ef'
               have HB1 := Lib.hid hb1
               have HR1 := Lib.hid hr1))
        go_wp2
        go_roundw
        case rel =>
          have hy : wr.heap.size ≤ wq.heap.size := by rw [HZQ.out]; omega
          have hst := HND.out.step (y := wq.heap.size) (w1 := w1) (by rw [← H0.out]; exact hlt) (HBQ.out.next (show Below wq.heap.size wq w1 from ⟨HB1.out.1, HB1.out.2, HB1.out.3, HB1.out.4, HB1.out.5⟩)) hy HR1.out hl1 hl2 hl3 hl4 hgT hDg
          rw [HNI.out] at hst
          exact ⟨k + 1, _, by omega, by go_num, hst⟩
        case measure => simp [intOf]; omega
      · obtain rfl : n0 = k := by omega
        have hm0 := hnd
        have cd2 := hnd.fd.cell 2
        simp only [List.getElem?_cons_zero, List.getElem?_cons_succ] at cd2
        have HM0 := Lib.hid hnd
        clear hnd hm0
        go_wp2
        go_loopw [41] (fun i wr => ∃ (k : Nat) (ha hd : Nat → Nat), k ≤ n2 ∧ i = .int .i64 k ∧ Nd2 c w D g0 g1 g2 g3 n0 n1 n2 n3 T sN sA sD h k ha hd wr) (fun i _ => n2 - (intOf i).toNat)
        case atStart =>
          have q := HM0.out
          refine ⟨0, fun _ => 0, fun _ => 0, Nat.zero_le _, rfl, ⟨q.bel, q.top, by rw [← H0.out]; exact q.f0, q.f1, q.f2, q.f3, q.fd, q.fr, fun j hj => q.rows j (by rw [H0.out]; exact hj), fun i j hij hj => q.inc i j hij (by rw [H0.out]; exact hj), fun j hj => absurd hj (by omega), fun i j _ hj => absurd hj (by omega), fun i j _ hj => absurd hj (by omega)⟩⟩
        case round =>
          clear HM0 cd2
          obtain ⟨k, ha, hd, hk, rfl, hnd⟩ := hrel
          have htop := hnd.top
          by_cases hlt : k < n2
          · have hkc : k < c.mems.length := by rw [← H2.out]; exact hlt
            have hlen := HSZ.out.m
            rw [← H2.out] at hlen
            obtain ⟨hbB, -, -, -, hIa, hId⟩ := HSM.out k hkc
            obtain ⟨A4, b4, o4, c4, hs4, -⟩ := id hIa
            obtain ⟨A5, b5, o5, c5, hs5, -⟩ := id hId
            have hia := HSZ.out.a k hkc
            have hid' := HSZ.out.d k hkc
            have e0 := (hnd.f2.cell (k * 3)).trans (mmC_get (by omega))
            have e1 := (hnd.f2.cell (k * 3 + 1)).trans (mmC_get (by omega))
            have e2 := (hnd.f2.cell (k * 3 + 2)).trans (mmC_get (by omega))
            rw [mmF_0, if_neg (by omega), hs4] at e0
            rw [mmF_1, if_neg (by omega), hs5] at e1
            rw [mmF_2] at e2
            have efz0 := hnd.f2.frozen (k * 3)
            have efz1 := hnd.f2.frozen (k * 3 + 1)
            have ed := hnd.fd.cell 2
            simp only [List.getElem?_cons_zero, List.getElem?_cons_succ] at ed
            have edz : D < wr.heap.size := hnd.fd.lt
            have egz : g2 < wr.heap.size := Fr.lt hnd.f2
            obtain ⟨wt, HWT⟩ := named (c.mems.getD k default).write
            rw [← HWT.out] at e2
            have hcla : ∀ w', BelW wr w' → Calls Tryd.prog 40 #[.slice A4 (c.mems.getD k default).addr.length c4] w' fun e w'' => e = .returned (.slice (some ⟨w'.heap.size, 0, none⟩) (c.mems.getD k default).addr.length (c.mems.getD k default).addr.length) ∧ Below w'.heap.size w' w'' ∧ Row w'' w'.heap.size (c.mems.getD k default).addr := fun w' hb => by
              refine cloneIs (B := B) ?_ hia
              rw [← hs4]
              exact hIa.below ((hnd.bel.trans hb).mono HBB.out)
            have hcld : ∀ w', BelW wr w' → Calls Tryd.prog 40 #[.slice A5 (c.mems.getD k default).data.length c5] w' fun e w'' => e = .returned (.slice (some ⟨w'.heap.size, 0, none⟩) (c.mems.getD k default).data.length (c.mems.getD k default).data.length) ∧ Below w'.heap.size w' w'' ∧ Row w'' w'.heap.size (c.mems.getD k default).data := fun w' hb => by
              refine cloneIs (B := B) ?_ hid'
              rw [← hs5]
              exact hId.below ((hnd.bel.trans hb).mono HBB.out)
            have HCA := Lib.hid hcla
            have HCD := Lib.hid hcld
            have HND := Lib.hid hnd
            clear hnd hcla hcld hIa hId hs4 hs5
            generalize hna : (c.mems.getD k default).addr.length = na at e0 HCA hia
            generalize hnb : (c.mems.getD k default).data.length = nb at e1 HCD hid'
            have HNA := Lib.hid hna
            have HNB := Lib.hid hnb
            clear hna hnb
            go_wp2
            obtain ⟨wq, HWQ⟩ := named (wr.alloc (.cells #[.slice A4 na c4, .slice A5 nb c5, .int .i64 wt] 70))
            have hbq : BelW wr wq := by rw [HWQ.out]; exact (Below.refl _ _).alloc (Nat.le_refl _) _
            have hzq : wq.heap.size = wr.heap.size + 1 := by rw [HWQ.out]; simp
            have ed' := (hbq.cell (p := ⟨D, 2, none⟩) edz).trans ed
            have ex0 : wq.cell? ⟨wr.heap.size, 0, none⟩ = some (.slice A4 na c4) := by rw [HWQ.out, World.cell?_alloc_at _ _ _ _ rfl]; rfl
            have ex1 : wq.cell? ⟨wr.heap.size, 1, none⟩ = some (.slice A5 nb c5) := by rw [HWQ.out, World.cell?_alloc_at _ _ _ _ rfl]; rfl
            have eg0 := (hbq.cell (p := ⟨g2, k * 3, none⟩) egz).trans e0
            have eg1 := (hbq.cell (p := ⟨g2, k * 3 + 1, none⟩) egz).trans e1
            have ef0 : wq.frozen? ⟨g2, k * 3, none⟩ = false := (hbq.frozen (p := ⟨g2, k * 3, none⟩) egz).trans efz0
            have ef1 : wq.frozen? ⟨g2, k * 3 + 1, none⟩ = false := (hbq.frozen (p := ⟨g2, k * 3 + 1, none⟩) egz).trans efz1
            rw [← HWQ.out]
            have hDq : D < wq.heap.size := by omega
            have hgq : g2 < wq.heap.size := by omega
            have hxq : wr.heap.size < wq.heap.size := by omega
            obtain ⟨x, HX⟩ := named wr.heap.size
            rw [← HX.out] at ex0 ex1 hxq
            rw [← HX.out]
            have hDg : D ≠ g2 := hd2
            have hgD : g2 ≠ D := fun e => hd2 e.symm
            have hxg : x ≠ g2 := by rw [HX.out]; omega
            have hgx : g2 ≠ x := fun e => hxg e.symm
            have HBQ := Lib.hid hbq
            have HZQ := Lib.hid hzq
            have hin4 : (k : Int) < (n2 : Int) := by omega
            clear hbq hzq e0 e1 e2 efz0 efz1 ed edz egz htop
            go_region_held3 (fun w' => w'.cell? ⟨D, 2, none⟩ = some (.slice (some ⟨g2, 0, none⟩) n2 n2) ∧ w'.cell? ⟨x, 0, none⟩ = some (.slice A4 na c4) ∧ w'.cell? ⟨x, 1, none⟩ = some (.slice A5 nb c5))
              ((first
                | exact ⟨ed', ex0, ex1⟩
                | exact sw2
                | exact sw1
                | (refine ⟨(World.cell?_setCell_other _ _ _ _ ?_).trans sw2.1, (World.cell?_setCell_other _ _ _ _ ?_).trans sw2.2.1, (World.cell?_setCell_other _ _ _ _ ?_).trans sw2.2.2⟩ <;> simp [hDg, hxg, hgD, hgx])
                | (refine ⟨((World.cell?_setCell_other _ _ _ _ ?_).trans (World.cell?_setCell_other _ _ _ _ ?_)).trans sw2.1, ((World.cell?_setCell_other _ _ _ _ ?_).trans (World.cell?_setCell_other _ _ _ _ ?_)).trans sw2.2.1, ((World.cell?_setCell_other _ _ _ _ ?_).trans (World.cell?_setCell_other _ _ _ _ ?_)).trans sw2.2.2⟩ <;> simp [hDg, hxg, hgD, hgx])))
              (first
                | (go_at_call_of 40 A4; refine Calls.mono (HCA.out _ (HBQ.out.trans ?_)) ?_; · (first | exact Below.refl _ _ | exact (Below.refl _ _).drew)
                   rintro e w1 ⟨rfl, hb1, hr1⟩
                   have hlr1 := hr1.lt
                   obtain ⟨hcc1, hff1⟩ := bcell hb1
                   have sw1 := And.intro ((hcc1 D 2 hDq).trans ed') (And.intro ((hcc1 x 0 hxq).trans ex0) ((hcc1 x 1 hxq).trans ex1))
                   have eh0 : w1.cell? ⟨g2, k * 3, none⟩ = some (.slice A4 na c4) := (hcc1 g2 _ hgq).trans eg0
                   have eh1 : w1.cell? ⟨g2, k * 3 + 1, none⟩ = some (.slice A5 nb c5) := (hcc1 g2 _ hgq).trans eg1
                   have ei0 : w1.frozen? ⟨g2, k * 3, none⟩ = false := (hff1 g2 _ hgq).trans ef0
                   have ei1 : w1.frozen? ⟨g2, k * 3 + 1, none⟩ = false := (hff1 g2 _ hgq).trans ef1
                   have HB1 := Lib.hid hb1
                   have HR1 := Lib.hid hr1
                   clear hcc1 hff1)
                | (go_at_call_of 40 A5; refine Calls.mono (HCD.out _ ((HBQ.out.trans (show BelW wq wq.drew from (Below.refl _ _).drew)).trans (BelW.next (show BelW wq.drew wq.drew from Below.refl _ _) HB1.out))) ?_
                   rintro e w2 ⟨rfl, hb2, hr2⟩
                   have hlr2 := hr2.lt
                   obtain ⟨hcc2, hff2⟩ := bcell hb2
                   have hz1 : wq.heap.size < w1.heap.size := hlr1
                   have hD1 : D < w1.heap.size := by omega
                   have hx1 : x < w1.heap.size := by omega
                   have hg1 : g2 < w1.heap.size := by omega
                   have sw2 := And.intro ((hcc2 D 2 hD1).trans sw1.1) (And.intro ((hcc2 x 0 hx1).trans sw1.2.1) ((hcc2 x 1 hx1).trans sw1.2.2))
                   have ej0 : w2.cell? ⟨g2, k * 3, none⟩ = some (.slice A4 na c4) := (hcc2 g2 _ hg1).trans eh0
                   have ej1 : w2.cell? ⟨g2, k * 3 + 1, none⟩ = some (.slice A5 nb c5) := (hcc2 g2 _ hg1).trans eh1
                   have ek0 : w2.frozen? ⟨g2, k * 3, none⟩ = false := (hff2 g2 _ hg1).trans ei0
                   have ek1 : w2.frozen? ⟨g2, k * 3 + 1, none⟩ = false := (hff2 g2 _ hg1).trans ei1
                   have HB2 := Lib.hid hb2
                   have HR2 := Lib.hid hr2
                   clear hcc2 hff2))
            go_wp2
            go_roundw
            case rel =>
              have hy : wr.heap.size ≤ wq.heap.size := by rw [HZQ.out]; omega
              have hbw1 : BelW wq w1 := BelW.next (show BelW wq wq.drew from (Below.refl _ _).drew) HB1.out
              have hst := HND.out.step (y := wq.heap.size) (z := w1.heap.size) (w2 := w2) (by rw [← H2.out]; exact hlt) ((HBQ.out.trans hbw1).next HB2.out) hy hz1 (Row.below HR1.out HB2.out) HR2.out hl1 hl2 hl3 hl4 hgT hDg
              rw [HNA.out, HNB.out] at hst
              exact ⟨k + 1, _, _, by omega, by go_num, hst⟩
            case measure => simp [intOf]; omega
          · obtain rfl : n2 = k := by omega
            have c0 := hnd.fd.cell 0
            have c1 := hnd.fd.cell 1
            have c2 := hnd.fd.cell 2
            have c3 := hnd.fd.cell 3
            have r0 := hnd.fr.cell 0
            have r1 := hnd.fr.cell 1
            have r2 := hnd.fr.cell 2
            have r3 := hnd.fr.cell 3
            simp only [List.getElem?_cons_zero, List.getElem?_cons_succ] at c0 c1 c2 c3 r0 r1 r2 r3
            have z0 := hnd.fr.frozen 0
            have z1 := hnd.fr.frozen 1
            have z2 := hnd.fr.frozen 2
            have z3 := hnd.fr.frozen 3
            have HND := Lib.hid hnd
            obtain ⟨R, HR⟩ := named (w.heap.size + 1)
            rw [← HR.out] at r0 r1 r2 r3 z0 z1 z2 z3
            have hRD : R ≠ D := by rw [HR.out]; omega
            have hDR : D ≠ R := fun e => hRD e.symm
            clear hnd
            rw [← HR.out]
            have hfin := (HND.out.fr).set4 (.slice (some ⟨g0, 0, none⟩) n0 n0) (.slice (some ⟨g1, 0, none⟩) n1 n1) (.slice (some ⟨g2, 0, none⟩) n2 n2) (.slice (some ⟨g3, 0, none⟩) n3 n3)
            rw [← HR.out] at hfin
            have HFIN := Lib.hid hfin
            clear hfin
            go_wp2
            have q0 := HFIN.out.cell 0
            have q1 := HFIN.out.cell 1
            have q2 := HFIN.out.cell 2
            have q3 := HFIN.out.cell 3
            simp only [List.getElem?_cons_zero, List.getElem?_cons_succ] at q0 q1 q2 q3
            refine bodyPost_ret (v := .agg #[.slice (some ⟨g0, 0, none⟩) n0 n0, .slice (some ⟨g1, 0, none⟩) n1 n1, .slice (some ⟨g2, 0, none⟩) n2 n2, .slice (some ⟨g3, 0, none⟩) n3 n3]) (by simp [results, Tryd.results13, go_sem, q0, q1, q2, q3]) rfl ?_
            have q := HND.out
            have hR : R < g0 := by rw [HR.out]; omega
            have hrow : ∀ {g : Nat} {l : List Int} {a b c d : Value}, R ≠ g → Row wr g l → Row ((((wr.setCell ⟨R, 0, none⟩ a).setCell ⟨R, 1, none⟩ b).setCell ⟨R, 2, none⟩ c).setCell ⟨R, 3, none⟩ d) g l := fun hne hr => (((hr.other hne _).other hne _).other hne _).other hne _
            refine ⟨q.bel.set4 (by rw [HR.out]; omega) _ _ _ _, g0, g1, g2, g3, h, ha, hd, by rw [← H0.out, ← H1.out, ← H2.out, ← H3.out], ⟨by omega, ?_, ?_, ?_, ?_, fun j hj => ?_, fun j hj => ?_, q.inc, ?_, ?_, ?_⟩⟩
            · rw [ndC_full _ _ _ sN]; exact q.f0.other4 (by omega) _ _ _ _
            · exact q.f1.other4 (by omega) _ _ _ _
            · rw [mmC_full _ _ _ _ sA _ sD, ← H2.out]; exact q.f2.other4 (by omega) _ _ _ _
            · exact (q.f3.other4 (by omega) _ _ _ _).row (by have := HSZ.out.o; unfold maxLen; omega)
            · obtain ⟨p1, p2⟩ := q.rows j hj
              exact ⟨by omega, hrow (by omega) p2⟩
            · obtain ⟨p1, p2, p3, p4⟩ := q.mrows j (by rw [H2.out]; exact hj)
              exact ⟨by omega, hrow (by omega) p2, by omega, hrow (by omega) p4⟩
            · exact fun i j hi hj => q.nm i j hi (by rw [H2.out]; exact hj)
            · exact fun i hi => (q.mrows i (by rw [H2.out]; exact hi)).2.2.1
            · exact fun i j hij hj => q.ml i j hij (by rw [H2.out]; exact hj)

end Go.Proofs.YtmghdeodkeenoaaDoor
