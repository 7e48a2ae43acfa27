/- The texts Cpp Cpy Smx Smy Own. -/
import Derived.Test.YtkaedfgmhfefjaaGreatDoorM12
import Derived.Deep.OwnRows
import Derived.Deep.DeepCutAuto
import Derived.Deep.CutBlock
import Derived.Deep.RegionHeld3
import Derived.Laws.EntriesVeiled
namespace Go.Proofs.YtkaedfgmhfefjaaGreatDoor
open Go.RowKit

/-- The cells of the nodes: the inputs of node k in block h k if k < m, otherwise as in orig. -/
def ndF (l : List Nd) (h : Nat → Nat) (orig : Nat → Value) (m : Nat) (j : Nat) : Value :=
  if j % 4 = 0 then .int .u8 (l.getD (j / 4) default).kind
  else if j % 4 = 1 then (if j / 4 < m then .slice (some ⟨h (j / 4), 0, none⟩) (l.getD (j / 4) default).ins.length (l.getD (j / 4) default).ins.length else orig (j / 4))
  else if j % 4 = 2 then .int .i64 (l.getD (j / 4) default).mem else .int .i64 (l.getD (j / 4) default).bit
def ndC (l : List Nd) (h : Nat → Nat) (orig : Nat → Value) (m : Nat) : List Value := (List.range (l.length * 4)).map (ndF l h orig m)
theorem ndC_len (l : List Nd) (h : Nat → Nat) (orig : Nat → Value) (m : Nat) : (ndC l h orig m).length = l.length * 4 := by simp [ndC]
theorem ndC_get {l : List Nd} {h : Nat → Nat} {orig : Nat → Value} {m j : Nat} (hj : j < l.length * 4) : (ndC l h orig m)[j]? = some (ndF l h orig m j) := by simp [ndC, hj]
theorem ndF_0 (l : List Nd) (h : Nat → Nat) (orig : Nat → Value) (m k : Nat) : ndF l h orig m (k * 4) = .int .u8 (l.getD k default).kind := by
  unfold ndF; rw [if_pos (by omega), show k * 4 / 4 = k by omega]
theorem ndF_1 (l : List Nd) (h : Nat → Nat) (orig : Nat → Value) (m k : Nat) : ndF l h orig m (k * 4 + 1) = if k < m then .slice (some ⟨h k, 0, none⟩) (l.getD k default).ins.length (l.getD k default).ins.length else orig k := by
  unfold ndF; rw [if_neg (by omega), if_pos (by omega), show (k * 4 + 1) / 4 = k by omega]
theorem ndF_2 (l : List Nd) (h : Nat → Nat) (orig : Nat → Value) (m k : Nat) : ndF l h orig m (k * 4 + 2) = .int .i64 (l.getD k default).mem := by
  unfold ndF; rw [if_neg (by omega), if_neg (by omega), if_pos (by omega), show (k * 4 + 2) / 4 = k by omega]
theorem ndF_3 (l : List Nd) (h : Nat → Nat) (orig : Nat → Value) (m k : Nat) : ndF l h orig m (k * 4 + 3) = .int .i64 (l.getD k default).bit := by
  unfold ndF; rw [if_neg (by omega), if_neg (by omega), if_neg (by omega), show (k * 4 + 3) / 4 = k by omega]
theorem ndC_set {l : List Nd} {h : Nat → Nat} {orig : Nat → Value} {k b : Nat} (hk : k < l.length) :
    (ndC l h orig k).set (k * 4 + 1) (.slice (some ⟨b, 0, none⟩) (l.getD k default).ins.length (l.getD k default).ins.length) = ndC l (fun i => if i = k then b else h i) orig (k + 1) := by
  apply List.ext_getElem?
  intro j
  by_cases hj : j < l.length * 4
  · rw [List.getElem?_set, ndC_get hj, ndC_get hj, ndC_len]
    by_cases e : k * 4 + 1 = j
    · subst e
      rw [if_pos rfl, if_pos (by omega), ndF_1, if_pos (by omega), if_pos rfl]
    · rw [if_neg e]
      unfold ndF
      by_cases h1 : j % 4 = 1
      · have hne : j / 4 ≠ k := by omega
        have h00 : ¬ j % 4 = 0 := by omega
        rw [if_neg h00, if_pos h1, if_neg h00, if_pos h1]
        by_cases h2 : j / 4 < k
        · rw [if_pos h2, if_pos (show j / 4 < k + 1 by omega)]
          show _ = some (Value.slice (some ⟨if j / 4 = k then b else h (j / 4), 0, none⟩) _ _)
          rw [if_neg hne]
        · rw [if_neg h2, if_neg (show ¬ j / 4 < k + 1 by omega)]
      · rw [if_neg h1, if_neg h1]
  · rw [List.getElem?_eq_none (by simp [ndC_len]; omega), List.getElem?_eq_none (by simp [ndC_len]; omega)]
/-- The cells of the memories: those of memory k in blocks ha k, hd k if k < m, otherwise as in orig. -/
def mmF (l : List Mm) (ha hd : Nat → Nat) (oa od : Nat → Value) (m : Nat) (j : Nat) : Value :=
  if j % 3 = 0 then (if j / 3 < m then .slice (some ⟨ha (j / 3), 0, none⟩) (l.getD (j / 3) default).addr.length (l.getD (j / 3) default).addr.length else oa (j / 3))
  else if j % 3 = 1 then (if j / 3 < m then .slice (some ⟨hd (j / 3), 0, none⟩) (l.getD (j / 3) default).data.length (l.getD (j / 3) default).data.length else od (j / 3))
  else .int .i64 (l.getD (j / 3) default).write
def mmC (l : List Mm) (ha hd : Nat → Nat) (oa od : Nat → Value) (m : Nat) : List Value := (List.range (l.length * 3)).map (mmF l ha hd oa od m)
theorem mmC_len (l : List Mm) (ha hd : Nat → Nat) (oa od : Nat → Value) (m : Nat) : (mmC l ha hd oa od m).length = l.length * 3 := by simp [mmC]
theorem mmC_get {l : List Mm} {ha hd : Nat → Nat} {oa od : Nat → Value} {m j : Nat} (hj : j < l.length * 3) : (mmC l ha hd oa od m)[j]? = some (mmF l ha hd oa od m j) := by simp [mmC, hj]
theorem mmF_0 (l : List Mm) (ha hd : Nat → Nat) (oa od : Nat → Value) (m k : Nat) : mmF l ha hd oa od m (k * 3) = if k < m then .slice (some ⟨ha k, 0, none⟩) (l.getD k default).addr.length (l.getD k default).addr.length else oa k := by
  unfold mmF; rw [if_pos (by omega), show k * 3 / 3 = k by omega]
theorem mmF_1 (l : List Mm) (ha hd : Nat → Nat) (oa od : Nat → Value) (m k : Nat) : mmF l ha hd oa od m (k * 3 + 1) = if k < m then .slice (some ⟨hd k, 0, none⟩) (l.getD k default).data.length (l.getD k default).data.length else od k := by
  unfold mmF; rw [if_neg (by omega), if_pos (by omega), show (k * 3 + 1) / 3 = k by omega]
theorem mmF_2 (l : List Mm) (ha hd : Nat → Nat) (oa od : Nat → Value) (m k : Nat) : mmF l ha hd oa od m (k * 3 + 2) = .int .i64 (l.getD k default).write := by
  unfold mmF; rw [if_neg (by omega), if_neg (by omega), show (k * 3 + 2) / 3 = k by omega]
theorem mmC_set {l : List Mm} {ha hd : Nat → Nat} {oa od : Nat → Value} {k b d : Nat} (hk : k < l.length) :
    ((mmC l ha hd oa od k).set (k * 3) (.slice (some ⟨b, 0, none⟩) (l.getD k default).addr.length (l.getD k default).addr.length)).set (k * 3 + 1) (.slice (some ⟨d, 0, none⟩) (l.getD k default).data.length (l.getD k default).data.length) =
      mmC l (fun i => if i = k then b else ha i) (fun i => if i = k then d else hd i) oa od (k + 1) := by
  apply List.ext_getElem?
  intro j
  by_cases hj : j < l.length * 3
  · rw [List.getElem?_set, List.getElem?_set, mmC_get hj, mmC_get hj, List.length_set, mmC_len]
    by_cases e : k * 3 + 1 = j
    · subst e
      rw [if_pos rfl, if_pos (by omega), mmF_1, if_pos (by omega), if_pos rfl]
    · rw [if_neg e]
      by_cases e0 : k * 3 = j
      · subst e0
        rw [if_pos rfl, if_pos (by omega), mmF_0, if_pos (by omega), if_pos rfl]
      · rw [if_neg e0]
        unfold mmF
        have hne : j % 3 ≠ 2 → j / 3 ≠ k := by omega
        by_cases h0 : j % 3 = 0
        · have hn := hne (by omega)
          rw [if_pos h0, if_pos h0]
          by_cases h2 : j / 3 < k
          · rw [if_pos h2, if_pos (show j / 3 < k + 1 by omega)]
            show _ = some (Value.slice (some ⟨if j / 3 = k then b else ha (j / 3), 0, none⟩) _ _)
            rw [if_neg hn]
          · rw [if_neg h2, if_neg (show ¬ j / 3 < k + 1 by omega)]
        · rw [if_neg h0, if_neg h0]
          by_cases h1 : j % 3 = 1
          · have hn := hne (by omega)
            rw [if_pos h1, if_pos h1]
            by_cases h2 : j / 3 < k
            · rw [if_pos h2, if_pos (show j / 3 < k + 1 by omega)]
              show _ = some (Value.slice (some ⟨if j / 3 = k then d else hd (j / 3), 0, none⟩) _ _)
              rw [if_neg hn]
            · rw [if_neg h2, if_neg (show ¬ j / 3 < k + 1 by omega)]
          · rw [if_neg h1, if_neg h1]
  · rw [List.getElem?_eq_none (by simp [mmC_len]; omega), List.getElem?_eq_none (by simp [mmC_len]; omega)]
/-- A circuit in blocks of the call's own, from G on, all apart. -/
structure OwnC (x : Ck) (G g0 g1 g2 g3 : Nat) (h ha hd : Nat → Nat) (w : World) : Prop where
  low : G ≤ g0 ∧ g0 < g1 ∧ g1 < g2 ∧ g2 < g3
  f0 : Fr w g0 65 (ndC x.nodes h (fun _ => undef) x.nodes.length)
  f1 : Fr w g1 9 (x.names.map Value.string)
  f2 : Fr w g2 67 (mmC x.mems ha hd (fun _ => undef) (fun _ => undef) x.mems.length)
  f3 : Row w g3 x.outs
  rn : ∀ k, k < x.nodes.length → g3 < h k ∧ Row w (h k) (x.nodes.getD k default).ins
  rm : ∀ k, k < x.mems.length → g3 < ha k ∧ Row w (ha k) (x.mems.getD k default).addr ∧ g3 < hd k ∧ Row w (hd k) (x.mems.getD k default).data
  nn : ∀ i j, i < j → j < x.nodes.length → h i < h j
  nm : ∀ i j, i < x.nodes.length → j < x.mems.length → h i < ha j
  mm : ∀ i, i < x.mems.length → ha i < hd i
  ml : ∀ i j, i < j → j < x.mems.length → hd i < ha j
end Go.Proofs.YtkaedfgmhfefjaaGreatDoor

namespace Go.Proofs.YtkaedfgmhfefjaaGreatDoor
open Go.RowKit

theorem Fr.alloc {w : World} {g : Nat} {t : TypeId} {cs : List Value} (h : Fr w g t cs) (o : Obj) : Fr (w.alloc o) g t cs := h.below ((Below.refl _ _).alloc (Nat.le_refl _) o)
theorem Fr.drew {w : World} {g : Nat} {t : TypeId} {cs : List Value} (h : Fr w g t cs) : Fr w.drew g t cs := h
theorem Fr.other {w : World} {g : Nat} {t : TypeId} {cs : List Value} (h : Fr w g t cs) {a : Addr} (ha : a.block ≠ g) (v : Value) : Fr (w.setCell a v) g t cs :=
  h.kept (row := some a.block) ⟨rfl, rfl, rfl, by simp [World.setCell], fun i _ hne => Below.heap_setCell _ _ _ _ (fun e => hne (by rw [e]))⟩ (fun e => ha (by injection e with e; exact e.symm))
/-- What was there is as it was. -/
def BelW (w w' : World) : Prop := Below w.heap.size w w'
theorem BelW.next {w w1 w2 : World} (h : BelW w w1) (hb : Below w1.heap.size w1 w2) : BelW w w2 := joinB h hb
theorem BelW.trans {w w1 w2 : World} (h : BelW w w1) (hb : BelW w1 w2) : BelW w w2 := joinB h hb
theorem BelW.alloc {w w1 : World} (h : BelW w w1) (o : Obj) : BelW w (w1.alloc o) := below_new h o
theorem BelW.drew {w w1 : World} (h : BelW w w1) : BelW w w1.drew := Below.drew h
theorem BelW.set {w w1 : World} (h : BelW w w1) {a : Addr} (ha : w.heap.size ≤ a.block) (v : Value) : BelW w (w1.setCell a v) := Below.setCell h ha v

/-- What the first statement of Copy leaves. -/
structure Cp1 (n0 n1 n2 n3 : Nat) (w : World) (b0 o0 b1 o1 b2 o2 b3 o3 : Nat) (D g0 g1 g2 g3 : Nat) (wx : World) : Prop where
  bel : BelW w wx
  low : w.heap.size + 1 < g0 ∧ g0 < g1 ∧ g1 < g2 ∧ g2 < g3 ∧ w.heap.size + 1 < D ∧ D ≠ g0 ∧ D ≠ g1 ∧ D ≠ g2 ∧ D ≠ g3
  f0 : Fr wx g0 65 (rdC w b0 o0 (n0 * 4))
  f1 : Fr wx g1 9 (rdC w b1 o1 (n1 * 1))
  f2 : Fr wx g2 67 (rdC w b2 o2 (n2 * 3))
  f3 : Fr wx g3 3 (rdC w b3 o3 (n3 * 1))
  fd : Fr wx D 39 [.slice (some ⟨g0, 0, none⟩) n0 n0, .slice (some ⟨g1, 0, none⟩) n1 n1, .slice (some ⟨g2, 0, none⟩) n2 n2, .slice (some ⟨g3, 0, none⟩) n3 n3]
  fr : Fr wx (w.heap.size + 1) 39 [.slice none 0 0, .slice none 0 0, .slice none 0 0, .slice none 0 0]

theorem BelW.set4 {w w1 : World} {D : Nat} (h : BelW w w1) (hD : w.heap.size ≤ D) (a b c d : Value) :
    BelW w ((((w1.setCell ⟨D, 0, none⟩ a).setCell ⟨D, 1, none⟩ b).setCell ⟨D, 2, none⟩ c).setCell ⟨D, 3, none⟩ d) := (((h.set hD a).set hD b).set hD c).set hD d
theorem Fr.set4 {w : World} {D : Nat} {t : TypeId} {x y z u : Value} (h : Fr w D t [x, y, z, u]) (a b c d : Value) :
    Fr ((((w.setCell ⟨D, 0, none⟩ a).setCell ⟨D, 1, none⟩ b).setCell ⟨D, 2, none⟩ c).setCell ⟨D, 3, none⟩ d) D t [a, b, c, d] := (((h.set 0 a).set 1 b).set 2 c).set 3 d
theorem Fr.made (w : World) (cs : List Value) (t : TypeId) {g : Nat} (hg : g = w.heap.size) : Fr (w.alloc (.cells cs.toArray t)) g t cs := by
  subst hg; unfold Fr; exact heap_alloc_new _ _

/-- Sizes that a copy can bear. -/
structure SzOk (c : Ck) : Prop where
  n : c.nodes.length ≤ 1000000
  s : c.names.length ≤ 1000000
  m : c.mems.length ≤ 1000000
  o : c.outs.length ≤ 1000000
  i : ∀ k, k < c.nodes.length → (c.nodes.getD k default).ins.length ≤ 17592186044416
  a : ∀ k, k < c.mems.length → (c.mems.getD k default).addr.length ≤ 17592186044416
  d : ∀ k, k < c.mems.length → (c.mems.getD k default).data.length ≤ 17592186044416

/-- What the loop over the nodes keeps. -/
structure Nd1 (c : Ck) (w : World) (D g0 g1 g2 g3 n0 n1 n2 n3 T : Nat) (sN sA sD : Nat → Value) (k : Nat) (h : Nat → Nat) (wr : World) : Prop where
  bel : BelW w wr
  top : T ≤ wr.heap.size
  f0 : Fr wr g0 65 (ndC c.nodes h sN k)
  f1 : Fr wr g1 9 (c.names.map Value.string)
  f2 : Fr wr g2 67 (mmC c.mems (fun _ => 0) (fun _ => 0) sA sD 0)
  f3 : Fr wr g3 3 (c.outs.map (Value.int .i64))
  fd : Fr wr D 39 [.slice (some ⟨g0, 0, none⟩) n0 n0, .slice (some ⟨g1, 0, none⟩) n1 n1, .slice (some ⟨g2, 0, none⟩) n2 n2, .slice (some ⟨g3, 0, none⟩) n3 n3]
  fr : Fr wr (w.heap.size + 1) 39 [.slice none 0 0, .slice none 0 0, .slice none 0 0, .slice none 0 0]
  rows : ∀ j, j < k → T ≤ h j ∧ Row wr (h j) (c.nodes.getD j default).ins
  inc : ∀ i j, i < j → j < k → h i < h j

theorem Row.other {w : World} {g : Nat} {l : List Int} (h : Row w g l) {a : Addr} (ha : a.block ≠ g) (v : Value) : Row (w.setCell a v) g l :=
  h.kept (row := some a.block) ⟨rfl, rfl, rfl, by simp [World.setCell], fun i _ hne => Below.heap_setCell _ _ _ _ (fun e => hne (by rw [e]))⟩ (fun e => ha (by injection e with e; exact e.symm))
theorem Nd1.step {c : Ck} {w : World} {D g0 g1 g2 g3 n0 n1 n2 n3 T : Nat} {sN sA sD : Nat → Value} {k : Nat} {h : Nat → Nat} {wr w1 : World} (hnd : Nd1 c w D g0 g1 g2 g3 n0 n1 n2 n3 T sN sA sD k h wr)
    (hk : k < c.nodes.length) (hb : BelW wr w1) {y : Nat} (hy : wr.heap.size ≤ y) (hr : Row w1 y (c.nodes.getD k default).ins)
    (h0 : w.heap.size + 1 < g0) (h1 : g0 < g1) (h2 : g1 < g2) (h3 : g2 < g3) (h4 : g3 < T) (hD : D ≠ g0) :
    Nd1 c w D g0 g1 g2 g3 n0 n1 n2 n3 T sN sA sD (k + 1) (fun i => if i = k then y else h i) (w1.setCell ⟨g0, k * 4 + 1, none⟩ (.slice (some ⟨y, 0, none⟩) (c.nodes.getD k default).ins.length (c.nodes.getD k default).ins.length)) := by
  have ht := hnd.top
  have hlt : ∀ j, j < k → h j < wr.heap.size := fun j hj => (hnd.rows j hj).2.lt
  refine ⟨(hnd.bel.trans hb).set (by show w.heap.size ≤ g0; omega) _, ?_, ?_, Fr.other (Fr.below hnd.f1 hb) (by show g0 ≠ g1; omega) _, Fr.other (Fr.below hnd.f2 hb) (by show g0 ≠ g2; omega) _, Fr.other (Fr.below hnd.f3 hb) (by show g0 ≠ g3; omega) _, Fr.other (Fr.below hnd.fd hb) (by show g0 ≠ D; omega) _, Fr.other (Fr.below hnd.fr hb) (by show g0 ≠ w.heap.size + 1; omega) _, fun j hj => ?_, fun i j hij hj => ?_⟩
  · have := hb.size
    simp only [World.size_setCell]; omega
  · rw [← ndC_set hk]
    exact (Fr.below hnd.f0 hb).set _ _
  · by_cases e : j = k
    · subst e
      rw [if_pos rfl]
      exact ⟨by omega, hr.other (by show g0 ≠ y; omega) _⟩
    · rw [if_neg e]
      have hj' := hnd.rows j (by omega)
      exact ⟨hj'.1, (hj'.2.below hb).other (by show g0 ≠ h j; omega) _⟩
  · have hi : i ≠ k := by omega
    rw [if_neg hi]
    by_cases e : j = k
    · rw [if_pos e]; have := hlt i (by omega); omega
    · rw [if_neg e]; exact hnd.inc i j hij (by omega)

/-- What the loop over the memories keeps. -/
structure Nd2 (c : Ck) (w : World) (D g0 g1 g2 g3 n0 n1 n2 n3 T : Nat) (sN sA sD : Nat → Value) (h : Nat → Nat) (k : Nat) (ha hd : Nat → Nat) (wr : World) : Prop where
  bel : BelW w wr
  top : T ≤ wr.heap.size
  f0 : Fr wr g0 65 (ndC c.nodes h sN c.nodes.length)
  f1 : Fr wr g1 9 (c.names.map Value.string)
  f2 : Fr wr g2 67 (mmC c.mems ha hd sA sD k)
  f3 : Fr wr g3 3 (c.outs.map (Value.int .i64))
  fd : Fr wr D 39 [.slice (some ⟨g0, 0, none⟩) n0 n0, .slice (some ⟨g1, 0, none⟩) n1 n1, .slice (some ⟨g2, 0, none⟩) n2 n2, .slice (some ⟨g3, 0, none⟩) n3 n3]
  fr : Fr wr (w.heap.size + 1) 39 [.slice none 0 0, .slice none 0 0, .slice none 0 0, .slice none 0 0]
  rows : ∀ j, j < c.nodes.length → T ≤ h j ∧ Row wr (h j) (c.nodes.getD j default).ins
  inc : ∀ i j, i < j → j < c.nodes.length → h i < h j
  mrows : ∀ j, j < k → T ≤ ha j ∧ Row wr (ha j) (c.mems.getD j default).addr ∧ ha j < hd j ∧ Row wr (hd j) (c.mems.getD j default).data
  nm : ∀ i j, i < c.nodes.length → j < k → h i < ha j
  ml : ∀ i j, i < j → j < k → hd i < ha j
theorem Nd2.step {c : Ck} {w : World} {D g0 g1 g2 g3 n0 n1 n2 n3 T : Nat} {sN sA sD : Nat → Value} {h : Nat → Nat} {k : Nat} {ha hd : Nat → Nat} {wr w2 : World} (hnd : Nd2 c w D g0 g1 g2 g3 n0 n1 n2 n3 T sN sA sD h k ha hd wr)
    (hk : k < c.mems.length) (hb : BelW wr w2) {y z : Nat} (hy : wr.heap.size ≤ y) (hyz : y < z) (hr : Row w2 y (c.mems.getD k default).addr) (hs : Row w2 z (c.mems.getD k default).data)
    (h0 : w.heap.size + 1 < g0) (h1 : g0 < g1) (h2 : g1 < g2) (h3 : g2 < g3) (h4 : g3 < T) (hD : D ≠ g2) :
    Nd2 c w D g0 g1 g2 g3 n0 n1 n2 n3 T sN sA sD h (k + 1) (fun i => if i = k then y else ha i) (fun i => if i = k then z else hd i) ((w2.setCell ⟨g2, k * 3, none⟩ (.slice (some ⟨y, 0, none⟩) (c.mems.getD k default).addr.length (c.mems.getD k default).addr.length)).setCell ⟨g2, k * 3 + 1, none⟩ (.slice (some ⟨z, 0, none⟩) (c.mems.getD k default).data.length (c.mems.getD k default).data.length)) := by
  have ht := hnd.top
  have hlt : ∀ j, j < c.nodes.length → h j < wr.heap.size := fun j hj => (hnd.rows j hj).2.lt
  have hlm : ∀ j, j < k → hd j < wr.heap.size := fun j hj => (hnd.mrows j hj).2.2.2.lt
  have fo : ∀ {g : Nat} {t : TypeId} {cs : List Value} {p q : Nat} {u v : Value}, g ≠ g2 → Fr wr g t cs → Fr ((w2.setCell ⟨g2, p, none⟩ u).setCell ⟨g2, q, none⟩ v) g t cs := fun hne hf => ((Fr.below hf hb).other (fun e => hne e.symm) _).other (fun e => hne e.symm) _
  have ro : ∀ {g : Nat} {l : List Int} {p q : Nat} {u v : Value}, g ≠ g2 → Row w2 g l → Row ((w2.setCell ⟨g2, p, none⟩ u).setCell ⟨g2, q, none⟩ v) g l := fun hne hf => (hf.other (fun e => hne e.symm) _).other (fun e => hne e.symm) _
  refine ⟨((hnd.bel.trans hb).set (by show w.heap.size ≤ g2; omega) _).set (by show w.heap.size ≤ g2; omega) _, ?_, fo (by omega) hnd.f0, fo (by omega) hnd.f1, ?_, fo (by omega) hnd.f3, fo hD hnd.fd, fo (by omega) hnd.fr, fun j hj => ?_, hnd.inc, fun j hj => ?_, fun i j hi hj => ?_, fun i j hij hj => ?_⟩
  · have := hb.size
    simp only [World.size_setCell]; omega
  · rw [← mmC_set hk]
    exact ((Fr.below hnd.f2 hb).set _ _).set _ _
  · have hj' := hnd.rows j hj
    exact ⟨hj'.1, ro (by omega) (hj'.2.below hb)⟩
  · by_cases e : j = k
    · subst e
      rw [if_pos rfl, if_pos rfl]
      exact ⟨by omega, ro (by omega) hr, hyz, ro (by omega) hs⟩
    · rw [if_neg e, if_neg e]
      obtain ⟨q1, q2, q3, q4⟩ := hnd.mrows j (by omega)
      exact ⟨q1, ro (by omega) (q2.below hb), q3, ro (by omega) (q4.below hb)⟩
  · by_cases e : j = k
    · rw [if_pos e]; have := hlt i hi; omega
    · rw [if_neg e]; exact hnd.nm i j hi (by omega)
  · have hi : i ≠ k := by omega
    rw [if_neg hi]
    by_cases e : j = k
    · rw [if_pos e]; have := hlm i (by omega); omega
    · rw [if_neg e]; exact hnd.ml i j hij (by omega)

end Go.Proofs.YtkaedfgmhfefjaaGreatDoor

namespace Go.Proofs.YtkaedfgmhfefjaaGreatDoor
open Go.RowKit

set_option maxRecDepth 100000 in
set_option maxHeartbeats 4000000 in
theorem stateOf_any (nets : List Int) (A0 A1 A2 A3 A : Option Addr) (n0 n1 n2 n3 n c0 c1 c2 c3 c : Nat) (w : World) (B : Nat) (hB : B ≤ w.heap.size) (hs : Ks w B (.slice A n c) nets) :
    Calls Tryz.prog 69 #[.agg #[.slice A0 n0 c0, .slice A1 n1 c1, .slice A2 n2 c2, .slice A3 n3 c3], .slice A n c] w
      fun e w' => (∃ q, e = .returned (.agg #[.slice A0 n0 c0, .slice A1 n1 c1, .slice A2 n2 c2, .slice A3 n3 c3, .func (.func 110) #[] #[.pointer (some ⟨q, 0, none⟩)]]) ∧ Nv w' q nets ∧ w.heap.size ≤ q ∧ w'.cell? ⟨q, 0, none⟩ = some (.slice A n c)) ∧ Below w.heap.size w w' := by
  have HS := Lib.hid hs
  clear hs
  go_enter Tryz.func69, Tryz.ntmps69
  go_wp2
  obtain ⟨V, HV⟩ := named ((w.alloc (.cells #[.slice A0 n0 c0, .slice A1 n1 c1, .slice A2 n2 c2, .slice A3 n3 c3] 39)).alloc (.cells #[.slice A n c] 41))
  rw [← HV.out]
  have hbv : Below w.heap.size w V := by rw [HV.out]; exact below_new (below_new (Below.refl _ _) _) _
  have hvz : V.heap.size = w.heap.size + 1 + 1 := by rw [HV.out]; simp
  have hcv : V.cell? ⟨w.heap.size + 1, 0, none⟩ = some (.slice A n c) := by rw [HV.out, World.cell?_alloc_at _ _ _ _ (by simp)]; rfl
  rw [← hvz]
  have hq := Fr.made V [.slice A0 n0 c0, .slice A1 n1 c1, .slice A2 n2 c2, .slice A3 n3 c3, .func (.func 110) #[] #[.pointer (some ⟨w.heap.size + 1, 0, none⟩)]] 121 rfl
  (try simp only [Exit.inBlock, Exit.then])
  refine bodyPost_ret (results_cell_row rfl _ _ _ _ _ _ _ rfl hq Tryz.underlying121 rfl (by kernel_rfl)) rfl ?_
  have hlen : n = nets.length := by obtain ⟨_, _, _, _, e, -⟩ := id HS.out; simp only [Value.slice.injEq] at e; exact e.2.1
  subst hlen
  have hbW := below_new hbv (.cells #[.slice A0 n0 c0, .slice A1 n1 c1, .slice A2 n2 c2, .slice A3 n3 c3, .func (.func 110) #[] #[.pointer (some ⟨w.heap.size + 1, 0, none⟩)]] 121)
  refine ⟨⟨w.heap.size + 1, rfl, ⟨A, c, ?_, ?_⟩, Nat.le_succ _, ?_⟩, hbW⟩
  · exact ((below_new (Below.refl V.heap.size V) _).cell (p := ⟨w.heap.size + 1, 0, none⟩) (by show w.heap.size + 1 < V.heap.size; omega)).trans hcv
  · exact Arr.keep stays_u8 HS.out (Nat.le_trans hB hbW.size) fun _ hp => hbW.cell (Nat.lt_of_lt_of_le hp hB)
  · exact ((below_new (Below.refl V.heap.size V) _).cell (p := ⟨w.heap.size + 1, 0, none⟩) (by show w.heap.size + 1 < V.heap.size; omega)).trans hcv

theorem VRow.other {w : World} {g : Nat} {l : List Int} (h : VRow w g l) {a : Addr} (ha : a.block ≠ g) (v : Value) : VRow (w.setCell a v) g l :=
  h.kept (row := some a.block) ⟨rfl, rfl, rfl, by simp [World.setCell], fun i _ hne => Below.heap_setCell _ _ _ _ (fun e => hne (by rw [e]))⟩ (fun e => ha (by injection e with e; exact e.symm))
/-- A response made for the call. -/
def RespPost (lo ln : List Int) (w : World) (e : Ending) (w' : World) : Prop :=
  ∃ g h, e = .returned (.agg #[.slice (some ⟨g, 0, none⟩) lo.length lo.length, .slice (some ⟨h, 0, none⟩) ln.length ln.length]) ∧ VRow w' g lo ∧ VRow w' h ln ∧ w.heap.size ≤ g ∧ w.heap.size ≤ h ∧ g ≠ h ∧ Below w.heap.size w w'
def outV (c : Ck) (nets : List Int) : List Int := c.outs.map (valA nets)
def nextV (c : Ck) (nets : List Int) : List Int := (ofTo c.nodes [14] c.nodes.length).map fun i => dataV nets (c.nodes.getD i.toNat default).ins
theorem ofTo_in {nodes : List Nd} {kl : List Int} {k : Nat} {x : Int} (h : x ∈ ofTo nodes kl k) : 0 ≤ x ∧ x < (k : Int) := by
  unfold ofTo at h
  obtain ⟨i, hi, rfl⟩ := List.mem_map.1 h
  have := List.mem_range.1 (List.mem_filter.1 hi).1
  omega

set_option maxRecDepth 100000 in
set_option maxHeartbeats 4000000 in
theorem response_any (c : Ck) (nets : List Int) (A0 A1 A2 A3 : Option Addr) (c0 c1 c2 c3 q : Nat) (w : World) (B : Nat) (hB : B ≤ w.heap.size) (hq : Nv w q nets)
    (hc : Cir w B (.agg #[.slice A0 c.nodes.length c0, .slice A1 c.names.length c1, .slice A2 c.mems.length c2, .slice A3 c.outs.length c3]) c) (hsz : c.nodes.length ≤ 1000000) (hos : c.outs.length ≤ 17592186044416) :
    Calls Tryz.prog 73 #[.agg #[.slice A0 c.nodes.length c0, .slice A1 c.names.length c1, .slice A2 c.mems.length c2, .slice A3 c.outs.length c3, .func (.func 110) #[] #[.pointer (some ⟨q, 0, none⟩)]]] w (RespPost (outV c nets) (nextV c nets) w) := by
  obtain ⟨W1, HW1⟩ := named ((w.alloc (.cells #[.slice A0 c.nodes.length c0, .slice A1 c.names.length c1, .slice A2 c.mems.length c2, .slice A3 c.outs.length c3, .func (.func 110) #[] #[.pointer (some ⟨q, 0, none⟩)]] 121)).alloc (.cells #[.slice none 0 0, .slice none 0 0] 49))
  have hb1 : Below w.heap.size w W1 := by rw [HW1.out]; exact below_new (below_new (Below.refl _ _) _) _
  have hfs : Fr W1 w.heap.size 121 (#[.slice A0 c.nodes.length c0, .slice A1 c.names.length c1, .slice A2 c.mems.length c2, .slice A3 c.outs.length c3, .func (.func 110) #[] #[.pointer (some ⟨q, 0, none⟩)]]).toList := by rw [HW1.out]; exact Fr.alloc (Fr.made _ _ _ rfl) _
  have hfr : Fr W1 (w.heap.size + 1) 49 [.slice none 0 0, .slice none 0 0] := by rw [HW1.out]; exact Fr.made _ _ _ (by simp)
  have hz1 : W1.heap.size = w.heap.size + 1 + 1 := by rw [HW1.out]; simp
  have hns : Ns w B (.slice A0 c.nodes.length c0) c.nodes := by
    obtain ⟨v0, v1, v2, v3, e, h, -⟩ := hc
    simp only [Value.agg.injEq, Array.mk.injEq, List.cons.injEq, and_true] at e
    rw [e.1]; exact h
  have hio : Is w B (.slice A3 c.outs.length c3) c.outs := by
    obtain ⟨v0, v1, v2, v3, e, -, -, -, h⟩ := hc
    simp only [Value.agg.injEq, Array.mk.injEq, List.cons.injEq, and_true] at e
    rw [e.2.2.2]; exact h
  have HST := Lib.hid (OfPost.from (states_any c _ W1 B (Nat.le_trans hB hb1.size) (hc.below (hb1.mono hB)) hsz) (Below.refl _ _))
  have HDA : Hid (∀ W, Below W1.heap.size W1 W → ∀ i : Nat, i < c.nodes.length → Calls Tryz.prog 120 #[.agg #[.slice A0 c.nodes.length c0, .slice A1 c.names.length c1, .slice A2 c.mems.length c2, .slice A3 c.outs.length c3, .func (.func 110) #[] #[.pointer (some ⟨q, 0, none⟩)]], .int .i64 (i : Int)] W fun e w' => e = .returned (.int .u8 (dataV nets (c.nodes.getD i default).ins)) ∧ Below W.heap.size W w') :=
    Lib.hid fun W hb i hi => data_any c nets A0 A1 A2 A3 _ _ _ c0 c1 c2 c3 i q W B (Nat.le_trans hB (joinB hb1 hb).size) (hq.below (joinB hb1 hb)) (hns.below ((joinB hb1 hb).mono hB)) hi
  have HVA : Hid (∀ W, Below W1.heap.size W1 W → Calls Tryz.prog 72 #[.agg #[.slice A0 c.nodes.length c0, .slice A1 c.names.length c1, .slice A2 c.mems.length c2, .slice A3 c.outs.length c3, .func (.func 110) #[] #[.pointer (some ⟨q, 0, none⟩)]], .slice A3 c.outs.length c3] W (ValsPost (outV c nets) W)) :=
    Lib.hid fun W hb => values_any nets c.outs A0 A1 A2 A3 _ _ _ _ c0 c1 c2 c3 _ q W B (Nat.le_trans hB (joinB hb1 hb).size) (hq.below (joinB hb1 hb)) (hio.below ((joinB hb1 hb).mono hB)) hos
  have HOL : Hid ((outV c nets).length = c.outs.length) := Lib.hid (by simp [outV])
  have HNX : Hid (nextV c nets = (ofTo c.nodes [14] c.nodes.length).map fun i => dataV nets (c.nodes.getD i.toNat default).ins) := Lib.hid rfl
  have HIN : Hid (∀ x ∈ ofTo c.nodes [14] c.nodes.length, 0 ≤ x ∧ x < (c.nodes.length : Int)) := Lib.hid fun x hx => ofTo_in hx
  have hll := ofTo_len c.nodes [14] c.nodes.length
  have HB1 := Lib.hid hb1
  clear hq hc hns hio hb1
  obtain ⟨lo, HLO⟩ := named (outV c nets)
  obtain ⟨ln, HLN⟩ := named (nextV c nets)
  obtain ⟨L, HL⟩ := named (ofTo c.nodes [14] c.nodes.length)
  rw [← HLO.out] at HVA HOL
  rw [← HLN.out, ← HL.out] at HNX
  rw [← HL.out] at HST HIN hll
  rw [← HLO.out, ← HLN.out]
  clear HLO HLN HL
  obtain ⟨nd, HND⟩ := named c.nodes
  rw [← HND.out] at HW1 hfs HST HDA HVA HIN HNX hll hsz
  rw [← HND.out]
  obtain ⟨n0, HN0⟩ := named nd.length
  rw [← HN0.out] at HW1 hfs HST HDA HVA HIN hll hsz
  rw [← HN0.out]
  generalize c.names.length = n1 at HW1 hfs HST HDA HVA ⊢
  generalize c.mems.length = n2 at HW1 hfs HST HDA HVA ⊢
  obtain ⟨n3, HN3⟩ := named c.outs.length
  rw [← HN3.out] at HW1 hfs HST HDA HVA HOL hos
  rw [← HN3.out]
  have HFS : Hid (∀ W, Below W1.heap.size W1 W → W.cell? ⟨w.heap.size, 0, none⟩ = some (.slice A0 n0 c0) ∧ W.cell? ⟨w.heap.size, 1, none⟩ = some (.slice A1 n1 c1) ∧ W.cell? ⟨w.heap.size, 2, none⟩ = some (.slice A2 n2 c2) ∧ W.cell? ⟨w.heap.size, 3, none⟩ = some (.slice A3 n3 c3) ∧ W.cell? ⟨w.heap.size, 4, none⟩ = some (.func (.func 110) #[] #[.pointer (some ⟨q, 0, none⟩)])) :=
    Lib.hid fun W hb => ⟨(hfs.below hb).cell 0, (hfs.below hb).cell 1, (hfs.below hb).cell 2, (hfs.below hb).cell 3, (hfs.below hb).cell 4⟩
  have HFR : Hid (∀ W, Below W1.heap.size W1 W → Fr W (w.heap.size + 1) 49 [.slice none 0 0, .slice none 0 0]) := Lib.hid fun W hb => hfr.below hb
  have HZ1 := Lib.hid hz1
  have hzl : w.heap.size + 1 < W1.heap.size := by omega
  clear hfs hfr hz1
  obtain ⟨m, HM⟩ := named L.length
  rw [← HM.out] at hll
  have hst2 : Calls Tryz.prog 37 #[.agg #[.slice A0 n0 c0, .slice A1 n1 c1, .slice A2 n2 c2, .slice A3 n3 c3]] W1 fun e w' => ∃ A, e = .returned (.slice A m m) ∧ Is w' w'.heap.size (.slice A m m) L ∧ Below W1.heap.size W1 w' := by rw [HM.out]; exact HST.out
  have HST2 := Lib.hid hst2
  clear hst2 HST
  obtain ⟨i0, hi, hz0, hz1', hz2⟩ := info_parts info_val
  have HI := Lib.hid (And.intro hi (And.intro hz0 (And.intro hz1' hz2)))
  clear hi hz0 hz1' hz2
  go_enter Tryz.func73, Tryz.ntmps73
  go_upto_region 1 with (fail)
  rw [← HW1.out]
  obtain ⟨x0, x1, x2, x3, x4⟩ := HFS.out W1 (Below.refl _ _)
  go_wp2_with (first
    | (go_at_call 37; (with_reducible refine HST2.out.mono ?_); rintro e w2 ⟨A, rfl, hi, hb⟩; have HLI := Lib.hid hi; have HB2 := Lib.hid hb; clear hi hb)
    | (at_make; refine wpList_make_full _ rfl _ _ 41 rfl w2.heap.size 77 i0 (.int .u8 0) 1 Tryz.underlying41 HI.out.1 HI.out.2.1 HI.out.2.2.1 .i64 .i64 _ _ m rfl rfl rfl rfl ?b2 ?b3 ?b4 ?_))
  case b2 => rw [HI.out.2.2.2]; omega
  case b3 => unfold maxLen; omega
  case b4 => exact Nat.le_refl _
  intro w3 hown hgr
  rw [fillL_start (fun j => .int .u8 (dataV nets (nd.getD (lat L j).toNat default).ins))] at hown
  have HB3 := Lib.hid (show Below w2.heap.size w2 w3 from (Below.refl _ _).grown hgr (Nat.le_refl _) (fun k h => by cases h))
  have HO := Lib.hid hown
  obtain ⟨g, HG⟩ := named w2.heap.size
  rw [← HG.out] at HO
  have hgz : w2.heap.size ≤ g := by rw [HG.out]; exact Nat.le_refl _
  have hgw : w.heap.size + 1 < g := by have := HB2.out.size; rw [HG.out]; omega
  rw [← HG.out]
  obtain ⟨AA, bL, oL, cL, eL, hAL, -, -, hcL⟩ := HLI.out.opens
  rw [← HM.out] at eL hAL hcL
  simp only [Value.slice.injEq, true_and] at eL
  obtain ⟨rfl, -⟩ := eL
  have HAL := Lib.hid hAL
  have HCL := Lib.hid hcL
  clear hown hgr x0 x1 x2 x3 x4 hAL hcL
  go_wp2
  go_loopw [15] (fun i wr => ∃ k : Nat, k ≤ m ∧ i = .int .i64 k ∧ Below w2.heap.size w2 wr ∧ wr.ownsRow g 77 1 (.slice (some ⟨g, 0, none⟩) m m) m (fillL (fun j => .int .u8 (dataV nets (nd.getD (lat L j).toNat default).ins)) (.int .u8 0) m k)) (fun i _ => m - (intOf i).toNat)
  case atStart => exact ⟨0, Nat.zero_le _, rfl, HB3.out, HO.out⟩
  case round =>
    clear HO HB3
    obtain ⟨k, hk, rfl, hb, hown⟩ := hrel
    have HBL := Lib.hid hb
    have HO := Lib.hid hown
    obtain ⟨x0, x1, x2, x3, x4⟩ := HFS.out wr (joinB HB2.out hb)
    clear hb hown
    by_cases hlt : k < m
    · obtain rfl := HAL.out (by omega)
      obtain ⟨hlb, hx⟩ := HCL.out k hlt
      have hx2 : wr.cell? ⟨bL, oL + k, none⟩ = some (.int .i64 (L.getD k 0)) := (HBL.out.cell (p := ⟨bL, oL + k, none⟩) hlb).trans hx
      obtain ⟨j0, j1⟩ := HIN.out (L.getD k 0) (by rw [List.getD_eq_getElem?_getD, List.getElem?_eq_getElem (by rw [← HM.out]; exact hlt)]; exact List.getElem_mem _)
      obtain ⟨x, hxx⟩ := Int.eq_ofNat_of_zero_le j0
      rw [hxx] at hx2 j1
      have hxn : x < n0 := by omega
      have HLX : Hid (lat L (k : Int) = (x : Int)) := Lib.hid (by rw [← hxx]; unfold lat; rw [Int.toNat_natCast])
      have hcl : wr.cell? ⟨g, k, none⟩ = some (.int .u8 0) := by
        rw [HO.out.cellAt k (by omega), fillL_get _ _ _ _ _ hlt, if_neg (by omega)]
      have hfz : wr.frozen? ⟨g, k, none⟩ = false := HO.out.frozenAt k
      have hgl : g < wr.heap.size := (World.ownsRow.lt HO.out _ rfl).2
      obtain ⟨u, HU⟩ := named (dataV nets (nd.getD x default).ins)
      have HCD := Lib.hid (HDA.out wr (joinB HB2.out HBL.out) x hxn)
      rw [← HU.out] at HCD
      clear hx hxx j0 j1
      go_wp2_with (go_at_call 120; (with_reducible refine HCD.out.mono ?_); rintro e w5 ⟨rfl, hb⟩; have HB5 := Lib.hid hb; have hcl5 := (hb.cell (p := ⟨g, k, none⟩) hgl).trans hcl; have hfz5 := (hb.frozen (p := ⟨g, k, none⟩) hgl).trans hfz; clear hb)
      go_roundw
      case rel =>
        have h5 : w5.ownsRow g 77 1 (.slice (some ⟨g, 0, none⟩) m m) m (fillL (fun j => .int .u8 (dataV nets (nd.getD (lat L j).toNat default).ins)) (.int .u8 0) m k) :=
          World.ownsRow.kept (row := none) HO.out ⟨HB5.out.os, HB5.out.tape, HB5.out.output, HB5.out.size, fun i hi _ => HB5.out.block i hi⟩ (.inr (show some g ≠ (none : Option Nat) by simp))
        have h := (h5.stored k (.int .u8 u)).1
        refine ⟨k + 1, by omega, by go_num, (joinB HBL.out HB5.out).setCell hgz _, ?_⟩
        have e : u = dataV nets (nd.getD (lat L (k : Int)).toNat default).ins := by rw [HLX.out, Int.toNat_natCast]; exact HU.out
        rw [e] at h ⊢
        rw [← fillL_set (fun j => .int .u8 (dataV nets (nd.getD (lat L j).toNat default).ins)) (.int .u8 0) m k]
        exact h
      case measure => simp [intOf]; omega
    · obtain rfl : m = k := by omega
      have hfull : VRow wr g ln := by
        have h := HO.out
        have e := fillL_vals (fun x => dataV nets (nd.getD x.toNat default).ins) (.int .u8 0) L
        rw [← HM.out] at e
        rw [e] at h
        rw [HNX.out]
        exact VRow.of (n := m) h (by rw [List.length_map]; exact HM.out.symm)
      have HFULL := Lib.hid hfull
      have HCV := Lib.hid (HVA.out wr (joinB HB2.out HBL.out))
      have hlo : lo.length = n3 := HOL.out
      have hln : ln.length = m := by rw [HNX.out, List.length_map]; exact HM.out.symm
      have HLO := Lib.hid hlo
      have HLN := Lib.hid hln
      have hfr := HFR.out wr (joinB HB2.out HBL.out)
      have HFRR := Lib.hid hfr
      have hrl : w.heap.size + 1 < wr.heap.size := by have := (joinB HB2.out HBL.out).size; omega
      clear hfull hlo hln hfr
      go_wp2_with (go_at_call 72; (with_reducible refine HCV.out.mono ?_); rintro e w5 ⟨h, rfl, hv, hz, hb⟩; have HB5 := Lib.hid hb; have HV5 := Lib.hid hv; have HZ5 := Lib.hid hz; have r0 : w5.cell? ⟨w.heap.size + 1, 0, none⟩ = some (.slice none 0 0) := (HFRR.out.below hb).cell 0; have r1 : w5.cell? ⟨w.heap.size + 1, 1, none⟩ = some (.slice none 0 0) := (HFRR.out.below hb).cell 1; have f0 : w5.frozen? ⟨w.heap.size + 1, 0, none⟩ = false := (HFRR.out.below hb).frozen 0; have f1 : w5.frozen? ⟨w.heap.size + 1, 1, none⟩ = false := (HFRR.out.below hb).frozen 1; clear hv hz hb)
      have hq := ((HFRR.out.below HB5.out).set 0 (.slice (some ⟨h, 0, none⟩) lo.length lo.length)).set 1 (.slice (some ⟨g, 0, none⟩) m m)
      (try simp only [Exit.inBlock, Exit.then])
      refine bodyPost_ret (results_cell_row rfl _ _ _ _ _ _ _ rfl hq Tryz.underlying49 rfl (by kernel_rfl)) rfl ?_
      have hz5 := HZ5.out
      have hzb := (joinB HB2.out HBL.out).size
      have hz1 := HZ1.out
      have hgl := HFULL.out.lt
      have hb5 := joinB HB1.out (joinB (joinB HB2.out HBL.out) HB5.out)
      have n1 : w.heap.size + 1 ≠ h := by omega
      have n2 : w.heap.size + 1 ≠ g := by omega
      refine ⟨h, g, by rw [HLN.out]; rfl, (HV5.out.other (a := ⟨_, 0, none⟩) n1 _).other (a := ⟨_, 1, none⟩) n1 _, ((HFULL.out.below HB5.out).other (a := ⟨_, 0, none⟩) n2 _).other (a := ⟨_, 1, none⟩) n2 _, by omega, by omega, by omega, (hb5.setCell (Nat.le_succ _) _).setCell (Nat.le_succ _) _⟩
end Go.Proofs.YtkaedfgmhfefjaaGreatDoor

namespace Go.Proofs.YtkaedfgmhfefjaaGreatDoor
open Go.RowKit

theorem grown_v {w wr : World} {g : Nat} (h : w.grownBy wr (some g)) (j : Nat) (v : Value) : w.grownBy (wr.setCell ⟨g, j, none⟩ v) (some g) := by
  obtain ⟨h1, h2, h3, h4, h5⟩ := h
  exact ⟨h1, h2, h3, by simpa [World.setCell] using h4, fun i hi hne => (Below.heap_setCell _ _ _ _ (fun e => hne (by rw [e]))).trans (h5 i hi hne)⟩
theorem own_fr {w : World} {base : Nat} {e : TypeId} {size g n : Nat} {xs : List Value} (h : w.ownsRow base e size (.slice (some ⟨g, 0, none⟩) n n) n xs) : Fr w g e xs := by
  obtain ⟨h1, h2⟩ := h
  rcases h2 with ⟨e', -⟩ | ⟨g', cap, cur, e', hb, hg, hle, hm, hs, ht⟩
  · cases e'
  · simp only [Value.slice.injEq, Option.some.injEq, Addr.mk.injEq, and_true, true_and] at e'
    obtain ⟨rfl, rfl⟩ := e'
    have hc : cur = xs.toArray := by
      apply Array.ext'
      rw [← ht, List.take_of_length_le (by rw [Array.length_toList]; omega)]
    rw [hc] at hg
    exact hg
theorem VRow.not_int {w : World} {g j : Nat} {l : List Int} {x : Int} (h : VRow w g l) : w.cell? ⟨g, j, none⟩ ≠ some (.int .i64 x) := fun e => by
  have h1 := (own_fr h).cell j
  rw [e, List.getElem?_map] at h1
  cases h2 : l[j]? with
  | none => rw [h2] at h1; cases h1
  | some y => rw [h2] at h1; simp at h1
def asgTo (out l vs : List Int) (k : Nat) : List Int := ((l.zip vs).take k).foldl (fun o p => o.set p.1.toNat p.2) out
theorem asgTo_len (out l vs : List Int) (k : Nat) : (asgTo out l vs k).length = out.length := by
  unfold asgTo
  induction (l.zip vs).take k generalizing out with
  | nil => rfl
  | cons p t ih => rw [List.foldl_cons, ih, List.length_set]
theorem asgTo_succ {out l vs : List Int} {k : Nat} (h1 : k < l.length) (h2 : k < vs.length) : asgTo out l vs (k + 1) = (asgTo out l vs k).set (l.getD k 0).toNat (lat vs k) := by
  unfold asgTo
  have hz : k < (l.zip vs).length := by rw [List.length_zip]; omega
  rw [List.take_succ_eq_append_getElem hz, List.foldl_append]
  have e : (l.zip vs)[k] = (l.getD k 0, lat vs k) := by
    rw [List.getElem_zip]
    unfold lat
    rw [Int.toNat_natCast, List.getD_eq_getElem?_getD, List.getD_eq_getElem?_getD, List.getElem?_eq_getElem h1, List.getElem?_eq_getElem h2]; rfl
  rw [e]; rfl
theorem asgTo_all {out l vs : List Int} (h : l.length = vs.length) : asgTo out l vs l.length = asg out l vs := by
  unfold asgTo asg
  rw [List.take_of_length_le (by rw [List.length_zip]; omega)]

set_option maxHeartbeats 2000000 in
theorem assign_any (out l vs : List Int) (A Av : Option Addr) (cl cv g m n mv B : Nat) (w : World) (hr : VRow w g out) (hl : Is w w.heap.size (.slice A m cl) l) (hv : Ks w B (.slice Av mv cv) vs) (hBg : B ≤ g) (hm : m = l.length) (hmv : mv = m) (hmv2 : mv = vs.length) (hn : n = out.length)
    (hin : ∀ x ∈ l, 0 ≤ x ∧ x < (n : Int)) :
    Calls Tryz.prog 68 #[.slice (some ⟨g, 0, none⟩) n n, .slice A m cl, .slice Av mv cv] w fun e w' => e = .returned (.tuple #[]) ∧ VRow w' g (asg out l vs) ∧ w.grownBy w' (some g) := by
  subst hmv
  obtain ⟨A', b, o, c', e, hA1, -, hm1, hc1⟩ := hl.opens
  rw [← hm] at e hA1 hc1 hm1
  simp only [Value.slice.injEq, true_and] at e
  obtain ⟨rfl, rfl⟩ := e
  obtain ⟨Av', bv, ov, cv', e, hA2, -, hm2, hc2⟩ := hv.opens
  rw [← hmv2] at e hA2 hc2 hm2
  simp only [Value.slice.injEq, true_and] at e
  obtain ⟨rfl, rfl⟩ := e
  have HA1 := Lib.hid hA1
  have HC1 := Lib.hid hc1
  have HA2 := Lib.hid hA2
  have HC2 := Lib.hid hc2
  have HM := Lib.hid hm
  have HMV := Lib.hid hmv2
  have HN := Lib.hid hn
  have HNG : Hid (∀ k, k < mv → b ≠ g) := Lib.hid fun k hk e => hr.not_int (by have := (hc1 k hk).2; rw [e] at this; exact this)
  have HNV : Hid (∀ k, k < mv → bv ≠ g) := Lib.hid fun k hk => by have := (hc2 k hk).1; omega
  have HIN := Lib.hid hin
  have HR := Lib.hid hr
  have hnm := hr.len
  rw [← hn] at hnm
  unfold maxLen at hm1 hnm
  clear hA1 hc1 hA2 hc2 hm hmv2 hn hin hr hl hv hm2
  go_enter Tryz.func68, Tryz.ntmps68
  go_wp2
  go_loopw [10] (fun i wr => ∃ k : Nat, k ≤ mv ∧ i = .int .i64 k ∧ w.grownBy wr (some g) ∧ VRow wr g (asgTo out l vs k)) (fun i _ => mv - (intOf i).toNat)
  case atStart => exact ⟨0, Nat.zero_le _, rfl, World.grownBy.refl _ _, HR.out⟩
  case round =>
    clear HR
    obtain ⟨k, hk, rfl, hg, hr⟩ := hrel
    have HG := Lib.hid hg
    have HR := Lib.hid hr
    by_cases hlt : k < mv
    · obtain rfl := HA1.out (by omega)
      obtain rfl := HA2.out (by omega)
      have hx := hg.cell (HC1.out k hlt).2 (by simpa using HNG.out k hlt)
      have hy := hg.cell (HC2.out k hlt).2 (by simpa using HNV.out k hlt)
      have hmem : l.getD k 0 ∈ l := by rw [List.getD_eq_getElem?_getD, List.getElem?_eq_getElem (by rw [← HM.out]; exact hlt)]; exact List.getElem_mem _
      obtain ⟨j0, j1⟩ := HIN.out _ hmem
      obtain ⟨x, hxx⟩ := Int.eq_ofNat_of_zero_le j0
      have HX := Lib.hid hxx
      rw [hxx] at hx j1
      have hxn : x < n := by omega
      have hlen : (asgTo out l vs k).length = n := by rw [asgTo_len, HN.out]
      have hcl := hr.cell (j := x) (by rw [hlen]; exact hxn)
      have hfz := hr.frozen x
      obtain ⟨u, HU⟩ := named (vs.getD k 0)
      rw [← HU.out] at hy
      obtain ⟨old, HOLD⟩ := named (lat (asgTo out l vs k) (x : Int))
      rw [← HOLD.out] at hcl
      clear hg hr hmem j0 j1 hxx hlen
      go_wp2
      go_roundw
      case rel =>
        refine ⟨k + 1, by omega, by go_num, grown_v HG.out x _, ?_⟩
        rw [asgTo_succ (by rw [← HM.out]; exact hlt) (by rw [← HMV.out]; exact hlt), HX.out, Int.toNat_natCast]
        have e : lat vs (k : Int) = u := by unfold lat; rw [Int.toNat_natCast]; exact HU.out.symm
        rw [e]
        exact HR.out.set x u
      case measure => simp [intOf]; omega
    · obtain rfl : mv = k := by omega
      go_wp2
      go_end0
      refine ⟨rfl, ?_, HG.out⟩
      have h := HR.out
      rw [HM.out, asgTo_all (by rw [← HM.out, ← HMV.out])] at h
      exact h

set_option maxRecDepth 100000 in
set_option maxHeartbeats 4000000 in
theorem observe_any (c : Ck) (nets : List Int) (A0 A1 A2 A3 A : Option Addr) (c0 c1 c2 c3 n cc : Nat) (w : World) (B : Nat) (hB : B ≤ w.heap.size)
    (hc : Cir w B (.agg #[.slice A0 c.nodes.length c0, .slice A1 c.names.length c1, .slice A2 c.mems.length c2, .slice A3 c.outs.length c3]) c) (hs : Ks w B (.slice A n cc) nets) (hsz : c.nodes.length ≤ 1000000) (hos : c.outs.length ≤ 17592186044416) :
    Calls Tryz.prog 39 #[.agg #[.slice A0 c.nodes.length c0, .slice A1 c.names.length c1, .slice A2 c.mems.length c2, .slice A3 c.outs.length c3], .slice A n cc] w (RespPost (outV c nets) (nextV c nets) w) := by
  obtain ⟨W1, HW1⟩ := named ((w.alloc (.cells #[.slice A0 c.nodes.length c0, .slice A1 c.names.length c1, .slice A2 c.mems.length c2, .slice A3 c.outs.length c3] 39)).alloc (.cells #[.slice none 0 0, .slice none 0 0] 49))
  have hb1 : Below w.heap.size w W1 := by rw [HW1.out]; exact below_new (below_new (Below.refl _ _) _) _
  have hfc : Fr W1 w.heap.size 39 [.slice A0 c.nodes.length c0, .slice A1 c.names.length c1, .slice A2 c.mems.length c2, .slice A3 c.outs.length c3] := by rw [HW1.out]; exact Fr.alloc (Fr.made _ _ _ rfl) _
  have hfr : Fr W1 (w.heap.size + 1) 49 [.slice none 0 0, .slice none 0 0] := by rw [HW1.out]; exact Fr.made _ _ _ (by simp)
  have hz1 : W1.heap.size = w.heap.size + 1 + 1 := by rw [HW1.out]; simp
  have HSO := Lib.hid (stateOf_any nets A0 A1 A2 A3 A c.nodes.length c.names.length c.mems.length c.outs.length n c0 c1 c2 c3 cc W1 B (Nat.le_trans hB hb1.size) (Arr.keep stays_u8 hs (Nat.le_refl _) fun _ hp => hb1.cell (Nat.lt_of_lt_of_le hp hB)))
  have HRE : Hid (∀ W q, Below W1.heap.size W1 W → Nv W q nets → Calls Tryz.prog 73 #[.agg #[.slice A0 c.nodes.length c0, .slice A1 c.names.length c1, .slice A2 c.mems.length c2, .slice A3 c.outs.length c3, .func (.func 110) #[] #[.pointer (some ⟨q, 0, none⟩)]]] W (RespPost (outV c nets) (nextV c nets) W)) :=
    Lib.hid fun W q hb hn => response_any c nets A0 A1 A2 A3 c0 c1 c2 c3 q W B (Nat.le_trans hB (joinB hb1 hb).size) hn (hc.below ((joinB hb1 hb).mono hB)) hsz hos
  have HB1 := Lib.hid hb1
  clear hc hs hb1
  obtain ⟨lo, HLO⟩ := named (outV c nets)
  obtain ⟨ln, HLN⟩ := named (nextV c nets)
  rw [← HLO.out, ← HLN.out] at HRE
  rw [← HLO.out, ← HLN.out]
  generalize c.nodes.length = n0 at HW1 hfc HSO HRE ⊢
  generalize c.names.length = n1 at HW1 hfc HSO HRE ⊢
  generalize c.mems.length = n2 at HW1 hfc HSO HRE ⊢
  generalize c.outs.length = n3 at HW1 hfc HSO HRE ⊢
  have x0 := hfc.cell 0
  have x1 := hfc.cell 1
  have x2 := hfc.cell 2
  have x3 := hfc.cell 3
  have HFR := Lib.hid hfr
  have HZ1 := Lib.hid hz1
  clear hfc hfr hz1
  go_enter Tryz.func39, Tryz.ntmps39
  go_upto_region 1 with (fail)
  rw [← HW1.out]
  go_wp2_with (first
    | (go_at_call 69; (with_reducible refine HSO.out.mono ?_); rintro e w2 ⟨⟨q, rfl, hn, hqz, -⟩, hb⟩; have HNV := Lib.hid hn; have HB2 := Lib.hid hb; clear hn hb)
    | (go_at_call 73; (with_reducible refine (HRE.out _ _ HB2.out HNV.out).mono ?_); rintro e w3 ⟨g, h, rfl, hg, hh, hgz, hhz, hgh, hb⟩; have HGR := Lib.hid hg; have HHR := Lib.hid hh; have HGH := Lib.hid hgh; have HB3 := Lib.hid hb; have hfx := (HFR.out.below (joinB HB2.out hb)); have r0 := hfx.cell 0; have r1 := hfx.cell 1; have f0 := hfx.frozen 0; have f1 := hfx.frozen 1; have HFX := Lib.hid hfx; clear hg hh hgh hb hfx))
  have hq := (HFX.out.set 0 (.slice (some ⟨g, 0, none⟩) lo.length lo.length)).set 1 (.slice (some ⟨h, 0, none⟩) ln.length ln.length)
  (try simp only [Exit.inBlock, Exit.then])
  refine bodyPost_ret (results_cell_row rfl _ _ _ _ _ _ _ rfl hq Tryz.underlying49 rfl (by kernel_rfl)) rfl ?_
  have hzb := HB2.out.size
  have hz1 := HZ1.out
  have hb5 := joinB HB1.out (joinB HB2.out HB3.out)
  have n1 : w.heap.size + 1 ≠ g := by omega
  have n2 : w.heap.size + 1 ≠ h := by omega
  exact ⟨g, h, rfl, (HGR.out.other (a := ⟨_, 0, none⟩) n1 _).other (a := ⟨_, 1, none⟩) n1 _, (HHR.out.other (a := ⟨_, 0, none⟩) n2 _).other (a := ⟨_, 1, none⟩) n2 _, by omega, by omega, HGH.out, (hb5.setCell (Nat.le_succ _) _).setCell (Nat.le_succ _) _⟩

def abv (v : Int) : Bool := decide (3 < v)
theorem abv_any (v : Int) (w : World) : Calls Tryz.prog 109 #[.int .u8 v] w fun e w' => e = .returned (.bool (abv v)) ∧ w = w' := by
  by_cases h : 3 < v
  · have hv : abv v = true := decide_eq_true h
    rw [hv]
    go_enter Tryz.func109, Tryz.ntmps109
    go_wp2
    go_ret
    exact ⟨ret_bool (by simp), rfl⟩
  · have hv : abv v = false := decide_eq_false h
    rw [hv]
    go_enter Tryz.func109, Tryz.ntmps109
    go_wp2
    go_ret
    exact ⟨ret_bool (by simp), rfl⟩
set_option maxHeartbeats 1000000 in
theorem indexV_any (l : List Int) (s : Value) (w : World) (B : Nat) (hs : Ks w B s l) :
    Calls Tryz.prog 125 #[s, .func (.func 109) #[] #[]] w (IdxP (anyP abv l) w) := by
  obtain ⟨A, b, o, c, rfl, hA, -, hm, hc⟩ := hs.opens
  unfold maxLen at hm
  have HC := Lib.hid hc
  have HAA := Lib.hid hA
  clear hc hA hs
  obtain ⟨n, hn⟩ : ∃ n, n = l.length := ⟨_, rfl⟩
  rw [← hn] at hm
  rw [← hn]
  have HN := Lib.hid hn
  have HAB := Lib.hid abv_any
  clear hn
  go_enter Tryz.func125, Tryz.ntmps125
  go_wp2
  go_loopw [8] (fun i wr => wr = w ∧ ∃ k : Nat, k ≤ n ∧ i = .int .i64 k ∧ ∀ j, j < k → abv (l.getD j 0) = false) (fun i _ => n - (intOf i).toNat)
  case atStart => exact ⟨rfl, 0, Nat.zero_le _, rfl, fun j hj => absurd hj (by omega)⟩
  case round =>
    obtain ⟨rfl, k, hk, rfl, hno⟩ := hrel
    have HNO := Lib.hid hno
    clear hno
    by_cases hlt : k < n
    · obtain rfl := HAA.out (by rw [← HN.out]; omega)
      have hcell := (HC.out k (by rw [← HN.out]; omega)).2
      obtain ⟨y, HX⟩ := named (l.getD k 0)
      rw [← HX.out] at hcell
      have HA1 := Lib.hid (fun w => HAB.out y w)
      cases hv : abv y
      · have HV := Lib.hid hv
        rw [hv] at HA1
        go_wp2_with (go_at_call 109; (with_reducible refine (HA1.out _).mono ?_); rintro e w' ⟨rfl, rfl⟩)
        go_roundw
        case rel =>
          refine ⟨by trivial, k + 1, by omega, by go_num, fun j hj => ?_⟩
          by_cases hjk : j = k
          · rw [hjk, ← HX.out]; exact HV.out
          · exact HNO.out j (by omega)
        case measure => simp [intOf]; omega
      · have HV := Lib.hid hv
        rw [hv] at HA1
        go_wp2_with (go_at_call 109; (with_reducible refine (HA1.out _).mono ?_); rintro e w' ⟨rfl, rfl⟩)
        go_ret
        exact ⟨k, rfl, ⟨fun _ => anyP_yes k (by rw [← HN.out]; omega) (by rw [← HX.out]; exact HV.out), fun _ => by omega⟩, rfl⟩
    · go_wp2
      go_ret
      exact ⟨-1, rfl, ⟨fun h => absurd h (by omega), fun h => by rw [anyP_no (fun j hj => HNO.out j (by rw [← HN.out] at hj; omega))] at h; cases h⟩, rfl⟩
set_option maxHeartbeats 400000 in
theorem containsV_any (l : List Int) (s : Value) (w : World) (B : Nat) (hs : Ks w B s l) :
    Calls Tryz.prog 81 #[s, .func (.func 109) #[] #[]] w fun e w' => e = .returned (.bool (anyP abv l)) ∧ w = w' := by
  obtain ⟨y, HY⟩ := named (anyP abv l)
  rw [← HY.out]
  have HI := Lib.hid (indexV_any l s w B hs)
  clear hs
  rw [← HY.out] at HI
  go_enter Tryz.func81, Tryz.ntmps81
  go_wp2_with (go_at_call 125; (with_reducible refine HI.out.mono ?_); rintro e w' ⟨i, rfl, hi, rfl⟩; have HI2 := Lib.hid hi; clear hi)
  go_ret
  exact ⟨ret_bool (Bool.eq_iff_iff.2 (by simpa using HI2.out)), rfl⟩
end Go.Proofs.YtkaedfgmhfefjaaGreatDoor

namespace Go.Proofs.YtkaedfgmhfefjaaGreatDoor
open Go.RowKit

/-- What fits in the slices. -/
structure Fit (x : Ck) : Prop where
  n : x.nodes.length ≤ maxLen
  s : x.names.length ≤ maxLen
  m : x.mems.length ≤ maxLen
  o : x.outs.length ≤ maxLen
  k : ∀ i, i < x.nodes.length → 0 ≤ (x.nodes.getD i default).kind ∧ (x.nodes.getD i default).kind ≤ 255 ∧ (x.nodes.getD i default).ins.length ≤ maxLen
  t : ∀ i, i < x.names.length → (x.names.getD i ByteArray.empty).size ≤ maxLen
  a : ∀ i, i < x.mems.length → (x.mems.getD i default).addr.length ≤ maxLen ∧ (x.mems.getD i default).data.length ≤ maxLen
theorem Arr.len {α : Type} {d : α} {sz : Nat} {R : World → Nat → Nat → Nat → α → Prop} {w : World} {B : Nat} {v : Value} {l : List α} (h : Arr d sz R w B v l) : l.length ≤ maxLen := by
  obtain ⟨_, _, _, _, -, -, -, h4, -⟩ := h
  exact h4
theorem Cir.fit {w : World} {B : Nat} {v : Value} {x : Ck} (h : Cir w B v x) : Fit x := by
  obtain ⟨v0, v1, v2, v3, -, h1, h2, h3, h4⟩ := h
  refine ⟨Arr.len h1, Arr.len h2, Arr.len h3, Arr.len h4, fun i hi => ?_, fun i hi => ?_, fun i hi => ?_⟩
  · obtain ⟨A, b, o, c, -, -, -, -, hc⟩ := h1
    obtain ⟨-, s, -, -, -, -, hi', hk⟩ := hc i hi
    exact ⟨hk.1, hk.2, Arr.len hi'⟩
  · obtain ⟨A, b, o, c, -, -, -, -, hc⟩ := h2
    exact (hc i hi).2.2
  · obtain ⟨A, b, o, c, -, -, -, -, hc⟩ := h3
    obtain ⟨-, s, t, -, -, -, ha, hd⟩ := hc i hi
    exact ⟨Arr.len ha, Arr.len hd⟩
theorem Row.is {w : World} {g : Nat} {l : List Int} (h : Row w g l) (hm : l.length ≤ maxLen) : Is w w.heap.size (.slice (some ⟨g, 0, none⟩) l.length l.length) l :=
  ⟨_, g, 0, _, rfl, fun _ => rfl, Nat.le_refl _, hm, fun k hk => ⟨h.lt, by
    show World.cell? _ _ = _
    rw [Nat.zero_add, Nat.mul_one, h.cell hk]
    rfl⟩⟩
/-- The value of the circuit in these blocks. -/
def ownV (x : Ck) (g0 g1 g2 g3 : Nat) : Value :=
  .agg #[.slice (some ⟨g0, 0, none⟩) x.nodes.length x.nodes.length, .slice (some ⟨g1, 0, none⟩) x.names.length x.names.length, .slice (some ⟨g2, 0, none⟩) x.mems.length x.mems.length, .slice (some ⟨g3, 0, none⟩) x.outs.length x.outs.length]
section
variable {x : Ck} {G g0 g1 g2 g3 : Nat} {h ha hd : Nat → Nat} {w w' : World}
theorem OwnC.cir (H : OwnC x G g0 g1 g2 g3 h ha hd w) (F : Fit x) : Cir w w.heap.size (ownV x g0 g1 g2 g3) x := by
  refine ⟨_, _, _, _, rfl, ?_, ?_, ?_, H.f3.is F.o⟩
  · refine ⟨_, g0, 0, _, rfl, fun _ => rfl, Nat.le_refl _, F.n, fun k hk => ⟨H.f0.lt, ?_⟩⟩
    obtain ⟨k1, k2, k3⟩ := F.k k hk
    refine ⟨_, ?_, ?_, ?_, ?_, (H.rn k hk).2.is k3, k1, k2⟩
    · rw [Nat.zero_add, H.f0.cell, ndC_get (by omega), ndF_0]
    · rw [Nat.zero_add, H.f0.cell, ndC_get (by omega), ndF_1, if_pos hk]
    · rw [Nat.zero_add, H.f0.cell, ndC_get (by omega), ndF_2]
    · rw [Nat.zero_add, H.f0.cell, ndC_get (by omega), ndF_3]
  · refine ⟨_, g1, 0, _, rfl, fun _ => rfl, Nat.le_refl _, F.s, fun k hk => ⟨H.f1.lt, ?_, F.t k hk⟩⟩
    rw [Nat.zero_add, Nat.mul_one, H.f1.cell]
    simp [hk, List.getD_eq_getElem?_getD]
  · refine ⟨_, g2, 0, _, rfl, fun _ => rfl, Nat.le_refl _, F.m, fun k hk => ⟨H.f2.lt, ?_⟩⟩
    obtain ⟨k1, k2⟩ := F.a k hk
    obtain ⟨-, r1, -, r2⟩ := H.rm k hk
    refine ⟨_, _, ?_, ?_, ?_, r1.is k1, r2.is k2⟩
    · rw [Nat.zero_add, H.f2.cell, mmC_get (by omega), mmF_0, if_pos hk]
    · rw [Nat.zero_add, H.f2.cell, mmC_get (by omega), mmF_1, if_pos hk]
    · rw [Nat.zero_add, H.f2.cell, mmC_get (by omega), mmF_2]
theorem OwnC.below (H : OwnC x G g0 g1 g2 g3 h ha hd w) (hb : Below w.heap.size w w') : OwnC x G g0 g1 g2 g3 h ha hd w' :=
  ⟨H.low, H.f0.below hb, H.f1.below hb, H.f2.below hb, H.f3.below hb, fun k hk => ⟨(H.rn k hk).1, (H.rn k hk).2.below hb⟩,
    fun k hk => ⟨(H.rm k hk).1, (H.rm k hk).2.1.below hb, (H.rm k hk).2.2.1, (H.rm k hk).2.2.2.below hb⟩, H.nn, H.nm, H.mm, H.ml⟩
theorem getD_set {α : Type} (l : List α) (k i : Nat) (a d : α) (hk : k < l.length) : (l.set k a).getD i d = if i = k then a else l.getD i d := by
  rw [List.getD_eq_getElem?_getD, List.getD_eq_getElem?_getD, List.getElem?_set]
  by_cases e : k = i
  · subst e; simp [hk]
  · rw [if_neg e, if_neg (fun q => e q.symm)]
theorem ndC_ins (l : List Nd) (k : Nat) (hk : k < l.length) (li : List Int) (hl : li.length = (l.getD k default).ins.length) (o : Nat → Value) :
    ndC (l.set k { l.getD k default with ins := li }) h o (l.set k { l.getD k default with ins := li }).length = ndC l h o l.length := by
  apply List.ext_getElem?
  intro j
  by_cases hj : j < l.length * 4
  · rw [ndC_get (by rw [List.length_set]; exact hj), ndC_get hj, List.length_set]
    unfold ndF
    rw [getD_set _ _ _ _ _ hk]
    by_cases e : j / 4 = k
    · rw [if_pos e, e]
      simp only [hl]
    · rw [if_neg e]
  · rw [List.getElem?_eq_none (by simp [ndC_len]; omega), List.getElem?_eq_none (by simp [ndC_len]; omega)]
theorem ndC_kind (l : List Nd) (k : Nat) (hk : k < l.length) (v : Int) (o : Nat → Value) :
    ndC (l.set k { l.getD k default with kind := v }) h o (l.set k { l.getD k default with kind := v }).length = (ndC l h o l.length).set (k * 4) (.int .u8 v) := by
  apply List.ext_getElem?
  intro j
  rw [List.getElem?_set]
  by_cases hj : j < l.length * 4
  · rw [ndC_get (by rw [List.length_set]; exact hj), ndC_get hj, List.length_set]
    by_cases e0 : k * 4 = j
    · subst e0
      rw [if_pos rfl, if_pos (by simp [ndC_len]; omega), ndF_0, getD_set _ _ _ _ _ hk, if_pos rfl]
    · rw [if_neg e0]
      unfold ndF
      rw [getD_set _ _ _ _ _ hk]
      by_cases e : j / 4 = k
      · have h00 : ¬ j % 4 = 0 := by omega
        rw [if_pos e, e, if_neg h00, if_neg h00]
      · rw [if_neg e]
  · rw [List.getElem?_eq_none (by simp [ndC_len]; omega), List.getElem?_eq_none (by simp [ndC_len]; omega), if_neg (by omega)]
theorem OwnC.ins (H : OwnC x G g0 g1 g2 g3 h ha hd w) {k : Nat} (hk : k < x.nodes.length) (j : Nat) (v : Int) :
    OwnC { x with nodes := x.nodes.set k { x.nodes.getD k default with ins := (x.nodes.getD k default).ins.set j v } } G g0 g1 g2 g3 h ha hd (w.setCell ⟨h k, j, none⟩ (.int .i64 v)) := by
  have hg := grown_set w (h k) j (.int .i64 v)
  have hgk := (H.rn k hk).1
  have hl := H.low
  refine ⟨H.low, ?_, H.f1.kept hg (by simp; omega), H.f2.kept hg (by simp; omega), H.f3.kept hg (by simp; omega), ?_, ?_, ?_, ?_, H.mm, H.ml⟩
  · show Fr _ _ _ (ndC _ _ _ _)
    rw [ndC_ins _ _ hk _ (by simp)]
    exact H.f0.kept hg (by simp; omega)
  · intro i hi
    have hi' : i < x.nodes.length := by simpa using hi
    refine ⟨(H.rn i hi').1, ?_⟩
    show Row _ _ ((x.nodes.set k _).getD i default).ins
    rw [getD_set _ _ _ _ _ hk]
    by_cases e : i = k
    · subst e
      rw [if_pos rfl]
      exact (H.rn i hi').2.set j v
    · rw [if_neg e]
      refine (H.rn i hi').2.kept hg ?_
      have : h i ≠ h k := by
        rcases Nat.lt_or_gt_of_ne e with q | q
        · have := H.nn i k q hk; omega
        · have := H.nn k i q hi'; omega
      simpa using this
  · intro i hi
    obtain ⟨r1, r2, r3, r4⟩ := H.rm i hi
    have n1 := H.nm k i hk hi
    have n2 := H.mm i hi
    exact ⟨r1, r2.kept hg (by simp; omega), r3, r4.kept hg (by simp; omega)⟩
  · intro i j' hij hj'
    exact H.nn i j' hij (by simpa using hj')
  · intro i j' hi hj'
    exact H.nm i j' (by simpa using hi) hj'
theorem OwnC.kind (H : OwnC x G g0 g1 g2 g3 h ha hd w) {k : Nat} (hk : k < x.nodes.length) (v : Int) :
    OwnC { x with nodes := x.nodes.set k { x.nodes.getD k default with kind := v } } G g0 g1 g2 g3 h ha hd (w.setCell ⟨g0, k * 4, none⟩ (.int .u8 v)) := by
  have hg := grown_set w g0 (k * 4) (.int .u8 v)
  have hl := H.low
  refine ⟨H.low, ?_, H.f1.kept hg (by simp; omega), H.f2.kept hg (by simp; omega), H.f3.kept hg (by simp; omega), ?_, ?_, ?_, ?_, H.mm, H.ml⟩
  · show Fr _ _ _ (ndC _ _ _ _)
    rw [ndC_kind _ _ hk]
    exact H.f0.set _ _
  · intro i hi
    have hi' : i < x.nodes.length := by simpa using hi
    have hh := (H.rn i hi').1
    refine ⟨hh, ?_⟩
    show Row _ _ ((x.nodes.set k _).getD i default).ins
    have e2 : ((x.nodes.set k { x.nodes.getD k default with kind := v }).getD i default).ins = (x.nodes.getD i default).ins := by
      rw [getD_set _ _ _ _ _ hk]
      by_cases e : i = k
      · rw [if_pos e, e]
      · rw [if_neg e]
    rw [e2]
    exact (H.rn i hi').2.kept hg (by simp; omega)
  · intro i hi
    obtain ⟨r1, r2, r3, r4⟩ := H.rm i hi
    exact ⟨r1, r2.kept hg (by simp; omega), r3, r4.kept hg (by simp; omega)⟩
  · intro i j' hij hj'
    exact H.nn i j' hij (by simpa using hj')
  · intro i j' hi hj'
    exact H.nm i j' (by simpa using hi) hj'
theorem OwnC.name (H : OwnC x G g0 g1 g2 g3 h ha hd w) (k : Nat) (s : ByteArray) :
    OwnC { x with names := x.names.set k s } G g0 g1 g2 g3 h ha hd (w.setCell ⟨g1, k, none⟩ (.string s)) := by
  have hg := grown_set w g1 k (.string s)
  have hl := H.low
  refine ⟨H.low, H.f0.kept hg (by simp; omega), ?_, H.f2.kept hg (by simp; omega), H.f3.kept hg (by simp; omega), ?_, ?_, H.nn, H.nm, H.mm, H.ml⟩
  · show Fr _ _ _ ((x.names.set k s).map Value.string)
    rw [List.map_set]
    exact H.f1.set _ _
  · intro i hi
    have hh := (H.rn i hi).1
    exact ⟨hh, (H.rn i hi).2.kept hg (by simp; omega)⟩
  · intro i hi
    obtain ⟨r1, r2, r3, r4⟩ := H.rm i hi
    exact ⟨r1, r2.kept hg (by simp; omega), r3, r4.kept hg (by simp; omega)⟩
end

end Go.Proofs.YtkaedfgmhfefjaaGreatDoor
