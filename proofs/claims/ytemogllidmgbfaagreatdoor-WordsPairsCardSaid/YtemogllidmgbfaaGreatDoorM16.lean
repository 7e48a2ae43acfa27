/- The texts Cln Cpp Cpy Smx. -/
import Derived.Test.YtemogllidmgbfaaGreatDoorM08
import Derived.Laws.CopyRow
import Derived.Laws.CopyOwn
import Derived.Deep.OwnRows
import Derived.Deep.DeepCutAuto
import Derived.Deep.CutBlock
import Derived.Deep.RegionHeld3
import Derived.Test.YtemogllidmgbfaaGreatDoorM15
import Derived.Laws.EntriesVeiled
namespace Go.Proofs.YtemogllidmgbfaaGreatDoor
open Go.RowKit

/-- The cells that lie from o on. -/
def rdC (w : World) (b o m : Nat) : List Value := (List.range m).map fun j => (w.cell? ⟨b, o + j, none⟩).getD undef
/-- Block g of w' is a row of the cells cs. -/
def Fr (w : World) (g : Nat) (t : TypeId) (cs : List Value) : Prop := w.heap[g]? = some (.cells cs.toArray t (0, 0))
theorem Fr.lt {w : World} {g : Nat} {t : TypeId} {cs : List Value} (h : Fr w g t cs) : g < w.heap.size := (Array.getElem?_eq_some_iff.1 h).1
theorem Fr.cell {w : World} {g : Nat} {t : TypeId} {cs : List Value} (h : Fr w g t cs) (j : Nat) : w.cell? ⟨g, j, none⟩ = cs[j]? := by
  unfold Fr at h; simp [World.cell?, h]
theorem Fr.frozen {w : World} {g : Nat} {t : TypeId} {cs : List Value} (h : Fr w g t cs) (j : Nat) : w.frozen? ⟨g, j, none⟩ = false := by
  unfold Fr at h; simp [World.frozen?, h]
theorem Fr.set {w : World} {g : Nat} {t : TypeId} {cs : List Value} (h : Fr w g t cs) (j : Nat) (v : Value) : Fr (w.setCell ⟨g, j, none⟩ v) g t (cs.set j v) := by
  unfold Fr at *
  rw [setCell_eq_setRow w g j cs.toArray t (0, 0) v h]
  rw [setRow_heap w g cs.toArray _ t _ h]
  simp
theorem Fr.kept {w w' : World} {g : Nat} {t : TypeId} {cs : List Value} {row : Option Nat} (h : Fr w g t cs) (hg : w.grownBy w' row) (hne : some g ≠ row) : Fr w' g t cs := (hg.block g h.lt hne).trans h
theorem Fr.below {w w' : World} {g : Nat} {t : TypeId} {cs : List Value} (h : Fr w g t cs) (hb : Below w.heap.size w w') : Fr w' g t cs := (hb.block g h.lt).trans h
theorem Fr.row {w : World} {g : Nat} {l : List Int} (h : Fr w g 3 (l.map (Value.int .i64))) (hm : l.length ≤ maxLen) : Row w g l := by
  refine ⟨by simp, .inr ⟨g, l.length, _, rfl, Nat.le_refl _, h, Nat.le_refl _, hm, by simp, by rw [List.toList_toArray, Nat.mul_one, List.take_of_length_le (by simp)]⟩⟩

end Go.Proofs.YtemogllidmgbfaaGreatDoor

namespace Go.Proofs.YtemogllidmgbfaaGreatDoor
open Go.RowKit

/-- The cells of the nodes: the inputs of node k in block h k if k < m, otherwise as in orig. -/
def ndF (l : List Nd) (h : Nat → Nat) (orig : Nat → Value) (m : Nat) (j : Nat) : Value :=
  if j % 4 = 0 then .int .u8 (l.getD (j / 4) default).kind
  else if j % 4 = 1 then (if j / 4 < m then .slice (some ⟨h (j / 4), 0, none⟩) (l.getD (j / 4) default).ins.length (l.getD (j / 4) default).ins.length else orig (j / 4))
  else if j % 4 = 2 then .int .i64 (l.getD (j / 4) default).mem else .int .i64 (l.getD (j / 4) default).bit
def ndC (l : List Nd) (h : Nat → Nat) (orig : Nat → Value) (m : Nat) : List Value := (List.range (l.length * 4)).map (ndF l h orig m)
theorem ndC_len (l : List Nd) (h : Nat → Nat) (orig : Nat → Value) (m : Nat) : (ndC l h orig m).length = l.length * 4 := by simp [ndC]
theorem ndC_get {l : List Nd} {h : Nat → Nat} {orig : Nat → Value} {m j : Nat} (hj : j < l.length * 4) : (ndC l h orig m)[j]? = some (ndF l h orig m j) := by simp [ndC, hj]
theorem ndF_0 (l : List Nd) (h : Nat → Nat) (orig : Nat → Value) (m k : Nat) : ndF l h orig m (k * 4) = .int .u8 (l.getD k default).kind := by
  unfold ndF; rw [if_pos (by omega), show k * 4 / 4 = k by omega]
theorem ndF_1 (l : List Nd) (h : Nat → Nat) (orig : Nat → Value) (m k : Nat) : ndF l h orig m (k * 4 + 1) = if k < m then .slice (some ⟨h k, 0, none⟩) (l.getD k default).ins.length (l.getD k default).ins.length else orig k := by
  unfold ndF; rw [if_neg (by omega), if_pos (by omega), show (k * 4 + 1) / 4 = k by omega]
theorem ndF_2 (l : List Nd) (h : Nat → Nat) (orig : Nat → Value) (m k : Nat) : ndF l h orig m (k * 4 + 2) = .int .i64 (l.getD k default).mem := by
  unfold ndF; rw [if_neg (by omega), if_neg (by omega), if_pos (by omega), show (k * 4 + 2) / 4 = k by omega]
theorem ndF_3 (l : List Nd) (h : Nat → Nat) (orig : Nat → Value) (m k : Nat) : ndF l h orig m (k * 4 + 3) = .int .i64 (l.getD k default).bit := by
  unfold ndF; rw [if_neg (by omega), if_neg (by omega), if_neg (by omega), show (k * 4 + 3) / 4 = k by omega]
theorem ndC_set {l : List Nd} {h : Nat → Nat} {orig : Nat → Value} {k b : Nat} (hk : k < l.length) :
    (ndC l h orig k).set (k * 4 + 1) (.slice (some ⟨b, 0, none⟩) (l.getD k default).ins.length (l.getD k default).ins.length) = ndC l (fun i => if i = k then b else h i) orig (k + 1) := by
  apply List.ext_getElem?
  intro j
  by_cases hj : j < l.length * 4
  · rw [List.getElem?_set, ndC_get hj, ndC_get hj, ndC_len]
    by_cases e : k * 4 + 1 = j
    · subst e
      rw [if_pos rfl, if_pos (by omega), ndF_1, if_pos (by omega), if_pos rfl]
    · rw [if_neg e]
      unfold ndF
      by_cases h1 : j % 4 = 1
      · have hne : j / 4 ≠ k := by omega
        have h00 : ¬ j % 4 = 0 := by omega
        rw [if_neg h00, if_pos h1, if_neg h00, if_pos h1]
        by_cases h2 : j / 4 < k
        · rw [if_pos h2, if_pos (show j / 4 < k + 1 by omega)]
          show _ = some (Value.slice (some ⟨if j / 4 = k then b else h (j / 4), 0, none⟩) _ _)
          rw [if_neg hne]
        · rw [if_neg h2, if_neg (show ¬ j / 4 < k + 1 by omega)]
      · rw [if_neg h1, if_neg h1]
  · rw [List.getElem?_eq_none (by simp [ndC_len]; omega), List.getElem?_eq_none (by simp [ndC_len]; omega)]
/-- The cells of the memories: those of memory k in blocks ha k, hd k if k < m, otherwise as in orig. -/
def mmF (l : List Mm) (ha hd : Nat → Nat) (oa od : Nat → Value) (m : Nat) (j : Nat) : Value :=
  if j % 3 = 0 then (if j / 3 < m then .slice (some ⟨ha (j / 3), 0, none⟩) (l.getD (j / 3) default).addr.length (l.getD (j / 3) default).addr.length else oa (j / 3))
  else if j % 3 = 1 then (if j / 3 < m then .slice (some ⟨hd (j / 3), 0, none⟩) (l.getD (j / 3) default).data.length (l.getD (j / 3) default).data.length else od (j / 3))
  else .int .i64 (l.getD (j / 3) default).write
def mmC (l : List Mm) (ha hd : Nat → Nat) (oa od : Nat → Value) (m : Nat) : List Value := (List.range (l.length * 3)).map (mmF l ha hd oa od m)
theorem mmC_len (l : List Mm) (ha hd : Nat → Nat) (oa od : Nat → Value) (m : Nat) : (mmC l ha hd oa od m).length = l.length * 3 := by simp [mmC]
theorem mmC_get {l : List Mm} {ha hd : Nat → Nat} {oa od : Nat → Value} {m j : Nat} (hj : j < l.length * 3) : (mmC l ha hd oa od m)[j]? = some (mmF l ha hd oa od m j) := by simp [mmC, hj]
theorem mmF_0 (l : List Mm) (ha hd : Nat → Nat) (oa od : Nat → Value) (m k : Nat) : mmF l ha hd oa od m (k * 3) = if k < m then .slice (some ⟨ha k, 0, none⟩) (l.getD k default).addr.length (l.getD k default).addr.length else oa k := by
  unfold mmF; rw [if_pos (by omega), show k * 3 / 3 = k by omega]
theorem mmF_1 (l : List Mm) (ha hd : Nat → Nat) (oa od : Nat → Value) (m k : Nat) : mmF l ha hd oa od m (k * 3 + 1) = if k < m then .slice (some ⟨hd k, 0, none⟩) (l.getD k default).data.length (l.getD k default).data.length else od k := by
  unfold mmF; rw [if_neg (by omega), if_pos (by omega), show (k * 3 + 1) / 3 = k by omega]
theorem mmF_2 (l : List Mm) (ha hd : Nat → Nat) (oa od : Nat → Value) (m k : Nat) : mmF l ha hd oa od m (k * 3 + 2) = .int .i64 (l.getD k default).write := by
  unfold mmF; rw [if_neg (by omega), if_neg (by omega), show (k * 3 + 2) / 3 = k by omega]
theorem mmC_set {l : List Mm} {ha hd : Nat → Nat} {oa od : Nat → Value} {k b d : Nat} (hk : k < l.length) :
    ((mmC l ha hd oa od k).set (k * 3) (.slice (some ⟨b, 0, none⟩) (l.getD k default).addr.length (l.getD k default).addr.length)).set (k * 3 + 1) (.slice (some ⟨d, 0, none⟩) (l.getD k default).data.length (l.getD k default).data.length) =
      mmC l (fun i => if i = k then b else ha i) (fun i => if i = k then d else hd i) oa od (k + 1) := by
  apply List.ext_getElem?
  intro j
  by_cases hj : j < l.length * 3
  · rw [List.getElem?_set, List.getElem?_set, mmC_get hj, mmC_get hj, List.length_set, mmC_len]
    by_cases e : k * 3 + 1 = j
    · subst e
      rw [if_pos rfl, if_pos (by omega), mmF_1, if_pos (by omega), if_pos rfl]
    · rw [if_neg e]
      by_cases e0 : k * 3 = j
      · subst e0
        rw [if_pos rfl, if_pos (by omega), mmF_0, if_pos (by omega), if_pos rfl]
      · rw [if_neg e0]
        unfold mmF
        have hne : j % 3 ≠ 2 → j / 3 ≠ k := by omega
        by_cases h0 : j % 3 = 0
        · have hn := hne (by omega)
          rw [if_pos h0, if_pos h0]
          by_cases h2 : j / 3 < k
          · rw [if_pos h2, if_pos (show j / 3 < k + 1 by omega)]
            show _ = some (Value.slice (some ⟨if j / 3 = k then b else ha (j / 3), 0, none⟩) _ _)
            rw [if_neg hn]
          · rw [if_neg h2, if_neg (show ¬ j / 3 < k + 1 by omega)]
        · rw [if_neg h0, if_neg h0]
          by_cases h1 : j % 3 = 1
          · have hn := hne (by omega)
            rw [if_pos h1, if_pos h1]
            by_cases h2 : j / 3 < k
            · rw [if_pos h2, if_pos (show j / 3 < k + 1 by omega)]
              show _ = some (Value.slice (some ⟨if j / 3 = k then d else hd (j / 3), 0, none⟩) _ _)
              rw [if_neg hn]
            · rw [if_neg h2, if_neg (show ¬ j / 3 < k + 1 by omega)]
          · rw [if_neg h1, if_neg h1]
  · rw [List.getElem?_eq_none (by simp [mmC_len]; omega), List.getElem?_eq_none (by simp [mmC_len]; omega)]
/-- A circuit in blocks of the call's own, from G on, all apart. -/
structure OwnC (x : Ck) (G g0 g1 g2 g3 : Nat) (h ha hd : Nat → Nat) (w : World) : Prop where
  low : G ≤ g0 ∧ g0 < g1 ∧ g1 < g2 ∧ g2 < g3
  f0 : Fr w g0 66 (ndC x.nodes h (fun _ => undef) x.nodes.length)
  f1 : Fr w g1 9 (x.names.map Value.string)
  f2 : Fr w g2 92 (mmC x.mems ha hd (fun _ => undef) (fun _ => undef) x.mems.length)
  f3 : Row w g3 x.outs
  rn : ∀ k, k < x.nodes.length → g3 < h k ∧ Row w (h k) (x.nodes.getD k default).ins
  rm : ∀ k, k < x.mems.length → g3 < ha k ∧ Row w (ha k) (x.mems.getD k default).addr ∧ g3 < hd k ∧ Row w (hd k) (x.mems.getD k default).data
  nn : ∀ i j, i < j → j < x.nodes.length → h i < h j
  nm : ∀ i j, i < x.nodes.length → j < x.mems.length → h i < ha j
  mm : ∀ i, i < x.mems.length → ha i < hd i
  ml : ∀ i j, i < j → j < x.mems.length → hd i < ha j
end Go.Proofs.YtemogllidmgbfaaGreatDoor

namespace Go.Proofs.YtemogllidmgbfaaGreatDoor
open Go.RowKit

theorem Fr.alloc {w : World} {g : Nat} {t : TypeId} {cs : List Value} (h : Fr w g t cs) (o : Obj) : Fr (w.alloc o) g t cs := h.below ((Below.refl _ _).alloc (Nat.le_refl _) o)
theorem Fr.drew {w : World} {g : Nat} {t : TypeId} {cs : List Value} (h : Fr w g t cs) : Fr w.drew g t cs := h
theorem Fr.other {w : World} {g : Nat} {t : TypeId} {cs : List Value} (h : Fr w g t cs) {a : Addr} (ha : a.block ≠ g) (v : Value) : Fr (w.setCell a v) g t cs :=
  h.kept (row := some a.block) ⟨rfl, rfl, rfl, by simp [World.setCell], fun i _ hne => Below.heap_setCell _ _ _ _ (fun e => hne (by rw [e]))⟩ (fun e => ha (by injection e with e; exact e.symm))
/-- What was there is as it was. -/
def BelW (w w' : World) : Prop := Below w.heap.size w w'
theorem BelW.next {w w1 w2 : World} (h : BelW w w1) (hb : Below w1.heap.size w1 w2) : BelW w w2 := joinB h hb
theorem BelW.trans {w w1 w2 : World} (h : BelW w w1) (hb : BelW w1 w2) : BelW w w2 := joinB h hb
theorem BelW.alloc {w w1 : World} (h : BelW w w1) (o : Obj) : BelW w (w1.alloc o) := below_new h o
theorem BelW.drew {w w1 : World} (h : BelW w w1) : BelW w w1.drew := Below.drew h
theorem BelW.set {w w1 : World} (h : BelW w w1) {a : Addr} (ha : w.heap.size ≤ a.block) (v : Value) : BelW w (w1.setCell a v) := Below.setCell h ha v

/-- What the first statement of Copy leaves. -/
structure Cp1 (n0 n1 n2 n3 : Nat) (w : World) (b0 o0 b1 o1 b2 o2 b3 o3 : Nat) (D g0 g1 g2 g3 : Nat) (wx : World) : Prop where
  bel : BelW w wx
  low : w.heap.size + 1 < g0 ∧ g0 < g1 ∧ g1 < g2 ∧ g2 < g3 ∧ w.heap.size + 1 < D ∧ D ≠ g0 ∧ D ≠ g1 ∧ D ≠ g2 ∧ D ≠ g3
  f0 : Fr wx g0 66 (rdC w b0 o0 (n0 * 4))
  f1 : Fr wx g1 9 (rdC w b1 o1 (n1 * 1))
  f2 : Fr wx g2 92 (rdC w b2 o2 (n2 * 3))
  f3 : Fr wx g3 3 (rdC w b3 o3 (n3 * 1))
  fd : Fr wx D 46 [.slice (some ⟨g0, 0, none⟩) n0 n0, .slice (some ⟨g1, 0, none⟩) n1 n1, .slice (some ⟨g2, 0, none⟩) n2 n2, .slice (some ⟨g3, 0, none⟩) n3 n3]
  fr : Fr wx (w.heap.size + 1) 46 [.slice none 0 0, .slice none 0 0, .slice none 0 0, .slice none 0 0]

theorem Fr.made (w : World) (cs : List Value) (t : TypeId) {g : Nat} (hg : g = w.heap.size) : Fr (w.alloc (.cells cs.toArray t)) g t cs := by
  subst hg; unfold Fr; exact heap_alloc_new _ _

/-- Sizes that a copy can bear. -/
structure SzOk (c : Ck) : Prop where
  n : c.nodes.length ≤ 1000000
  s : c.names.length ≤ 1000000
  m : c.mems.length ≤ 1000000
  o : c.outs.length ≤ 1000000
  i : ∀ k, k < c.nodes.length → (c.nodes.getD k default).ins.length ≤ 17592186044416
  a : ∀ k, k < c.mems.length → (c.mems.getD k default).addr.length ≤ 17592186044416
  d : ∀ k, k < c.mems.length → (c.mems.getD k default).data.length ≤ 17592186044416

/-- What the loop over the nodes keeps. -/
structure Nd1 (c : Ck) (w : World) (D g0 g1 g2 g3 n0 n1 n2 n3 T : Nat) (sN sA sD : Nat → Value) (k : Nat) (h : Nat → Nat) (wr : World) : Prop where
  bel : BelW w wr
  top : T ≤ wr.heap.size
  f0 : Fr wr g0 66 (ndC c.nodes h sN k)
  f1 : Fr wr g1 9 (c.names.map Value.string)
  f2 : Fr wr g2 92 (mmC c.mems (fun _ => 0) (fun _ => 0) sA sD 0)
  f3 : Fr wr g3 3 (c.outs.map (Value.int .i64))
  fd : Fr wr D 46 [.slice (some ⟨g0, 0, none⟩) n0 n0, .slice (some ⟨g1, 0, none⟩) n1 n1, .slice (some ⟨g2, 0, none⟩) n2 n2, .slice (some ⟨g3, 0, none⟩) n3 n3]
  fr : Fr wr (w.heap.size + 1) 46 [.slice none 0 0, .slice none 0 0, .slice none 0 0, .slice none 0 0]
  rows : ∀ j, j < k → T ≤ h j ∧ Row wr (h j) (c.nodes.getD j default).ins
  inc : ∀ i j, i < j → j < k → h i < h j

theorem Row.other {w : World} {g : Nat} {l : List Int} (h : Row w g l) {a : Addr} (ha : a.block ≠ g) (v : Value) : Row (w.setCell a v) g l :=
  h.kept (row := some a.block) ⟨rfl, rfl, rfl, by simp [World.setCell], fun i _ hne => Below.heap_setCell _ _ _ _ (fun e => hne (by rw [e]))⟩ (fun e => ha (by injection e with e; exact e.symm))
theorem Nd1.step {c : Ck} {w : World} {D g0 g1 g2 g3 n0 n1 n2 n3 T : Nat} {sN sA sD : Nat → Value} {k : Nat} {h : Nat → Nat} {wr w1 : World} (hnd : Nd1 c w D g0 g1 g2 g3 n0 n1 n2 n3 T sN sA sD k h wr)
    (hk : k < c.nodes.length) (hb : BelW wr w1) {y : Nat} (hy : wr.heap.size ≤ y) (hr : Row w1 y (c.nodes.getD k default).ins)
    (h0 : w.heap.size + 1 < g0) (h1 : g0 < g1) (h2 : g1 < g2) (h3 : g2 < g3) (h4 : g3 < T) (hD : D ≠ g0) :
    Nd1 c w D g0 g1 g2 g3 n0 n1 n2 n3 T sN sA sD (k + 1) (fun i => if i = k then y else h i) (w1.setCell ⟨g0, k * 4 + 1, none⟩ (.slice (some ⟨y, 0, none⟩) (c.nodes.getD k default).ins.length (c.nodes.getD k default).ins.length)) := by
  have ht := hnd.top
  have hlt : ∀ j, j < k → h j < wr.heap.size := fun j hj => (hnd.rows j hj).2.lt
  refine ⟨(hnd.bel.trans hb).set (by show w.heap.size ≤ g0; omega) _, ?_, ?_, Fr.other (Fr.below hnd.f1 hb) (by show g0 ≠ g1; omega) _, Fr.other (Fr.below hnd.f2 hb) (by show g0 ≠ g2; omega) _, Fr.other (Fr.below hnd.f3 hb) (by show g0 ≠ g3; omega) _, Fr.other (Fr.below hnd.fd hb) (by show g0 ≠ D; omega) _, Fr.other (Fr.below hnd.fr hb) (by show g0 ≠ w.heap.size + 1; omega) _, fun j hj => ?_, fun i j hij hj => ?_⟩
  · have := hb.size
    simp only [World.size_setCell]; omega
  · rw [← ndC_set hk]
    exact (Fr.below hnd.f0 hb).set _ _
  · by_cases e : j = k
    · subst e
      rw [if_pos rfl]
      exact ⟨by omega, hr.other (by show g0 ≠ y; omega) _⟩
    · rw [if_neg e]
      have hj' := hnd.rows j (by omega)
      exact ⟨hj'.1, (hj'.2.below hb).other (by show g0 ≠ h j; omega) _⟩
  · have hi : i ≠ k := by omega
    rw [if_neg hi]
    by_cases e : j = k
    · rw [if_pos e]; have := hlt i (by omega); omega
    · rw [if_neg e]; exact hnd.inc i j hij (by omega)

/-- What the loop over the memories keeps. -/
structure Nd2 (c : Ck) (w : World) (D g0 g1 g2 g3 n0 n1 n2 n3 T : Nat) (sN sA sD : Nat → Value) (h : Nat → Nat) (k : Nat) (ha hd : Nat → Nat) (wr : World) : Prop where
  bel : BelW w wr
  top : T ≤ wr.heap.size
  f0 : Fr wr g0 66 (ndC c.nodes h sN c.nodes.length)
  f1 : Fr wr g1 9 (c.names.map Value.string)
  f2 : Fr wr g2 92 (mmC c.mems ha hd sA sD k)
  f3 : Fr wr g3 3 (c.outs.map (Value.int .i64))
  fd : Fr wr D 46 [.slice (some ⟨g0, 0, none⟩) n0 n0, .slice (some ⟨g1, 0, none⟩) n1 n1, .slice (some ⟨g2, 0, none⟩) n2 n2, .slice (some ⟨g3, 0, none⟩) n3 n3]
  fr : Fr wr (w.heap.size + 1) 46 [.slice none 0 0, .slice none 0 0, .slice none 0 0, .slice none 0 0]
  rows : ∀ j, j < c.nodes.length → T ≤ h j ∧ Row wr (h j) (c.nodes.getD j default).ins
  inc : ∀ i j, i < j → j < c.nodes.length → h i < h j
  mrows : ∀ j, j < k → T ≤ ha j ∧ Row wr (ha j) (c.mems.getD j default).addr ∧ ha j < hd j ∧ Row wr (hd j) (c.mems.getD j default).data
  nm : ∀ i j, i < c.nodes.length → j < k → h i < ha j
  ml : ∀ i j, i < j → j < k → hd i < ha j
theorem Nd2.step {c : Ck} {w : World} {D g0 g1 g2 g3 n0 n1 n2 n3 T : Nat} {sN sA sD : Nat → Value} {h : Nat → Nat} {k : Nat} {ha hd : Nat → Nat} {wr w2 : World} (hnd : Nd2 c w D g0 g1 g2 g3 n0 n1 n2 n3 T sN sA sD h k ha hd wr)
    (hk : k < c.mems.length) (hb : BelW wr w2) {y z : Nat} (hy : wr.heap.size ≤ y) (hyz : y < z) (hr : Row w2 y (c.mems.getD k default).addr) (hs : Row w2 z (c.mems.getD k default).data)
    (h0 : w.heap.size + 1 < g0) (h1 : g0 < g1) (h2 : g1 < g2) (h3 : g2 < g3) (h4 : g3 < T) (hD : D ≠ g2) :
    Nd2 c w D g0 g1 g2 g3 n0 n1 n2 n3 T sN sA sD h (k + 1) (fun i => if i = k then y else ha i) (fun i => if i = k then z else hd i) ((w2.setCell ⟨g2, k * 3, none⟩ (.slice (some ⟨y, 0, none⟩) (c.mems.getD k default).addr.length (c.mems.getD k default).addr.length)).setCell ⟨g2, k * 3 + 1, none⟩ (.slice (some ⟨z, 0, none⟩) (c.mems.getD k default).data.length (c.mems.getD k default).data.length)) := by
  have ht := hnd.top
  have hlt : ∀ j, j < c.nodes.length → h j < wr.heap.size := fun j hj => (hnd.rows j hj).2.lt
  have hlm : ∀ j, j < k → hd j < wr.heap.size := fun j hj => (hnd.mrows j hj).2.2.2.lt
  have fo : ∀ {g : Nat} {t : TypeId} {cs : List Value} {p q : Nat} {u v : Value}, g ≠ g2 → Fr wr g t cs → Fr ((w2.setCell ⟨g2, p, none⟩ u).setCell ⟨g2, q, none⟩ v) g t cs := fun hne hf => ((Fr.below hf hb).other (fun e => hne e.symm) _).other (fun e => hne e.symm) _
  have ro : ∀ {g : Nat} {l : List Int} {p q : Nat} {u v : Value}, g ≠ g2 → Row w2 g l → Row ((w2.setCell ⟨g2, p, none⟩ u).setCell ⟨g2, q, none⟩ v) g l := fun hne hf => (hf.other (fun e => hne e.symm) _).other (fun e => hne e.symm) _
  refine ⟨((hnd.bel.trans hb).set (by show w.heap.size ≤ g2; omega) _).set (by show w.heap.size ≤ g2; omega) _, ?_, fo (by omega) hnd.f0, fo (by omega) hnd.f1, ?_, fo (by omega) hnd.f3, fo hD hnd.fd, fo (by omega) hnd.fr, fun j hj => ?_, hnd.inc, fun j hj => ?_, fun i j hi hj => ?_, fun i j hij hj => ?_⟩
  · have := hb.size
    simp only [World.size_setCell]; omega
  · rw [← mmC_set hk]
    exact ((Fr.below hnd.f2 hb).set _ _).set _ _
  · have hj' := hnd.rows j hj
    exact ⟨hj'.1, ro (by omega) (hj'.2.below hb)⟩
  · by_cases e : j = k
    · subst e
      rw [if_pos rfl, if_pos rfl]
      exact ⟨by omega, ro (by omega) hr, hyz, ro (by omega) hs⟩
    · rw [if_neg e, if_neg e]
      obtain ⟨q1, q2, q3, q4⟩ := hnd.mrows j (by omega)
      exact ⟨q1, ro (by omega) (q2.below hb), q3, ro (by omega) (q4.below hb)⟩
  · by_cases e : j = k
    · rw [if_pos e]; have := hlt i hi; omega
    · rw [if_neg e]; exact hnd.nm i j hi (by omega)
  · have hi : i ≠ k := by omega
    rw [if_neg hi]
    by_cases e : j = k
    · rw [if_pos e]; have := hlm i (by omega); omega
    · rw [if_neg e]; exact hnd.ml i j hij (by omega)

end Go.Proofs.YtemogllidmgbfaaGreatDoor

namespace Go.Proofs.YtemogllidmgbfaaGreatDoor
open Go.RowKit

set_option maxRecDepth 100000 in
set_option maxHeartbeats 4000000 in
theorem stateOf_any (nets : List Int) (A0 A1 A2 A3 A : Option Addr) (n0 n1 n2 n3 n c0 c1 c2 c3 c : Nat) (w : World) (B : Nat) (hB : B ≤ w.heap.size) (hs : Ks w B (.slice A n c) nets) :
    Calls Tryz.prog 51 #[.agg #[.slice A0 n0 c0, .slice A1 n1 c1, .slice A2 n2 c2, .slice A3 n3 c3], .slice A n c] w
      fun e w' => (∃ q, e = .returned (.agg #[.slice A0 n0 c0, .slice A1 n1 c1, .slice A2 n2 c2, .slice A3 n3 c3, .func (.func 93) #[] #[.pointer (some ⟨q, 0, none⟩)]]) ∧ Nv w' q nets ∧ w.heap.size ≤ q ∧ w'.cell? ⟨q, 0, none⟩ = some (.slice A n c)) ∧ Below w.heap.size w w' := by
  have HS := Lib.hid hs
  clear hs
  go_enter Tryz.func51, Tryz.ntmps51
  go_wp2
  obtain ⟨V, HV⟩ := named ((w.alloc (.cells #[.slice A0 n0 c0, .slice A1 n1 c1, .slice A2 n2 c2, .slice A3 n3 c3] 46)).alloc (.cells #[.slice A n c] 29))
  rw [← HV.out]
  have hbv : Below w.heap.size w V := by rw [HV.out]; exact below_new (below_new (Below.refl _ _) _) _
  have hvz : V.heap.size = w.heap.size + 1 + 1 := by rw [HV.out]; simp
  have hcv : V.cell? ⟨w.heap.size + 1, 0, none⟩ = some (.slice A n c) := by rw [HV.out, World.cell?_alloc_at _ _ _ _ (by simp)]; rfl
  rw [← hvz]
  have hq := Fr.made V [.slice A0 n0 c0, .slice A1 n1 c1, .slice A2 n2 c2, .slice A3 n3 c3, .func (.func 93) #[] #[.pointer (some ⟨w.heap.size + 1, 0, none⟩)]] 106 rfl
  (try simp only [Exit.inBlock, Exit.then])
  refine bodyPost_ret (results_cell_row rfl _ _ _ _ _ _ _ rfl hq Tryz.underlying106 rfl (by kernel_rfl)) rfl ?_
  have hlen : n = nets.length := by obtain ⟨_, _, _, _, e, -⟩ := id HS.out; simp only [Value.slice.injEq] at e; exact e.2.1
  subst hlen
  have hbW := below_new hbv (.cells #[.slice A0 n0 c0, .slice A1 n1 c1, .slice A2 n2 c2, .slice A3 n3 c3, .func (.func 93) #[] #[.pointer (some ⟨w.heap.size + 1, 0, none⟩)]] 106)
  refine ⟨⟨w.heap.size + 1, rfl, ⟨A, c, ?_, ?_⟩, Nat.le_succ _, ?_⟩, hbW⟩
  · exact ((below_new (Below.refl V.heap.size V) _).cell (p := ⟨w.heap.size + 1, 0, none⟩) (by show w.heap.size + 1 < V.heap.size; omega)).trans hcv
  · exact Arr.keep stays_u8 HS.out (Nat.le_trans hB hbW.size) fun _ hp => hbW.cell (Nat.lt_of_lt_of_le hp hB)
  · exact ((below_new (Below.refl V.heap.size V) _).cell (p := ⟨w.heap.size + 1, 0, none⟩) (by show w.heap.size + 1 < V.heap.size; omega)).trans hcv

theorem VRow.other {w : World} {g : Nat} {l : List Int} (h : VRow w g l) {a : Addr} (ha : a.block ≠ g) (v : Value) : VRow (w.setCell a v) g l :=
  h.kept (row := some a.block) ⟨rfl, rfl, rfl, by simp [World.setCell], fun i _ hne => Below.heap_setCell _ _ _ _ (fun e => hne (by rw [e]))⟩ (fun e => ha (by injection e with e; exact e.symm))
/-- A response made for the call. -/
def RespPost (lo ln : List Int) (w : World) (e : Ending) (w' : World) : Prop :=
  ∃ g h, e = .returned (.agg #[.slice (some ⟨g, 0, none⟩) lo.length lo.length, .slice (some ⟨h, 0, none⟩) ln.length ln.length]) ∧ VRow w' g lo ∧ VRow w' h ln ∧ w.heap.size ≤ g ∧ w.heap.size ≤ h ∧ g ≠ h ∧ Below w.heap.size w w'
def outV (c : Ck) (nets : List Int) : List Int := c.outs.map (valA nets)
def nextV (c : Ck) (nets : List Int) : List Int := (ofTo c.nodes [14] c.nodes.length).map fun i => dataV nets (c.nodes.getD i.toNat default).ins
theorem ofTo_in {nodes : List Nd} {kl : List Int} {k : Nat} {x : Int} (h : x ∈ ofTo nodes kl k) : 0 ≤ x ∧ x < (k : Int) := by
  unfold ofTo at h
  obtain ⟨i, hi, rfl⟩ := List.mem_map.1 h
  have := List.mem_range.1 (List.mem_filter.1 hi).1
  omega

set_option maxRecDepth 100000 in
set_option maxHeartbeats 4000000 in
theorem response_any (c : Ck) (nets : List Int) (A0 A1 A2 A3 : Option Addr) (c0 c1 c2 c3 q : Nat) (w : World) (B : Nat) (hB : B ≤ w.heap.size) (hq : Nv w q nets)
    (hc : Cir w B (.agg #[.slice A0 c.nodes.length c0, .slice A1 c.names.length c1, .slice A2 c.mems.length c2, .slice A3 c.outs.length c3]) c) (hsz : c.nodes.length ≤ 1000000) (hos : c.outs.length ≤ 17592186044416) :
    Calls Tryz.prog 54 #[.agg #[.slice A0 c.nodes.length c0, .slice A1 c.names.length c1, .slice A2 c.mems.length c2, .slice A3 c.outs.length c3, .func (.func 93) #[] #[.pointer (some ⟨q, 0, none⟩)]]] w (RespPost (outV c nets) (nextV c nets) w) := by
  obtain ⟨W1, HW1⟩ := named ((w.alloc (.cells #[.slice A0 c.nodes.length c0, .slice A1 c.names.length c1, .slice A2 c.mems.length c2, .slice A3 c.outs.length c3, .func (.func 93) #[] #[.pointer (some ⟨q, 0, none⟩)]] 106)).alloc (.cells #[.slice none 0 0, .slice none 0 0] 59))
  have hb1 : Below w.heap.size w W1 := by rw [HW1.out]; exact below_new (below_new (Below.refl _ _) _) _
  have hfs : Fr W1 w.heap.size 106 (#[.slice A0 c.nodes.length c0, .slice A1 c.names.length c1, .slice A2 c.mems.length c2, .slice A3 c.outs.length c3, .func (.func 93) #[] #[.pointer (some ⟨q, 0, none⟩)]]).toList := by rw [HW1.out]; exact Fr.alloc (Fr.made _ _ _ rfl) _
  have hfr : Fr W1 (w.heap.size + 1) 59 [.slice none 0 0, .slice none 0 0] := by rw [HW1.out]; exact Fr.made _ _ _ (by simp)
  have hz1 : W1.heap.size = w.heap.size + 1 + 1 := by rw [HW1.out]; simp
  have hns : Ns w B (.slice A0 c.nodes.length c0) c.nodes := by
    obtain ⟨v0, v1, v2, v3, e, h, -⟩ := hc
    simp only [Value.agg.injEq, Array.mk.injEq, List.cons.injEq, and_true] at e
    rw [e.1]; exact h
  have hio : Is w B (.slice A3 c.outs.length c3) c.outs := by
    obtain ⟨v0, v1, v2, v3, e, -, -, -, h⟩ := hc
    simp only [Value.agg.injEq, Array.mk.injEq, List.cons.injEq, and_true] at e
    rw [e.2.2.2]; exact h
  have HST := Lib.hid (OfPost.from (states_any c _ W1 B (Nat.le_trans hB hb1.size) (hc.below (hb1.mono hB)) hsz) (Below.refl _ _))
  have HDA : Hid (∀ W, Below W1.heap.size W1 W → ∀ i : Nat, i < c.nodes.length → Calls Tryz.prog 94 #[.agg #[.slice A0 c.nodes.length c0, .slice A1 c.names.length c1, .slice A2 c.mems.length c2, .slice A3 c.outs.length c3, .func (.func 93) #[] #[.pointer (some ⟨q, 0, none⟩)]], .int .i64 (i : Int)] W fun e w' => e = .returned (.int .u8 (dataV nets (c.nodes.getD i default).ins)) ∧ Below W.heap.size W w') :=
    Lib.hid fun W hb i hi => data_any c nets A0 A1 A2 A3 _ _ _ c0 c1 c2 c3 i q W B (Nat.le_trans hB (joinB hb1 hb).size) (hq.below (joinB hb1 hb)) (hns.below ((joinB hb1 hb).mono hB)) hi
  have HVA : Hid (∀ W, Below W1.heap.size W1 W → Calls Tryz.prog 53 #[.agg #[.slice A0 c.nodes.length c0, .slice A1 c.names.length c1, .slice A2 c.mems.length c2, .slice A3 c.outs.length c3, .func (.func 93) #[] #[.pointer (some ⟨q, 0, none⟩)]], .slice A3 c.outs.length c3] W (ValsPost (outV c nets) W)) :=
    Lib.hid fun W hb => values_any nets c.outs A0 A1 A2 A3 _ _ _ _ c0 c1 c2 c3 _ q W B (Nat.le_trans hB (joinB hb1 hb).size) (hq.below (joinB hb1 hb)) (hio.below ((joinB hb1 hb).mono hB)) hos
  have HOL : Hid ((outV c nets).length = c.outs.length) := Lib.hid (by simp [outV])
  have HNX : Hid (nextV c nets = (ofTo c.nodes [14] c.nodes.length).map fun i => dataV nets (c.nodes.getD i.toNat default).ins) := Lib.hid rfl
  have HIN : Hid (∀ x ∈ ofTo c.nodes [14] c.nodes.length, 0 ≤ x ∧ x < (c.nodes.length : Int)) := Lib.hid fun x hx => ofTo_in hx
  have hll := ofTo_len c.nodes [14] c.nodes.length
  have HB1 := Lib.hid hb1
  clear hq hc hns hio hb1
  obtain ⟨lo, HLO⟩ := named (outV c nets)
  obtain ⟨ln, HLN⟩ := named (nextV c nets)
  obtain ⟨L, HL⟩ := named (ofTo c.nodes [14] c.nodes.length)
  rw [← HLO.out] at HVA HOL
  rw [← HLN.out, ← HL.out] at HNX
  rw [← HL.out] at HST HIN hll
  rw [← HLO.out, ← HLN.out]
  clear HLO HLN HL
  obtain ⟨nd, HND⟩ := named c.nodes
  rw [← HND.out] at HW1 hfs HST HDA HVA HIN HNX hll hsz
  rw [← HND.out]
  obtain ⟨n0, HN0⟩ := named nd.length
  rw [← HN0.out] at HW1 hfs HST HDA HVA HIN hll hsz
  rw [← HN0.out]
  generalize c.names.length = n1 at HW1 hfs HST HDA HVA ⊢
  generalize c.mems.length = n2 at HW1 hfs HST HDA HVA ⊢
  obtain ⟨n3, HN3⟩ := named c.outs.length
  rw [← HN3.out] at HW1 hfs HST HDA HVA HOL hos
  rw [← HN3.out]
  have HFS : Hid (∀ W, Below W1.heap.size W1 W → W.cell? ⟨w.heap.size, 0, none⟩ = some (.slice A0 n0 c0) ∧ W.cell? ⟨w.heap.size, 1, none⟩ = some (.slice A1 n1 c1) ∧ W.cell? ⟨w.heap.size, 2, none⟩ = some (.slice A2 n2 c2) ∧ W.cell? ⟨w.heap.size, 3, none⟩ = some (.slice A3 n3 c3) ∧ W.cell? ⟨w.heap.size, 4, none⟩ = some (.func (.func 93) #[] #[.pointer (some ⟨q, 0, none⟩)])) :=
    Lib.hid fun W hb => ⟨(hfs.below hb).cell 0, (hfs.below hb).cell 1, (hfs.below hb).cell 2, (hfs.below hb).cell 3, (hfs.below hb).cell 4⟩
  have HFR : Hid (∀ W, Below W1.heap.size W1 W → Fr W (w.heap.size + 1) 59 [.slice none 0 0, .slice none 0 0]) := Lib.hid fun W hb => hfr.below hb
  have HZ1 := Lib.hid hz1
  have hzl : w.heap.size + 1 < W1.heap.size := by omega
  clear hfs hfr hz1
  obtain ⟨m, HM⟩ := named L.length
  rw [← HM.out] at hll
  have hst2 : Calls Tryz.prog 47 #[.agg #[.slice A0 n0 c0, .slice A1 n1 c1, .slice A2 n2 c2, .slice A3 n3 c3]] W1 fun e w' => ∃ A, e = .returned (.slice A m m) ∧ Is w' w'.heap.size (.slice A m m) L ∧ Below W1.heap.size W1 w' := by rw [HM.out]; exact HST.out
  have HST2 := Lib.hid hst2
  clear hst2 HST
  obtain ⟨i0, hi, hz0, hz1', hz2⟩ := info_parts info_val
  have HI := Lib.hid (And.intro hi (And.intro hz0 (And.intro hz1' hz2)))
  clear hi hz0 hz1' hz2
  go_enter Tryz.func54, Tryz.ntmps54
  go_upto_region 1 with (fail)
  rw [← HW1.out]
  obtain ⟨x0, x1, x2, x3, x4⟩ := HFS.out W1 (Below.refl _ _)
  go_wp2_with (first
    | (go_at_call 47; (with_reducible refine HST2.out.mono ?_); rintro e w2 ⟨A, rfl, hi, hb⟩; have HLI := Lib.hid hi; have HB2 := Lib.hid hb; clear hi hb)
    | (at_make; refine wpList_make_full _ rfl _ _ 29 rfl w2.heap.size 30 i0 (.int .u8 0) 1 Tryz.underlying29 HI.out.1 HI.out.2.1 HI.out.2.2.1 .i64 .i64 _ _ m rfl rfl rfl rfl ?b2 ?b3 ?b4 ?_))
  case b2 => rw [HI.out.2.2.2]; omega
  case b3 => unfold maxLen; omega
  case b4 => exact Nat.le_refl _
  intro w3 hown hgr
  rw [fillL_start (fun j => .int .u8 (dataV nets (nd.getD (lat L j).toNat default).ins))] at hown
  have HB3 := Lib.hid (show Below w2.heap.size w2 w3 from (Below.refl _ _).grown hgr (Nat.le_refl _) (fun k h => by cases h))
  have HO := Lib.hid hown
  obtain ⟨g, HG⟩ := named w2.heap.size
  rw [← HG.out] at HO
  have hgz : w2.heap.size ≤ g := by rw [HG.out]; exact Nat.le_refl _
  have hgw : w.heap.size + 1 < g := by have := HB2.out.size; rw [HG.out]; omega
  rw [← HG.out]
  obtain ⟨AA, bL, oL, cL, eL, hAL, -, -, hcL⟩ := HLI.out.opens
  rw [← HM.out] at eL hAL hcL
  simp only [Value.slice.injEq, true_and] at eL
  obtain ⟨rfl, -⟩ := eL
  have HAL := Lib.hid hAL
  have HCL := Lib.hid hcL
  clear hown hgr x0 x1 x2 x3 x4 hAL hcL
  go_wp2
  go_loopw [15] (fun i wr => ∃ k : Nat, k ≤ m ∧ i = .int .i64 k ∧ Below w2.heap.size w2 wr ∧ wr.ownsRow g 30 1 (.slice (some ⟨g, 0, none⟩) m m) m (fillL (fun j => .int .u8 (dataV nets (nd.getD (lat L j).toNat default).ins)) (.int .u8 0) m k)) (fun i _ => m - (intOf i).toNat)
  case atStart => exact ⟨0, Nat.zero_le _, rfl, HB3.out, HO.out⟩
  case round =>
    clear HO HB3
    obtain ⟨k, hk, rfl, hb, hown⟩ := hrel
    have HBL := Lib.hid hb
    have HO := Lib.hid hown
    obtain ⟨x0, x1, x2, x3, x4⟩ := HFS.out wr (joinB HB2.out hb)
    clear hb hown
    by_cases hlt : k < m
    · obtain rfl := HAL.out (by omega)
      obtain ⟨hlb, hx⟩ := HCL.out k hlt
      have hx2 : wr.cell? ⟨bL, oL + k, none⟩ = some (.int .i64 (L.getD k 0)) := (HBL.out.cell (p := ⟨bL, oL + k, none⟩) hlb).trans hx
      obtain ⟨j0, j1⟩ := HIN.out (L.getD k 0) (by rw [List.getD_eq_getElem?_getD, List.getElem?_eq_getElem (by rw [← HM.out]; exact hlt)]; exact List.getElem_mem _)
      obtain ⟨x, hxx⟩ := Int.eq_ofNat_of_zero_le j0
      rw [hxx] at hx2 j1
      have hxn : x < n0 := by omega
      have HLX : Hid (lat L (k : Int) = (x : Int)) := Lib.hid (by rw [← hxx]; unfold lat; rw [Int.toNat_natCast])
      have hcl : wr.cell? ⟨g, k, none⟩ = some (.int .u8 0) := by
        rw [HO.out.cellAt k (by omega), fillL_get _ _ _ _ _ hlt, if_neg (by omega)]
      have hfz : wr.frozen? ⟨g, k, none⟩ = false := HO.out.frozenAt k
      have hgl : g < wr.heap.size := (World.ownsRow.lt HO.out _ rfl).2
      obtain ⟨u, HU⟩ := named (dataV nets (nd.getD x default).ins)
      have HCD := Lib.hid (HDA.out wr (joinB HB2.out HBL.out) x hxn)
      rw [← HU.out] at HCD
      clear hx hxx j0 j1
      go_wp2_with (go_at_call 94; (with_reducible refine HCD.out.mono ?_); rintro e w5 ⟨rfl, hb⟩; have HB5 := Lib.hid hb; have hcl5 := (hb.cell (p := ⟨g, k, none⟩) hgl).trans hcl; have hfz5 := (hb.frozen (p := ⟨g, k, none⟩) hgl).trans hfz; clear hb)
      go_roundw
      case rel =>
        have h5 : w5.ownsRow g 30 1 (.slice (some ⟨g, 0, none⟩) m m) m (fillL (fun j => .int .u8 (dataV nets (nd.getD (lat L j).toNat default).ins)) (.int .u8 0) m k) :=
          World.ownsRow.kept (row := none) HO.out ⟨HB5.out.os, HB5.out.tape, HB5.out.output, HB5.out.size, fun i hi _ => HB5.out.block i hi⟩ (.inr (show some g ≠ (none : Option Nat) by simp))
        have h := (h5.stored k (.int .u8 u)).1
        refine ⟨k + 1, by omega, by go_num, (joinB HBL.out HB5.out).setCell hgz _, ?_⟩
        have e : u = dataV nets (nd.getD (lat L (k : Int)).toNat default).ins := by rw [HLX.out, Int.toNat_natCast]; exact HU.out
        rw [e] at h ⊢
        rw [← fillL_set (fun j => .int .u8 (dataV nets (nd.getD (lat L j).toNat default).ins)) (.int .u8 0) m k]
        exact h
      case measure => simp [intOf]; omega
    · obtain rfl : m = k := by omega
      have hfull : VRow wr g ln := by
        have h := HO.out
        have e := fillL_vals (fun x => dataV nets (nd.getD x.toNat default).ins) (.int .u8 0) L
        rw [← HM.out] at e
        rw [e] at h
        rw [HNX.out]
        exact VRow.of (n := m) h (by rw [List.length_map]; exact HM.out.symm)
      have HFULL := Lib.hid hfull
      have HCV := Lib.hid (HVA.out wr (joinB HB2.out HBL.out))
      have hlo : lo.length = n3 := HOL.out
      have hln : ln.length = m := by rw [HNX.out, List.length_map]; exact HM.out.symm
      have HLO := Lib.hid hlo
      have HLN := Lib.hid hln
      have hfr := HFR.out wr (joinB HB2.out HBL.out)
      have HFRR := Lib.hid hfr
      have hrl : w.heap.size + 1 < wr.heap.size := by have := (joinB HB2.out HBL.out).size; omega
      clear hfull hlo hln hfr
      go_wp2_with (go_at_call 53; (with_reducible refine HCV.out.mono ?_); rintro e w5 ⟨h, rfl, hv, hz, hb⟩; have HB5 := Lib.hid hb; have HV5 := Lib.hid hv; have HZ5 := Lib.hid hz; have r0 : w5.cell? ⟨w.heap.size + 1, 0, none⟩ = some (.slice none 0 0) := (HFRR.out.below hb).cell 0; have r1 : w5.cell? ⟨w.heap.size + 1, 1, none⟩ = some (.slice none 0 0) := (HFRR.out.below hb).cell 1; have f0 : w5.frozen? ⟨w.heap.size + 1, 0, none⟩ = false := (HFRR.out.below hb).frozen 0; have f1 : w5.frozen? ⟨w.heap.size + 1, 1, none⟩ = false := (HFRR.out.below hb).frozen 1; clear hv hz hb)
      have hq := ((HFRR.out.below HB5.out).set 0 (.slice (some ⟨h, 0, none⟩) lo.length lo.length)).set 1 (.slice (some ⟨g, 0, none⟩) m m)
      (try simp only [Exit.inBlock, Exit.then])
      refine bodyPost_ret (results_cell_row rfl _ _ _ _ _ _ _ rfl hq Tryz.underlying59 rfl (by kernel_rfl)) rfl ?_
      have hz5 := HZ5.out
      have hzb := (joinB HB2.out HBL.out).size
      have hz1 := HZ1.out
      have hgl := HFULL.out.lt
      have hb5 := joinB HB1.out (joinB (joinB HB2.out HBL.out) HB5.out)
      have n1 : w.heap.size + 1 ≠ h := by omega
      have n2 : w.heap.size + 1 ≠ g := by omega
      refine ⟨h, g, by rw [HLN.out]; rfl, (HV5.out.other (a := ⟨_, 0, none⟩) n1 _).other (a := ⟨_, 1, none⟩) n1 _, ((HFULL.out.below HB5.out).other (a := ⟨_, 0, none⟩) n2 _).other (a := ⟨_, 1, none⟩) n2 _, by omega, by omega, by omega, (hb5.setCell (Nat.le_succ _) _).setCell (Nat.le_succ _) _⟩
end Go.Proofs.YtemogllidmgbfaaGreatDoor
