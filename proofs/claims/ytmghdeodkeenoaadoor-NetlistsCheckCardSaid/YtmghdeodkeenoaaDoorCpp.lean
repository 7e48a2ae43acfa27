/- The cells of nodes and memories in rows of the call's own. -/
import Derived.Test.YtmghdeodkeenoaaDoorCln
import Derived.Deep.OwnRows
namespace Go.Proofs.YtmghdeodkeenoaaDoor
open Go.RowKit

/-- The cells of the nodes: the inputs of node k in block h k if k < m, otherwise as in orig. -/
def ndF (l : List Nd) (h : Nat → Nat) (orig : Nat → Value) (m : Nat) (j : Nat) : Value :=
  if j % 4 = 0 then .int .u8 (l.getD (j / 4) default).kind
  else if j % 4 = 1 then (if j / 4 < m then .slice (some ⟨h (j / 4), 0, none⟩) (l.getD (j / 4) default).ins.length (l.getD (j / 4) default).ins.length else orig (j / 4))
  else if j % 4 = 2 then .int .i64 (l.getD (j / 4) default).mem else .int .i64 (l.getD (j / 4) default).bit
def ndC (l : List Nd) (h : Nat → Nat) (orig : Nat → Value) (m : Nat) : List Value := (List.range (l.length * 4)).map (ndF l h orig m)
theorem ndC_len (l : List Nd) (h : Nat → Nat) (orig : Nat → Value) (m : Nat) : (ndC l h orig m).length = l.length * 4 := by simp [ndC]
theorem ndC_get {l : List Nd} {h : Nat → Nat} {orig : Nat → Value} {m j : Nat} (hj : j < l.length * 4) : (ndC l h orig m)[j]? = some (ndF l h orig m j) := by simp [ndC, hj]
theorem ndF_0 (l : List Nd) (h : Nat → Nat) (orig : Nat → Value) (m k : Nat) : ndF l h orig m (k * 4) = .int .u8 (l.getD k default).kind := by
  unfold ndF; rw [if_pos (by omega), show k * 4 / 4 = k by omega]
theorem ndF_1 (l : List Nd) (h : Nat → Nat) (orig : Nat → Value) (m k : Nat) : ndF l h orig m (k * 4 + 1) = if k < m then .slice (some ⟨h k, 0, none⟩) (l.getD k default).ins.length (l.getD k default).ins.length else orig k := by
  unfold ndF; rw [if_neg (by omega), if_pos (by omega), show (k * 4 + 1) / 4 = k by omega]
theorem ndF_2 (l : List Nd) (h : Nat → Nat) (orig : Nat → Value) (m k : Nat) : ndF l h orig m (k * 4 + 2) = .int .i64 (l.getD k default).mem := by
  unfold ndF; rw [if_neg (by omega), if_neg (by omega), if_pos (by omega), show (k * 4 + 2) / 4 = k by omega]
theorem ndF_3 (l : List Nd) (h : Nat → Nat) (orig : Nat → Value) (m k : Nat) : ndF l h orig m (k * 4 + 3) = .int .i64 (l.getD k default).bit := by
  unfold ndF; rw [if_neg (by omega), if_neg (by omega), if_neg (by omega), show (k * 4 + 3) / 4 = k by omega]
theorem ndC_set {l : List Nd} {h : Nat → Nat} {orig : Nat → Value} {k b : Nat} (hk : k < l.length) :
    (ndC l h orig k).set (k * 4 + 1) (.slice (some ⟨b, 0, none⟩) (l.getD k default).ins.length (l.getD k default).ins.length) = ndC l (fun i => if i = k then b else h i) orig (k + 1) := by
  apply List.ext_getElem?
  intro j
  by_cases hj : j < l.length * 4
  · rw [List.getElem?_set, ndC_get hj, ndC_get hj, ndC_len]
    by_cases e : k * 4 + 1 = j
    · subst e
      rw [if_pos rfl, if_pos (by omega), ndF_1, if_pos (by omega), if_pos rfl]
    · rw [if_neg e]
      unfold ndF
      by_cases h1 : j % 4 = 1
      · have hne : j / 4 ≠ k := by omega
        have h00 : ¬ j % 4 = 0 := by omega
        rw [if_neg h00, if_pos h1, if_neg h00, if_pos h1]
        by_cases h2 : j / 4 < k
        · rw [if_pos h2, if_pos (show j / 4 < k + 1 by omega)]
          show _ = some (Value.slice (some ⟨if j / 4 = k then b else h (j / 4), 0, none⟩) _ _)
          rw [if_neg hne]
        · rw [if_neg h2, if_neg (show ¬ j / 4 < k + 1 by omega)]
      · rw [if_neg h1, if_neg h1]
  · rw [List.getElem?_eq_none (by simp [ndC_len]; omega), List.getElem?_eq_none (by simp [ndC_len]; omega)]
/-- What clone has copied are the nodes' cells. -/
theorem ndC_of {w : World} {B b0 o0 : Nat} {l : List Nd} {orig : Nat → Value} (h : Nat → Nat)
    (hs : ∀ k, k < l.length → w.cell? ⟨b0, o0 + k * 4, none⟩ = some (.int .u8 (l.getD k default).kind) ∧ w.cell? ⟨b0, o0 + k * 4 + 1, none⟩ = some (orig k) ∧ w.cell? ⟨b0, o0 + k * 4 + 2, none⟩ = some (.int .i64 (l.getD k default).mem) ∧ w.cell? ⟨b0, o0 + k * 4 + 3, none⟩ = some (.int .i64 (l.getD k default).bit)) :
    rdC w b0 o0 (l.length * 4) = ndC l h orig 0 := by
  apply List.ext_getElem?
  intro j
  by_cases hj : j < l.length * 4
  · obtain ⟨h0, h1, h2, h3⟩ := hs (j / 4) (by omega)
    rw [ndC_get hj]
    refine rdC_get hj ?_
    have hm : j % 4 = 0 ∨ j % 4 = 1 ∨ j % 4 = 2 ∨ j % 4 = 3 := by omega
    unfold ndF
    rcases hm with e | e | e | e
    · rw [if_pos e, show o0 + j = o0 + j / 4 * 4 by omega]; exact h0
    · rw [if_neg (by omega), if_pos e, if_neg (by omega), show o0 + j = o0 + j / 4 * 4 + 1 by omega]; exact h1
    · rw [if_neg (by omega), if_neg (by omega), if_pos e, show o0 + j = o0 + j / 4 * 4 + 2 by omega]; exact h2
    · rw [if_neg (by omega), if_neg (by omega), if_neg (by omega), show o0 + j = o0 + j / 4 * 4 + 3 by omega]; exact h3
  · rw [List.getElem?_eq_none (by simp [rdC_len]; omega), List.getElem?_eq_none (by simp [ndC_len]; omega)]
theorem rdS_of {w : World} {b1 o1 : Nat} {l : List ByteArray} (hs : ∀ k, k < l.length → w.cell? ⟨b1, o1 + k, none⟩ = some (.string (l.getD k ByteArray.empty))) : rdC w b1 o1 (l.length * 1) = l.map Value.string := by
  apply List.ext_getElem?
  intro j
  by_cases hj : j < l.length
  · rw [rdC_get (by omega) (hs j hj), List.getElem?_map, List.getElem?_eq_getElem hj, List.getD_eq_getElem?_getD, List.getElem?_eq_getElem hj]; rfl
  · rw [List.getElem?_eq_none (by simp [rdC_len]; omega), List.getElem?_eq_none (by simp; omega)]
theorem rdI_of {w : World} {b1 o1 : Nat} {l : List Int} (hs : ∀ k, k < l.length → w.cell? ⟨b1, o1 + k, none⟩ = some (.int .i64 (l.getD k 0))) : rdC w b1 o1 (l.length * 1) = l.map (Value.int .i64) := by
  apply List.ext_getElem?
  intro j
  by_cases hj : j < l.length
  · rw [rdC_get (by omega) (hs j hj), List.getElem?_map, List.getElem?_eq_getElem hj, List.getD_eq_getElem?_getD, List.getElem?_eq_getElem hj]; rfl
  · rw [List.getElem?_eq_none (by simp [rdC_len]; omega), List.getElem?_eq_none (by simp; omega)]

/-- The cells of the memories: those of memory k in blocks ha k, hd k if k < m, otherwise as in orig. -/
def mmF (l : List Mm) (ha hd : Nat → Nat) (oa od : Nat → Value) (m : Nat) (j : Nat) : Value :=
  if j % 3 = 0 then (if j / 3 < m then .slice (some ⟨ha (j / 3), 0, none⟩) (l.getD (j / 3) default).addr.length (l.getD (j / 3) default).addr.length else oa (j / 3))
  else if j % 3 = 1 then (if j / 3 < m then .slice (some ⟨hd (j / 3), 0, none⟩) (l.getD (j / 3) default).data.length (l.getD (j / 3) default).data.length else od (j / 3))
  else .int .i64 (l.getD (j / 3) default).write
def mmC (l : List Mm) (ha hd : Nat → Nat) (oa od : Nat → Value) (m : Nat) : List Value := (List.range (l.length * 3)).map (mmF l ha hd oa od m)
theorem mmC_len (l : List Mm) (ha hd : Nat → Nat) (oa od : Nat → Value) (m : Nat) : (mmC l ha hd oa od m).length = l.length * 3 := by simp [mmC]
theorem mmC_get {l : List Mm} {ha hd : Nat → Nat} {oa od : Nat → Value} {m j : Nat} (hj : j < l.length * 3) : (mmC l ha hd oa od m)[j]? = some (mmF l ha hd oa od m j) := by simp [mmC, hj]
theorem mmF_0 (l : List Mm) (ha hd : Nat → Nat) (oa od : Nat → Value) (m k : Nat) : mmF l ha hd oa od m (k * 3) = if k < m then .slice (some ⟨ha k, 0, none⟩) (l.getD k default).addr.length (l.getD k default).addr.length else oa k := by
  unfold mmF; rw [if_pos (by omega), show k * 3 / 3 = k by omega]
theorem mmF_1 (l : List Mm) (ha hd : Nat → Nat) (oa od : Nat → Value) (m k : Nat) : mmF l ha hd oa od m (k * 3 + 1) = if k < m then .slice (some ⟨hd k, 0, none⟩) (l.getD k default).data.length (l.getD k default).data.length else od k := by
  unfold mmF; rw [if_neg (by omega), if_pos (by omega), show (k * 3 + 1) / 3 = k by omega]
theorem mmF_2 (l : List Mm) (ha hd : Nat → Nat) (oa od : Nat → Value) (m k : Nat) : mmF l ha hd oa od m (k * 3 + 2) = .int .i64 (l.getD k default).write := by
  unfold mmF; rw [if_neg (by omega), if_neg (by omega), show (k * 3 + 2) / 3 = k by omega]
theorem mmC_set {l : List Mm} {ha hd : Nat → Nat} {oa od : Nat → Value} {k b d : Nat} (hk : k < l.length) :
    ((mmC l ha hd oa od k).set (k * 3) (.slice (some ⟨b, 0, none⟩) (l.getD k default).addr.length (l.getD k default).addr.length)).set (k * 3 + 1) (.slice (some ⟨d, 0, none⟩) (l.getD k default).data.length (l.getD k default).data.length) =
      mmC l (fun i => if i = k then b else ha i) (fun i => if i = k then d else hd i) oa od (k + 1) := by
  apply List.ext_getElem?
  intro j
  by_cases hj : j < l.length * 3
  · rw [List.getElem?_set, List.getElem?_set, mmC_get hj, mmC_get hj, List.length_set, mmC_len]
    by_cases e : k * 3 + 1 = j
    · subst e
      rw [if_pos rfl, if_pos (by omega), mmF_1, if_pos (by omega), if_pos rfl]
    · rw [if_neg e]
      by_cases e0 : k * 3 = j
      · subst e0
        rw [if_pos rfl, if_pos (by omega), mmF_0, if_pos (by omega), if_pos rfl]
      · rw [if_neg e0]
        unfold mmF
        have hne : j % 3 ≠ 2 → j / 3 ≠ k := by omega
        by_cases h0 : j % 3 = 0
        · have hn := hne (by omega)
          rw [if_pos h0, if_pos h0]
          by_cases h2 : j / 3 < k
          · rw [if_pos h2, if_pos (show j / 3 < k + 1 by omega)]
            show _ = some (Value.slice (some ⟨if j / 3 = k then b else ha (j / 3), 0, none⟩) _ _)
            rw [if_neg hn]
          · rw [if_neg h2, if_neg (show ¬ j / 3 < k + 1 by omega)]
        · rw [if_neg h0, if_neg h0]
          by_cases h1 : j % 3 = 1
          · have hn := hne (by omega)
            rw [if_pos h1, if_pos h1]
            by_cases h2 : j / 3 < k
            · rw [if_pos h2, if_pos (show j / 3 < k + 1 by omega)]
              show _ = some (Value.slice (some ⟨if j / 3 = k then d else hd (j / 3), 0, none⟩) _ _)
              rw [if_neg hn]
            · rw [if_neg h2, if_neg (show ¬ j / 3 < k + 1 by omega)]
          · rw [if_neg h1, if_neg h1]
  · rw [List.getElem?_eq_none (by simp [mmC_len]; omega), List.getElem?_eq_none (by simp [mmC_len]; omega)]
theorem mmC_of {w : World} {b0 o0 : Nat} {l : List Mm} {oa od : Nat → Value} (ha hd : Nat → Nat)
    (hs : ∀ k, k < l.length → w.cell? ⟨b0, o0 + k * 3, none⟩ = some (oa k) ∧ w.cell? ⟨b0, o0 + k * 3 + 1, none⟩ = some (od k) ∧ w.cell? ⟨b0, o0 + k * 3 + 2, none⟩ = some (.int .i64 (l.getD k default).write)) :
    rdC w b0 o0 (l.length * 3) = mmC l ha hd oa od 0 := by
  apply List.ext_getElem?
  intro j
  by_cases hj : j < l.length * 3
  · obtain ⟨h0, h1, h2⟩ := hs (j / 3) (by omega)
    rw [mmC_get hj]
    refine rdC_get hj ?_
    have hm : j % 3 = 0 ∨ j % 3 = 1 ∨ j % 3 = 2 := by omega
    unfold mmF
    rcases hm with e | e | e
    · rw [if_pos e, if_neg (by omega), show o0 + j = o0 + j / 3 * 3 by omega]; exact h0
    · rw [if_neg (by omega), if_pos e, if_neg (by omega), show o0 + j = o0 + j / 3 * 3 + 1 by omega]; exact h1
    · rw [if_neg (by omega), if_neg (by omega), show o0 + j = o0 + j / 3 * 3 + 2 by omega]; exact h2
  · rw [List.getElem?_eq_none (by simp [rdC_len]; omega), List.getElem?_eq_none (by simp [mmC_len]; omega)]

/-- A circuit in blocks of the call's own, from G on, all apart. -/
structure OwnC (x : Ck) (G g0 g1 g2 g3 : Nat) (h ha hd : Nat → Nat) (w : World) : Prop where
  low : G ≤ g0 ∧ g0 < g1 ∧ g1 < g2 ∧ g2 < g3
  f0 : Fr w g0 49 (ndC x.nodes h (fun _ => undef) x.nodes.length)
  f1 : Fr w g1 9 (x.names.map Value.string)
  f2 : Fr w g2 70 (mmC x.mems ha hd (fun _ => undef) (fun _ => undef) x.mems.length)
  f3 : Row w g3 x.outs
  rn : ∀ k, k < x.nodes.length → g3 < h k ∧ Row w (h k) (x.nodes.getD k default).ins
  rm : ∀ k, k < x.mems.length → g3 < ha k ∧ Row w (ha k) (x.mems.getD k default).addr ∧ g3 < hd k ∧ Row w (hd k) (x.mems.getD k default).data
  nn : ∀ i j, i < j → j < x.nodes.length → h i < h j
  nm : ∀ i j, i < x.nodes.length → j < x.mems.length → h i < ha j
  mm : ∀ i, i < x.mems.length → ha i < hd i
  ml : ∀ i j, i < j → j < x.mems.length → hd i < ha j
theorem ndC_full (l : List Nd) (h : Nat → Nat) (o1 o2 : Nat → Value) : ndC l h o1 l.length = ndC l h o2 l.length := by
  apply List.ext_getElem?
  intro j
  by_cases hj : j < l.length * 4
  · rw [ndC_get hj, ndC_get hj]
    unfold ndF
    rw [if_pos (show j / 4 < l.length by omega), if_pos (show j / 4 < l.length by omega)]
  · rw [List.getElem?_eq_none (by simp [ndC_len]; omega), List.getElem?_eq_none (by simp [ndC_len]; omega)]
theorem mmC_full (l : List Mm) (ha hd : Nat → Nat) (o1 o2 p1 p2 : Nat → Value) : mmC l ha hd o1 p1 l.length = mmC l ha hd o2 p2 l.length := by
  apply List.ext_getElem?
  intro j
  by_cases hj : j < l.length * 3
  · rw [mmC_get hj, mmC_get hj]
    unfold mmF
    rw [if_pos (show j / 3 < l.length by omega), if_pos (show j / 3 < l.length by omega), if_pos (show j / 3 < l.length by omega), if_pos (show j / 3 < l.length by omega)]
  · rw [List.getElem?_eq_none (by simp [mmC_len]; omega), List.getElem?_eq_none (by simp [mmC_len]; omega)]

end Go.Proofs.YtmghdeodkeenoaaDoor
