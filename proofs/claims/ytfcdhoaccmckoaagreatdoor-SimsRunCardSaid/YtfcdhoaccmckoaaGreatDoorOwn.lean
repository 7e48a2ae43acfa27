/- A circuit of the call's own: it reads as the circuit, also behind a store into it. -/
import Derived.Test.YtfcdhoaccmckoaaGreatDoorLev
import Derived.Laws.CopyRow
import Derived.Laws.CopyOwn
import Derived.Deep.OwnRows
import Derived.Deep.DeepCutAuto
import Derived.Deep.CutBlock
import Derived.Deep.RegionHeld3
namespace Go.Proofs.YtfcdhoaccmckoaaGreatDoor
open Go.RowKit

/-- copy of a whole slice over a row of its length. -/
theorem run_copy_all (P : Program) (w : World) (dT sT ty elem : TypeId) (g n c c' : Nat) (A : Option Addr) (k : Nat) (cur : Array Value) (t : TypeId) (cs : List Value)
    (hu : P.underlying dT = some (.slice elem)) (hs : (P.info? elem).map (·.size) = some k) (hg : w.heap[g]? = some (.cells cur t (0, 0))) (hcur : cur.size = n * k) (hcs : cs.length = n * k)
    (hA : 0 < n → ∃ ad, A = some ad ∧ ∀ j v, cs[j]? = some v → w.cell? (ad.add j) = some v) (h1 : ∀ v ∈ cs, v.oneCell' = true) :
    (Builtin.copy_ #[dT, sT] ty #[.slice (some ⟨g, 0, none⟩) n c, .slice A n c']).run P w = .ok (goInt n) (w.setRow g cs.toArray) := by
  cases hq : P.info? elem with
  | none => simp [hq] at hs
  | some i =>
    have hi : i.size = k := by simpa [hq] using hs
    have hmin : Nat.min n n = n := by simp
    have hst := run_storeCells_at P g 0 t cs 0 cur w hg (by omega) h1
    have e : (cur.toList.take (0 + 0) ++ cs ++ cur.toList.drop (0 + 0 + cs.length)).toArray = cs.toArray := by
      have : cur.toList.drop (0 + 0 + cs.length) = [] := List.drop_eq_nil_of_le (by simp [hcur, hcs])
      rw [this]; simp
    rw [e] at hst
    by_cases h0 : n = 0
    · subst h0
      obtain rfl : cs = [] := List.eq_nil_of_length_eq_zero (by simpa using hcs)
      cases A with
      | none => simp [Builtin.copy_, run_underlying hu, Builtin.lenOf, Builtin.firstCells, sizeOf, typeInfo, hq, hi, hst]
      | some a =>
        have hl := run_loadCells_list (P := P) w a [] (by simp)
        simp only [List.length_nil] at hl
        simp [Builtin.copy_, run_underlying hu, Builtin.lenOf, Builtin.firstCells, sizeOf, typeInfo, hq, hi, hst, hl]
    · obtain ⟨ad, rfl, hsrc⟩ := hA (by omega)
      have hl := run_loadCells_list (P := P) w ad cs hsrc
      rw [hcs] at hl
      simp [Builtin.copy_, run_underlying hu, Builtin.lenOf, Builtin.firstCells, sizeOf, typeInfo, hq, hi, hst, hl, hmin]

theorem grown_setRow (w : World) (g : Nat) (cs : Array Value) : w.grownBy (w.setRow g cs) (some g) := ⟨rfl, rfl, rfl, by simp [World.setRow], fun k hk hne => setRow_other w g k cs (fun e => hne (by rw [e]))⟩

theorem wpList_copy_all {P : Program} {w : World} {ops : Array Oper} {rest : List Oper} {o : Oper} {a : Act} {Q : Exit → Act → World → Prop} (hgd : o.guard = none) (d s : Operand) (dT sT : TypeId)
    (ho : o.op = .call { callee := .builtin .copy, args := #[d, s], argTypes := #[dT, sT] }) (elem : TypeId) (hu : P.underlying dT = some (.slice elem)) (k : Nat) (hsz : (P.info? elem).map (·.size) = some k)
    (g n c c' : Nat) (A : Option Addr) (hd : a.eval d = .slice (some ⟨g, 0, none⟩) n c) (hs : a.eval s = .slice A n c') (cur : Array Value) (t : TypeId) (hg : w.heap[g]? = some (.cells cur t (0, 0))) (hcur : cur.size = n * k)
    (cs : List Value) (hcs : cs.length = n * k) (hA : 0 < n → ∃ ad, A = some ad ∧ ∀ j v, cs[j]? = some v → w.cell? (ad.add j) = some v) (h1 : ∀ v ∈ cs, v.oneCell' = true)
    (h : ∀ w', w'.heap[g]? = some (.cells cs.toArray t (0, 0)) → w.grownBy w' (some g) → wpList P ops Q rest (a.put o.dst (goInt n)) w') : wpList P ops Q (o :: rest) a w := by
  refine wpList_plain hgd fun K hK => ?_
  have hrun := run_copy_all P w dT sT o.type elem g n c c' A k cur t cs hu hsz hg hcur hcs hA h1
  unfold Oper.wp
  simp [execOp, ho, resolve, invoke, builtin, hd, hs, hrun, Result.andThen]
  exact hK _ _ (h _ (setRow_heap w g cur _ t _ hg) (grown_setRow w g _))

/-- The cells that lie from o on. -/
def rdC (w : World) (b o m : Nat) : List Value := (List.range m).map fun j => (w.cell? ⟨b, o + j, none⟩).getD undef
theorem rdC_len (w : World) (b o m : Nat) : (rdC w b o m).length = m := by simp [rdC]
theorem rdC_get {w : World} {b o m j : Nat} {v : Value} (hj : j < m) (h : w.cell? ⟨b, o + j, none⟩ = some v) : (rdC w b o m)[j]? = some v := by simp [rdC, hj, h]

/-- Block g of w' is a row of the cells cs. -/
def Fr (w : World) (g : Nat) (t : TypeId) (cs : List Value) : Prop := w.heap[g]? = some (.cells cs.toArray t (0, 0))
theorem Fr.lt {w : World} {g : Nat} {t : TypeId} {cs : List Value} (h : Fr w g t cs) : g < w.heap.size := (Array.getElem?_eq_some_iff.1 h).1
theorem Fr.cell {w : World} {g : Nat} {t : TypeId} {cs : List Value} (h : Fr w g t cs) (j : Nat) : w.cell? ⟨g, j, none⟩ = cs[j]? := by
  unfold Fr at h; simp [World.cell?, h]
theorem Fr.frozen {w : World} {g : Nat} {t : TypeId} {cs : List Value} (h : Fr w g t cs) (j : Nat) : w.frozen? ⟨g, j, none⟩ = false := by
  unfold Fr at h; simp [World.frozen?, h]
theorem Fr.set {w : World} {g : Nat} {t : TypeId} {cs : List Value} (h : Fr w g t cs) (j : Nat) (v : Value) : Fr (w.setCell ⟨g, j, none⟩ v) g t (cs.set j v) := by
  unfold Fr at *
  rw [setCell_eq_setRow w g j cs.toArray t (0, 0) v h]
  rw [setRow_heap w g cs.toArray _ t _ h]
  simp
theorem Fr.kept {w w' : World} {g : Nat} {t : TypeId} {cs : List Value} {row : Option Nat} (h : Fr w g t cs) (hg : w.grownBy w' row) (hne : some g ≠ row) : Fr w' g t cs := (hg.block g h.lt hne).trans h
theorem Fr.below {w w' : World} {g : Nat} {t : TypeId} {cs : List Value} (h : Fr w g t cs) (hb : Below w.heap.size w w') : Fr w' g t cs := (hb.block g h.lt).trans h
theorem Fr.row {w : World} {g : Nat} {l : List Int} (h : Fr w g 3 (l.map (Value.int .i64))) (hm : l.length ≤ maxLen) : Row w g l := by
  refine ⟨by simp, .inr ⟨g, l.length, _, rfl, Nat.le_refl _, h, Nat.le_refl _, hm, by simp, by rw [List.toList_toArray, Nat.mul_one, List.take_of_length_le (by simp)]⟩⟩

def CloneP (w : World) (b o n k : Nat) (t : TypeId) (e : Ending) (w' : World) : Prop :=
  e = .returned (.slice (some ⟨w.heap.size, 0, none⟩) n n) ∧ Below w.heap.size w w' ∧ Fr w' w.heap.size t (rdC w b o (n * k))

theorem info_nd : (Tryz.prog.info? 54).map (fun i => (i.zero, i.size, i.bytes)) = some (some (.agg #[.int .u8 0, .slice none 0 0, .int .i64 0, .int .i64 0]), 4, 48) := by kernel_rfl
theorem info_mm : (Tryz.prog.info? 60).map (fun i => (i.zero, i.size, i.bytes)) = some (some (.agg #[.slice none 0 0, .slice none 0 0, .int .i64 0]), 3, 56) := by kernel_rfl
theorem info_str : (Tryz.prog.info? 9).map (fun i => (i.zero, i.size, i.bytes)) = some (some (.string ⟨#[]⟩), 1, 16) := by kernel_rfl

end Go.Proofs.YtfcdhoaccmckoaaGreatDoor

namespace Go.Proofs.YtfcdhoaccmckoaaGreatDoor
open Go.RowKit

/-- The cells of the nodes: the inputs of node k in block h k if k < m, otherwise as in orig. -/
def ndF (l : List Nd) (h : Nat → Nat) (orig : Nat → Value) (m : Nat) (j : Nat) : Value :=
  if j % 4 = 0 then .int .u8 (l.getD (j / 4) default).kind
  else if j % 4 = 1 then (if j / 4 < m then .slice (some ⟨h (j / 4), 0, none⟩) (l.getD (j / 4) default).ins.length (l.getD (j / 4) default).ins.length else orig (j / 4))
  else if j % 4 = 2 then .int .i64 (l.getD (j / 4) default).mem else .int .i64 (l.getD (j / 4) default).bit
def ndC (l : List Nd) (h : Nat → Nat) (orig : Nat → Value) (m : Nat) : List Value := (List.range (l.length * 4)).map (ndF l h orig m)
theorem ndC_len (l : List Nd) (h : Nat → Nat) (orig : Nat → Value) (m : Nat) : (ndC l h orig m).length = l.length * 4 := by simp [ndC]
theorem ndC_get {l : List Nd} {h : Nat → Nat} {orig : Nat → Value} {m j : Nat} (hj : j < l.length * 4) : (ndC l h orig m)[j]? = some (ndF l h orig m j) := by simp [ndC, hj]
theorem ndF_0 (l : List Nd) (h : Nat → Nat) (orig : Nat → Value) (m k : Nat) : ndF l h orig m (k * 4) = .int .u8 (l.getD k default).kind := by
  unfold ndF; rw [if_pos (by omega), show k * 4 / 4 = k by omega]
theorem ndF_1 (l : List Nd) (h : Nat → Nat) (orig : Nat → Value) (m k : Nat) : ndF l h orig m (k * 4 + 1) = if k < m then .slice (some ⟨h k, 0, none⟩) (l.getD k default).ins.length (l.getD k default).ins.length else orig k := by
  unfold ndF; rw [if_neg (by omega), if_pos (by omega), show (k * 4 + 1) / 4 = k by omega]
theorem ndF_2 (l : List Nd) (h : Nat → Nat) (orig : Nat → Value) (m k : Nat) : ndF l h orig m (k * 4 + 2) = .int .i64 (l.getD k default).mem := by
  unfold ndF; rw [if_neg (by omega), if_neg (by omega), if_pos (by omega), show (k * 4 + 2) / 4 = k by omega]
theorem ndF_3 (l : List Nd) (h : Nat → Nat) (orig : Nat → Value) (m k : Nat) : ndF l h orig m (k * 4 + 3) = .int .i64 (l.getD k default).bit := by
  unfold ndF; rw [if_neg (by omega), if_neg (by omega), if_neg (by omega), show (k * 4 + 3) / 4 = k by omega]
theorem ndC_set {l : List Nd} {h : Nat → Nat} {orig : Nat → Value} {k b : Nat} (hk : k < l.length) :
    (ndC l h orig k).set (k * 4 + 1) (.slice (some ⟨b, 0, none⟩) (l.getD k default).ins.length (l.getD k default).ins.length) = ndC l (fun i => if i = k then b else h i) orig (k + 1) := by
  apply List.ext_getElem?
  intro j
  by_cases hj : j < l.length * 4
  · rw [List.getElem?_set, ndC_get hj, ndC_get hj, ndC_len]
    by_cases e : k * 4 + 1 = j
    · subst e
      rw [if_pos rfl, if_pos (by omega), ndF_1, if_pos (by omega), if_pos rfl]
    · rw [if_neg e]
      unfold ndF
      by_cases h1 : j % 4 = 1
      · have hne : j / 4 ≠ k := by omega
        have h00 : ¬ j % 4 = 0 := by omega
        rw [if_neg h00, if_pos h1, if_neg h00, if_pos h1]
        by_cases h2 : j / 4 < k
        · rw [if_pos h2, if_pos (show j / 4 < k + 1 by omega)]
          show _ = some (Value.slice (some ⟨if j / 4 = k then b else h (j / 4), 0, none⟩) _ _)
          rw [if_neg hne]
        · rw [if_neg h2, if_neg (show ¬ j / 4 < k + 1 by omega)]
      · rw [if_neg h1, if_neg h1]
  · rw [List.getElem?_eq_none (by simp [ndC_len]; omega), List.getElem?_eq_none (by simp [ndC_len]; omega)]
/-- What clone has copied are the nodes' cells. -/
theorem ndC_of {w : World} {B b0 o0 : Nat} {l : List Nd} {orig : Nat → Value} (h : Nat → Nat)
    (hs : ∀ k, k < l.length → w.cell? ⟨b0, o0 + k * 4, none⟩ = some (.int .u8 (l.getD k default).kind) ∧ w.cell? ⟨b0, o0 + k * 4 + 1, none⟩ = some (orig k) ∧ w.cell? ⟨b0, o0 + k * 4 + 2, none⟩ = some (.int .i64 (l.getD k default).mem) ∧ w.cell? ⟨b0, o0 + k * 4 + 3, none⟩ = some (.int .i64 (l.getD k default).bit)) :
    rdC w b0 o0 (l.length * 4) = ndC l h orig 0 := by
  apply List.ext_getElem?
  intro j
  by_cases hj : j < l.length * 4
  · obtain ⟨h0, h1, h2, h3⟩ := hs (j / 4) (by omega)
    rw [ndC_get hj]
    refine rdC_get hj ?_
    have hm : j % 4 = 0 ∨ j % 4 = 1 ∨ j % 4 = 2 ∨ j % 4 = 3 := by omega
    unfold ndF
    rcases hm with e | e | e | e
    · rw [if_pos e, show o0 + j = o0 + j / 4 * 4 by omega]; exact h0
    · rw [if_neg (by omega), if_pos e, if_neg (by omega), show o0 + j = o0 + j / 4 * 4 + 1 by omega]; exact h1
    · rw [if_neg (by omega), if_neg (by omega), if_pos e, show o0 + j = o0 + j / 4 * 4 + 2 by omega]; exact h2
    · rw [if_neg (by omega), if_neg (by omega), if_neg (by omega), show o0 + j = o0 + j / 4 * 4 + 3 by omega]; exact h3
  · rw [List.getElem?_eq_none (by simp [rdC_len]; omega), List.getElem?_eq_none (by simp [ndC_len]; omega)]
theorem rdS_of {w : World} {b1 o1 : Nat} {l : List ByteArray} (hs : ∀ k, k < l.length → w.cell? ⟨b1, o1 + k, none⟩ = some (.string (l.getD k ByteArray.empty))) : rdC w b1 o1 (l.length * 1) = l.map Value.string := by
  apply List.ext_getElem?
  intro j
  by_cases hj : j < l.length
  · rw [rdC_get (by omega) (hs j hj), List.getElem?_map, List.getElem?_eq_getElem hj, List.getD_eq_getElem?_getD, List.getElem?_eq_getElem hj]; rfl
  · rw [List.getElem?_eq_none (by simp [rdC_len]; omega), List.getElem?_eq_none (by simp; omega)]
theorem rdI_of {w : World} {b1 o1 : Nat} {l : List Int} (hs : ∀ k, k < l.length → w.cell? ⟨b1, o1 + k, none⟩ = some (.int .i64 (l.getD k 0))) : rdC w b1 o1 (l.length * 1) = l.map (Value.int .i64) := by
  apply List.ext_getElem?
  intro j
  by_cases hj : j < l.length
  · rw [rdC_get (by omega) (hs j hj), List.getElem?_map, List.getElem?_eq_getElem hj, List.getD_eq_getElem?_getD, List.getElem?_eq_getElem hj]; rfl
  · rw [List.getElem?_eq_none (by simp [rdC_len]; omega), List.getElem?_eq_none (by simp; omega)]

/-- The cells of the memories: those of memory k in blocks ha k, hd k if k < m, otherwise as in orig. -/
def mmF (l : List Mm) (ha hd : Nat → Nat) (oa od : Nat → Value) (m : Nat) (j : Nat) : Value :=
  if j % 3 = 0 then (if j / 3 < m then .slice (some ⟨ha (j / 3), 0, none⟩) (l.getD (j / 3) default).addr.length (l.getD (j / 3) default).addr.length else oa (j / 3))
  else if j % 3 = 1 then (if j / 3 < m then .slice (some ⟨hd (j / 3), 0, none⟩) (l.getD (j / 3) default).data.length (l.getD (j / 3) default).data.length else od (j / 3))
  else .int .i64 (l.getD (j / 3) default).write
def mmC (l : List Mm) (ha hd : Nat → Nat) (oa od : Nat → Value) (m : Nat) : List Value := (List.range (l.length * 3)).map (mmF l ha hd oa od m)
theorem mmC_len (l : List Mm) (ha hd : Nat → Nat) (oa od : Nat → Value) (m : Nat) : (mmC l ha hd oa od m).length = l.length * 3 := by simp [mmC]
theorem mmC_get {l : List Mm} {ha hd : Nat → Nat} {oa od : Nat → Value} {m j : Nat} (hj : j < l.length * 3) : (mmC l ha hd oa od m)[j]? = some (mmF l ha hd oa od m j) := by simp [mmC, hj]
theorem mmF_0 (l : List Mm) (ha hd : Nat → Nat) (oa od : Nat → Value) (m k : Nat) : mmF l ha hd oa od m (k * 3) = if k < m then .slice (some ⟨ha k, 0, none⟩) (l.getD k default).addr.length (l.getD k default).addr.length else oa k := by
  unfold mmF; rw [if_pos (by omega), show k * 3 / 3 = k by omega]
theorem mmF_1 (l : List Mm) (ha hd : Nat → Nat) (oa od : Nat → Value) (m k : Nat) : mmF l ha hd oa od m (k * 3 + 1) = if k < m then .slice (some ⟨hd k, 0, none⟩) (l.getD k default).data.length (l.getD k default).data.length else od k := by
  unfold mmF; rw [if_neg (by omega), if_pos (by omega), show (k * 3 + 1) / 3 = k by omega]
theorem mmF_2 (l : List Mm) (ha hd : Nat → Nat) (oa od : Nat → Value) (m k : Nat) : mmF l ha hd oa od m (k * 3 + 2) = .int .i64 (l.getD k default).write := by
  unfold mmF; rw [if_neg (by omega), if_neg (by omega), show (k * 3 + 2) / 3 = k by omega]
theorem mmC_set {l : List Mm} {ha hd : Nat → Nat} {oa od : Nat → Value} {k b d : Nat} (hk : k < l.length) :
    ((mmC l ha hd oa od k).set (k * 3) (.slice (some ⟨b, 0, none⟩) (l.getD k default).addr.length (l.getD k default).addr.length)).set (k * 3 + 1) (.slice (some ⟨d, 0, none⟩) (l.getD k default).data.length (l.getD k default).data.length) =
      mmC l (fun i => if i = k then b else ha i) (fun i => if i = k then d else hd i) oa od (k + 1) := by
  apply List.ext_getElem?
  intro j
  by_cases hj : j < l.length * 3
  · rw [List.getElem?_set, List.getElem?_set, mmC_get hj, mmC_get hj, List.length_set, mmC_len]
    by_cases e : k * 3 + 1 = j
    · subst e
      rw [if_pos rfl, if_pos (by omega), mmF_1, if_pos (by omega), if_pos rfl]
    · rw [if_neg e]
      by_cases e0 : k * 3 = j
      · subst e0
        rw [if_pos rfl, if_pos (by omega), mmF_0, if_pos (by omega), if_pos rfl]
      · rw [if_neg e0]
        unfold mmF
        have hne : j % 3 ≠ 2 → j / 3 ≠ k := by omega
        by_cases h0 : j % 3 = 0
        · have hn := hne (by omega)
          rw [if_pos h0, if_pos h0]
          by_cases h2 : j / 3 < k
          · rw [if_pos h2, if_pos (show j / 3 < k + 1 by omega)]
            show _ = some (Value.slice (some ⟨if j / 3 = k then b else ha (j / 3), 0, none⟩) _ _)
            rw [if_neg hn]
          · rw [if_neg h2, if_neg (show ¬ j / 3 < k + 1 by omega)]
        · rw [if_neg h0, if_neg h0]
          by_cases h1 : j % 3 = 1
          · have hn := hne (by omega)
            rw [if_pos h1, if_pos h1]
            by_cases h2 : j / 3 < k
            · rw [if_pos h2, if_pos (show j / 3 < k + 1 by omega)]
              show _ = some (Value.slice (some ⟨if j / 3 = k then d else hd (j / 3), 0, none⟩) _ _)
              rw [if_neg hn]
            · rw [if_neg h2, if_neg (show ¬ j / 3 < k + 1 by omega)]
          · rw [if_neg h1, if_neg h1]
  · rw [List.getElem?_eq_none (by simp [mmC_len]; omega), List.getElem?_eq_none (by simp [mmC_len]; omega)]
theorem mmC_of {w : World} {b0 o0 : Nat} {l : List Mm} {oa od : Nat → Value} (ha hd : Nat → Nat)
    (hs : ∀ k, k < l.length → w.cell? ⟨b0, o0 + k * 3, none⟩ = some (oa k) ∧ w.cell? ⟨b0, o0 + k * 3 + 1, none⟩ = some (od k) ∧ w.cell? ⟨b0, o0 + k * 3 + 2, none⟩ = some (.int .i64 (l.getD k default).write)) :
    rdC w b0 o0 (l.length * 3) = mmC l ha hd oa od 0 := by
  apply List.ext_getElem?
  intro j
  by_cases hj : j < l.length * 3
  · obtain ⟨h0, h1, h2⟩ := hs (j / 3) (by omega)
    rw [mmC_get hj]
    refine rdC_get hj ?_
    have hm : j % 3 = 0 ∨ j % 3 = 1 ∨ j % 3 = 2 := by omega
    unfold mmF
    rcases hm with e | e | e
    · rw [if_pos e, if_neg (by omega), show o0 + j = o0 + j / 3 * 3 by omega]; exact h0
    · rw [if_neg (by omega), if_pos e, if_neg (by omega), show o0 + j = o0 + j / 3 * 3 + 1 by omega]; exact h1
    · rw [if_neg (by omega), if_neg (by omega), show o0 + j = o0 + j / 3 * 3 + 2 by omega]; exact h2
  · rw [List.getElem?_eq_none (by simp [rdC_len]; omega), List.getElem?_eq_none (by simp [mmC_len]; omega)]

/-- A circuit in blocks of the call's own, from G on, all apart. -/
structure OwnC (x : Ck) (G g0 g1 g2 g3 : Nat) (h ha hd : Nat → Nat) (w : World) : Prop where
  low : G ≤ g0 ∧ g0 < g1 ∧ g1 < g2 ∧ g2 < g3
  f0 : Fr w g0 54 (ndC x.nodes h (fun _ => undef) x.nodes.length)
  f1 : Fr w g1 9 (x.names.map Value.string)
  f2 : Fr w g2 60 (mmC x.mems ha hd (fun _ => undef) (fun _ => undef) x.mems.length)
  f3 : Row w g3 x.outs
  rn : ∀ k, k < x.nodes.length → g3 < h k ∧ Row w (h k) (x.nodes.getD k default).ins
  rm : ∀ k, k < x.mems.length → g3 < ha k ∧ Row w (ha k) (x.mems.getD k default).addr ∧ g3 < hd k ∧ Row w (hd k) (x.mems.getD k default).data
  nn : ∀ i j, i < j → j < x.nodes.length → h i < h j
  nm : ∀ i j, i < x.nodes.length → j < x.mems.length → h i < ha j
  mm : ∀ i, i < x.mems.length → ha i < hd i
  ml : ∀ i j, i < j → j < x.mems.length → hd i < ha j
theorem ndC_full (l : List Nd) (h : Nat → Nat) (o1 o2 : Nat → Value) : ndC l h o1 l.length = ndC l h o2 l.length := by
  apply List.ext_getElem?
  intro j
  by_cases hj : j < l.length * 4
  · rw [ndC_get hj, ndC_get hj]
    unfold ndF
    rw [if_pos (show j / 4 < l.length by omega), if_pos (show j / 4 < l.length by omega)]
  · rw [List.getElem?_eq_none (by simp [ndC_len]; omega), List.getElem?_eq_none (by simp [ndC_len]; omega)]
theorem mmC_full (l : List Mm) (ha hd : Nat → Nat) (o1 o2 p1 p2 : Nat → Value) : mmC l ha hd o1 p1 l.length = mmC l ha hd o2 p2 l.length := by
  apply List.ext_getElem?
  intro j
  by_cases hj : j < l.length * 3
  · rw [mmC_get hj, mmC_get hj]
    unfold mmF
    rw [if_pos (show j / 3 < l.length by omega), if_pos (show j / 3 < l.length by omega), if_pos (show j / 3 < l.length by omega), if_pos (show j / 3 < l.length by omega)]
  · rw [List.getElem?_eq_none (by simp [mmC_len]; omega), List.getElem?_eq_none (by simp [mmC_len]; omega)]

end Go.Proofs.YtfcdhoaccmckoaaGreatDoor

namespace Go.Proofs.YtfcdhoaccmckoaaGreatDoor
open Go.RowKit

theorem Fr.alloc {w : World} {g : Nat} {t : TypeId} {cs : List Value} (h : Fr w g t cs) (o : Obj) : Fr (w.alloc o) g t cs := h.below ((Below.refl _ _).alloc (Nat.le_refl _) o)
theorem Fr.drew {w : World} {g : Nat} {t : TypeId} {cs : List Value} (h : Fr w g t cs) : Fr w.drew g t cs := h
theorem Fr.other {w : World} {g : Nat} {t : TypeId} {cs : List Value} (h : Fr w g t cs) {a : Addr} (ha : a.block ≠ g) (v : Value) : Fr (w.setCell a v) g t cs :=
  h.kept (row := some a.block) ⟨rfl, rfl, rfl, by simp [World.setCell], fun i _ hne => Below.heap_setCell _ _ _ _ (fun e => hne (by rw [e]))⟩ (fun e => ha (by injection e with e; exact e.symm))
/-- What was there is as it was. -/
def BelW (w w' : World) : Prop := Below w.heap.size w w'
theorem BelW.next {w w1 w2 : World} (h : BelW w w1) (hb : Below w1.heap.size w1 w2) : BelW w w2 := joinB h hb
theorem BelW.trans {w w1 w2 : World} (h : BelW w w1) (hb : BelW w1 w2) : BelW w w2 := joinB h hb
theorem BelW.alloc {w w1 : World} (h : BelW w w1) (o : Obj) : BelW w (w1.alloc o) := below_new h o
theorem BelW.drew {w w1 : World} (h : BelW w w1) : BelW w w1.drew := Below.drew h
theorem BelW.set {w w1 : World} (h : BelW w w1) {a : Addr} (ha : w.heap.size ≤ a.block) (v : Value) : BelW w (w1.setCell a v) := Below.setCell h ha v

/-- What the first statement of Copy leaves. -/
structure Cp1 (n0 n1 n2 n3 : Nat) (w : World) (b0 o0 b1 o1 b2 o2 b3 o3 : Nat) (D g0 g1 g2 g3 : Nat) (wx : World) : Prop where
  bel : BelW w wx
  low : w.heap.size + 1 < g0 ∧ g0 < g1 ∧ g1 < g2 ∧ g2 < g3 ∧ w.heap.size + 1 < D ∧ D ≠ g0 ∧ D ≠ g1 ∧ D ≠ g2 ∧ D ≠ g3
  f0 : Fr wx g0 54 (rdC w b0 o0 (n0 * 4))
  f1 : Fr wx g1 9 (rdC w b1 o1 (n1 * 1))
  f2 : Fr wx g2 60 (rdC w b2 o2 (n2 * 3))
  f3 : Fr wx g3 3 (rdC w b3 o3 (n3 * 1))
  fd : Fr wx D 35 [.slice (some ⟨g0, 0, none⟩) n0 n0, .slice (some ⟨g1, 0, none⟩) n1 n1, .slice (some ⟨g2, 0, none⟩) n2 n2, .slice (some ⟨g3, 0, none⟩) n3 n3]
  fr : Fr wx (w.heap.size + 1) 35 [.slice none 0 0, .slice none 0 0, .slice none 0 0, .slice none 0 0]

theorem Fr.via {wa wc wb : World} {g : Nat} {t : TypeId} {cs : List Value} (h : Fr wa g t cs) (hb : Below wc.heap.size wc wb) (hab : BelW wa wc) : Fr wb g t cs := (Fr.below h hab).below hb
theorem BelW.set4 {w w1 : World} {D : Nat} (h : BelW w w1) (hD : w.heap.size ≤ D) (a b c d : Value) :
    BelW w ((((w1.setCell ⟨D, 0, none⟩ a).setCell ⟨D, 1, none⟩ b).setCell ⟨D, 2, none⟩ c).setCell ⟨D, 3, none⟩ d) := (((h.set hD a).set hD b).set hD c).set hD d
theorem Fr.other4 {w : World} {g D : Nat} {t : TypeId} {cs : List Value} (h : Fr w g t cs) (hD : D ≠ g) (a b c d : Value) :
    Fr ((((w.setCell ⟨D, 0, none⟩ a).setCell ⟨D, 1, none⟩ b).setCell ⟨D, 2, none⟩ c).setCell ⟨D, 3, none⟩ d) g t cs := (((h.other hD a).other hD b).other hD c).other hD d
theorem Fr.set4 {w : World} {D : Nat} {t : TypeId} {x y z u : Value} (h : Fr w D t [x, y, z, u]) (a b c d : Value) :
    Fr ((((w.setCell ⟨D, 0, none⟩ a).setCell ⟨D, 1, none⟩ b).setCell ⟨D, 2, none⟩ c).setCell ⟨D, 3, none⟩ d) D t [a, b, c, d] := (((h.set 0 a).set 1 b).set 2 c).set 3 d
theorem Fr.made (w : World) (cs : List Value) (t : TypeId) {g : Nat} (hg : g = w.heap.size) : Fr (w.alloc (.cells cs.toArray t)) g t cs := by
  subst hg; unfold Fr; exact heap_alloc_new _ _

/-- Sizes that a copy can bear. -/
structure SzOk (c : Ck) : Prop where
  n : c.nodes.length ≤ 1000000
  s : c.names.length ≤ 1000000
  m : c.mems.length ≤ 1000000
  o : c.outs.length ≤ 1000000
  i : ∀ k, k < c.nodes.length → (c.nodes.getD k default).ins.length ≤ 17592186044416
  a : ∀ k, k < c.mems.length → (c.mems.getD k default).addr.length ≤ 17592186044416
  d : ∀ k, k < c.mems.length → (c.mems.getD k default).data.length ≤ 17592186044416

def CopyPost (c : Ck) (w : World) (e : Ending) (w' : World) : Prop :=
  BelW w w' ∧ ∃ g0 g1 g2 g3 h ha hd, e = .returned (.agg #[.slice (some ⟨g0, 0, none⟩) c.nodes.length c.nodes.length, .slice (some ⟨g1, 0, none⟩) c.names.length c.names.length, .slice (some ⟨g2, 0, none⟩) c.mems.length c.mems.length, .slice (some ⟨g3, 0, none⟩) c.outs.length c.outs.length]) ∧ OwnC c w.heap.size g0 g1 g2 g3 h ha hd w'

/-- What the loop over the nodes keeps. -/
structure Nd1 (c : Ck) (w : World) (D g0 g1 g2 g3 n0 n1 n2 n3 T : Nat) (sN sA sD : Nat → Value) (k : Nat) (h : Nat → Nat) (wr : World) : Prop where
  bel : BelW w wr
  top : T ≤ wr.heap.size
  f0 : Fr wr g0 54 (ndC c.nodes h sN k)
  f1 : Fr wr g1 9 (c.names.map Value.string)
  f2 : Fr wr g2 60 (mmC c.mems (fun _ => 0) (fun _ => 0) sA sD 0)
  f3 : Fr wr g3 3 (c.outs.map (Value.int .i64))
  fd : Fr wr D 35 [.slice (some ⟨g0, 0, none⟩) n0 n0, .slice (some ⟨g1, 0, none⟩) n1 n1, .slice (some ⟨g2, 0, none⟩) n2 n2, .slice (some ⟨g3, 0, none⟩) n3 n3]
  fr : Fr wr (w.heap.size + 1) 35 [.slice none 0 0, .slice none 0 0, .slice none 0 0, .slice none 0 0]
  rows : ∀ j, j < k → T ≤ h j ∧ Row wr (h j) (c.nodes.getD j default).ins
  inc : ∀ i j, i < j → j < k → h i < h j

theorem Row.other {w : World} {g : Nat} {l : List Int} (h : Row w g l) {a : Addr} (ha : a.block ≠ g) (v : Value) : Row (w.setCell a v) g l :=
  h.kept (row := some a.block) ⟨rfl, rfl, rfl, by simp [World.setCell], fun i _ hne => Below.heap_setCell _ _ _ _ (fun e => hne (by rw [e]))⟩ (fun e => ha (by injection e with e; exact e.symm))
theorem Nd1.step {c : Ck} {w : World} {D g0 g1 g2 g3 n0 n1 n2 n3 T : Nat} {sN sA sD : Nat → Value} {k : Nat} {h : Nat → Nat} {wr w1 : World} (hnd : Nd1 c w D g0 g1 g2 g3 n0 n1 n2 n3 T sN sA sD k h wr)
    (hk : k < c.nodes.length) (hb : BelW wr w1) {y : Nat} (hy : wr.heap.size ≤ y) (hr : Row w1 y (c.nodes.getD k default).ins)
    (h0 : w.heap.size + 1 < g0) (h1 : g0 < g1) (h2 : g1 < g2) (h3 : g2 < g3) (h4 : g3 < T) (hD : D ≠ g0) :
    Nd1 c w D g0 g1 g2 g3 n0 n1 n2 n3 T sN sA sD (k + 1) (fun i => if i = k then y else h i) (w1.setCell ⟨g0, k * 4 + 1, none⟩ (.slice (some ⟨y, 0, none⟩) (c.nodes.getD k default).ins.length (c.nodes.getD k default).ins.length)) := by
  have ht := hnd.top
  have hlt : ∀ j, j < k → h j < wr.heap.size := fun j hj => (hnd.rows j hj).2.lt
  refine ⟨(hnd.bel.trans hb).set (by show w.heap.size ≤ g0; omega) _, ?_, ?_, Fr.other (Fr.below hnd.f1 hb) (by show g0 ≠ g1; omega) _, Fr.other (Fr.below hnd.f2 hb) (by show g0 ≠ g2; omega) _, Fr.other (Fr.below hnd.f3 hb) (by show g0 ≠ g3; omega) _, Fr.other (Fr.below hnd.fd hb) (by show g0 ≠ D; omega) _, Fr.other (Fr.below hnd.fr hb) (by show g0 ≠ w.heap.size + 1; omega) _, fun j hj => ?_, fun i j hij hj => ?_⟩
  · have := hb.size
    simp only [World.size_setCell]; omega
  · rw [← ndC_set hk]
    exact (Fr.below hnd.f0 hb).set _ _
  · by_cases e : j = k
    · subst e
      rw [if_pos rfl]
      exact ⟨by omega, hr.other (by show g0 ≠ y; omega) _⟩
    · rw [if_neg e]
      have hj' := hnd.rows j (by omega)
      exact ⟨hj'.1, (hj'.2.below hb).other (by show g0 ≠ h j; omega) _⟩
  · have hi : i ≠ k := by omega
    rw [if_neg hi]
    by_cases e : j = k
    · rw [if_pos e]; have := hlt i (by omega); omega
    · rw [if_neg e]; exact hnd.inc i j hij (by omega)

/-- What the loop over the memories keeps. -/
structure Nd2 (c : Ck) (w : World) (D g0 g1 g2 g3 n0 n1 n2 n3 T : Nat) (sN sA sD : Nat → Value) (h : Nat → Nat) (k : Nat) (ha hd : Nat → Nat) (wr : World) : Prop where
  bel : BelW w wr
  top : T ≤ wr.heap.size
  f0 : Fr wr g0 54 (ndC c.nodes h sN c.nodes.length)
  f1 : Fr wr g1 9 (c.names.map Value.string)
  f2 : Fr wr g2 60 (mmC c.mems ha hd sA sD k)
  f3 : Fr wr g3 3 (c.outs.map (Value.int .i64))
  fd : Fr wr D 35 [.slice (some ⟨g0, 0, none⟩) n0 n0, .slice (some ⟨g1, 0, none⟩) n1 n1, .slice (some ⟨g2, 0, none⟩) n2 n2, .slice (some ⟨g3, 0, none⟩) n3 n3]
  fr : Fr wr (w.heap.size + 1) 35 [.slice none 0 0, .slice none 0 0, .slice none 0 0, .slice none 0 0]
  rows : ∀ j, j < c.nodes.length → T ≤ h j ∧ Row wr (h j) (c.nodes.getD j default).ins
  inc : ∀ i j, i < j → j < c.nodes.length → h i < h j
  mrows : ∀ j, j < k → T ≤ ha j ∧ Row wr (ha j) (c.mems.getD j default).addr ∧ ha j < hd j ∧ Row wr (hd j) (c.mems.getD j default).data
  nm : ∀ i j, i < c.nodes.length → j < k → h i < ha j
  ml : ∀ i j, i < j → j < k → hd i < ha j
theorem Nd2.step {c : Ck} {w : World} {D g0 g1 g2 g3 n0 n1 n2 n3 T : Nat} {sN sA sD : Nat → Value} {h : Nat → Nat} {k : Nat} {ha hd : Nat → Nat} {wr w2 : World} (hnd : Nd2 c w D g0 g1 g2 g3 n0 n1 n2 n3 T sN sA sD h k ha hd wr)
    (hk : k < c.mems.length) (hb : BelW wr w2) {y z : Nat} (hy : wr.heap.size ≤ y) (hyz : y < z) (hr : Row w2 y (c.mems.getD k default).addr) (hs : Row w2 z (c.mems.getD k default).data)
    (h0 : w.heap.size + 1 < g0) (h1 : g0 < g1) (h2 : g1 < g2) (h3 : g2 < g3) (h4 : g3 < T) (hD : D ≠ g2) :
    Nd2 c w D g0 g1 g2 g3 n0 n1 n2 n3 T sN sA sD h (k + 1) (fun i => if i = k then y else ha i) (fun i => if i = k then z else hd i) ((w2.setCell ⟨g2, k * 3, none⟩ (.slice (some ⟨y, 0, none⟩) (c.mems.getD k default).addr.length (c.mems.getD k default).addr.length)).setCell ⟨g2, k * 3 + 1, none⟩ (.slice (some ⟨z, 0, none⟩) (c.mems.getD k default).data.length (c.mems.getD k default).data.length)) := by
  have ht := hnd.top
  have hlt : ∀ j, j < c.nodes.length → h j < wr.heap.size := fun j hj => (hnd.rows j hj).2.lt
  have hlm : ∀ j, j < k → hd j < wr.heap.size := fun j hj => (hnd.mrows j hj).2.2.2.lt
  have fo : ∀ {g : Nat} {t : TypeId} {cs : List Value} {p q : Nat} {u v : Value}, g ≠ g2 → Fr wr g t cs → Fr ((w2.setCell ⟨g2, p, none⟩ u).setCell ⟨g2, q, none⟩ v) g t cs := fun hne hf => ((Fr.below hf hb).other (fun e => hne e.symm) _).other (fun e => hne e.symm) _
  have ro : ∀ {g : Nat} {l : List Int} {p q : Nat} {u v : Value}, g ≠ g2 → Row w2 g l → Row ((w2.setCell ⟨g2, p, none⟩ u).setCell ⟨g2, q, none⟩ v) g l := fun hne hf => (hf.other (fun e => hne e.symm) _).other (fun e => hne e.symm) _
  refine ⟨((hnd.bel.trans hb).set (by show w.heap.size ≤ g2; omega) _).set (by show w.heap.size ≤ g2; omega) _, ?_, fo (by omega) hnd.f0, fo (by omega) hnd.f1, ?_, fo (by omega) hnd.f3, fo hD hnd.fd, fo (by omega) hnd.fr, fun j hj => ?_, hnd.inc, fun j hj => ?_, fun i j hi hj => ?_, fun i j hij hj => ?_⟩
  · have := hb.size
    simp only [World.size_setCell]; omega
  · rw [← mmC_set hk]
    exact ((Fr.below hnd.f2 hb).set _ _).set _ _
  · have hj' := hnd.rows j hj
    exact ⟨hj'.1, ro (by omega) (hj'.2.below hb)⟩
  · by_cases e : j = k
    · subst e
      rw [if_pos rfl, if_pos rfl]
      exact ⟨by omega, ro (by omega) hr, hyz, ro (by omega) hs⟩
    · rw [if_neg e, if_neg e]
      obtain ⟨q1, q2, q3, q4⟩ := hnd.mrows j (by omega)
      exact ⟨q1, ro (by omega) (q2.below hb), q3, ro (by omega) (q4.below hb)⟩
  · by_cases e : j = k
    · rw [if_pos e]; have := hlt i hi; omega
    · rw [if_neg e]; exact hnd.nm i j hi (by omega)
  · have hi : i ≠ k := by omega
    rw [if_neg hi]
    by_cases e : j = k
    · rw [if_pos e]; have := hlm i (by omega); omega
    · rw [if_neg e]; exact hnd.ml i j hij (by omega)

end Go.Proofs.YtfcdhoaccmckoaaGreatDoor

namespace Go.Proofs.YtfcdhoaccmckoaaGreatDoor
open Go.RowKit

/-- What fits in the slices. -/
structure Fit (x : Ck) : Prop where
  n : x.nodes.length ≤ maxLen
  s : x.names.length ≤ maxLen
  m : x.mems.length ≤ maxLen
  o : x.outs.length ≤ maxLen
  k : ∀ i, i < x.nodes.length → 0 ≤ (x.nodes.getD i default).kind ∧ (x.nodes.getD i default).kind ≤ 255 ∧ (x.nodes.getD i default).ins.length ≤ maxLen
  t : ∀ i, i < x.names.length → (x.names.getD i ByteArray.empty).size ≤ maxLen
  a : ∀ i, i < x.mems.length → (x.mems.getD i default).addr.length ≤ maxLen ∧ (x.mems.getD i default).data.length ≤ maxLen
theorem Arr.len {α : Type} {d : α} {sz : Nat} {R : World → Nat → Nat → Nat → α → Prop} {w : World} {B : Nat} {v : Value} {l : List α} (h : Arr d sz R w B v l) : l.length ≤ maxLen := by
  obtain ⟨_, _, _, _, -, -, -, h4, -⟩ := h
  exact h4
theorem Cir.fit {w : World} {B : Nat} {v : Value} {x : Ck} (h : Cir w B v x) : Fit x := by
  obtain ⟨v0, v1, v2, v3, -, h1, h2, h3, h4⟩ := h
  refine ⟨Arr.len h1, Arr.len h2, Arr.len h3, Arr.len h4, fun i hi => ?_, fun i hi => ?_, fun i hi => ?_⟩
  · obtain ⟨A, b, o, c, -, -, -, -, hc⟩ := h1
    obtain ⟨-, s, -, -, -, -, hi', hk⟩ := hc i hi
    exact ⟨hk.1, hk.2, Arr.len hi'⟩
  · obtain ⟨A, b, o, c, -, -, -, -, hc⟩ := h2
    exact (hc i hi).2.2
  · obtain ⟨A, b, o, c, -, -, -, -, hc⟩ := h3
    obtain ⟨-, s, t, -, -, -, ha, hd⟩ := hc i hi
    exact ⟨Arr.len ha, Arr.len hd⟩
theorem Row.is {w : World} {g : Nat} {l : List Int} (h : Row w g l) (hm : l.length ≤ maxLen) : Is w w.heap.size (.slice (some ⟨g, 0, none⟩) l.length l.length) l :=
  ⟨_, g, 0, _, rfl, fun _ => rfl, Nat.le_refl _, hm, fun k hk => ⟨h.lt, by
    show World.cell? _ _ = _
    rw [Nat.zero_add, Nat.mul_one, h.cell hk]
    rfl⟩⟩
/-- The value of the circuit in these blocks. -/
def ownV (x : Ck) (g0 g1 g2 g3 : Nat) : Value :=
  .agg #[.slice (some ⟨g0, 0, none⟩) x.nodes.length x.nodes.length, .slice (some ⟨g1, 0, none⟩) x.names.length x.names.length, .slice (some ⟨g2, 0, none⟩) x.mems.length x.mems.length, .slice (some ⟨g3, 0, none⟩) x.outs.length x.outs.length]
section
variable {x : Ck} {G g0 g1 g2 g3 : Nat} {h ha hd : Nat → Nat} {w w' : World}
theorem OwnC.cir (H : OwnC x G g0 g1 g2 g3 h ha hd w) (F : Fit x) : Cir w w.heap.size (ownV x g0 g1 g2 g3) x := by
  refine ⟨_, _, _, _, rfl, ?_, ?_, ?_, H.f3.is F.o⟩
  · refine ⟨_, g0, 0, _, rfl, fun _ => rfl, Nat.le_refl _, F.n, fun k hk => ⟨H.f0.lt, ?_⟩⟩
    obtain ⟨k1, k2, k3⟩ := F.k k hk
    refine ⟨_, ?_, ?_, ?_, ?_, (H.rn k hk).2.is k3, k1, k2⟩
    · rw [Nat.zero_add, H.f0.cell, ndC_get (by omega), ndF_0]
    · rw [Nat.zero_add, H.f0.cell, ndC_get (by omega), ndF_1, if_pos hk]
    · rw [Nat.zero_add, H.f0.cell, ndC_get (by omega), ndF_2]
    · rw [Nat.zero_add, H.f0.cell, ndC_get (by omega), ndF_3]
  · refine ⟨_, g1, 0, _, rfl, fun _ => rfl, Nat.le_refl _, F.s, fun k hk => ⟨H.f1.lt, ?_, F.t k hk⟩⟩
    rw [Nat.zero_add, Nat.mul_one, H.f1.cell]
    simp [hk, List.getD_eq_getElem?_getD]
  · refine ⟨_, g2, 0, _, rfl, fun _ => rfl, Nat.le_refl _, F.m, fun k hk => ⟨H.f2.lt, ?_⟩⟩
    obtain ⟨k1, k2⟩ := F.a k hk
    obtain ⟨-, r1, -, r2⟩ := H.rm k hk
    refine ⟨_, _, ?_, ?_, ?_, r1.is k1, r2.is k2⟩
    · rw [Nat.zero_add, H.f2.cell, mmC_get (by omega), mmF_0, if_pos hk]
    · rw [Nat.zero_add, H.f2.cell, mmC_get (by omega), mmF_1, if_pos hk]
    · rw [Nat.zero_add, H.f2.cell, mmC_get (by omega), mmF_2]
theorem OwnC.below (H : OwnC x G g0 g1 g2 g3 h ha hd w) (hb : Below w.heap.size w w') : OwnC x G g0 g1 g2 g3 h ha hd w' :=
  ⟨H.low, H.f0.below hb, H.f1.below hb, H.f2.below hb, H.f3.below hb, fun k hk => ⟨(H.rn k hk).1, (H.rn k hk).2.below hb⟩,
    fun k hk => ⟨(H.rm k hk).1, (H.rm k hk).2.1.below hb, (H.rm k hk).2.2.1, (H.rm k hk).2.2.2.below hb⟩, H.nn, H.nm, H.mm, H.ml⟩
theorem getD_set {α : Type} (l : List α) (k i : Nat) (a d : α) (hk : k < l.length) : (l.set k a).getD i d = if i = k then a else l.getD i d := by
  rw [List.getD_eq_getElem?_getD, List.getD_eq_getElem?_getD, List.getElem?_set]
  by_cases e : k = i
  · subst e; simp [hk]
  · rw [if_neg e, if_neg (fun q => e q.symm)]
theorem ndC_ins (l : List Nd) (k : Nat) (hk : k < l.length) (li : List Int) (hl : li.length = (l.getD k default).ins.length) (o : Nat → Value) :
    ndC (l.set k { l.getD k default with ins := li }) h o (l.set k { l.getD k default with ins := li }).length = ndC l h o l.length := by
  apply List.ext_getElem?
  intro j
  by_cases hj : j < l.length * 4
  · rw [ndC_get (by rw [List.length_set]; exact hj), ndC_get hj, List.length_set]
    unfold ndF
    rw [getD_set _ _ _ _ _ hk]
    by_cases e : j / 4 = k
    · rw [if_pos e, e]
      simp only [hl]
    · rw [if_neg e]
  · rw [List.getElem?_eq_none (by simp [ndC_len]; omega), List.getElem?_eq_none (by simp [ndC_len]; omega)]
theorem ndC_kind (l : List Nd) (k : Nat) (hk : k < l.length) (v : Int) (o : Nat → Value) :
    ndC (l.set k { l.getD k default with kind := v }) h o (l.set k { l.getD k default with kind := v }).length = (ndC l h o l.length).set (k * 4) (.int .u8 v) := by
  apply List.ext_getElem?
  intro j
  rw [List.getElem?_set]
  by_cases hj : j < l.length * 4
  · rw [ndC_get (by rw [List.length_set]; exact hj), ndC_get hj, List.length_set]
    by_cases e0 : k * 4 = j
    · subst e0
      rw [if_pos rfl, if_pos (by simp [ndC_len]; omega), ndF_0, getD_set _ _ _ _ _ hk, if_pos rfl]
    · rw [if_neg e0]
      unfold ndF
      rw [getD_set _ _ _ _ _ hk]
      by_cases e : j / 4 = k
      · have h00 : ¬ j % 4 = 0 := by omega
        rw [if_pos e, e, if_neg h00, if_neg h00]
      · rw [if_neg e]
  · rw [List.getElem?_eq_none (by simp [ndC_len]; omega), List.getElem?_eq_none (by simp [ndC_len]; omega), if_neg (by omega)]
theorem OwnC.ins (H : OwnC x G g0 g1 g2 g3 h ha hd w) {k : Nat} (hk : k < x.nodes.length) (j : Nat) (v : Int) :
    OwnC { x with nodes := x.nodes.set k { x.nodes.getD k default with ins := (x.nodes.getD k default).ins.set j v } } G g0 g1 g2 g3 h ha hd (w.setCell ⟨h k, j, none⟩ (.int .i64 v)) := by
  have hg := grown_set w (h k) j (.int .i64 v)
  have hgk := (H.rn k hk).1
  have hl := H.low
  refine ⟨H.low, ?_, H.f1.kept hg (by simp; omega), H.f2.kept hg (by simp; omega), H.f3.kept hg (by simp; omega), ?_, ?_, ?_, ?_, H.mm, H.ml⟩
  · show Fr _ _ _ (ndC _ _ _ _)
    rw [ndC_ins _ _ hk _ (by simp)]
    exact H.f0.kept hg (by simp; omega)
  · intro i hi
    have hi' : i < x.nodes.length := by simpa using hi
    refine ⟨(H.rn i hi').1, ?_⟩
    show Row _ _ ((x.nodes.set k _).getD i default).ins
    rw [getD_set _ _ _ _ _ hk]
    by_cases e : i = k
    · subst e
      rw [if_pos rfl]
      exact (H.rn i hi').2.set j v
    · rw [if_neg e]
      refine (H.rn i hi').2.kept hg ?_
      have : h i ≠ h k := by
        rcases Nat.lt_or_gt_of_ne e with q | q
        · have := H.nn i k q hk; omega
        · have := H.nn k i q hi'; omega
      simpa using this
  · intro i hi
    obtain ⟨r1, r2, r3, r4⟩ := H.rm i hi
    have n1 := H.nm k i hk hi
    have n2 := H.mm i hi
    exact ⟨r1, r2.kept hg (by simp; omega), r3, r4.kept hg (by simp; omega)⟩
  · intro i j' hij hj'
    exact H.nn i j' hij (by simpa using hj')
  · intro i j' hi hj'
    exact H.nm i j' (by simpa using hi) hj'
theorem OwnC.kind (H : OwnC x G g0 g1 g2 g3 h ha hd w) {k : Nat} (hk : k < x.nodes.length) (v : Int) :
    OwnC { x with nodes := x.nodes.set k { x.nodes.getD k default with kind := v } } G g0 g1 g2 g3 h ha hd (w.setCell ⟨g0, k * 4, none⟩ (.int .u8 v)) := by
  have hg := grown_set w g0 (k * 4) (.int .u8 v)
  have hl := H.low
  refine ⟨H.low, ?_, H.f1.kept hg (by simp; omega), H.f2.kept hg (by simp; omega), H.f3.kept hg (by simp; omega), ?_, ?_, ?_, ?_, H.mm, H.ml⟩
  · show Fr _ _ _ (ndC _ _ _ _)
    rw [ndC_kind _ _ hk]
    exact H.f0.set _ _
  · intro i hi
    have hi' : i < x.nodes.length := by simpa using hi
    have hh := (H.rn i hi').1
    refine ⟨hh, ?_⟩
    show Row _ _ ((x.nodes.set k _).getD i default).ins
    have e2 : ((x.nodes.set k { x.nodes.getD k default with kind := v }).getD i default).ins = (x.nodes.getD i default).ins := by
      rw [getD_set _ _ _ _ _ hk]
      by_cases e : i = k
      · rw [if_pos e, e]
      · rw [if_neg e]
    rw [e2]
    exact (H.rn i hi').2.kept hg (by simp; omega)
  · intro i hi
    obtain ⟨r1, r2, r3, r4⟩ := H.rm i hi
    exact ⟨r1, r2.kept hg (by simp; omega), r3, r4.kept hg (by simp; omega)⟩
  · intro i j' hij hj'
    exact H.nn i j' hij (by simpa using hj')
  · intro i j' hi hj'
    exact H.nm i j' (by simpa using hi) hj'
theorem OwnC.name (H : OwnC x G g0 g1 g2 g3 h ha hd w) (k : Nat) (s : ByteArray) :
    OwnC { x with names := x.names.set k s } G g0 g1 g2 g3 h ha hd (w.setCell ⟨g1, k, none⟩ (.string s)) := by
  have hg := grown_set w g1 k (.string s)
  have hl := H.low
  refine ⟨H.low, H.f0.kept hg (by simp; omega), ?_, H.f2.kept hg (by simp; omega), H.f3.kept hg (by simp; omega), ?_, ?_, H.nn, H.nm, H.mm, H.ml⟩
  · show Fr _ _ _ ((x.names.set k s).map Value.string)
    rw [List.map_set]
    exact H.f1.set _ _
  · intro i hi
    have hh := (H.rn i hi).1
    exact ⟨hh, (H.rn i hi).2.kept hg (by simp; omega)⟩
  · intro i hi
    obtain ⟨r1, r2, r3, r4⟩ := H.rm i hi
    exact ⟨r1, r2.kept hg (by simp; omega), r3, r4.kept hg (by simp; omega)⟩
end

end Go.Proofs.YtfcdhoaccmckoaaGreatDoor
