/- The texts Rd9 Sro. -/
import Derived.Test.YtcaikkfcjeojiaaDoorM25
import Derived.Test.YtcaikkfcjeojiaaDoorM26
import Derived.Test.YtcaikkfcjeojiaaDoorCards
import Derived.Test.YtcaikkfcjeojiaaDoorTie
import Derived.ProofKit
import Derived.OpenShut
import Derived.Deep.DeepHandedRow
import Derived.Lib.LaidTab
import Derived.Lib.SmallJoins
import Derived.MakeChecks
import Derived.Test.YtcaikkfcjeojiaaDoorM22
import Derived.Test.YtcaikkfcjeojiaaDoorM17
namespace Go.Proofs.YtcaikkfcjeojiaaDoor
open Go.ChangeShapes Go.WideShapes Go.ChangeAt Go.RowKit

theorem ch_g : Tryd.prog.globalNamed "probecard/logic.characters" = some 0 := by kernel_rfl
theorem ch_t : (Tryd.prog.globals[0]?).map (·.type) = some 60 := by kernel_rfl
theorem ch_c : Tryd.prog.cellsOf 60 = 4 := by kernel_rfl
theorem ch_b : Tryd.prog.cellsOf 5 = 1 := by kernel_rfl
/-- WHAT THE LISTED VARIABLE GIVES THE WALKS. -/
theorem chtabs_of {W : World} (h : laidMetH Tryd.prog [("probecard/logic.characters", Rows.laid_probecard_logic_characters)] W) : Ch.Cht W := by
  rw [MakeChecks.laidMetH_plain _ _ _ (by kernel_rfl)] at h
  obtain ⟨ps, ⟨g1, t1, cs1, f1, p1, q1, hg1, ht1, hv1, hd1, -, -⟩, -, -⟩ := h
  obtain rfl := Option.some.inj (ch_g.symm.trans hg1)
  obtain rfl := Option.some.inj (ch_t.symm.trans ht1)
  have hc : cs1.toList = charsL.map fun z => Value.int .u8 z := Lib.cells_of_tab (zs := charsL) Tryd.underlying60 Tryd.underlying5 ch_b ch_c hd1
  intro k hk
  rw [World.var?_cell ch_g hv1 k, ← Array.getElem?_toList, hc, List.getElem?_map, List.getD_eq_getElem?_getD, List.getElem?_eq_getElem (show k < charsL.length from hk)]
  rfl
/-- A START: the settled world, the table as its initialiser lays it. -/
noncomputable def chtabWorld (os : Os) : World :=
  { World.holding Tryd.prog os ⟨#[], #[], []⟩ with heap := (World.holding Tryd.prog os ⟨#[], #[], []⟩).heap.modify 0 (relay (charsL.map (Value.int .u8)).toArray) }
end Go.Proofs.YtcaikkfcjeojiaaDoor

namespace Go.Proofs.YtcaikkfcjeojiaaDoor
open Go.RowKit

/-- Block D is a row of m slices, the first k of which are own words f, each in a block behind D and behind that of the one before it, below T. -/
def SRow (w : World) (D : Nat) (f : Nat → List Int) (m k T : Nat) : Prop :=
  ∃ (vs : List Value) (gf : Nat → Nat), Fr w D 23 vs ∧ vs.length = m ∧ (∀ j, j < k → vs[j]? = some (.slice (some ⟨gf j, 0, none⟩) (f j).length (f j).length) ∧ VRow w (gf j) (f j) ∧ D < gf j ∧ gf j < T) ∧ ∀ i j, i < j → j < k → gf i < gf j
section
variable {w w' : World} {D m k T T' : Nat} {f : Nat → List Int}
theorem SRow.lt (h : SRow w D f m k T) : D < w.heap.size := by obtain ⟨vs, gf, h1, -⟩ := h; exact h1.lt
theorem SRow.below (h : SRow w D f m k T) (hb : BelW w w') : SRow w' D f m k T := by
  obtain ⟨vs, gf, h1, h2, h3, h4⟩ := h
  exact ⟨vs, gf, h1.below hb, h2, fun j hj => by
    obtain ⟨e, v, n⟩ := h3 j hj
    exact ⟨e, v.below hb, n⟩, h4⟩
theorem SRow.frozen (h : SRow w D f m k T) (j : Nat) : w.frozen? ⟨D, j, none⟩ = false := by obtain ⟨vs, gf, h1, -⟩ := h; exact h1.frozen j
theorem SRow.there (h : SRow w D f m k T) {j : Nat} (hj : j < m) : ∃ u, w.cell? ⟨D, j, none⟩ = some u := by
  obtain ⟨vs, gf, h1, h2, -⟩ := h
  exact ⟨vs[j], by rw [h1.cell, List.getElem?_eq_getElem (by omega)]⟩
theorem SRow.at (h : SRow w D f m k T) {j : Nat} (hj : j < k) : ∃ g, w.cell? ⟨D, j, none⟩ = some (.slice (some ⟨g, 0, none⟩) (f j).length (f j).length) ∧ VRow w g (f j) ∧ g ≠ D := by
  obtain ⟨vs, gf, h1, h2, h3, -⟩ := h
  obtain ⟨e, v, n, -⟩ := h3 j hj
  exact ⟨gf j, by rw [h1.cell, e], v, Nat.ne_of_gt n⟩
/-- The blocks of the words, by name. -/
theorem SRow.open (h : SRow w D f m k T) : ∃ gf : Nat → Nat, (∀ j, j < k → w.cell? ⟨D, j, none⟩ = some (.slice (some ⟨gf j, 0, none⟩) (f j).length (f j).length) ∧ VRow w (gf j) (f j) ∧ D < gf j) ∧ ∀ i j, i < j → j < k → gf i < gf j := by
  obtain ⟨vs, gf, h1, h2, h3, h4⟩ := h
  exact ⟨gf, fun j hj => by
    obtain ⟨e, v, n, -⟩ := h3 j hj
    exact ⟨by rw [h1.cell, e], v, n⟩, h4⟩
/-- The next word is laid. -/
theorem SRow.step (h : SRow w D f m k T) (hT : T ≤ T') (hk : k < m) {g : Nat} (v : VRow w g (f k)) (n : D < g) (hg : g < T') (hg0 : T ≤ g) : SRow (w.setCell ⟨D, k, none⟩ (.slice (some ⟨g, 0, none⟩) (f k).length (f k).length)) D f m (k + 1) T' := by
  obtain ⟨vs, gf, h1, h2, h3, h4⟩ := h
  refine ⟨vs.set k (.slice (some ⟨g, 0, none⟩) (f k).length (f k).length), fun j => if j = k then g else gf j, h1.set _ _, by rw [List.length_set]; exact h2, fun j hj => ?_, fun i j hij hj => ?_⟩
  · by_cases e : j = k
    · subst e
      simp only [if_true]
      exact ⟨by rw [List.getElem?_set]; simp [h2, hk], v.other (a := ⟨D, _, none⟩) (Nat.ne_of_lt n) _, n, hg⟩
    · obtain ⟨e', v', n', t'⟩ := h3 j (by omega)
      simp only [if_neg e]
      exact ⟨by rw [List.getElem?_set, if_neg (by omega)]; exact e', v'.other (a := ⟨D, _, none⟩) (Nat.ne_of_lt n') _, n', Nat.lt_of_lt_of_le t' hT⟩
  · show (if i = k then g else gf i) < if j = k then g else gf j
    rw [if_neg (by omega : ¬ i = k)]
    by_cases e : j = k
    · rw [if_pos e]
      have := (h3 i (by omega)).2.2.2
      omega
    · rw [if_neg e]; exact h4 i j hij (by omega)
/-- A cell that is not counted yet is written. -/
theorem SRow.put (h : SRow w D f m k T) (x : Value) : SRow (w.setCell ⟨D, k, none⟩ x) D f m k T := by
  obtain ⟨vs, gf, h1, h2, h3, h4⟩ := h
  refine ⟨vs.set k x, gf, h1.set _ _, by rw [List.length_set]; exact h2, fun j hj => ?_, h4⟩
  obtain ⟨e', v', n', t'⟩ := h3 j hj
  exact ⟨by rw [List.getElem?_set, if_neg (by omega)]; exact e', v'.other (a := ⟨D, _, none⟩) (Nat.ne_of_lt n') _, n', t'⟩
/-- A row that is none of its words is turned. -/
theorem SRow.grown (h : SRow w D f m k T) {g : Nat} (hg : w.grownBy w' (some g)) (hT : T ≤ g) (hD : D ≠ g) : SRow w' D f m k T := by
  obtain ⟨vs, gf, h1, h2, h3, h4⟩ := h
  have hlt := h1.lt
  refine ⟨vs, gf, ?_, h2, fun j hj => ?_, h4⟩
  · unfold Fr at h1 ⊢
    rw [hg.block D hlt (fun e => hD (Option.some.inj e))]; exact h1
  · obtain ⟨e', v', n', t'⟩ := h3 j hj
    exact ⟨e', v'.kept hg (fun e => by have := Option.some.inj e; omega), n', t'⟩
/-- The word that stands in a cell is counted. -/
theorem SRow.count (h : SRow w D f m k T) (hT : T ≤ T') {g : Nat} (hc : w.cell? ⟨D, k, none⟩ = some (.slice (some ⟨g, 0, none⟩) (f k).length (f k).length)) (v : VRow w g (f k)) (n : D < g) (hg : g < T') (hg0 : T ≤ g) : SRow w D f m (k + 1) T' := by
  obtain ⟨vs, gf, h1, h2, h3, h4⟩ := h
  refine ⟨vs, fun j => if j = k then g else gf j, h1, h2, fun j hj => ?_, fun i j hij hj => ?_⟩
  · by_cases e : j = k
    · subst e
      simp only [if_true]
      exact ⟨by rw [← h1.cell]; exact hc, v, n, hg⟩
    · obtain ⟨e', v', n', t'⟩ := h3 j (by omega)
      simp only [if_neg e]
      exact ⟨e', v', n', Nat.lt_of_lt_of_le t' hT⟩
  · show (if i = k then g else gf i) < if j = k then g else gf j
    rw [if_neg (by omega : ¬ i = k)]
    by_cases e : j = k
    · rw [if_pos e]
      have := (h3 i (by omega)).2.2.2
      omega
    · rw [if_neg e]; exact h4 i j hij (by omega)
theorem SRow.of {B : Nat} (h : w.ownsRow B 23 1 (.slice (some ⟨D, 0, none⟩) m m) m (List.replicate m (.slice none 0 0))) : SRow w D f m 0 T := by
  rcases h.2 with ⟨e, -⟩ | ⟨g', cap, cur, e, hb', hg', hle, hmx, hs', ht'⟩
  · cases e
  · simp only [Value.slice.injEq, Option.some.injEq, Addr.mk.injEq] at e
    obtain ⟨⟨rfl, -⟩, -, rfl⟩ := e
    refine ⟨List.replicate m (.slice none 0 0), fun _ => 0, ?_, by simp, fun j hj => absurd hj (by omega), fun i j _ hj => absurd hj (by omega)⟩
    unfold Fr
    rw [hg']
    have e : cur.toList = List.replicate m (.slice none 0 0) := by rw [← ht', List.take_of_length_le (by simp [hs'])]
    rw [← e, Array.toArray_toList]
end
end Go.Proofs.YtcaikkfcjeojiaaDoor
