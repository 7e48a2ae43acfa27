/- The texts Smt. -/
import Derived.Test.YtcaikkfcjeojiaaDoorM18
import Derived.Deep.AppendLies
namespace Go.Proofs.YtcaikkfcjeojiaaDoor
open Go.RowKit

/-- A row of values of the call's own, with any capacity. -/
def VStk (w : World) (base : Nat) (v : Value) (l : List Int) : Prop := w.ownsRow base 24 1 v l.length (l.map (Value.int .u8))
section
variable {w w' : World} {base : Nat} {v : Value} {l : List Int}
theorem VStk.nil (w : World) (base : Nat) : VStk w base (.slice none 0 0) [] := World.ownsRow_nil w base _ _
theorem VStk.kept {row : Option Nat} (h : VStk w base v l) (hg : w.grownBy w' row) (hne : ∀ q, row = some q → q < base) : VStk w' base v l := by
  refine World.ownsRow.kept h hg ?_
  rcases ho : v.ownBlock with _ | q
  · exact .inl rfl
  · refine .inr fun e => ?_
    have h1 := (World.ownsRow.lt h q ho).1
    have h2 := hne q e.symm
    omega
theorem VStk.below (h : VStk w base v l) (hb : Below w.heap.size w w') : VStk w' base v l :=
  h.kept (row := none) ⟨hb.os, hb.tape, hb.output, hb.size, fun i hi _ => hb.block i hi⟩ (by simp)
theorem VStk.form (h : VStk w base v l) : ∃ A c, v = .slice A l.length c ∧ l.length ≤ c ∧ c ≤ maxLen ∧ (0 < l.length → ∃ q, A = some ⟨q, 0, none⟩ ∧ base ≤ q ∧ q < w.heap.size) := by
  have hlt := World.ownsRow.lt h
  rcases h.2 with ⟨rfl, hn⟩ | ⟨g, cap, cur, rfl, hb, hg, hle, hm, -⟩
  · exact ⟨none, 0, by rw [hn], by omega, by simp, fun h => by omega⟩
  · exact ⟨_, cap, rfl, hle, hm, fun _ => ⟨g, rfl, hb, (hlt g rfl).2⟩⟩
theorem VStk.cell {q c : Nat} (h : VStk w base (.slice (some ⟨q, 0, none⟩) l.length c) l) {j : Nat} (hj : j < l.length) : w.cell? ⟨q, j, none⟩ = some (.int .u8 (l.getD j 0)) := by
  rw [World.ownsRow.cellAt h j (by omega), List.getElem?_map, List.getElem?_eq_getElem hj]
  simp [List.getD_eq_getElem?_getD, List.getElem?_eq_getElem hj]
theorem VStk.ks (h : VStk w base v l) : Ks w w.heap.size v l := by
  obtain ⟨A, c, rfl, hle, hm, hq⟩ := h.form
  by_cases h0 : 0 < l.length
  · obtain ⟨q, rfl, -, hlt⟩ := hq h0
    refine ⟨_, q, 0, c, rfl, fun _ => rfl, hle, Nat.le_trans hle hm, fun j hj => ⟨hlt, ?_⟩⟩
    show World.cell? _ _ = _
    rw [Nat.zero_add, Nat.mul_one]
    exact h.cell hj
  · exact ⟨A, 0, 0, c, rfl, fun h => absurd h h0, hle, Nat.le_trans hle hm, fun j hj => absurd hj (by omega)⟩
theorem vpush {wo w1 : World} {g : Nat} {sv v' : Value} {st : List Int} {x : Int} {o : Obj} (hg : g ≤ wo.heap.size) (hb : Below g w wo) (hstk : VStk wo g sv st)
    (hown : w1.ownsRow g 24 1 v' (st.length + 1) (st.map (Value.int .u8) ++ [.int .u8 x])) (hgr : (wo.alloc o).grownBy w1 sv.ownBlock) : Below g w w1 ∧ VStk w1 g v' (st ++ [x]) := by
  have hq : ∀ q, sv.ownBlock = some q → g ≤ q := fun q h => (World.ownsRow.lt hstk q h).1
  refine ⟨(hb.alloc hg o).grown hgr (by simp; omega) hq, ?_⟩
  unfold VStk
  rw [List.length_append, List.map_append]
  exact hown
end

end Go.Proofs.YtcaikkfcjeojiaaDoor
