/- The texts Wcp Smt Smu Smk Ofp Grt Lsc Ror Ofr. -/
import Derived.Test.YtemogllidmgbfaaDoorM29
import Derived.Test.YtemogllidmgbfaaDoorM31
import Derived.Test.YtemogllidmgbfaaDoorM19
import Derived.Deep.AppendLies
import Derived.Deep.RegionHeld3
import Derived.Test.YtemogllidmgbfaaDoorM09
import Derived.Test.YtemogllidmgbfaaDoorM02
import Derived.Test.YtemogllidmgbfaaDoorM01
import Derived.Test.YtemogllidmgbfaaDoorM30
import Derived.Test.YtemogllidmgbfaaDoorM17
namespace Go.Proofs.YtemogllidmgbfaaDoor

noncomputable def blE (c : Ck) : Int := ckE c (List.replicate (ofTo c.nodes [0] c.nodes.length).length 2) (List.replicate (ofTo c.nodes [14] c.nodes.length).length 2)
noncomputable def foldE (c : Ck) (z : Int) (ps : List (List Int × List Int)) : Int := ps.foldl (fun e x => if e = 0 then ckE c x.1 x.2 else e) z
/-- The error of a circuit and up to 64 patterns. -/
noncomputable def wkE (c : Ck) (ps : List (List Int × List Int)) : Int := if 64 < ps.length then 3 else foldE c (blE c) ps
theorem rep_low (n : Nat) : anyP abv (List.replicate n 2) = false := anyP_no fun j hj => by
  rw [List.getD_eq_getElem?_getD, List.getElem?_replicate]
  split <;> decide
theorem blE_of {c : Ck} (h : chkErr c = 0) (hm : c.mems.length = 0) : blE c = 0 := by
  unfold blE
  rw [ckE_val h hm (by simp) (by simp), rep_low, rep_low]
  rfl
theorem blE_zero {c : Ck} (h : blE c = 0) : chkErr c = 0 ∧ c.mems.length = 0 := by
  by_cases h1 : chkErr c = 0
  · refine ⟨h1, ?_⟩
    by_cases h2 : c.mems.length = 0
    · exact h2
    · unfold blE at h; rw [ckE_mem h1 h2] at h; cases h
  · unfold blE at h; rw [ckE_bad h1] at h; exact absurd h h1
theorem mis_zero {c : Ck} (h : chkErr c = 0) (hm : c.mems.length = 0) (x : List Int × List Int) :
    misB x (ofTo c.nodes [0] c.nodes.length).length (ofTo c.nodes [14] c.nodes.length).length = false ↔ ckE c x.1 x.2 = 0 := by
  unfold misB fitB
  by_cases h1 : x.1.length = (ofTo c.nodes [0] c.nodes.length).length
  · by_cases h2 : x.2.length = (ofTo c.nodes [14] c.nodes.length).length
    · rw [ckE_val h hm h1 h2, decide_eq_true h1, decide_eq_true h2]
      cases anyP abv x.1 <;> cases anyP abv x.2 <;> decide
    · rw [ckE_wide h hm (.inr h2), decide_eq_false h2]
      simp
  · rw [ckE_wide h hm (.inl h1), decide_eq_false h1]
    simp
theorem foldE_nz {c : Ck} {z : Int} (hz : z ≠ 0) : ∀ ps, foldE c z ps = z
  | [] => rfl
  | x :: ps => by
    show foldE c (if z = 0 then ckE c x.1 x.2 else z) ps = z
    rw [if_neg hz]
    exact foldE_nz hz ps
theorem foldE_zero {c : Ck} : ∀ {ps : List (List Int × List Int)}, (∀ k, k < ps.length → ckE c (ps.getD k ([], [])).1 (ps.getD k ([], [])).2 = 0) → foldE c 0 ps = 0
  | [], _ => rfl
  | x :: ps, h => by
    show foldE c (if (0 : Int) = 0 then ckE c x.1 x.2 else 0) ps = 0
    have h0 : ckE c x.1 x.2 = 0 := h 0 (by simp)
    rw [if_pos rfl, h0]
    exact foldE_zero fun k hk => h (k + 1) (by simpa using hk)
theorem foldE_first {c : Ck} : ∀ {ps : List (List Int × List Int)} {k : Nat}, k < ps.length → ckE c (ps.getD k ([], [])).1 (ps.getD k ([], [])).2 ≠ 0 → (∀ j, j < k → ckE c (ps.getD j ([], [])).1 (ps.getD j ([], [])).2 = 0) → foldE c 0 ps = ckE c (ps.getD k ([], [])).1 (ps.getD k ([], [])).2
  | [], k, hk, _, _ => absurd hk (by simp)
  | x :: ps, 0, _, h, _ => by
    show foldE c (if (0 : Int) = 0 then ckE c x.1 x.2 else 0) ps = ckE c x.1 x.2
    rw [if_pos rfl]
    exact foldE_nz h ps
  | x :: ps, k + 1, hk, h, hj => by
    show foldE c (if (0 : Int) = 0 then ckE c x.1 x.2 else 0) ps = ckE c (ps.getD k ([], [])).1 (ps.getD k ([], [])).2
    have h0 : ckE c x.1 x.2 = 0 := hj 0 (by omega)
    rw [if_pos rfl, h0]
    exact foldE_first (by simpa using hk) h fun j hj2 => hj (j + 1) (by omega)
/-- What the search for a pattern that does not fit says of the error. -/
theorem first_fold {c : Ck} (h : chkErr c = 0) (hm : c.mems.length = 0) {ps : List (List Int × List Int)} {i : Int} (hf : FirstBad ps ps.length (ofTo c.nodes [0] c.nodes.length).length (ofTo c.nodes [14] c.nodes.length).length i) :
    (i = -1 ∧ foldE c (blE c) ps = 0) ∨ ∃ k : Nat, k < ps.length ∧ i = (k : Int) ∧ foldE c (blE c) ps = ckE c (ps.getD k ([], [])).1 (ps.getD k ([], [])).2 := by
  rw [blE_of h hm]
  rcases hf with ⟨e, h1⟩ | ⟨k, hk, e, h1, h2⟩
  · exact .inl ⟨e, foldE_zero fun k hk => (mis_zero h hm _).1 (h1 k hk)⟩
  · refine .inr ⟨k, hk, e, foldE_first hk (fun e0 => ?_) fun j hj => (mis_zero h hm _).1 (h2 j hj)⟩
    rw [(mis_zero h hm _).2 e0] at h1
    cases h1
theorem foldE_take {c : Ck} {z : Int} {ps : List (List Int × List Int)} {k : Nat} (hk : k < ps.length) : foldE c z (ps.take (k + 1)) = if foldE c z (ps.take k) = 0 then ckE c (ps.getD k ([], [])).1 (ps.getD k ([], [])).2 else foldE c z (ps.take k) := by
  have e : ps.take (k + 1) = ps.take k ++ [ps.getD k ([], [])] := by
    rw [List.take_add_one, List.getD_eq_getElem?_getD, List.getElem?_eq_getElem hk]; rfl
  unfold foldE
  rw [e, List.foldl_append]
  rfl
theorem foldE_fits {c : Ck} (ps : List (List Int × List Int)) (h : foldE c (blE c) ps = 0) : chkErr c = 0 ∧ c.mems.length = 0 ∧ ∀ k, k < ps.length → ckE c (ps.getD k ([], [])).1 (ps.getD k ([], [])).2 = 0 := by
  have hb : blE c = 0 := by
    by_cases hb : blE c = 0
    · exact hb
    · rw [foldE_nz hb] at h; exact h
  obtain ⟨h1, h2⟩ := blE_zero hb
  refine ⟨h1, h2, ?_⟩
  rw [hb] at h
  suffices ∀ (n : Nat), n ≤ ps.length → ∀ k, k < n → ckE c (ps.getD k ([], [])).1 (ps.getD k ([], [])).2 = 0 from fun k hk => this _ (Nat.le_refl _) k hk
  intro n
  induction n with
  | zero => intro _ k hk; omega
  | succ n ih =>
    intro hn k hk
    by_cases e : k = n
    · subst e
      by_cases h9 : ckE c (ps.getD k ([], [])).1 (ps.getD k ([], [])).2 = 0
      · exact h9
      · rw [foldE_first (by omega) h9 fun j hj => ih (by omega) j hj] at h
        exact h
    · exact ih (by omega) k (by omega)
theorem ckE_fits {c : Ck} {x : List Int × List Int} (hk : chkErr c = 0) (hm : c.mems.length = 0) (hz : ckE c x.1 x.2 = 0) (v1 : ∀ y ∈ x.1, 0 ≤ y) (v2 : ∀ y ∈ x.2, 0 ≤ y) : Fits c x.1 x.2 := by
  have hlow : ∀ {l : List Int}, anyP abv l = false → (∀ y ∈ l, 0 ≤ y) → ∀ y ∈ l, 0 ≤ y ∧ y ≤ 3 := fun {l} h h0 y hy => by
    obtain ⟨k, hk, rfl⟩ := List.mem_iff_getElem.1 hy
    refine ⟨h0 _ hy, ?_⟩
    by_cases h3 : 3 < l[k]
    · have := abv_one (l := l) hk (by rw [List.getD_eq_getElem?_getD, List.getElem?_eq_getElem hk]; exact h3)
      rw [h] at this; cases this
    · omega
  have hw : x.1.length = (ofTo c.nodes [0] c.nodes.length).length ∧ x.2.length = (ofTo c.nodes [14] c.nodes.length).length := by
    by_cases h1 : x.1.length = (ofTo c.nodes [0] c.nodes.length).length
    · by_cases h2 : x.2.length = (ofTo c.nodes [14] c.nodes.length).length
      · exact ⟨h1, h2⟩
      · rw [ckE_wide hk hm (.inr h2)] at hz; cases hz
    · rw [ckE_wide hk hm (.inl h1)] at hz; cases hz
  rw [ckE_val hk hm hw.1 hw.2] at hz
  have hv2 : (anyP abv x.1 || anyP abv x.2) = false := by
    cases h : (anyP abv x.1 || anyP abv x.2)
    · rfl
    · rw [h] at hz; cases hz
  rw [Bool.or_eq_false_iff] at hv2
  exact ⟨hm, hw.1, hw.2, hlow hv2.1 v1, hlow hv2.2 v2⟩
end Go.Proofs.YtemogllidmgbfaaDoor

namespace Go.Proofs.YtemogllidmgbfaaDoor
open Go.RowKit

/-- A row of values of the call's own, with any capacity. -/
def VStk (w : World) (base : Nat) (v : Value) (l : List Int) : Prop := w.ownsRow base 29 1 v l.length (l.map (Value.int .u8))
section
variable {w w' : World} {base : Nat} {v : Value} {l : List Int}
theorem VStk.nil (w : World) (base : Nat) : VStk w base (.slice none 0 0) [] := World.ownsRow_nil w base _ _
theorem VStk.kept {row : Option Nat} (h : VStk w base v l) (hg : w.grownBy w' row) (hne : ∀ q, row = some q → q < base) : VStk w' base v l := by
  refine World.ownsRow.kept h hg ?_
  rcases ho : v.ownBlock with _ | q
  · exact .inl rfl
  · refine .inr fun e => ?_
    have h1 := (World.ownsRow.lt h q ho).1
    have h2 := hne q e.symm
    omega
theorem VStk.below (h : VStk w base v l) (hb : Below w.heap.size w w') : VStk w' base v l :=
  h.kept (row := none) ⟨hb.os, hb.tape, hb.output, hb.size, fun i hi _ => hb.block i hi⟩ (by simp)
theorem VStk.form (h : VStk w base v l) : ∃ A c, v = .slice A l.length c ∧ l.length ≤ c ∧ c ≤ maxLen ∧ (0 < l.length → ∃ q, A = some ⟨q, 0, none⟩ ∧ base ≤ q ∧ q < w.heap.size) := by
  have hlt := World.ownsRow.lt h
  rcases h.2 with ⟨rfl, hn⟩ | ⟨g, cap, cur, rfl, hb, hg, hle, hm, -⟩
  · exact ⟨none, 0, by rw [hn], by omega, by simp, fun h => by omega⟩
  · exact ⟨_, cap, rfl, hle, hm, fun _ => ⟨g, rfl, hb, (hlt g rfl).2⟩⟩
theorem VStk.cell {q c : Nat} (h : VStk w base (.slice (some ⟨q, 0, none⟩) l.length c) l) {j : Nat} (hj : j < l.length) : w.cell? ⟨q, j, none⟩ = some (.int .u8 (l.getD j 0)) := by
  rw [World.ownsRow.cellAt h j (by omega), List.getElem?_map, List.getElem?_eq_getElem hj]
  simp [List.getD_eq_getElem?_getD, List.getElem?_eq_getElem hj]
theorem VStk.ks (h : VStk w base v l) : Ks w w.heap.size v l := by
  obtain ⟨A, c, rfl, hle, hm, hq⟩ := h.form
  by_cases h0 : 0 < l.length
  · obtain ⟨q, rfl, -, hlt⟩ := hq h0
    refine ⟨_, q, 0, c, rfl, fun _ => rfl, hle, Nat.le_trans hle hm, fun j hj => ⟨hlt, ?_⟩⟩
    show World.cell? _ _ = _
    rw [Nat.zero_add, Nat.mul_one]
    exact h.cell hj
  · exact ⟨A, 0, 0, c, rfl, fun h => absurd h h0, hle, Nat.le_trans hle hm, fun j hj => absurd hj (by omega)⟩
theorem vpush {wo w1 : World} {g : Nat} {sv v' : Value} {st : List Int} {x : Int} {o : Obj} (hg : g ≤ wo.heap.size) (hb : Below g w wo) (hstk : VStk wo g sv st)
    (hown : w1.ownsRow g 29 1 v' (st.length + 1) (st.map (Value.int .u8) ++ [.int .u8 x])) (hgr : (wo.alloc o).grownBy w1 sv.ownBlock) : Below g w w1 ∧ VStk w1 g v' (st ++ [x]) := by
  have hq : ∀ q, sv.ownBlock = some q → g ≤ q := fun q h => (World.ownsRow.lt hstk q h).1
  refine ⟨(hb.alloc hg o).grown hgr (by simp; omega) hq, ?_⟩
  unfold VStk
  rw [List.length_append, List.map_append]
  exact hown
end

/-- The law's list of n values out of l. -/
def takV (l : List Int) (most : Int) (i : Nat) : Int := if l.length = 0 then 2 else (l.getD (i % l.length) 0).tmod most
def takL (l : List Int) (most : Int) (n : Nat) : List Int := (List.range n).map (takV l most)
theorem takL_len (l : List Int) (most : Int) (n : Nat) : (takL l most n).length = n := by simp [takL]
theorem takL_succ (l : List Int) (most : Int) (n : Nat) : takL l most (n + 1) = takL l most n ++ [takV l most n] := by simp [takL, List.range_succ]

end Go.Proofs.YtemogllidmgbfaaDoor

namespace Go.Proofs.YtemogllidmgbfaaDoor
open Go.RowKit

/-- A pattern made for the call: its two rows are apart. -/
def PatPost (li ls : List Int) (w : World) (e : Ending) (w' : World) : Prop :=
  ∃ A0 c0 A1 c1, e = .returned (.agg #[.slice A0 li.length c0, .slice A1 ls.length c1]) ∧ VStk w' w.heap.size (.slice A0 li.length c0) li ∧ VStk w' w.heap.size (.slice A1 ls.length c1) ls ∧ (∀ a b, (Value.slice A0 li.length c0).ownBlock = some a → (Value.slice A1 ls.length c1).ownBlock = some b → a ≠ b) ∧ Below w.heap.size w w'
theorem VStk.setS {w : World} {base : Nat} {v : Value} {l : List Int} (h : VStk w base v l) {a : Addr} (ha : a.block < base) (x : Value) : VStk (w.setCell a x) base v l :=
  h.kept (row := some a.block) ⟨rfl, rfl, rfl, by simp [World.setCell], fun i _ hne => Below.heap_setCell _ _ _ _ (fun e => hne (by rw [e]))⟩ (fun q e => by injection e with e; omega)
theorem VStk.low {w : World} {base base' : Nat} {v : Value} {l : List Int} (h : VStk w base v l) (hb : base' ≤ base) : VStk w base' v l := by
  refine ⟨h.1, ?_⟩
  rcases h.2 with h2 | ⟨g, cap, cur, e, hb', h3⟩
  · exact .inl h2
  · exact .inr ⟨g, cap, cur, e, Nat.le_trans hb hb', h3⟩

end Go.Proofs.YtemogllidmgbfaaDoor

namespace Go.Proofs.YtemogllidmgbfaaDoor
open Go.RowKit

/-- The second pattern's list behind k rounds: known values of the first in the place of its own. -/
def mrgTo (l m : List Int) (k : Nat) : List Int := (List.range m.length).map fun i => if i < k ∧ l.getD i 0 ≠ 2 then l.getD i 0 else m.getD i 0
theorem mrgTo_len (l m : List Int) (k : Nat) : (mrgTo l m k).length = m.length := by simp [mrgTo]
theorem mrgTo_get {l m : List Int} {k i : Nat} (hi : i < m.length) : (mrgTo l m k).getD i 0 = if i < k ∧ l.getD i 0 ≠ 2 then l.getD i 0 else m.getD i 0 := by
  simp [mrgTo, List.getD_eq_getElem?_getD, hi]
theorem mrgTo_zero (l m : List Int) : mrgTo l m 0 = m := by
  apply List.ext_getElem?
  intro i
  by_cases hi : i < m.length
  · simp [mrgTo, hi, List.getD_eq_getElem?_getD]
  · rw [List.getElem?_eq_none (by rw [mrgTo_len]; omega), List.getElem?_eq_none (by omega)]
theorem getD_ext {a b : List Int} (hl : a.length = b.length) (h : ∀ i, i < a.length → a.getD i 0 = b.getD i 0) : a = b := by
  apply List.ext_getElem hl
  intro i h1 h2
  have := h i h1
  simpa [List.getD_eq_getElem?_getD, List.getElem?_eq_getElem h1, List.getElem?_eq_getElem h2] using this
theorem getD_setL {a : List Int} {k i : Nat} {x : Int} (hk : k < a.length) : (a.set k x).getD i 0 = if i = k then x else a.getD i 0 := by
  rw [List.getD_eq_getElem?_getD, List.getD_eq_getElem?_getD, List.getElem?_set]
  by_cases h : k = i
  · subst h; simp [hk]
  · rw [if_neg h, if_neg (fun e => h e.symm)]
theorem mrgTo_keep {l m : List Int} {k : Nat} (h : l.getD k 0 = 2) : mrgTo l m (k + 1) = mrgTo l m k := by
  refine getD_ext (by rw [mrgTo_len, mrgTo_len]) fun i hi => ?_
  rw [mrgTo_len] at hi
  rw [mrgTo_get hi, mrgTo_get hi]
  by_cases e : i = k
  · subst e; rw [if_neg (fun h' => h'.2 h), if_neg (by omega)]
  · by_cases h1 : i < k
    · by_cases h2 : l.getD i 0 ≠ 2
      · rw [if_pos ⟨by omega, h2⟩, if_pos ⟨h1, h2⟩]
      · rw [if_neg (fun h' => h2 h'.2), if_neg (fun h' => h2 h'.2)]
    · rw [if_neg (by omega), if_neg (by omega)]
theorem mrgTo_put {l m : List Int} {k : Nat} (hk : k < m.length) (h : l.getD k 0 ≠ 2) : mrgTo l m (k + 1) = (mrgTo l m k).set k (l.getD k 0) := by
  refine getD_ext (by rw [List.length_set, mrgTo_len, mrgTo_len]) fun i hi => ?_
  rw [mrgTo_len] at hi
  rw [getD_setL (by rw [mrgTo_len]; exact hk), mrgTo_get hi]
  by_cases e : i = k
  · subst e; rw [if_pos rfl, if_pos ⟨by omega, h⟩]
  · rw [if_neg e, mrgTo_get hi]
    by_cases h1 : i < k
    · by_cases h2 : l.getD i 0 ≠ 2
      · rw [if_pos ⟨by omega, h2⟩, if_pos ⟨h1, h2⟩]
      · rw [if_neg (fun h' => h2 h'.2), if_neg (fun h' => h2 h'.2)]
    · rw [if_neg (by omega), if_neg (by omega)]
theorem mrg_le {l m : List Int} {k i : Nat} (hi : i < m.length) (hk : i < k) : blw (l.getD i 0) ((mrgTo l m k).getD i 0) = true := by
  rw [mrgTo_get hi]
  by_cases h : l.getD i 0 ≠ 2
  · rw [if_pos ⟨hk, h⟩]; exact Lg.blw_refl _
  · have e : l.getD i 0 = 2 := by omega
    rw [e]; exact Lg.blw_X _
theorem takV_in {l : List Int} {most : Int} (h0 : ∀ x ∈ l, 0 ≤ x ∧ x ≤ 255) (hm : 3 ≤ most) (hm2 : most ≤ 4) (i : Nat) : 0 ≤ takV l most i ∧ takV l most i ≤ 3 := by
  unfold takV
  split
  · omega
  · rename_i hl
    have hmem := h0 (l.getD (i % l.length) 0) (by rw [List.getD_eq_getElem?_getD, List.getElem?_eq_getElem (Nat.mod_lt _ (by omega))]; exact List.getElem_mem _)
    rw [Int.tmod_eq_emod_of_nonneg hmem.1]
    have h1 := Int.emod_nonneg (l.getD (i % l.length) 0) (show most ≠ 0 by omega)
    have h2 := Int.emod_lt_of_pos (l.getD (i % l.length) 0) (show 0 < most by omega)
    omega
theorem takL_in {l : List Int} {most : Int} (h0 : ∀ x ∈ l, 0 ≤ x ∧ x ≤ 255) (hm : 3 ≤ most) (hm2 : most ≤ 4) (n : Nat) : ∀ x ∈ takL l most n, 0 ≤ x ∧ x ≤ 3 := fun x hx => by
  obtain ⟨i, -, rfl⟩ := List.mem_map.1 hx
  exact takV_in h0 hm hm2 i
theorem getD_inL {l : List Int} {i : Nat} (h : i < l.length) : l.getD i 0 ∈ l := by
  rw [List.getD_eq_getElem?_getD, List.getElem?_eq_getElem h]; exact List.getElem_mem h
theorem mrgTo_in {l m : List Int} {k : Nat} (hl : ∀ x ∈ l, 0 ≤ x ∧ x ≤ 3) (hm : ∀ x ∈ m, 0 ≤ x ∧ x ≤ 3) (hlen : l.length = m.length) : ∀ x ∈ mrgTo l m k, 0 ≤ x ∧ x ≤ 3 := fun x hx => by
  obtain ⟨i, hi, rfl⟩ := List.mem_map.1 hx
  have hi' := List.mem_range.1 hi
  show 0 ≤ (if i < k ∧ l.getD i 0 ≠ 2 then l.getD i 0 else m.getD i 0) ∧ _
  split
  · exact hl _ (getD_inL (by omega))
  · exact hm _ (getD_inL hi')

/-- Values, response and next states are below, net by net. -/
theorem resp_le {c : Ck} {n1 n2 : List Int} (hl : n1.length = n2.length) (h : ∀ i : Nat, i < n1.length → blw (lat n1 i) (lat n2 i) = true) :
    (∀ x, blw (valA n1 x) (valA n2 x) = true) ∧ (∀ j, j < (outV c n1).length → blw ((outV c n1).getD j 0) ((outV c n2).getD j 0) = true) ∧ (∀ j, j < (nextV c n1).length → blw ((nextV c n1).getD j 0) ((nextV c n2).getD j 0) = true) := by
  have hv : ∀ x, blw (valA n1 x) (valA n2 x) = true := fun x => by
    unfold valA
    rw [hl]
    by_cases hx : x < 0 ∨ (n2.length : Int) ≤ x
    · rw [if_pos hx, if_pos hx]; exact Lg.blw_refl _
    · rw [if_neg hx, if_neg hx, blw_cln]
      obtain ⟨k, rfl⟩ := Int.eq_ofNat_of_zero_le (show 0 ≤ x by omega)
      exact h k (by omega)
  have hd : ∀ l, blw (dataV n1 l) (dataV n2 l) = true := fun l => by
    unfold dataV
    split
    · exact Lg.rd_mono (hv _)
    · exact Lg.blw_refl _
  refine ⟨hv, fun j hj => ?_, fun j hj => ?_⟩
  · unfold outV at hj ⊢
    have hj' : j < c.outs.length := by simpa using hj
    simp only [List.getD_eq_getElem?_getD, List.getElem?_map, List.getElem?_eq_getElem hj']
    exact hv _
  · unfold nextV at hj ⊢
    have hj' : j < (ofTo c.nodes [14] c.nodes.length).length := by simpa using hj
    simp only [List.getD_eq_getElem?_getD, List.getElem?_map, List.getElem?_eq_getElem hj']
    exact hd _

/-- The pattern that is changed in place, in its variable q4: rows of its own behind V3. -/
structure MV (V3 : World) (q4 ni ns cI cS : Nat) (AI AS : Option Addr) (lI lS : List Int) (wr : World) : Prop where
  bel : BelW V3 wr
  box : Fr wr q4 45 [.slice AI ni cI, .slice AS ns cS]
  rI : VStk wr V3.heap.size (.slice AI ni cI) lI
  rS : VStk wr V3.heap.size (.slice AS ns cS) lS
  apart : ∀ a b, (Value.slice AI ni cI).ownBlock = some a → (Value.slice AS ns cS).ownBlock = some b → a ≠ b
  offI : ∀ a, (Value.slice AI ni cI).ownBlock = some a → a ≠ q4
  offS : ∀ a, (Value.slice AS ns cS).ownBlock = some a → a ≠ q4
  lenI : lI.length = ni
  lenS : lS.length = ns
section
variable {V3 wr w' : World} {q4 ni ns cI cS : Nat} {AI AS : Option Addr} {lI lS : List Int}
theorem MV.next (h : MV V3 q4 ni ns cI cS AI AS lI lS wr) (hb : Below wr.heap.size wr w') : MV V3 q4 ni ns cI cS AI AS lI lS w' :=
  ⟨joinB h.bel hb, h.box.below hb, h.rI.below hb, h.rS.below hb, h.apart, h.offI, h.offS, h.lenI, h.lenS⟩
theorem VStk.other {w : World} {base : Nat} {v : Value} {l : List Int} (h : VStk w base v l) {a : Addr} (ha : v.ownBlock ≠ some a.block) (x : Value) : VStk (w.setCell a x) base v l :=
  World.ownsRow.kept h (row := some a.block) ⟨rfl, rfl, rfl, by simp [World.setCell], fun i _ hne => Below.heap_setCell _ _ _ _ (fun e => hne (by rw [e]))⟩ (.inr ha)
theorem VStk.set {w : World} {base g n c : Nat} {l : List Int} (h : VStk w base (.slice (some ⟨g, 0, none⟩) n c) l) (hl : l.length = n) (j : Nat) (x : Int) : VStk (w.setCell ⟨g, j, none⟩ (.int .u8 x)) base (.slice (some ⟨g, 0, none⟩) n c) (l.set j x) := by
  subst hl
  have := (World.ownsRow.stored h j (.int .u8 x)).1
  unfold VStk
  rw [List.length_set, List.map_set]
  exact this
theorem MV.setI {g : Nat} (h : MV V3 q4 ni ns cI cS (some ⟨g, 0, none⟩) AS lI lS wr) (j : Nat) (x : Int) : MV V3 q4 ni ns cI cS (some ⟨g, 0, none⟩) AS (lI.set j x) lS (wr.setCell ⟨g, j, none⟩ (.int .u8 x)) :=
  ⟨Below.setCell h.bel (World.ownsRow.lt h.rI g rfl).1 _, h.box.other (a := ⟨g, j, none⟩) (h.offI g rfl) _, h.rI.set h.lenI j x, h.rS.other (a := ⟨g, j, none⟩) (fun e => h.apart g g rfl e rfl) _, h.apart, h.offI, h.offS, by rw [List.length_set]; exact h.lenI, h.lenS⟩
theorem MV.setS {g : Nat} (h : MV V3 q4 ni ns cI cS AI (some ⟨g, 0, none⟩) lI lS wr) (j : Nat) (x : Int) : MV V3 q4 ni ns cI cS AI (some ⟨g, 0, none⟩) lI (lS.set j x) (wr.setCell ⟨g, j, none⟩ (.int .u8 x)) :=
  ⟨Below.setCell h.bel (World.ownsRow.lt h.rS g rfl).1 _, h.box.other (a := ⟨g, j, none⟩) (h.offS g rfl) _, h.rI.other (a := ⟨g, j, none⟩) (fun e => h.apart g g e rfl rfl) _, h.rS.set h.lenS j x, h.apart, h.offI, h.offS, h.lenI, by rw [List.length_set]; exact h.lenS⟩
end
end Go.Proofs.YtemogllidmgbfaaDoor

namespace Go.Proofs.YtemogllidmgbfaaDoor
open Go.RowKit

structure Gx where
  kind : Int
  i0 : Int
  i1 : Int
  i2 : Int
instance gxInh : Inhabited Gx := ⟨⟨0, 0, 0, 0⟩⟩
structure Cx where
  inN : Int
  dffs : Int
  d0 : Int
  d1 : Int
  bus : Bool
  mem : Bool
  p0 : Int
  p1 : Int
  p2 : Int
  p3 : Int
  gates : List Gx
  outs : List Int
def U8 (x : Int) : Prop := 0 ≤ x ∧ x ≤ 255
def Gok (g : Gx) : Prop := U8 g.kind ∧ U8 g.i0 ∧ U8 g.i1 ∧ U8 g.i2
structure Cok (x : Cx) : Prop where
  inN : U8 x.inN
  dffs : U8 x.dffs
  d0 : U8 x.d0
  d1 : U8 x.d1
  p0 : U8 x.p0
  p1 : U8 x.p1
  p2 : U8 x.p2
  p3 : U8 x.p3
  gates : ∀ k, k < x.gates.length → Gok (x.gates.getD k default)
  outs : ∀ k, k < x.outs.length → U8 (x.outs.getD k 0)

/-- The remainder, as a node's index. -/
def ix (a : Int) (n : Nat) : Int := a % (n : Int)
def kindG (bus : Bool) (k : Int) : Int := if bus = true then k % 13 else k % 9
def trisOf (nodes : List Nd) : List Int := ofTo nodes [12] nodes.length
def gateN (bus : Bool) (g : Gx) (nodes : List Nd) : Nd :=
  if kindG bus g.kind < 6 then ⟨5 + kindG bus g.kind, [ix g.i0 nodes.length, ix g.i1 nodes.length] ++ (if 128 ≤ g.kind then [ix g.i2 nodes.length] else []), 0, 0⟩
  else if kindG bus g.kind = 6 then ⟨4, [ix g.i0 nodes.length], 0, 0⟩
  else if kindG bus g.kind = 7 then ⟨11, [ix g.i0 nodes.length, ix g.i1 nodes.length, ix g.i2 nodes.length], 0, 0⟩
  else if kindG bus g.kind = 9 ∨ kindG bus g.kind = 10 then ⟨12, [ix g.i0 nodes.length, ix g.i1 nodes.length], 0, 0⟩
  else if 10 < kindG bus g.kind ∧ 0 < (trisOf nodes).length then
    ⟨13, [(trisOf nodes).getD (ix g.i0 (trisOf nodes).length).toNat 0] ++ (if 1 < (trisOf nodes).length then [(trisOf nodes).getD (ix (ix g.i0 (trisOf nodes).length + 1) (trisOf nodes).length).toNat 0] else []), 0, 0⟩
  else if 240 < g.kind then ⟨1 + g.i0 % 2, [], 0, 0⟩
  else ⟨3, [ix g.i0 nodes.length], 0, 0⟩
theorem kindG_ge (bus : Bool) (k : Int) : 0 ≤ kindG bus k ∧ kindG bus k < 13 := by
  unfold kindG; split <;> omega
theorem ix_lt (a : Int) {n : Nat} (h : 0 < n) : ∃ k : Nat, ix a n = (k : Int) ∧ k < n := by
  have h1 := Int.emod_nonneg a (show (n : Int) ≠ 0 by omega)
  have h2 := Int.emod_lt_of_pos a (show (0 : Int) < (n : Int) by omega)
  exact ⟨(ix a n).toNat, by unfold ix at *; omega, by unfold ix; omega⟩

section
variable {bus : Bool} {k i0 i1 i2 : Int} {nodes : List Nd} {n : Nat} {a b d : Int}
theorem gateN_lt (hn : n = nodes.length) (h : kindG bus k < 6) (h2 : ¬ 128 ≤ k) (ha : i0 % (n : Int) = a) (hb : i1 % (n : Int) = b) : gateN bus ⟨k, i0, i1, i2⟩ nodes = ⟨5 + kindG bus k, [a, b], 0, 0⟩ := by
  subst hn; unfold gateN ix; rw [if_pos h, if_neg h2, ha, hb]; rfl
theorem gateN_lt3 (hn : n = nodes.length) (h : kindG bus k < 6) (h2 : 128 ≤ k) (ha : i0 % (n : Int) = a) (hb : i1 % (n : Int) = b) (hd : i2 % (n : Int) = d) : gateN bus ⟨k, i0, i1, i2⟩ nodes = ⟨5 + kindG bus k, [a, b, d], 0, 0⟩ := by
  subst hn; unfold gateN ix; rw [if_pos h, if_pos h2, ha, hb, hd]; rfl
theorem gateN_not (hn : n = nodes.length) (h6 : ¬ kindG bus k < 6) (h7 : kindG bus k = 6) (ha : i0 % (n : Int) = a) : gateN bus ⟨k, i0, i1, i2⟩ nodes = ⟨4, [a], 0, 0⟩ := by
  subst hn; unfold gateN ix; rw [if_neg h6, if_pos h7, ha]
theorem gateN_mux (hn : n = nodes.length) (h6 : ¬ kindG bus k < 6) (h7 : ¬ kindG bus k = 6) (h8 : kindG bus k = 7) (ha : i0 % (n : Int) = a) (hb : i1 % (n : Int) = b) (hd : i2 % (n : Int) = d) : gateN bus ⟨k, i0, i1, i2⟩ nodes = ⟨11, [a, b, d], 0, 0⟩ := by
  subst hn; unfold gateN ix; rw [if_neg h6, if_neg h7, if_pos h8, ha, hb, hd]
theorem gateN_tri (hn : n = nodes.length) (h9 : kindG bus k = 9 ∨ kindG bus k = 10) (ha : i0 % (n : Int) = a) (hb : i1 % (n : Int) = b) : gateN bus ⟨k, i0, i1, i2⟩ nodes = ⟨12, [a, b], 0, 0⟩ := by
  subst hn; unfold gateN ix; rw [if_neg (show ¬ kindG bus k < 6 by omega), if_neg (show ¬ kindG bus k = 6 by omega), if_neg (show ¬ kindG bus k = 7 by omega), if_pos h9, ha, hb]
theorem gateN_bus1 (h10 : 10 < kindG bus k) {m : Nat} (hm : m = (trisOf nodes).length) (h0 : 0 < m) (h1 : ¬ 1 < m) {j : Nat} (hj : i0 % (m : Int) = (j : Int)) {x : Int} (hx : x = (trisOf nodes).getD j 0) : gateN bus ⟨k, i0, i1, i2⟩ nodes = ⟨13, [x], 0, 0⟩ := by
  subst hm; unfold gateN ix; rw [if_neg (show ¬ kindG bus k < 6 by omega), if_neg (show ¬ kindG bus k = 6 by omega), if_neg (show ¬ kindG bus k = 7 by omega), if_neg (show ¬ (kindG bus k = 9 ∨ kindG bus k = 10) by omega), if_pos ⟨h10, h0⟩, if_neg h1, hj, hx]; rfl
theorem gateN_bus2 (h10 : 10 < kindG bus k) {m : Nat} (hm : m = (trisOf nodes).length) (h1 : 1 < m) {j j' : Nat} (hj : i0 % (m : Int) = (j : Int)) (hj' : ((j : Int) + 1) % (m : Int) = (j' : Int)) {x y : Int} (hx : x = (trisOf nodes).getD j 0) (hy : y = (trisOf nodes).getD j' 0) : gateN bus ⟨k, i0, i1, i2⟩ nodes = ⟨13, [x, y], 0, 0⟩ := by
  subst hm; unfold gateN ix; rw [if_neg (show ¬ kindG bus k < 6 by omega), if_neg (show ¬ kindG bus k = 6 by omega), if_neg (show ¬ kindG bus k = 7 by omega), if_neg (show ¬ (kindG bus k = 9 ∨ kindG bus k = 10) by omega), if_pos ⟨h10, by omega⟩, if_pos h1, hj, hj', hx, hy]; rfl
theorem gateN_const (h6 : ¬ kindG bus k < 6) (h7 : ¬ kindG bus k = 6) (h8 : ¬ kindG bus k = 7) (h9 : ¬ kindG bus k = 9) (h9' : ¬ kindG bus k = 10) (h10 : ¬ (10 < kindG bus k ∧ 0 < (trisOf nodes).length)) (h : 240 < k) : gateN bus ⟨k, i0, i1, i2⟩ nodes = ⟨1 + i0 % 2, [], 0, 0⟩ := by
  unfold gateN; rw [if_neg h6, if_neg h7, if_neg h8, if_neg (show ¬ (kindG bus k = 9 ∨ kindG bus k = 10) by omega), if_neg h10, if_pos h]
theorem gateN_buf (hn : n = nodes.length) (h6 : ¬ kindG bus k < 6) (h7 : ¬ kindG bus k = 6) (h8 : ¬ kindG bus k = 7) (h9 : ¬ kindG bus k = 9) (h9' : ¬ kindG bus k = 10) (h10 : ¬ (10 < kindG bus k ∧ 0 < (trisOf nodes).length)) (h : ¬ 240 < k) (ha : i0 % (n : Int) = a) : gateN bus ⟨k, i0, i1, i2⟩ nodes = ⟨3, [a], 0, 0⟩ := by
  subst hn; unfold gateN ix; rw [if_neg h6, if_neg h7, if_neg h8, if_neg (show ¬ (kindG bus k = 9 ∨ kindG bus k = 10) by omega), if_neg h10, if_neg h, ha]
end

/-- The nodes before the gates. -/
def inputN : Nd := ⟨0, [], 0, 0⟩
def dffN (x : Int) : Nd := ⟨14, [x], 0, 0⟩
def firstN (x : Cx) : Nat := (x.inN % 4).toNat + 1
def dffsN (x : Cx) : Nat := (x.dffs % 3).toNat
def baseN (x : Cx) : List Nd := List.replicate (firstN x) inputN ++ List.replicate (dffsN x) (dffN 0) ++ (if x.mem = true then [⟨15, [], 0, 0⟩, ⟨15, [], 0, 1⟩] else [])
def gatesTo (x : Cx) : Nat → List Nd
  | 0 => baseN x
  | k + 1 => gatesTo x k ++ [gateN x.bus (x.gates.getD k default) (gatesTo x k)]
def gatesN (x : Cx) : Nat := min x.gates.length 8
def dataN (x : Cx) (i : Nat) : Int := if i = 0 then x.d0 else x.d1
/-- The flip-flops' data set, for the first k. -/
def dffTo (x : Cx) : Nat → List Nd
  | 0 => gatesTo x (gatesN x)
  | k + 1 => (dffTo x k).set (firstN x + k) (dffN (ix (dataN x k) (gatesTo x (gatesN x)).length))
def nodesN (x : Cx) : List Nd := dffTo x (dffsN x)
def sizeN (x : Cx) : Nat := (gatesTo x (gatesN x)).length
def memsN (x : Cx) : List Mm := if x.mem = true then [⟨[ix x.p0 (sizeN x)], [ix x.p1 (sizeN x), ix x.p2 (sizeN x)], ix x.p3 (sizeN x)⟩] else []
def digB (x : Nat) : UInt8 := UInt8.ofNat (48 + x)
def nameB (i : Nat) : ByteArray := ⟨#[110, digB (i / 10), digB (i % 10)]⟩
def outsN (x : Cx) : Nat := min x.outs.length 3
def outsTo (x : Cx) (k : Nat) : List Int := (List.range k).map fun i => ix (x.outs.getD i 0) (sizeN x)
/-- THE CIRCUIT of C. -/
def ofC (x : Cx) : Ck := ⟨nodesN x, (List.range (sizeN x)).map nameB, memsN x, outsTo x (outsN x) ++ [(sizeN x : Int) - 1]⟩

theorem gatesTo_len (x : Cx) : ∀ k, (gatesTo x k).length = (baseN x).length + k
  | 0 => rfl
  | k + 1 => by rw [gatesTo, List.length_append, gatesTo_len x k]; simp; omega
theorem baseN_len (x : Cx) : (baseN x).length = firstN x + dffsN x + (if x.mem = true then 2 else 0) := by
  unfold baseN
  rw [List.length_append, List.length_append, List.length_replicate, List.length_replicate]
  split <;> simp
theorem dffTo_len (x : Cx) : ∀ k, (dffTo x k).length = sizeN x
  | 0 => rfl
  | k + 1 => by rw [dffTo, List.length_set, dffTo_len x k]
theorem firstN_le (x : Cx) : 1 ≤ firstN x ∧ firstN x ≤ 4 := by unfold firstN; omega
theorem dffsN_le (x : Cx) : dffsN x ≤ 2 := by unfold dffsN; omega
theorem gatesN_le (x : Cx) : gatesN x ≤ 8 := by unfold gatesN; omega
theorem sizeN_le (x : Cx) : 1 ≤ sizeN x ∧ sizeN x ≤ 16 ∧ firstN x + dffsN x ≤ sizeN x := by
  have h1 := firstN_le x
  have h2 := dffsN_le x
  have h3 := gatesN_le x
  unfold sizeN
  rw [gatesTo_len, baseN_len]
  split <;> omega
theorem ofC_len (x : Cx) : (ofC x).nodes.length = sizeN x := dffTo_len x _
end Go.Proofs.YtemogllidmgbfaaDoor

namespace Go.Proofs.YtemogllidmgbfaaDoor
open Go.RowKit

def Small (c : Ck) : Prop := c.nodes.length ≤ 24 ∧ c.names.length ≤ 24 ∧ c.mems.length ≤ 18 ∧ c.outs.length ≤ 24

def GrtPost (S : Prop) (w : World) (e : Ending) (w' : World) : Prop := (∃ b, e = .returned (.bool b) ∧ (b = false → S)) ∧ Below w.heap.size w w'
end Go.Proofs.YtemogllidmgbfaaDoor

namespace Go.Proofs.YtemogllidmgbfaaDoor
open Go.RowKit

/-- The argument in its variable at q. -/
structure LC (c : Ck) (w : World) (q : Nat) (A0 A1 A2 A3 : Option Addr) (n0 n1 n2 n3 c0 c1 c2 c3 : Nat) (wr : World) : Prop where
  bel : Below w.heap.size w wr
  low : w.heap.size ≤ q
  tabs : Tabs wr
  cir : Cir wr q (.agg #[.slice A0 n0 c0, .slice A1 n1 c1, .slice A2 n2 c2, .slice A3 n3 c3]) c
  box : Fr wr q 56 [.slice A0 n0 c0, .slice A1 n1 c1, .slice A2 n2 c2, .slice A3 n3 c3]
section
variable {c : Ck} {w w1 W : World} {q : Nat} {A0 A1 A2 A3 : Option Addr} {n0 n1 n2 n3 c0 c1 c2 c3 : Nat}
theorem LC.next (h : LC c w q A0 A1 A2 A3 n0 n1 n2 n3 c0 c1 c2 c3 w1) (hb : Below w1.heap.size w1 W) : LC c w q A0 A1 A2 A3 n0 n1 n2 n3 c0 c1 c2 c3 W :=
  ⟨joinB h.bel hb, h.low, h.tabs.below hb, h.cir.below (hb.mono (Nat.le_of_lt h.box.lt)), h.box.below hb⟩
theorem LC.cells (h : LC c w q A0 A1 A2 A3 n0 n1 n2 n3 c0 c1 c2 c3 w1) : w1.cell? ⟨q, 0, none⟩ = some (.slice A0 n0 c0) ∧ w1.cell? ⟨q, 1, none⟩ = some (.slice A1 n1 c1) ∧ w1.cell? ⟨q, 2, none⟩ = some (.slice A2 n2 c2) ∧ w1.cell? ⟨q, 3, none⟩ = some (.slice A3 n3 c3) :=
  ⟨h.box.cell 0, h.box.cell 1, h.box.cell 2, h.box.cell 3⟩
theorem LC.all (h : LC c w q A0 A1 A2 A3 n0 n1 n2 n3 c0 c1 c2 c3 w1) : Cir w1 w1.heap.size (.agg #[.slice A0 n0 c0, .slice A1 n1 c1, .slice A2 n2 c2, .slice A3 n3 c3]) c := h.cir.more (Nat.le_of_lt h.box.lt)
theorem LC.start (hT : Tabs w) (hc : Cir w w.heap.size (.agg #[.slice A0 n0 c0, .slice A1 n1 c1, .slice A2 n2 c2, .slice A3 n3 c3]) c) :
    LC c w w.heap.size A0 A1 A2 A3 n0 n1 n2 n3 c0 c1 c2 c3 (w.alloc (.cells #[.slice A0 n0 c0, .slice A1 n1 c1, .slice A2 n2 c2, .slice A3 n3 c3] 56)) :=
  ⟨below_new (Below.refl _ _) _, Nat.le_refl _, hT.below (below_new (Below.refl _ _) _), hc.below (below_new (Below.refl _ _) _), heap_alloc_new _ _⟩
theorem ofk_c (hs : Small c) (h : LC c w q A0 A1 A2 A3 n0 n1 n2 n3 c0 c1 c2 c3 w1) (hb : Below w1.heap.size w1 W) {s : Value} {kl : List Int} (hk : Ks W W.heap.size s kl) : Calls Tryd.prog 54 #[.agg #[.slice A0 n0 c0, .slice A1 n1 c1, .slice A2 n2 c2, .slice A3 n3 c3], s] W
    fun e w' => (∃ A, e = .returned (.slice A (ofTo c.nodes kl c.nodes.length).length (ofTo c.nodes kl c.nodes.length).length) ∧ Is w' w'.heap.size (.slice A (ofTo c.nodes kl c.nodes.length).length (ofTo c.nodes kl c.nodes.length).length) (ofTo c.nodes kl c.nodes.length)) ∧ Below w1.heap.size w1 w' ∧ LC c w q A0 A1 A2 A3 n0 n1 n2 n3 c0 c1 c2 c3 w' := by
  have hn := h.next hb
  refine (of_any c kl _ s W W.heap.size (Nat.le_refl _) hn.all hk (by have := hs.1; omega)).mono fun e w' ⟨A, h1, h2, h3⟩ => ?_
  exact ⟨⟨A, h1, h2⟩, joinB hb h3, hn.next h3⟩
theorem ins_c (hs : Small c) (h : LC c w q A0 A1 A2 A3 n0 n1 n2 n3 c0 c1 c2 c3 w1) (hb : Below w1.heap.size w1 W) : Calls Tryd.prog 38 #[.agg #[.slice A0 n0 c0, .slice A1 n1 c1, .slice A2 n2 c2, .slice A3 n3 c3]] W
    fun e w' => (∃ A, e = .returned (.slice A (ofTo c.nodes [0] c.nodes.length).length (ofTo c.nodes [0] c.nodes.length).length) ∧ Is w' w'.heap.size (.slice A (ofTo c.nodes [0] c.nodes.length).length (ofTo c.nodes [0] c.nodes.length).length) (ofTo c.nodes [0] c.nodes.length)) ∧ Below w1.heap.size w1 w' ∧ LC c w q A0 A1 A2 A3 n0 n1 n2 n3 c0 c1 c2 c3 w' := by
  have hn := h.next hb
  refine (inputs_any c _ W W.heap.size (Nat.le_refl _) hn.all (by have := hs.1; omega)).mono fun e w' ⟨A, h1, h2, h3⟩ => ?_
  exact ⟨⟨A, h1, h2⟩, joinB hb h3, hn.next h3⟩
theorem sts_c (hs : Small c) (h : LC c w q A0 A1 A2 A3 n0 n1 n2 n3 c0 c1 c2 c3 w1) (hb : Below w1.heap.size w1 W) : Calls Tryd.prog 41 #[.agg #[.slice A0 n0 c0, .slice A1 n1 c1, .slice A2 n2 c2, .slice A3 n3 c3]] W
    fun e w' => (∃ A, e = .returned (.slice A (ofTo c.nodes [14] c.nodes.length).length (ofTo c.nodes [14] c.nodes.length).length) ∧ Is w' w'.heap.size (.slice A (ofTo c.nodes [14] c.nodes.length).length (ofTo c.nodes [14] c.nodes.length).length) (ofTo c.nodes [14] c.nodes.length)) ∧ Below w1.heap.size w1 w' ∧ LC c w q A0 A1 A2 A3 n0 n1 n2 n3 c0 c1 c2 c3 w' := by
  have hn := h.next hb
  refine (states_any c _ W W.heap.size (Nat.le_refl _) hn.all (by have := hs.1; omega)).mono fun e w' ⟨A, h1, h2, h3⟩ => ?_
  exact ⟨⟨A, h1, h2⟩, joinB hb h3, hn.next h3⟩
end

end Go.Proofs.YtemogllidmgbfaaDoor

namespace Go.Proofs.YtemogllidmgbfaaDoor
open Go.RowKit

theorem ordTo_done {L : List Int} {n m : Nat} (h : (ordTo L n m).length = n) (hm : m ≤ n) (hL : ∀ i : Nat, i < n → 0 ≤ lat L i ∧ lat L i < (n : Int)) : ordTo L n m = ordTo L n n := by
  have hs : (ordTo L n m).Sublist (ordTo L n n) := sorted_sub (r := Lex L) (fun _ _ _ h h' => Lex.trans h h') Lex.irr (ordTo_sorted L n m) (ordTo_sorted L n n) fun x hx => by
    obtain ⟨i, rfl, h1, h2, h3⟩ := ordTo_mem.1 hx
    exact ordTo_mem.2 ⟨i, rfl, h1, h2, by omega⟩
  exact hs.eq_of_length_le (by rw [h]; exact ordTo_len L n n)

/-- What stands while the reference's Order runs. -/
structure OO (w : World) (vs : List Value) (g T : Nat) (L : List Int) (wr : World) (sv : Value) (l : List Int) : Prop where
  bel : Below w.heap.size w wr
  box : Fr wr w.heap.size 56 vs
  row : Row wr g L
  stk : Stk wr T sv l
  hg : g < T
  hw : w.heap.size < T
  hT : T ≤ wr.heap.size
theorem OO.push {w wr w1 : World} {vs : List Value} {g T : Nat} {L l : List Int} {sv v' : Value} {x : Int} {o : Obj} (h : OO w vs g T L wr sv l) (hown : w1.ownsRow T 3 1 v' (l.length + 1) (l.map (Value.int .i64) ++ [.int .i64 x])) (hgr : (wr.alloc o).grownBy w1 sv.ownBlock) : OO w vs g T L w1 v' (l ++ [x]) := by
  have hlt := World.ownsRow.lt h.stk
  have h1 := h.hg
  have h2 := h.hw
  have hq : ∀ q, sv.ownBlock = some q → T ≤ q := fun q e => (hlt q e).1
  have h3 := h.hT
  refine ⟨(below_new h.bel o).grown hgr (by simp; have := h.bel.size; omega) (fun q e => by have := hq q e; omega), ?_, (h.row.kept (World.grownBy_alloc wr o none) (by simp)).kept hgr (fun e => by have := hq g e.symm; omega), ?_, h1, h2, by have := hgr.size; simp at this; omega⟩
  · exact (h.box.alloc o).kept hgr (fun e => by have := hq _ e.symm; omega)
  · unfold Stk
    rw [List.length_append, List.map_append]
    exact hown

def seenL (n : Nat) (l : List Int) : List Bool := (List.range n).map fun (j : Nat) => decide ((j : Int) ∈ l)
theorem seenL_len (n : Nat) (l : List Int) : (seenL n l).length = n := by simp [seenL]
theorem seenL_get {n : Nat} {l : List Int} {j : Nat} (h : j < n) : (seenL n l)[j]? = some (decide ((j : Int) ∈ l)) := by simp [seenL, h]
theorem seenL_set {n : Nat} {l : List Int} {y : Nat} : (seenL n l).set y true = seenL n (l ++ [(y : Int)]) := by
  apply List.ext_getElem?
  intro j
  by_cases hj : j < n
  · rw [List.getElem?_set, seenL_get hj, seenL_get hj, seenL_len]
    by_cases e : y = j
    · subst e; rw [if_pos rfl, if_pos hj]; simp
    · rw [if_neg e]
      have h1 : ((j : Int) ∈ l ++ [(y : Int)]) ↔ (j : Int) ∈ l := by
        rw [List.mem_append, List.mem_singleton]
        constructor
        · rintro (h | h)
          · exact h
          · omega
        · exact .inl
      rw [decide_eq_decide.2 h1]
  · rw [List.getElem?_eq_none (by simp [seenL_len]; omega), List.getElem?_eq_none (by simp [seenL_len]; omega)]
theorem seenL_nil (n : Nat) : seenL n [] = List.replicate n false := by
  apply List.ext_getElem?
  intro j
  by_cases hj : j < n
  · rw [seenL_get hj]; simp [hj]
  · rw [List.getElem?_eq_none (by simp [seenL_len]; omega), List.getElem?_eq_none (by simp; omega)]

/-- Element k of the order. -/
structure OrdAt (L : List Int) (n : Nat) (R : List Int) (k y : Nat) : Prop where
  at_ : R.getD k 0 = (y : Int)
  lt : y < n
  fresh : (y : Int) ∉ R.take k
  next : R.take (k + 1) = R.take k ++ [(y : Int)]
  prev : ∀ k', k = k' + 1 → Lex L (R.getD k' 0) y
  deps : ∀ x : Nat, x < n → lat L x < lat L y → (x : Int) ∈ R.take (k + 1)
theorem ordTo_at {L : List Int} {n : Nat} (hL : ∀ i : Nat, i < n → 0 ≤ lat L i ∧ lat L i < (n : Int)) {k : Nat} (hk : k < n) : ∃ y : Nat, OrdAt L n (ordTo L n n) k y := by
  have hlen := ordTo_full hL
  have hs := ordTo_sorted L n n
  obtain ⟨R, HR⟩ : ∃ R, R = ordTo L n n := ⟨_, rfl⟩
  have hall : ∀ x : Nat, x < n → (x : Int) ∈ R := fun x hx => by rw [HR]; exact ordTo_mem.2 ⟨x, rfl, hx, (hL x hx).1, (hL x hx).2⟩
  have hm : ∀ x ∈ R, ∃ i : Nat, x = (i : Int) ∧ i < n := fun x hx => by rw [HR] at hx; obtain ⟨i, h1, h2, -⟩ := ordTo_mem.1 hx; exact ⟨i, h1, h2⟩
  rw [← HR] at hlen hs ⊢
  clear HR
  have hkR : k < R.length := by omega
  have hin : R.getD k 0 ∈ R := getD_in hkR
  obtain ⟨y, hy, hyn⟩ := hm _ hin
  have hg : R[k] = (y : Int) := by rw [← hy, List.getD_eq_getElem?_getD, List.getElem?_eq_getElem hkR]; rfl
  have hlex : ∀ i j : Nat, (hi : i < R.length) → (hj : j < R.length) → i < j → Lex L R[i] R[j] := fun i j hi hj hij => (List.pairwise_iff_getElem.1 hs) i j hi hj hij
  refine ⟨y, hy, hyn, fun hf => ?_, ?_, fun k' e => ?_, fun x hx hlt => ?_⟩
  · obtain ⟨j, hj, e⟩ := List.getElem_of_mem hf
    have hj' : j < k := by rw [List.length_take] at hj; omega
    rw [List.getElem_take] at e
    have := hlex j k (by omega) hkR hj'
    rw [e, hg] at this
    exact Lex.irr _ this
  · rw [List.take_succ_eq_append_getElem hkR, hg]
  · subst e
    have := hlex k' (k' + 1) (by omega) hkR (by omega)
    rw [hg] at this
    rw [List.getD_eq_getElem?_getD, List.getElem?_eq_getElem (by omega)]
    exact this
  · obtain ⟨j, hj, e⟩ := List.getElem_of_mem (hall x hx)
    by_cases hjk : j ≤ k
    · rw [← e]
      refine List.mem_of_getElem? (i := j) ?_
      rw [List.getElem?_take, if_pos (by omega), List.getElem?_eq_getElem hj]
    · have := hlex k j hkR hj (by omega)
      rw [e, hg] at this
      rcases this with h | ⟨h, -⟩ <;> omega
end Go.Proofs.YtemogllidmgbfaaDoor

namespace Go.Proofs.YtemogllidmgbfaaDoor
open Go.RowKit

/-- What was made from T on in w is as it was, but for the row R. -/
def Kp (T : Nat) (R : Option Nat) (w w' : World) : Prop := w.heap.size ≤ w'.heap.size ∧ ∀ b, T ≤ b → b < w.heap.size → R ≠ some b → w'.heap[b]? = w.heap[b]?
theorem Kp.refl (T : Nat) (R : Option Nat) (w : World) : Kp T R w w := ⟨Nat.le_refl _, fun _ _ _ _ => rfl⟩
theorem Kp.trans {T : Nat} {R : Option Nat} {w w1 w2 : World} (h : Kp T R w w1) (h' : Kp T R w1 w2) : Kp T R w w2 :=
  ⟨Nat.le_trans h.1 h'.1, fun b h1 h2 h3 => (h'.2 b h1 (Nat.lt_of_lt_of_le h2 h.1) h3).trans (h.2 b h1 h2 h3)⟩
theorem Kp.alloc (T : Nat) (R : Option Nat) (w : World) (o : Obj) : Kp T R w (w.alloc o) :=
  ⟨by simp, fun b _ h _ => ((Below.refl w.heap.size w).alloc (Nat.le_refl _) o).block b h⟩
theorem Kp.below {T : Nat} {R : Option Nat} {w w' : World} (h : Below w.heap.size w w') : Kp T R w w' := ⟨h.size, fun b _ hb _ => h.block b hb⟩
theorem Kp.set {T : Nat} {R : Option Nat} (w : World) {a : Addr} (ha : a.block < T) (v : Value) : Kp T R w (w.setCell a v) :=
  ⟨by simp, fun b h _ _ => heap_setCell_other w a b v (fun e => by rw [e] at h; omega)⟩
theorem Kp.grown {T : Nat} {w w' : World} {R : Option Nat} (h : w.grownBy w' R) : Kp T R w w' := ⟨h.size, fun b _ hb hR => h.block b hb (fun e => hR e.symm)⟩
theorem Kp.free {T : Nat} {R R' : Option Nat} {w w' : World} (h : Kp T R w w') (hR : ∀ b, T ≤ b → b < w.heap.size → R' ≠ some b → R ≠ some b) : Kp T R' w w' :=
  ⟨h.1, fun b h1 h2 h3 => h.2 b h1 h2 (hR b h1 h2 h3)⟩

theorem Kp.grow {T : Nat} {R : Option Nat} {w0 w w' : World} (h : Kp T none w0 w) (hg : w.grownBy w' R) (hR : ∀ q, R = some q → w0.heap.size ≤ q) : Kp T none w0 w' :=
  ⟨Nat.le_trans h.1 hg.size, fun b h1 h2 h3 => (hg.block b (Nat.lt_of_lt_of_le h2 h.1) (fun e => by have := hR b e.symm; omega)).trans (h.2 b h1 h2 h3)⟩
/-- s reads as the list of pins, and lies from T on, beside the row R. -/
def InG (w : World) (T : Nat) (R : Option Nat) (s : Value) (l : List Int) : Prop :=
  ∃ A c, s = .slice A l.length c ∧ Is w w.heap.size s l ∧ (0 < l.length → ∀ a : Addr, A = some a → T ≤ a.block ∧ R ≠ some a.block)
theorem InG.keep {w w' : World} {T : Nat} {R R' : Option Nat} {s : Value} {l : List Int} (h : InG w T R s l) (hk : Kp T R w w') (hR : ∀ b, b < w.heap.size → R ≠ some b → R' ≠ some b) : InG w' T R' s l := by
  obtain ⟨A, c, rfl, hi, ha⟩ := h
  obtain ⟨A', b, o, c', e, hA, hle, hm, hc⟩ := hi
  simp only [Value.slice.injEq, true_and] at e
  obtain ⟨rfl, rfl⟩ := e
  by_cases h0 : 0 < l.length
  · obtain rfl := hA h0
    have hb := (hc 0 h0).1
    obtain ⟨h1, h2⟩ := ha h0 _ rfl
    refine ⟨_, c, rfl, ⟨_, b, o, c, rfl, fun _ => rfl, hle, hm, fun k hk' => ⟨Nat.lt_of_lt_of_le hb hk.1, ?_⟩⟩, fun _ a e => ?_⟩
    · unfold IntAt
      rw [World.cell?_of_block (hk.2 b h1 hb h2)]
      exact (hc k hk').2
    · cases e; exact ⟨h1, hR b hb h2⟩
  · exact ⟨A, c, rfl, ⟨A, 0, 0, c, rfl, fun h => absurd h h0, hle, hm, fun k hk' => absurd hk' (by omega)⟩, fun h => absurd h h0⟩
theorem InG.is {w : World} {T : Nat} {R : Option Nat} {s : Value} {l : List Int} (h : InG w T R s l) : Is w w.heap.size s l := by
  obtain ⟨A, c, -, hi, -⟩ := h
  exact hi
theorem InG.nil (w : World) (T : Nat) (R : Option Nat) : InG w T R (.slice none 0 0) [] := ⟨none, 0, rfl, Arr.nil _ _ _ _ _, fun h => absurd h (by simp)⟩

/-- The cells of a row of nodes. -/
def ndCs : List Nd → List Value → List Value
  | x :: l, s :: ss => .int .u8 x.kind :: s :: .int .i64 x.mem :: .int .i64 x.bit :: ndCs l ss
  | _, _ => []
theorem ndCs_snoc (x : Nd) (s : Value) : ∀ (l : List Nd) (ss : List Value), ss.length = l.length → ndCs (l ++ [x]) (ss ++ [s]) = ndCs l ss ++ [.int .u8 x.kind, s, .int .i64 x.mem, .int .i64 x.bit]
  | [], [], _ => rfl
  | y :: l, t :: ss, h => by
    show _ :: _ :: _ :: _ :: ndCs (l ++ [x]) (ss ++ [s]) = _
    rw [ndCs_snoc x s l ss (by simpa using h)]; rfl
theorem ndCs_get : ∀ (l : List Nd) (ss : List Value), ss.length = l.length → ∀ k, k < l.length →
    (ndCs l ss)[k * 4]? = some (.int .u8 (l.getD k default).kind) ∧ (ndCs l ss)[k * 4 + 1]? = some (ss.getD k (.slice none 0 0)) ∧ (ndCs l ss)[k * 4 + 2]? = some (.int .i64 (l.getD k default).mem) ∧ (ndCs l ss)[k * 4 + 3]? = some (.int .i64 (l.getD k default).bit)
  | y :: l, t :: ss, h, 0, _ => ⟨rfl, rfl, rfl, rfl⟩
  | y :: l, t :: ss, h, k + 1, hk => by
    have := ndCs_get l ss (by simpa using h) k (by simpa using hk)
    rw [show (k + 1) * 4 = k * 4 + 4 by omega]
    exact this
theorem ndCs_set (x : Nd) (s : Value) : ∀ (l : List Nd) (ss : List Value), ss.length = l.length → ∀ k, k < l.length → x.kind = (l.getD k default).kind → x.mem = (l.getD k default).mem → x.bit = (l.getD k default).bit →
    (ndCs l ss).set (k * 4 + 1) s = ndCs (l.set k x) (ss.set k s)
  | y :: l, t :: ss, h, 0, _, h1, h2, h3 => by
    simp only [List.getD_cons_zero] at h1 h2 h3
    show _ :: _ :: _ :: _ :: _ = _ :: _ :: _ :: _ :: _
    rw [h1, h2, h3]
  | y :: l, t :: ss, h, k + 1, hk, h1, h2, h3 => by
    have := ndCs_set x s l ss (by simpa using h) k (by simpa using hk) (by simpa using h1) (by simpa using h2) (by simpa using h3)
    rw [show (k + 1) * 4 + 1 = k * 4 + 1 + 4 by omega]
    show _ :: _ :: _ :: _ :: (ndCs l ss).set (k * 4 + 1) s = _ :: _ :: _ :: _ :: ndCs (l.set k x) (ss.set k s)
    rw [this]

/-- A row of nodes of the call's own; the pins from T on, beside the row. -/
structure NR (w : World) (T : Nat) (v : Value) (l : List Nd) (ss : List Value) : Prop where
  len : ss.length = l.length
  row : w.ownsRow T 73 4 v l.length (ndCs l ss)
  ins : ∀ k, k < l.length → InG w T v.ownBlock (ss.getD k (.slice none 0 0)) (l.getD k default).ins
section
variable {w w' w1 : World} {T : Nat} {v v' : Value} {l : List Nd} {ss : List Value}
theorem own_kp {e : TypeId} {size n : Nat} {xs : List Value} (h : w.ownsRow T e size v n xs) {T' : Nat} {R : Option Nat} (hT : T' ≤ T) (hk : Kp T' R w w') (hR : v.ownBlock = none ∨ v.ownBlock ≠ R) : w'.ownsRow T e size v n xs := by
  refine ⟨h.1, ?_⟩
  rcases h.2 with h1 | ⟨g, cap, cur, rfl, hb, hg, h3⟩
  · exact .inl h1
  · have hlt : g < w.heap.size := (Array.getElem?_eq_some_iff.1 hg).1
    exact .inr ⟨g, cap, cur, rfl, hb, (hk.2 g (Nat.le_trans hT hb) hlt (fun e => by rcases hR with h | h; cases h; exact h e.symm)).trans hg, h3⟩
theorem NR.nil (w : World) (T : Nat) : NR w T (.slice none 0 0) [] [] := ⟨rfl, World.ownsRow_nil _ _ _ _, fun k hk => absurd hk (by simp)⟩
theorem NR.keep (h : NR w T v l ss) (hk : Kp T none w w') : NR w' T v l ss :=
  ⟨h.len, own_kp h.row (Nat.le_refl _) hk (by cases v.ownBlock <;> simp), fun k hk' => (h.ins k hk').keep (hk.free fun _ _ _ _ => by simp) fun _ _ h => h⟩
theorem getD_snoc' {α : Type} (d x : α) (l : List α) (k : Nat) (hk : k < l.length + 1) : (l ++ [x]).getD k d = if k = l.length then x else l.getD k d := by
  by_cases h : k = l.length
  · rw [if_pos h, h]; simp [List.getD_eq_getElem?_getD]
  · rw [if_neg h]; simp [List.getD_eq_getElem?_getD, List.getElem?_append_left (show k < l.length by omega)]
theorem NR.push {x : Nd} {s : Value} (h : NR w T v l ss) (hs : InG w T v.ownBlock s x.ins)
    (hown : w1.ownsRow T 73 4 v' (l.length + 1) (ndCs l ss ++ [.int .u8 x.kind, s, .int .i64 x.mem, .int .i64 x.bit])) (hgr : w.grownBy w1 v.ownBlock) (hat : v'.ownBlock = v.ownBlock ∨ v'.ownBlock = some w.heap.size) :
    NR w1 T v' (l ++ [x]) (ss ++ [s]) := by
  have hR : ∀ b, b < w.heap.size → v.ownBlock ≠ some b → v'.ownBlock ≠ some b := fun b hb hn => by
    rcases hat with e | e
    · rw [e]; exact hn
    · rw [e]; simp; omega
  refine ⟨by simp [h.len], by rw [List.length_append, ndCs_snoc x s l ss h.len]; exact hown, fun k hk => ?_⟩
  have hk' : k < l.length + 1 := by simpa using hk
  rw [getD_snoc' _ _ _ _ hk', getD_snoc' _ _ _ _ (by rw [h.len]; exact hk'), h.len]
  by_cases e : k = l.length
  · rw [if_pos e, if_pos e]; exact hs.keep (Kp.grown hgr) hR
  · rw [if_neg e, if_neg e]; exact (h.ins k (by omega)).keep (Kp.grown hgr) hR
theorem getD_set' {α : Type} (d x : α) (l : List α) (i k : Nat) (hi : i < l.length) : (l.set i x).getD k d = if k = i then x else l.getD k d := by
  rw [List.getD_eq_getElem?_getD, List.getD_eq_getElem?_getD, List.getElem?_set]
  by_cases h : i = k
  · subst h; simp [hi]
  · rw [if_neg h, if_neg (fun e => h e.symm)]
theorem NR.set {g n c i : Nat} {x : Nd} {s : Value} (h : NR w T (.slice (some ⟨g, 0, none⟩) n c) l ss) (hn : n = l.length) (hi : i < l.length) (hs : InG w T (some g) s x.ins) (h1 : x.kind = (l.getD i default).kind) (h2 : x.mem = (l.getD i default).mem) (h3 : x.bit = (l.getD i default).bit) :
    NR (w.setCell ⟨g, i * 4 + 1, none⟩ s) T (.slice (some ⟨g, 0, none⟩) n c) (l.set i x) (ss.set i s) := by
  subst hn
  have hst := h.row.stored (i * 4 + 1) s
  refine ⟨by simp [h.len], by rw [List.length_set, ← ndCs_set x s l ss h.len i hi h1 h2 h3]; exact hst.1, fun k hk => ?_⟩
  rw [getD_set' _ _ _ _ _ hi, getD_set' _ _ _ _ _ (by rw [h.len]; exact hi)]
  have hkp : Kp T (some g) w (w.setCell ⟨g, i * 4 + 1, none⟩ s) := Kp.grown hst.2
  by_cases e : k = i
  · rw [if_pos e, if_pos e]; exact hs.keep hkp fun _ _ h => h
  · rw [if_neg e, if_neg e]; exact (h.ins k (by simpa using hk)).keep hkp fun _ _ h => h
theorem ndCs_app : ∀ (l : List Nd) (ss : List Value), ss.length = l.length → ∀ (l' : List Nd) (ss' : List Value), ndCs (l ++ l') (ss ++ ss') = ndCs l ss ++ ndCs l' ss'
  | [], [], _, _, _ => rfl
  | y :: l, t :: ss, h, l', ss' => by
    show _ :: _ :: _ :: _ :: ndCs (l ++ l') (ss ++ ss') = _
    rw [ndCs_app l ss (by simpa using h) l' ss']; rfl
theorem NR.app {l' : List Nd} {ss' : List Value} (h : NR w T v l ss) (hl : ss'.length = l'.length) (hs : ∀ k, k < l'.length → InG w T v.ownBlock (ss'.getD k (.slice none 0 0)) (l'.getD k default).ins)
    (hown : w1.ownsRow T 73 4 v' (l.length + l'.length) (ndCs l ss ++ ndCs l' ss')) (hgr : w.grownBy w1 v.ownBlock) (hat : v'.ownBlock = v.ownBlock ∨ v'.ownBlock = some w.heap.size) :
    NR w1 T v' (l ++ l') (ss ++ ss') := by
  have hR : ∀ b, b < w.heap.size → v.ownBlock ≠ some b → v'.ownBlock ≠ some b := fun b hb hn => by
    rcases hat with e | e
    · rw [e]; exact hn
    · rw [e]; simp; omega
  refine ⟨by simp [h.len, hl], by rw [List.length_append, ndCs_app l ss h.len]; exact hown, fun k hk => ?_⟩
  have hk' : k < l.length + l'.length := by simpa using hk
  have hlen := h.len
  by_cases e : k < l.length
  · have e1 : (l ++ l').getD k default = l.getD k default := by simp [List.getD_eq_getElem?_getD, List.getElem?_append_left e]
    have e2 : (ss ++ ss').getD k (.slice none 0 0) = ss.getD k (.slice none 0 0) := by simp [List.getD_eq_getElem?_getD, List.getElem?_append_left (show k < ss.length by omega)]
    rw [e1, e2]; exact (h.ins k e).keep (Kp.grown hgr) hR
  · have e1 : (l ++ l').getD k default = l'.getD (k - l.length) default := by simp [List.getD_eq_getElem?_getD, List.getElem?_append_right (show l.length ≤ k by omega)]
    have e2 : (ss ++ ss').getD k (.slice none 0 0) = ss'.getD (k - l.length) (.slice none 0 0) := by
      rw [List.getD_eq_getElem?_getD, List.getElem?_append_right (show ss.length ≤ k by omega), List.getD_eq_getElem?_getD, hlen]
    rw [e1, e2]; exact (hs _ (by omega)).keep (Kp.grown hgr) hR
theorem InG.lit {k : Nat} (hT : T ≤ w.heap.size) (hr : ∀ q, v.ownBlock = some q → q < w.heap.size) (l : List Int) (hk : k = l.length) (hm : l.length ≤ maxLen) : InG (w.alloc (.cells (l.map (Value.int .i64)).toArray 3)) T v.ownBlock (.slice (some ⟨w.heap.size, 0, none⟩) k k) l := by
  subst hk
  exact ⟨_, _, rfl, is_of _ (Fr.made w (l.map (Value.int .i64)) 3 rfl) hm (by simp), fun _ a e => by cases e; exact ⟨hT, fun e => by have := hr _ e; simp at this⟩⟩
theorem NR.store {g n c i : Nat} {x : Nd} {y : Int} (h : NR w T (.slice (some ⟨g, 0, none⟩) n c) l ss) (hT : T ≤ w.heap.size) (hn : n = l.length) (hi : i < l.length) (hx : x.ins = [y]) (h1 : x.kind = (l.getD i default).kind) (h2 : x.mem = (l.getD i default).mem) (h3 : x.bit = (l.getD i default).bit) :
    NR ((w.alloc (.cells #[.int .i64 y] 3)).setCell ⟨g, i * 4 + 1, none⟩ (.slice (some ⟨w.heap.size, 0, none⟩) 1 1)) T (.slice (some ⟨g, 0, none⟩) n c) (l.set i x) (ss.set i (.slice (some ⟨w.heap.size, 0, none⟩) 1 1)) := by
  have hk : NR (w.alloc (.cells #[.int .i64 y] 3)) T (.slice (some ⟨g, 0, none⟩) n c) l ss := h.keep (Kp.alloc _ _ _ _)
  refine hk.set hn hi ?_ h1 h2 h3
  rw [hx]
  exact InG.lit (v := .slice (some ⟨g, 0, none⟩) n c) hT (fun q hq => (World.ownsRow.lt h.row q hq).2) [y] rfl (by simp [maxLen])
theorem NR.store2 {g n c i : Nat} {x : Nd} {y : Int} (h : NR w T (.slice (some ⟨g, 0, none⟩) n c) l ss) (hT : T ≤ w.heap.size) (hn : n = l.length) (hi : i < l.length) (hx : x.ins = [y]) (h1 : x.kind = (l.getD i default).kind) (h2 : x.mem = (l.getD i default).mem) (h3 : x.bit = (l.getD i default).bit) :
    NR ((w.setCell ⟨g, i * 4 + 1, none⟩ (.slice (some ⟨w.heap.size, 0, none⟩) 1 1)).alloc (.cells #[.int .i64 y] 3)).drew T (.slice (some ⟨g, 0, none⟩) n c) (l.set i x) (ss.set i (.slice (some ⟨w.heap.size, 0, none⟩) 1 1)) := by
  have h4 := h.store hT hn hi hx h1 h2 h3
  rw [World.setCell_alloc_past _ _ _ _ (World.ownsRow.lt h.row g rfl).2] at h4
  exact h4.keep (Kp.below (Below.refl _ _).drew)
theorem NR.reads (h : NR w T v l ss) (hk : ∀ k, k < l.length → 0 ≤ (l.getD k default).kind ∧ (l.getD k default).kind ≤ 255) : Ns w w.heap.size v l := by
  rcases id h.row.2 with ⟨rfl, hn⟩ | ⟨g, cap, cur, rfl, hb, hg, hle, hm, -⟩
  · have e : l = [] := List.length_eq_zero_iff.1 hn
    subst e; exact Arr.nil _ _ _ _ _
  · refine ⟨_, g, 0, cap, rfl, fun _ => rfl, hle, Nat.le_trans hle hm, fun k hk' => ⟨(Array.getElem?_eq_some_iff.1 hg).1, ?_⟩⟩
    obtain ⟨e0, e1, e2, e3⟩ := ndCs_get l ss h.len k hk'
    have hc : ∀ j u, (ndCs l ss)[j]? = some u → j < l.length * 4 → w.cell? ⟨g, 0 + j, none⟩ = some u := fun j u hu hj => by
      rw [Nat.zero_add, h.row.cellAt j hj]; exact hu
    refine ⟨_, ?_, ?_, ?_, ?_, (h.ins k hk').is, (hk k hk').1, (hk k hk').2⟩
    · exact hc _ _ e0 (by omega)
    · exact hc _ _ e1 (by omega)
    · exact hc _ _ e2 (by omega)
    · exact hc _ _ e3 (by omega)
theorem NR.low {g n c : Nat} (h : NR w T (.slice (some ⟨g, 0, none⟩) n c) l ss) : T ≤ w.heap.size := by
  have := World.ownsRow.lt h.row g rfl
  omega
theorem NR.form (h : NR w T v l ss) : ∃ A c, v = .slice A l.length c := own_form h.row
end

end Go.Proofs.YtemogllidmgbfaaDoor
