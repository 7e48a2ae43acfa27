/- SimsMonotone: plain side, and the pattern that is changed in place. -/
import Derived.Test.YtfcdhoaccmckoaaGreatDoorSmu
import Derived.Test.YtfcdhoaccmckoaaGreatDoorSmb
namespace Go.Proofs.YtfcdhoaccmckoaaGreatDoor
open Go.RowKit

/-- The second pattern's list behind k rounds: known values of the first in the place of its own. -/
def mrgTo (l m : List Int) (k : Nat) : List Int := (List.range m.length).map fun i => if i < k ∧ l.getD i 0 ≠ 2 then l.getD i 0 else m.getD i 0
theorem mrgTo_len (l m : List Int) (k : Nat) : (mrgTo l m k).length = m.length := by simp [mrgTo]
theorem mrgTo_get {l m : List Int} {k i : Nat} (hi : i < m.length) : (mrgTo l m k).getD i 0 = if i < k ∧ l.getD i 0 ≠ 2 then l.getD i 0 else m.getD i 0 := by
  simp [mrgTo, List.getD_eq_getElem?_getD, hi]
theorem mrgTo_zero (l m : List Int) : mrgTo l m 0 = m := by
  apply List.ext_getElem?
  intro i
  by_cases hi : i < m.length
  · simp [mrgTo, hi, List.getD_eq_getElem?_getD]
  · rw [List.getElem?_eq_none (by rw [mrgTo_len]; omega), List.getElem?_eq_none (by omega)]
theorem getD_ext {a b : List Int} (hl : a.length = b.length) (h : ∀ i, i < a.length → a.getD i 0 = b.getD i 0) : a = b := by
  apply List.ext_getElem hl
  intro i h1 h2
  have := h i h1
  simpa [List.getD_eq_getElem?_getD, List.getElem?_eq_getElem h1, List.getElem?_eq_getElem h2] using this
theorem getD_setL {a : List Int} {k i : Nat} {x : Int} (hk : k < a.length) : (a.set k x).getD i 0 = if i = k then x else a.getD i 0 := by
  rw [List.getD_eq_getElem?_getD, List.getD_eq_getElem?_getD, List.getElem?_set]
  by_cases h : k = i
  · subst h; simp [hk]
  · rw [if_neg h, if_neg (fun e => h e.symm)]
theorem mrgTo_keep {l m : List Int} {k : Nat} (h : l.getD k 0 = 2) : mrgTo l m (k + 1) = mrgTo l m k := by
  refine getD_ext (by rw [mrgTo_len, mrgTo_len]) fun i hi => ?_
  rw [mrgTo_len] at hi
  rw [mrgTo_get hi, mrgTo_get hi]
  by_cases e : i = k
  · subst e; rw [if_neg (fun h' => h'.2 h), if_neg (by omega)]
  · by_cases h1 : i < k
    · by_cases h2 : l.getD i 0 ≠ 2
      · rw [if_pos ⟨by omega, h2⟩, if_pos ⟨h1, h2⟩]
      · rw [if_neg (fun h' => h2 h'.2), if_neg (fun h' => h2 h'.2)]
    · rw [if_neg (by omega), if_neg (by omega)]
theorem mrgTo_put {l m : List Int} {k : Nat} (hk : k < m.length) (h : l.getD k 0 ≠ 2) : mrgTo l m (k + 1) = (mrgTo l m k).set k (l.getD k 0) := by
  refine getD_ext (by rw [List.length_set, mrgTo_len, mrgTo_len]) fun i hi => ?_
  rw [mrgTo_len] at hi
  rw [getD_setL (by rw [mrgTo_len]; exact hk), mrgTo_get hi]
  by_cases e : i = k
  · subst e; rw [if_pos rfl, if_pos ⟨by omega, h⟩]
  · rw [if_neg e, mrgTo_get hi]
    by_cases h1 : i < k
    · by_cases h2 : l.getD i 0 ≠ 2
      · rw [if_pos ⟨by omega, h2⟩, if_pos ⟨h1, h2⟩]
      · rw [if_neg (fun h' => h2 h'.2), if_neg (fun h' => h2 h'.2)]
    · rw [if_neg (by omega), if_neg (by omega)]
theorem mrg_le {l m : List Int} {k i : Nat} (hi : i < m.length) (hk : i < k) : blw (l.getD i 0) ((mrgTo l m k).getD i 0) = true := by
  rw [mrgTo_get hi]
  by_cases h : l.getD i 0 ≠ 2
  · rw [if_pos ⟨hk, h⟩]; exact Lg.blw_refl _
  · have e : l.getD i 0 = 2 := by omega
    rw [e]; exact Lg.blw_X _
theorem takV_in {l : List Int} {most : Int} (h0 : ∀ x ∈ l, 0 ≤ x ∧ x ≤ 255) (hm : 3 ≤ most) (hm2 : most ≤ 4) (i : Nat) : 0 ≤ takV l most i ∧ takV l most i ≤ 3 := by
  unfold takV
  split
  · omega
  · rename_i hl
    have hmem := h0 (l.getD (i % l.length) 0) (by rw [List.getD_eq_getElem?_getD, List.getElem?_eq_getElem (Nat.mod_lt _ (by omega))]; exact List.getElem_mem _)
    rw [Int.tmod_eq_emod_of_nonneg hmem.1]
    have h1 := Int.emod_nonneg (l.getD (i % l.length) 0) (show most ≠ 0 by omega)
    have h2 := Int.emod_lt_of_pos (l.getD (i % l.length) 0) (show 0 < most by omega)
    omega
theorem takL_in {l : List Int} {most : Int} (h0 : ∀ x ∈ l, 0 ≤ x ∧ x ≤ 255) (hm : 3 ≤ most) (hm2 : most ≤ 4) (n : Nat) : ∀ x ∈ takL l most n, 0 ≤ x ∧ x ≤ 3 := fun x hx => by
  obtain ⟨i, -, rfl⟩ := List.mem_map.1 hx
  exact takV_in h0 hm hm2 i
theorem getD_inL {l : List Int} {i : Nat} (h : i < l.length) : l.getD i 0 ∈ l := by
  rw [List.getD_eq_getElem?_getD, List.getElem?_eq_getElem h]; exact List.getElem_mem h
theorem mrgTo_in {l m : List Int} {k : Nat} (hl : ∀ x ∈ l, 0 ≤ x ∧ x ≤ 3) (hm : ∀ x ∈ m, 0 ≤ x ∧ x ≤ 3) (hlen : l.length = m.length) : ∀ x ∈ mrgTo l m k, 0 ≤ x ∧ x ≤ 3 := fun x hx => by
  obtain ⟨i, hi, rfl⟩ := List.mem_map.1 hx
  have hi' := List.mem_range.1 hi
  show 0 ≤ (if i < k ∧ l.getD i 0 ≠ 2 then l.getD i 0 else m.getD i 0) ∧ _
  split
  · exact hl _ (getD_inL (by omega))
  · exact hm _ (getD_inL hi')

/-- Values, response and next states are below, net by net. -/
theorem resp_le {c : Ck} {n1 n2 : List Int} (hl : n1.length = n2.length) (h : ∀ i : Nat, i < n1.length → blw (lat n1 i) (lat n2 i) = true) :
    (∀ x, blw (valA n1 x) (valA n2 x) = true) ∧ (∀ j, j < (outV c n1).length → blw ((outV c n1).getD j 0) ((outV c n2).getD j 0) = true) ∧ (∀ j, j < (nextV c n1).length → blw ((nextV c n1).getD j 0) ((nextV c n2).getD j 0) = true) := by
  have hv : ∀ x, blw (valA n1 x) (valA n2 x) = true := fun x => by
    unfold valA
    rw [hl]
    by_cases hx : x < 0 ∨ (n2.length : Int) ≤ x
    · rw [if_pos hx, if_pos hx]; exact Lg.blw_refl _
    · rw [if_neg hx, if_neg hx, blw_cln]
      obtain ⟨k, rfl⟩ := Int.eq_ofNat_of_zero_le (show 0 ≤ x by omega)
      exact h k (by omega)
  have hd : ∀ l, blw (dataV n1 l) (dataV n2 l) = true := fun l => by
    unfold dataV
    split
    · exact Lg.rd_mono (hv _)
    · exact Lg.blw_refl _
  refine ⟨hv, fun j hj => ?_, fun j hj => ?_⟩
  · unfold outV at hj ⊢
    have hj' : j < c.outs.length := by simpa using hj
    simp only [List.getD_eq_getElem?_getD, List.getElem?_map, List.getElem?_eq_getElem hj']
    exact hv _
  · unfold nextV at hj ⊢
    have hj' : j < (ofTo c.nodes [14] c.nodes.length).length := by simpa using hj
    simp only [List.getD_eq_getElem?_getD, List.getElem?_map, List.getElem?_eq_getElem hj']
    exact hd _

/-- The pattern that is changed in place, in its variable q4: rows of its own behind V3. -/
structure MV (V3 : World) (q4 ni ns cI cS : Nat) (AI AS : Option Addr) (lI lS : List Int) (wr : World) : Prop where
  bel : BelW V3 wr
  box : Fr wr q4 39 [.slice AI ni cI, .slice AS ns cS]
  rI : VStk wr V3.heap.size (.slice AI ni cI) lI
  rS : VStk wr V3.heap.size (.slice AS ns cS) lS
  apart : ∀ a b, (Value.slice AI ni cI).ownBlock = some a → (Value.slice AS ns cS).ownBlock = some b → a ≠ b
  offI : ∀ a, (Value.slice AI ni cI).ownBlock = some a → a ≠ q4
  offS : ∀ a, (Value.slice AS ns cS).ownBlock = some a → a ≠ q4
  lenI : lI.length = ni
  lenS : lS.length = ns
section
variable {V3 wr w' : World} {q4 ni ns cI cS : Nat} {AI AS : Option Addr} {lI lS : List Int}
theorem MV.next (h : MV V3 q4 ni ns cI cS AI AS lI lS wr) (hb : Below wr.heap.size wr w') : MV V3 q4 ni ns cI cS AI AS lI lS w' :=
  ⟨joinB h.bel hb, h.box.below hb, h.rI.below hb, h.rS.below hb, h.apart, h.offI, h.offS, h.lenI, h.lenS⟩
theorem VStk.other {w : World} {base : Nat} {v : Value} {l : List Int} (h : VStk w base v l) {a : Addr} (ha : v.ownBlock ≠ some a.block) (x : Value) : VStk (w.setCell a x) base v l :=
  World.ownsRow.kept h (row := some a.block) ⟨rfl, rfl, rfl, by simp [World.setCell], fun i _ hne => Below.heap_setCell _ _ _ _ (fun e => hne (by rw [e]))⟩ (.inr ha)
theorem VStk.set {w : World} {base g n c : Nat} {l : List Int} (h : VStk w base (.slice (some ⟨g, 0, none⟩) n c) l) (hl : l.length = n) (j : Nat) (x : Int) : VStk (w.setCell ⟨g, j, none⟩ (.int .u8 x)) base (.slice (some ⟨g, 0, none⟩) n c) (l.set j x) := by
  subst hl
  have := (World.ownsRow.stored h j (.int .u8 x)).1
  unfold VStk
  rw [List.length_set, List.map_set]
  exact this
theorem MV.setI {g : Nat} (h : MV V3 q4 ni ns cI cS (some ⟨g, 0, none⟩) AS lI lS wr) (j : Nat) (x : Int) : MV V3 q4 ni ns cI cS (some ⟨g, 0, none⟩) AS (lI.set j x) lS (wr.setCell ⟨g, j, none⟩ (.int .u8 x)) :=
  ⟨Below.setCell h.bel (World.ownsRow.lt h.rI g rfl).1 _, h.box.other (a := ⟨g, j, none⟩) (h.offI g rfl) _, h.rI.set h.lenI j x, h.rS.other (a := ⟨g, j, none⟩) (fun e => h.apart g g rfl e rfl) _, h.apart, h.offI, h.offS, by rw [List.length_set]; exact h.lenI, h.lenS⟩
theorem MV.setS {g : Nat} (h : MV V3 q4 ni ns cI cS AI (some ⟨g, 0, none⟩) lI lS wr) (j : Nat) (x : Int) : MV V3 q4 ni ns cI cS AI (some ⟨g, 0, none⟩) lI (lS.set j x) (wr.setCell ⟨g, j, none⟩ (.int .u8 x)) :=
  ⟨Below.setCell h.bel (World.ownsRow.lt h.rS g rfl).1 _, h.box.other (a := ⟨g, j, none⟩) (h.offS g rfl) _, h.rI.other (a := ⟨g, j, none⟩) (fun e => h.apart g g e rfl rfl) _, h.rS.set h.lenS j x, h.apart, h.offI, h.offS, h.lenI, by rw [List.length_set]; exact h.lenS⟩
end
end Go.Proofs.YtfcdhoaccmckoaaGreatDoor

