/- P.Known: a pattern of known values for a circuit. -/
import Derived.Test.YtbkfpaklmepglaaDoorOfp
import Derived.Test.YtbkfpaklmepglaaDoorOwn
import Derived.Deep.RegionLawGrows
import Derived.Deep.Upon
import Derived.Test.YtbkfpaklmepglaaDoorSmu
import Derived.Test.YtbkfpaklmepglaaDoorSmb
namespace Go.Proofs.YtbkfpaklmepglaaDoor
open Go.RowKit

theorem Ks.adr {w : World} {B : Nat} {A : Option Addr} {n c : Nat} {l : List Int} (h : Ks w B (.slice A n c) l) : l.length = n ∧ n ≤ c ∧ n ≤ maxLen ∧ ∀ b, A = some b → ∀ j u, (l.map (Value.int .u8))[j]? = some u → w.cell? (b.add j) = some u := by
  obtain ⟨A', b, o, c', e, hA, hle, hm, hc⟩ := h.opens
  simp only [Value.slice.injEq] at e
  obtain ⟨rfl, rfl, rfl⟩ := e
  refine ⟨rfl, hle, hm, fun b' hb j u hj => ?_⟩
  have hjl : j < l.length := by
    have := (List.getElem?_eq_some_iff.1 hj).1
    simpa using this
  have hb2 := hA (by omega)
  rw [hb] at hb2
  obtain rfl := Option.some.inj hb2
  rw [List.getElem?_map, List.getElem?_eq_getElem hjl] at hj
  simp only [Option.map_some, Option.some.injEq] at hj
  rw [← hj, Addr.add_lit, (hc j hjl).2, List.getD_eq_getElem?_getD, List.getElem?_eq_getElem hjl]
  rfl
theorem info_byte : (Tryd.prog.info? 5).map (fun i => (i.zero, i.size, i.bytes)) = some (some (.int .u8 0), 1, 1) := by kernel_rfl
theorem ks_own {w : World} {base n : Nat} {v : Value} {l : List Int} (h : w.ownsRow base 5 1 v n (l.map (Value.int .u8))) (hl : l.length = n) : ∃ A c, v = .slice A n c ∧ Ks w w.heap.size (.slice A n c) l := by
  subst hl
  rcases h.2 with ⟨rfl, h0⟩ | ⟨g, cap, cur, rfl, hb, hg, hle, hm, -⟩
  · obtain rfl : l = [] := List.eq_nil_of_length_eq_zero h0
    exact ⟨none, 0, rfl, Arr.nil _ _ _ _ _⟩
  · refine ⟨_, cap, rfl, some ⟨g, 0, none⟩, g, 0, cap, rfl, fun _ => rfl, hle, Nat.le_trans hle hm, fun k hk => ⟨(World.ownsRow.lt h g rfl).2, ?_⟩⟩
    show w.cell? ⟨g, 0 + k * 1, none⟩ = _
    rw [Nat.zero_add, Nat.mul_one, World.ownsRow.cellAt h k (by omega), List.getElem?_map, List.getElem?_eq_getElem hk]
    simp [List.getD_eq_getElem?_getD, List.getElem?_eq_getElem hk]
theorem run_append_fullB (w : World) (A A' : Option Addr) (n m c' : Nat) (l l' : List Int) (h1 : Ks w w.heap.size (.slice A n n) l) (h2 : Ks w w.heap.size (.slice A' m c') l') (hnm : n + m ≤ 140737488355328) :
    ∃ A2 c2 w', (Builtin.append_ #[47, 47] 47 #[.slice A n n, .slice A' m c']).run Tryd.prog w = .ok (.slice A2 (n + m) c2) w' ∧ Ks w' w'.heap.size (.slice A2 (n + m) c2) (l ++ l') ∧ Below w.heap.size w w' := by
  obtain ⟨i, hi, hz0, hz1, hz2⟩ := info_parts info_byte
  obtain ⟨hl, -, -, ha⟩ := h1.adr
  obtain ⟨hl', -, -, ha'⟩ := h2.adr
  by_cases hm0 : m = 0
  · subst hm0
    obtain rfl : l' = [] := List.eq_nil_of_length_eq_zero hl'
    have hs : Src Tryd.prog i.size 47 (.slice A' 0 c') 0 [] w := by
      cases A' with
      | none => exact Src.ofNil w Tryd.underlying47 c'
      | some a => exact Src.ofSlice w Tryd.underlying47 a 0 c' [] (by simp) (fun j u h => by simp at h) (fun u h => by cases h)
    refine ⟨A, n, w, run_append_nothing w _ _ _ _ i Tryd.underlying47 hi A n n (Nat.le_refl _) _ hs, ?_, Below.refl _ _⟩
    rw [List.append_nil, Nat.add_zero]
    exact h1
  · have hap : ∃ a, A' = some a := by
      obtain ⟨A9, b, o, c9, e, hA, -⟩ := h2.opens
      simp only [Value.slice.injEq] at e
      obtain ⟨rfl, -, -⟩ := e
      exact ⟨_, hA (by omega)⟩
    obtain ⟨a', rfl⟩ := hap
    have hone : ∀ u ∈ l'.map (Value.int .u8), u.oneCell' = true := fun u hu => by
      obtain ⟨z, -, rfl⟩ := List.mem_map.1 hu
      rfl
    have hfin : ∀ v w', w'.ownsRow w.heap.size 5 1 v (n + m) (l.map (Value.int .u8) ++ l'.map (Value.int .u8)) → w.grownBy w' none → ∃ A2 c2, v = .slice A2 (n + m) c2 ∧ Ks w' w'.heap.size (.slice A2 (n + m) c2) (l ++ l') ∧ Below w.heap.size w w' := fun v w' r1 r2 => by
      rw [← List.map_append] at r1
      obtain ⟨A2, c2, rfl, h⟩ := ks_own r1 (by rw [List.length_append, hl, hl'])
      exact ⟨A2, c2, rfl, h, (Below.refl _ _).grown r2 (Nat.le_refl _) (fun k h => by cases h)⟩
    cases A with
    | some b =>
      obtain ⟨v', w', hrun, r1, r2⟩ := run_append_arg_grows (P := Tryd.prog) w 47 47 5 i (.int .u8 0) 1 1 Tryd.underlying47 hi hz0 hz1 hz2 rfl (by decide) b n n (l.map (Value.int .u8)) (by rw [List.length_map, hl, Nat.mul_one]) (ha b rfl) a' m c' (l'.map (Value.int .u8)) (by rw [List.length_map, hl', Nat.mul_one]) (ha' a' rfl) (by omega) (by unfold maxLen; omega) (by omega)
      obtain ⟨A2, c2, rfl, h3, h4⟩ := hfin v' w' r1 r2
      exact ⟨A2, c2, w', hrun, h3, h4⟩
    | none =>
      have hn0 : n = 0 := by
        obtain ⟨A9, b, o, c9, e, hA, -⟩ := h1.opens
        simp only [Value.slice.injEq] at e
        obtain ⟨rfl, e2, -⟩ := e
        by_cases h0 : 0 < l.length
        · have := hA h0; cases this
        · omega
      subst hn0
      obtain rfl : l = [] := List.eq_nil_of_length_eq_zero hl
      obtain ⟨v', w', hrun, r1, r2, _⟩ := run_append_own (P := Tryd.prog) w w.heap.size 47 47 5 i (.int .u8 0) 1 1 Tryd.underlying47 hi hz0 hz1 hz2 rfl (by decide) (.slice none 0 0) 0 [] (World.ownsRow_nil w _ 5 1) a' m c' (l'.map (Value.int .u8)) (by rw [List.length_map, hl', Nat.mul_one]) (ha' a' rfl) hone (by unfold maxLen; omega) (by omega) (Nat.le_refl _)
      obtain ⟨A2, c2, rfl, h3, h4⟩ := hfin v' w' r1 r2
      exact ⟨A2, c2, w', hrun, h3, h4⟩
theorem step_append_fullB {ops : Array Oper} {o : Oper} {a : Act} {w : World} {K : Act → World → Prop} {Q : Exit → Act → World → Prop} {E : Prop}
    (hg : o.guard = none) (s x : Operand) (hop : o.op = Op.call { callee := Callee.builtin Builtin.append, args := #[s, x], argTypes := #[47, 47] }) (hty : o.type = 47)
    (A A' : Option Addr) (n m c' : Nat) (l l' : List Int) (hs : a.eval s = .slice A n n) (hx : a.eval x = .slice A' m c') (h1 : Ks w w.heap.size (.slice A n n) l) (h2 : Ks w w.heap.size (.slice A' m c') l') (k : Nat) (hk : n + m = k) (hnm : k ≤ 140737488355328)
    (hK : ∀ A2 c2 w', Ks w' w'.heap.size (.slice A2 k c2) (l ++ l') → Below w.heap.size w w' → K (a.put o.dst (.slice A2 k c2)) w') :
    if Region.wanted o (yielded ops a.tmps) = true then Oper.wp Tryd.prog o a w K Q else E := by
  have hw : Region.wanted o (yielded ops a.tmps) = true := by simp [Region.wanted, hg]
  rw [if_pos hw]
  subst hk
  obtain ⟨A2, c2, w', hrun, r1, r2⟩ := run_append_fullB w A A' n m c' l l' h1 h2 hnm
  unfold Oper.wp
  simp [execOp, hop, hty, resolve, invoke, builtin, hs, hx, hrun, Result.andThen]
  exact hK A2 c2 w' r1 r2

theorem Ks.nx {w w' : World} {v : Value} {l : List Int} (h : Ks w w.heap.size v l) (hb : BelW w w') : Ks w' w'.heap.size v l := Arr.keep stays_u8 h (Below.size hb) fun _ hp => Below.cell hb hp
theorem Ks.dr {w : World} {v : Value} {l : List Int} (h : Ks w w.heap.size v l) : Ks w.drew w.drew.heap.size v l := h.nx (Below.drew (Below.refl _ _))
theorem Ks.al {w : World} {v : Value} {l : List Int} (h : Ks w w.heap.size v l) (o : Obj) : Ks (w.alloc o) (w.alloc o).heap.size v l := h.nx (below_new (Below.refl _ _) o)
theorem lit_new (w : World) : Ks (w.alloc (.cells #[.int .u8 0] 5)) (w.alloc (.cells #[.int .u8 0] 5)).heap.size (.slice (some ⟨w.heap.size, 0, none⟩) 1 1) [0] := by
  refine ⟨_, w.heap.size, 0, 1, rfl, fun _ => rfl, Nat.le_refl _, by decide, fun k hk => ⟨by simp, ?_⟩⟩
  obtain rfl : k = 0 := by simp at hk; omega
  show World.cell? _ ⟨w.heap.size, 0 + 0 * 1, none⟩ = _
  rw [World.cell?_alloc_at _ _ _ _ rfl]
  rfl
theorem lit_at {w : World} {g : Nat} (h : g = w.heap.size) : Ks (w.alloc (.cells #[.int .u8 0] 5)) (w.alloc (.cells #[.int .u8 0] 5)).heap.size (.slice (some ⟨g, 0, none⟩) 1 1) [0] := by
  subst h; exact lit_new w
theorem Below.belW {w w' : World} (h : Below w.heap.size w w') : BelW w w' := h
end Go.Proofs.YtbkfpaklmepglaaDoor

namespace Go.Proofs.YtbkfpaklmepglaaDoor
open Go.RowKit

/-- The second pattern's list behind k rounds: known values of the first in the place of its own. -/
def mrgTo (l m : List Int) (k : Nat) : List Int := (List.range m.length).map fun i => if i < k ∧ l.getD i 0 ≠ 2 then l.getD i 0 else m.getD i 0
theorem mrgTo_len (l m : List Int) (k : Nat) : (mrgTo l m k).length = m.length := by simp [mrgTo]
theorem mrgTo_get {l m : List Int} {k i : Nat} (hi : i < m.length) : (mrgTo l m k).getD i 0 = if i < k ∧ l.getD i 0 ≠ 2 then l.getD i 0 else m.getD i 0 := by
  simp [mrgTo, List.getD_eq_getElem?_getD, hi]
theorem mrgTo_zero (l m : List Int) : mrgTo l m 0 = m := by
  apply List.ext_getElem?
  intro i
  by_cases hi : i < m.length
  · simp [mrgTo, hi, List.getD_eq_getElem?_getD]
  · rw [List.getElem?_eq_none (by rw [mrgTo_len]; omega), List.getElem?_eq_none (by omega)]
theorem getD_ext {a b : List Int} (hl : a.length = b.length) (h : ∀ i, i < a.length → a.getD i 0 = b.getD i 0) : a = b := by
  apply List.ext_getElem hl
  intro i h1 h2
  have := h i h1
  simpa [List.getD_eq_getElem?_getD, List.getElem?_eq_getElem h1, List.getElem?_eq_getElem h2] using this
theorem getD_setL {a : List Int} {k i : Nat} {x : Int} (hk : k < a.length) : (a.set k x).getD i 0 = if i = k then x else a.getD i 0 := by
  rw [List.getD_eq_getElem?_getD, List.getD_eq_getElem?_getD, List.getElem?_set]
  by_cases h : k = i
  · subst h; simp [hk]
  · rw [if_neg h, if_neg (fun e => h e.symm)]
theorem mrgTo_keep {l m : List Int} {k : Nat} (h : l.getD k 0 = 2) : mrgTo l m (k + 1) = mrgTo l m k := by
  refine getD_ext (by rw [mrgTo_len, mrgTo_len]) fun i hi => ?_
  rw [mrgTo_len] at hi
  rw [mrgTo_get hi, mrgTo_get hi]
  by_cases e : i = k
  · subst e; rw [if_neg (fun h' => h'.2 h), if_neg (by omega)]
  · by_cases h1 : i < k
    · by_cases h2 : l.getD i 0 ≠ 2
      · rw [if_pos ⟨by omega, h2⟩, if_pos ⟨h1, h2⟩]
      · rw [if_neg (fun h' => h2 h'.2), if_neg (fun h' => h2 h'.2)]
    · rw [if_neg (by omega), if_neg (by omega)]
theorem mrgTo_put {l m : List Int} {k : Nat} (hk : k < m.length) (h : l.getD k 0 ≠ 2) : mrgTo l m (k + 1) = (mrgTo l m k).set k (l.getD k 0) := by
  refine getD_ext (by rw [List.length_set, mrgTo_len, mrgTo_len]) fun i hi => ?_
  rw [mrgTo_len] at hi
  rw [getD_setL (by rw [mrgTo_len]; exact hk), mrgTo_get hi]
  by_cases e : i = k
  · subst e; rw [if_pos rfl, if_pos ⟨by omega, h⟩]
  · rw [if_neg e, mrgTo_get hi]
    by_cases h1 : i < k
    · by_cases h2 : l.getD i 0 ≠ 2
      · rw [if_pos ⟨by omega, h2⟩, if_pos ⟨h1, h2⟩]
      · rw [if_neg (fun h' => h2 h'.2), if_neg (fun h' => h2 h'.2)]
    · rw [if_neg (by omega), if_neg (by omega)]
theorem mrg_le {l m : List Int} {k i : Nat} (hi : i < m.length) (hk : i < k) : blw (l.getD i 0) ((mrgTo l m k).getD i 0) = true := by
  rw [mrgTo_get hi]
  by_cases h : l.getD i 0 ≠ 2
  · rw [if_pos ⟨hk, h⟩]; exact Lg.blw_refl _
  · have e : l.getD i 0 = 2 := by omega
    rw [e]; exact Lg.blw_X _
theorem takV_in {l : List Int} {most : Int} (h0 : ∀ x ∈ l, 0 ≤ x ∧ x ≤ 255) (hm : 3 ≤ most) (hm2 : most ≤ 4) (i : Nat) : 0 ≤ takV l most i ∧ takV l most i ≤ 3 := by
  unfold takV
  split
  · omega
  · rename_i hl
    have hmem := h0 (l.getD (i % l.length) 0) (by rw [List.getD_eq_getElem?_getD, List.getElem?_eq_getElem (Nat.mod_lt _ (by omega))]; exact List.getElem_mem _)
    rw [Int.tmod_eq_emod_of_nonneg hmem.1]
    have h1 := Int.emod_nonneg (l.getD (i % l.length) 0) (show most ≠ 0 by omega)
    have h2 := Int.emod_lt_of_pos (l.getD (i % l.length) 0) (show 0 < most by omega)
    omega
theorem takL_in {l : List Int} {most : Int} (h0 : ∀ x ∈ l, 0 ≤ x ∧ x ≤ 255) (hm : 3 ≤ most) (hm2 : most ≤ 4) (n : Nat) : ∀ x ∈ takL l most n, 0 ≤ x ∧ x ≤ 3 := fun x hx => by
  obtain ⟨i, -, rfl⟩ := List.mem_map.1 hx
  exact takV_in h0 hm hm2 i
theorem getD_inL {l : List Int} {i : Nat} (h : i < l.length) : l.getD i 0 ∈ l := by
  rw [List.getD_eq_getElem?_getD, List.getElem?_eq_getElem h]; exact List.getElem_mem h
theorem mrgTo_in {l m : List Int} {k : Nat} (hl : ∀ x ∈ l, 0 ≤ x ∧ x ≤ 3) (hm : ∀ x ∈ m, 0 ≤ x ∧ x ≤ 3) (hlen : l.length = m.length) : ∀ x ∈ mrgTo l m k, 0 ≤ x ∧ x ≤ 3 := fun x hx => by
  obtain ⟨i, hi, rfl⟩ := List.mem_map.1 hx
  have hi' := List.mem_range.1 hi
  show 0 ≤ (if i < k ∧ l.getD i 0 ≠ 2 then l.getD i 0 else m.getD i 0) ∧ _
  split
  · exact hl _ (getD_inL (by omega))
  · exact hm _ (getD_inL hi')

/-- Values, response and next states are below, net by net. -/
theorem resp_le {c : Ck} {n1 n2 : List Int} (hl : n1.length = n2.length) (h : ∀ i : Nat, i < n1.length → blw (lat n1 i) (lat n2 i) = true) :
    (∀ x, blw (valA n1 x) (valA n2 x) = true) ∧ (∀ j, j < (outV c n1).length → blw ((outV c n1).getD j 0) ((outV c n2).getD j 0) = true) ∧ (∀ j, j < (nextV c n1).length → blw ((nextV c n1).getD j 0) ((nextV c n2).getD j 0) = true) := by
  have hv : ∀ x, blw (valA n1 x) (valA n2 x) = true := fun x => by
    unfold valA
    rw [hl]
    by_cases hx : x < 0 ∨ (n2.length : Int) ≤ x
    · rw [if_pos hx, if_pos hx]; exact Lg.blw_refl _
    · rw [if_neg hx, if_neg hx, blw_cln]
      obtain ⟨k, rfl⟩ := Int.eq_ofNat_of_zero_le (show 0 ≤ x by omega)
      exact h k (by omega)
  have hd : ∀ l, blw (dataV n1 l) (dataV n2 l) = true := fun l => by
    unfold dataV
    split
    · exact Lg.rd_mono (hv _)
    · exact Lg.blw_refl _
  refine ⟨hv, fun j hj => ?_, fun j hj => ?_⟩
  · unfold outV at hj ⊢
    have hj' : j < c.outs.length := by simpa using hj
    simp only [List.getD_eq_getElem?_getD, List.getElem?_map, List.getElem?_eq_getElem hj']
    exact hv _
  · unfold nextV at hj ⊢
    have hj' : j < (ofTo c.nodes [14] c.nodes.length).length := by simpa using hj
    simp only [List.getD_eq_getElem?_getD, List.getElem?_map, List.getElem?_eq_getElem hj']
    exact hd _

/-- The pattern that is changed in place, in its variable q4: rows of its own behind V3. -/
structure MV (V3 : World) (q4 ni ns cI cS : Nat) (AI AS : Option Addr) (lI lS : List Int) (wr : World) : Prop where
  bel : BelW V3 wr
  box : Fr wr q4 30 [.slice AI ni cI, .slice AS ns cS]
  rI : VStk wr V3.heap.size (.slice AI ni cI) lI
  rS : VStk wr V3.heap.size (.slice AS ns cS) lS
  apart : ∀ a b, (Value.slice AI ni cI).ownBlock = some a → (Value.slice AS ns cS).ownBlock = some b → a ≠ b
  offI : ∀ a, (Value.slice AI ni cI).ownBlock = some a → a ≠ q4
  offS : ∀ a, (Value.slice AS ns cS).ownBlock = some a → a ≠ q4
  lenI : lI.length = ni
  lenS : lS.length = ns
section
variable {V3 wr w' : World} {q4 ni ns cI cS : Nat} {AI AS : Option Addr} {lI lS : List Int}
theorem MV.next (h : MV V3 q4 ni ns cI cS AI AS lI lS wr) (hb : Below wr.heap.size wr w') : MV V3 q4 ni ns cI cS AI AS lI lS w' :=
  ⟨joinB h.bel hb, h.box.below hb, h.rI.below hb, h.rS.below hb, h.apart, h.offI, h.offS, h.lenI, h.lenS⟩
theorem VStk.other {w : World} {base : Nat} {v : Value} {l : List Int} (h : VStk w base v l) {a : Addr} (ha : v.ownBlock ≠ some a.block) (x : Value) : VStk (w.setCell a x) base v l :=
  World.ownsRow.kept h (row := some a.block) ⟨rfl, rfl, rfl, by simp [World.setCell], fun i _ hne => Below.heap_setCell _ _ _ _ (fun e => hne (by rw [e]))⟩ (.inr ha)
theorem VStk.set {w : World} {base g n c : Nat} {l : List Int} (h : VStk w base (.slice (some ⟨g, 0, none⟩) n c) l) (hl : l.length = n) (j : Nat) (x : Int) : VStk (w.setCell ⟨g, j, none⟩ (.int .u8 x)) base (.slice (some ⟨g, 0, none⟩) n c) (l.set j x) := by
  subst hl
  have := (World.ownsRow.stored h j (.int .u8 x)).1
  unfold VStk
  rw [List.length_set, List.map_set]
  exact this
theorem MV.setI {g : Nat} (h : MV V3 q4 ni ns cI cS (some ⟨g, 0, none⟩) AS lI lS wr) (j : Nat) (x : Int) : MV V3 q4 ni ns cI cS (some ⟨g, 0, none⟩) AS (lI.set j x) lS (wr.setCell ⟨g, j, none⟩ (.int .u8 x)) :=
  ⟨Below.setCell h.bel (World.ownsRow.lt h.rI g rfl).1 _, h.box.other (a := ⟨g, j, none⟩) (h.offI g rfl) _, h.rI.set h.lenI j x, h.rS.other (a := ⟨g, j, none⟩) (fun e => h.apart g g rfl e rfl) _, h.apart, h.offI, h.offS, by rw [List.length_set]; exact h.lenI, h.lenS⟩
theorem MV.setS {g : Nat} (h : MV V3 q4 ni ns cI cS AI (some ⟨g, 0, none⟩) lI lS wr) (j : Nat) (x : Int) : MV V3 q4 ni ns cI cS AI (some ⟨g, 0, none⟩) lI (lS.set j x) (wr.setCell ⟨g, j, none⟩ (.int .u8 x)) :=
  ⟨Below.setCell h.bel (World.ownsRow.lt h.rS g rfl).1 _, h.box.other (a := ⟨g, j, none⟩) (h.offS g rfl) _, h.rI.other (a := ⟨g, j, none⟩) (fun e => h.apart g g e rfl rfl) _, h.rS.set h.lenS j x, h.apart, h.offI, h.offS, h.lenI, by rw [List.length_set]; exact h.lenS⟩
end
end Go.Proofs.YtbkfpaklmepglaaDoor

namespace Go.Proofs.YtbkfpaklmepglaaDoor
open Go.RowKit

theorem VStk.al {w : World} {base : Nat} {v : Value} {l : List Int} (h : VStk w base v l) (o : Obj) : VStk (w.alloc o) base v l := h.below (below_new (Below.refl _ _) o)
theorem VStk.dr {w : World} {base : Nat} {v : Value} {l : List Int} (h : VStk w base v l) : VStk w.drew base v l := h.below (Below.drew (Below.refl _ _))
set_option maxRecDepth 100000 in
set_option maxHeartbeats 8000000 in
theorem pKno_at (c : Ck) (li ls : List Int) (A0 A1 A2 A3 Ai As : Option Addr) (n n1 n2 n3 ni ns c0 c1 c2 c3 mi ms ci cs : Nat) (w : World) (hn : c.nodes.length = n) (hni : (ofTo c.nodes [0] n).length = ni) (hns : (ofTo c.nodes [14] n).length = ns)
    (hc : Cir w w.heap.size (.agg #[.slice A0 n c0, .slice A1 n1 c1, .slice A2 n2 c2, .slice A3 n3 c3]) c) (hi : Ks w w.heap.size (.slice Ai mi ci) li) (hs : Ks w w.heap.size (.slice As ms cs) ls) (hsz : n ≤ 1000000) (vi : ∀ x ∈ li, 0 ≤ x ∧ x ≤ 255) (vs : ∀ x ∈ ls, 0 ≤ x ∧ x ≤ 255) (hbi : 1 + mi ≤ 140737488355328) (hbs : 1 + ms ≤ 140737488355328) :
    Calls Tryd.prog 22 #[.agg #[.slice Ai mi ci, .slice As ms cs], .agg #[.slice A0 n c0, .slice A1 n1 c1, .slice A2 n2 c2, .slice A3 n3 c3]] w fun e w' => ∃ AI cI AS cS, e = .returned (.agg #[.slice AI ni cI, .slice AS ns cS]) ∧ VStk w' w.heap.size (.slice AI ni cI) (takL (0 :: li) 2 ni) ∧ VStk w' w.heap.size (.slice AS ns cS) (takL (0 :: ls) 2 ns) ∧ (∀ a b, (Value.slice AI ni cI).ownBlock = some a → (Value.slice AS ns cS).ownBlock = some b → a ≠ b) ∧ BelW w w' := by
  obtain ⟨W0, HW0⟩ := named ((w.alloc (.cells #[.slice Ai mi ci, .slice As ms cs] 51)).alloc (.cells #[.slice A0 n c0, .slice A1 n1 c1, .slice A2 n2 c2, .slice A3 n3 c3] 27))
  have hb0 : BelW w W0 := by rw [HW0.out]; exact below_new (below_new (Below.refl _ _) _) _
  have hfp : Fr W0 w.heap.size 51 [.slice Ai mi ci, .slice As ms cs] := by rw [HW0.out]; exact Fr.alloc (Fr.made _ _ _ rfl) _
  have hfc : Fr W0 (w.heap.size + 1) 27 (#[.slice A0 n c0, .slice A1 n1 c1, .slice A2 n2 c2, .slice A3 n3 c3]).toList := by rw [HW0.out]; exact Fr.made _ _ _ (by simp)
  have hz0 : W0.heap.size = w.heap.size + 1 + 1 := by rw [HW0.out]; simp
  have HC0 : Hid (∀ W, BelW W0 W → Calls Tryd.prog 16 #[.agg #[.slice A0 n c0, .slice A1 n1 c1, .slice A2 n2 c2, .slice A3 n3 c3], .int .u8 0] W fun e w' => e = .returned (.int .i64 (ni : Int)) ∧ BelW W w') := Lib.hid fun W h => by
    have := count_any c 0 (.agg #[.slice A0 n c0, .slice A1 n1 c1, .slice A2 n2 c2, .slice A3 n3 c3]) W W.heap.size (Nat.le_refl _) ((hc.below (joinB hb0 h)).more (Below.size (joinB hb0 h))) (by omega)
    rw [hn, hni] at this; exact this
  have HC1 : Hid (∀ W, BelW W0 W → Calls Tryd.prog 16 #[.agg #[.slice A0 n c0, .slice A1 n1 c1, .slice A2 n2 c2, .slice A3 n3 c3], .int .u8 14] W fun e w' => e = .returned (.int .i64 (ns : Int)) ∧ BelW W w') := Lib.hid fun W h => by
    have := count_any c 14 (.agg #[.slice A0 n c0, .slice A1 n1 c1, .slice A2 n2 c2, .slice A3 n3 c3]) W W.heap.size (Nat.le_refl _) ((hc.below (joinB hb0 h)).more (Below.size (joinB hb0 h))) (by omega)
    rw [hn, hns] at this; exact this
  have HKI : Hid (∀ W, BelW W0 W → Ks W W.heap.size (.slice Ai mi ci) li) := Lib.hid fun W h => hi.nx (joinB hb0 h)
  have HKS : Hid (∀ W, BelW W0 W → Ks W W.heap.size (.slice As ms cs) ls) := Lib.hid fun W h => hs.nx (joinB hb0 h)
  have hniB : ni ≤ n := by rw [← hni]; exact ofTo_len _ _ _
  have hnsB : ns ≤ n := by rw [← hns]; exact ofTo_len _ _ _
  have h0i : ∀ x ∈ ([0] ++ li : List Int), 0 ≤ x ∧ x ≤ 255 := fun x hx => by
    rcases List.mem_append.1 hx with h | h
    · obtain rfl := List.mem_singleton.1 h; decide
    · exact vi x h
  have h0s : ∀ x ∈ ([0] ++ ls : List Int), 0 ≤ x ∧ x ≤ 255 := fun x hx => by
    rcases List.mem_append.1 hx with h | h
    · obtain rfl := List.mem_singleton.1 h; decide
    · exact vs x h
  obtain ⟨k1, HK1⟩ := named (1 + mi)
  obtain ⟨k2, HK2⟩ := named (1 + ms)
  have HE1 : Hid (1 + mi = k1) := Lib.hid HK1.out.symm
  have HE2 : Hid (1 + ms = k2) := Lib.hid HK2.out.symm
  have HL1 : Hid (k1 ≤ 140737488355328) := Lib.hid (by rw [HK1.out]; exact hbi)
  have HL2 : Hid (k2 ≤ 140737488355328) := Lib.hid (by rw [HK2.out]; exact hbs)
  have HTI : Hid (∀ W A cc, BelW W0 W → Ks W W.heap.size (.slice A k1 cc) ([0] ++ li) → Calls Tryd.prog 49 #[.slice A k1 cc, .int .i64 (ni : Int), .int .u8 2] W fun e w' => ∃ A cc, e = .returned (.slice A ni cc) ∧ (VStk w' W0.heap.size (.slice A ni cc) (takL ([0] ++ li) 2 ni) ∧ ∀ b, (Value.slice A ni cc).ownBlock = some b → W.heap.size ≤ b) ∧ BelW W w') := Lib.hid fun W A cc h hk =>
    (taken_any ([0] ++ li) 2 (by decide) (by decide) ni (by omega) A k1 cc W W.heap.size (Nat.le_refl _) hk h0i).mono fun e w' ⟨v, he, hv, hb⟩ => by
      obtain ⟨A, cc, rfl, -⟩ := hv.form
      rw [takL_len] at he hv
      exact ⟨A, cc, he, ⟨hv.low (Below.size h), fun b hb => (World.ownsRow.lt hv b hb).1⟩, hb⟩
  have HTS : Hid (∀ W A cc, BelW W0 W → Ks W W.heap.size (.slice A k2 cc) ([0] ++ ls) → Calls Tryd.prog 49 #[.slice A k2 cc, .int .i64 (ns : Int), .int .u8 2] W fun e w' => ∃ A cc, e = .returned (.slice A ns cc) ∧ (VStk w' W0.heap.size (.slice A ns cc) (takL ([0] ++ ls) 2 ns) ∧ ∀ b, (Value.slice A ns cc).ownBlock = some b → W.heap.size ≤ b) ∧ BelW W w') := Lib.hid fun W A cc h hk =>
    (taken_any ([0] ++ ls) 2 (by decide) (by decide) ns (by omega) A k2 cc W W.heap.size (Nat.le_refl _) hk h0s).mono fun e w' ⟨v, he, hv, hb⟩ => by
      obtain ⟨A, cc, rfl, -⟩ := hv.form
      rw [takL_len] at he hv
      exact ⟨A, cc, he, ⟨hv.low (Below.size h), fun b hb => (World.ownsRow.lt hv b hb).1⟩, hb⟩
  have HP : Hid (∀ (e : Ending) (w' : World) A0 c0 A1 c1, e = .returned (.agg #[.slice A0 ni c0, .slice A1 ns c1]) → VStk w' w.heap.size (.slice A0 ni c0) (takL ([0] ++ li) 2 ni) → VStk w' w.heap.size (.slice A1 ns c1) (takL ([0] ++ ls) 2 ns) → (∀ a b, (Value.slice A0 ni c0).ownBlock = some a → (Value.slice A1 ns c1).ownBlock = some b → a ≠ b) → BelW w w' →
      ∃ AI cI AS cS, e = .returned (.agg #[.slice AI ni cI, .slice AS ns cS]) ∧ VStk w' w.heap.size (.slice AI ni cI) (takL (0 :: li) 2 ni) ∧ VStk w' w.heap.size (.slice AS ns cS) (takL (0 :: ls) 2 ns) ∧ (∀ a b, (Value.slice AI ni cI).ownBlock = some a → (Value.slice AS ns cS).ownBlock = some b → a ≠ b) ∧ BelW w w') := Lib.hid fun e w' A0 c0 A1 c1 h1 h2 h3 h4 h5 => ⟨A0, c0, A1, c1, h1, h2, h3, h4, h5⟩
  have HCE : Hid (∀ W, BelW W0 W → BelW W0 W ∧ W.cell? ⟨w.heap.size, 0, none⟩ = some (.slice Ai mi ci) ∧ W.cell? ⟨w.heap.size, 1, none⟩ = some (.slice As ms cs) ∧ W.cell? ⟨w.heap.size + 1, 0, none⟩ = some (.slice A0 n c0) ∧ W.cell? ⟨w.heap.size + 1, 1, none⟩ = some (.slice A1 n1 c1) ∧ W.cell? ⟨w.heap.size + 1, 2, none⟩ = some (.slice A2 n2 c2) ∧ W.cell? ⟨w.heap.size + 1, 3, none⟩ = some (.slice A3 n3 c3)) := Lib.hid fun W h => ⟨h, (hfp.below h).cell 0, (hfp.below h).cell 1, (hfc.below h).cell 0, (hfc.below h).cell 1, (hfc.below h).cell 2, (hfc.below h).cell 3⟩
  have HB0 := Lib.hid hb0
  clear hc hi hs vi vs h0i h0s hfp hfc hbi hbs hn hni hns
  have hwz := HB0.out.size
  clear hb0
  go_enter Tryd.func22, Tryd.ntmps22
  go_upto_region 1 with (fail)
  rw [← HW0.out]
  obtain ⟨V, HV⟩ := named (W0.alloc (.cells #[.slice none 0 0, .slice none 0 0] 30))
  have hf0 : Fr V W0.heap.size 30 [.slice none 0 0, .slice none 0 0] := by rw [HV.out]; exact Fr.made _ _ _ rfl
  have hvz : W0.heap.size < V.heap.size := by rw [HV.out]; simp
  have hwr : w.heap.size + 1 < W0.heap.size := by omega
  have hrz : w.heap.size + 1 + 1 = W0.heap.size := hz0.symm
  rw [hrz]
  obtain ⟨r, HR⟩ := named W0.heap.size
  rw [← HR.out] at hf0 hvz hwr
  have hrl : W0.heap.size ≤ r := by rw [HR.out]; exact Nat.le_refl _
  try rw [← HV.out]
  try rw [← HR.out]
  have hs0 : BelW W0 V := by rw [HV.out]; exact below_new (Below.refl _ _) _
  have hf0d : Fr V.drew r 30 [.slice none 0 0, .slice none 0 0] := hf0
  have hs0d : BelW W0 V.drew := BelW.drew hs0

  trace_state
  go_region_held3 (fun w' => BelW W0 w' ∧ w'.cell? ⟨w.heap.size, 0, none⟩ = some (.slice Ai mi ci) ∧ w'.cell? ⟨w.heap.size, 1, none⟩ = some (.slice As ms cs) ∧ w'.cell? ⟨w.heap.size + 1, 0, none⟩ = some (.slice A0 n c0) ∧ w'.cell? ⟨w.heap.size + 1, 1, none⟩ = some (.slice A1 n1 c1) ∧ w'.cell? ⟨w.heap.size + 1, 2, none⟩ = some (.slice A2 n2 c2) ∧ w'.cell? ⟨w.heap.size + 1, 3, none⟩ = some (.slice A3 n3 c3))
    ((refine HCE.out _ ?_; first | ((repeat (first | (with_reducible assumption) | (with_reducible refine BelW.drew ?_) | (with_reducible refine BelW.alloc ?_ _))); done) | (with_reducible refine BelW.set (BelW.set ?_ ?_ _) ?_ _ <;> first | (with_reducible assumption) | ((try dsimp only) <;> omega))))
    (first
      | (refine step_append_fullB rfl (.tmp 5) (.tmp 7) rfl rfl _ Ai 1 mi ci [0] li rfl rfl (by (repeat (first | (with_reducible assumption) | (with_reducible refine lit_at ?_; (first | rfl | (simp; done))) | (with_reducible refine Ks.dr ?_) | (with_reducible refine Ks.al ?_ _)))) (HKI.out _ (by (repeat (first | (with_reducible assumption) | (with_reducible refine BelW.drew ?_) | (with_reducible refine BelW.alloc ?_ _))))) k1 HE1.out HL1.out ?_
         intro AX cX wa hka hba0
         have hba := Below.belW hba0
         have hswa : BelW W0 wa := (by refine BelW.next ?_ hba; (repeat (first | (with_reducible assumption) | (with_reducible refine BelW.drew ?_) | (with_reducible refine BelW.alloc ?_ _))))
         have hfwa : Fr wa r 30 [.slice none 0 0, .slice none 0 0] := Fr.below (by repeat (first | (with_reducible assumption) | (with_reducible refine Fr.drew ?_) | (with_reducible refine Fr.alloc ?_ _))) hba)
      | (go_at_call 16; (with_reducible refine Calls.mono (HC0.out _ ?_) ?_); · (repeat (first | (with_reducible assumption) | (with_reducible refine BelW.drew ?_) | (with_reducible refine BelW.alloc ?_ _)))
         rintro e wb ⟨rfl, hbb⟩
         have hswb : BelW W0 wb := (by refine BelW.next ?_ hbb; (repeat (first | (with_reducible assumption) | (with_reducible refine BelW.drew ?_) | (with_reducible refine BelW.alloc ?_ _))))
         have hfwb : Fr wb r 30 [.slice none 0 0, .slice none 0 0] := Fr.below (by repeat (first | (with_reducible assumption) | (with_reducible refine Fr.drew ?_) | (with_reducible refine Fr.alloc ?_ _))) hbb
         have hkb : Ks wb wb.heap.size (.slice AX k1 cX) ([0] ++ li) := (by (repeat (first | (with_reducible assumption) | (with_reducible refine lit_at ?_; (first | rfl | (simp; done))) | (with_reducible refine Ks.dr ?_) | (with_reducible refine Ks.al ?_ _) | (with_reducible refine Ks.nx ?_ hbb)))))
      | (go_at_call 49; have hq9 := hve; clear hq9; (with_reducible refine Calls.mono (HTS.out _ _ _ ?_ ?_) ?_); · (repeat (first | (with_reducible assumption) | (with_reducible refine BelW.drew ?_) | (with_reducible refine BelW.alloc ?_ _)))
         · (with_reducible exact hke)
         rintro e wf ⟨As', cs', rfl, ⟨hvs, hws⟩, hbf⟩
         have hnb : ∀ a, (Value.slice As' ns cs').ownBlock = some a → r < a := fun a h => Nat.lt_of_lt_of_le (Fr.lt (t := 30) (cs := [.slice none 0 0, .slice none 0 0]) (by repeat (first | (with_reducible assumption) | (with_reducible refine Fr.drew ?_) | (with_reducible refine Fr.alloc ?_ _)))) (hws a h)
         have hswf : BelW W0 wf := (by refine BelW.next ?_ hbf; (repeat (first | (with_reducible assumption) | (with_reducible refine BelW.drew ?_) | (with_reducible refine BelW.alloc ?_ _))))
         have hfwf : Fr wf r 30 [.slice none 0 0, .slice none 0 0] := Fr.below (by repeat (first | (with_reducible assumption) | (with_reducible refine Fr.drew ?_) | (with_reducible refine Fr.alloc ?_ _))) hbf
         have hvf := VStk.below hve hbf
         have hr0 := Fr.cell hfwf 0
         have hr1 := Fr.cell hfwf 1
         have hg0 := Fr.frozen hfwf 0
         have hg1 := Fr.frozen hfwf 1)
      | (go_at_call 49; (with_reducible refine Calls.mono (HTI.out _ _ _ ?_ ?_) ?_); · (repeat (first | (with_reducible assumption) | (with_reducible refine BelW.drew ?_) | (with_reducible refine BelW.alloc ?_ _)))
         · (repeat (first | (with_reducible assumption) | (with_reducible refine lit_at ?_; (first | rfl | (simp; done))) | (with_reducible refine Ks.dr ?_) | (with_reducible refine Ks.al ?_ _)))
         rintro e wc ⟨Ai', ci', rfl, ⟨hvc, hwc⟩, hbc⟩
         have hna : ∀ a, (Value.slice Ai' ni ci').ownBlock = some a → r < a := fun a h => Nat.lt_of_lt_of_le (Fr.lt (t := 30) (cs := [.slice none 0 0, .slice none 0 0]) (by repeat (first | (with_reducible assumption) | (with_reducible refine Fr.drew ?_) | (with_reducible refine Fr.alloc ?_ _)))) (hwc a h)
         have hswc : BelW W0 wc := (by refine BelW.next ?_ hbc; (repeat (first | (with_reducible assumption) | (with_reducible refine BelW.drew ?_) | (with_reducible refine BelW.alloc ?_ _))))
         have hfwc : Fr wc r 30 [.slice none 0 0, .slice none 0 0] := Fr.below (by repeat (first | (with_reducible assumption) | (with_reducible refine Fr.drew ?_) | (with_reducible refine Fr.alloc ?_ _))) hbc)
      | (refine step_append_fullB rfl (.tmp 12) (.tmp 14) rfl rfl _ As 1 ms cs [0] ls rfl rfl (by (repeat (first | (with_reducible assumption) | (with_reducible refine lit_at ?_; (first | rfl | (simp; done))) | (with_reducible refine Ks.dr ?_) | (with_reducible refine Ks.al ?_ _) | (with_reducible refine Ks.nx ?_ hbc) | (with_reducible refine Ks.nx ?_ hbb) | (with_reducible refine Ks.nx ?_ hba)))) (HKS.out _ (by (repeat (first | (with_reducible assumption) | (with_reducible refine BelW.drew ?_) | (with_reducible refine BelW.alloc ?_ _))))) k2 HE2.out HL2.out ?_
         intro AY cY wd hkd hbd0
         have hbd := Below.belW hbd0
         have hswd : BelW W0 wd := (by refine BelW.next ?_ hbd; (repeat (first | (with_reducible assumption) | (with_reducible refine BelW.drew ?_) | (with_reducible refine BelW.alloc ?_ _))))
         have hfwd : Fr wd r 30 [.slice none 0 0, .slice none 0 0] := Fr.below (by repeat (first | (with_reducible assumption) | (with_reducible refine Fr.drew ?_) | (with_reducible refine Fr.alloc ?_ _))) hbd
         have hvd : VStk wd W0.heap.size (.slice Ai' ni ci') (takL ([0] ++ li) 2 ni) := VStk.below (by repeat (first | (with_reducible assumption) | (with_reducible refine VStk.dr ?_) | (with_reducible refine VStk.al ?_ _))) hbd)
      | (go_at_call 16; (with_reducible refine Calls.mono (HC1.out _ ?_) ?_); · (repeat (first | (with_reducible assumption) | (with_reducible refine BelW.drew ?_) | (with_reducible refine BelW.alloc ?_ _)))
         rintro e we ⟨rfl, hbe⟩
         have hswe : BelW W0 we := (by refine BelW.next ?_ hbe; (repeat (first | (with_reducible assumption) | (with_reducible refine BelW.drew ?_) | (with_reducible refine BelW.alloc ?_ _))))
         have hfwe : Fr we r 30 [.slice none 0 0, .slice none 0 0] := Fr.below (by repeat (first | (with_reducible assumption) | (with_reducible refine Fr.drew ?_) | (with_reducible refine Fr.alloc ?_ _))) hbe
         have hke : Ks we we.heap.size (.slice AY k2 cY) ([0] ++ ls) := hkd.nx hbe
         have hve := VStk.below hvd hbe))
  all_goals
    have hq := (hfwf.set 0 (.slice Ai' ni ci')).set 1 (.slice As' ns cs')
    have hap : ∀ a b, (Value.slice Ai' ni ci').ownBlock = some a → (Value.slice As' ns cs').ownBlock = some b → a ≠ b := fun a b h1 h2 => Nat.ne_of_lt (Nat.lt_of_lt_of_le (World.ownsRow.lt hve a h1).2 (hws b h2))
    have hbz : Below w.heap.size w ((wf.setCell ⟨r, 0, none⟩ (.slice Ai' ni ci')).setCell ⟨r, 1, none⟩ (.slice As' ns cs')) := ((joinB HB0.out hswf).setCell (by show w.heap.size ≤ r; omega) _).setCell (by show w.heap.size ≤ r; omega) _
    have hv0 : VStk ((wf.setCell ⟨r, 0, none⟩ (.slice Ai' ni ci')).setCell ⟨r, 1, none⟩ (.slice As' ns cs')) w.heap.size (.slice Ai' ni ci') (takL ([0] ++ li) 2 ni) := ((hvf.other (a := ⟨r, 0, none⟩) (fun e => absurd (hna r e) (Nat.lt_irrefl r)) _).other (a := ⟨r, 1, none⟩) (fun e => absurd (hna r e) (Nat.lt_irrefl r)) _).low hwz
    have hv1 : VStk ((wf.setCell ⟨r, 0, none⟩ (.slice Ai' ni ci')).setCell ⟨r, 1, none⟩ (.slice As' ns cs')) w.heap.size (.slice As' ns cs') (takL ([0] ++ ls) 2 ns) := ((hvs.other (a := ⟨r, 0, none⟩) (fun e => absurd (hnb r e) (Nat.lt_irrefl r)) _).other (a := ⟨r, 1, none⟩) (fun e => absurd (hnb r e) (Nat.lt_irrefl r)) _).low hwz
    go_wp2
    (try simp only [Exit.inBlock, Exit.then])
    refine bodyPost_ret (results_cell_row rfl _ _ _ _ _ _ _ rfl hq Tryd.underlying30 rfl (by kernel_rfl)) rfl ?_
    exact HP.out _ _ _ _ _ _ rfl hv0 hv1 hap hbz
end Go.Proofs.YtbkfpaklmepglaaDoor
