/- Calls on a valid circuit in its variable; the circuit of C made. -/
import Derived.Test.YtmghdeodkeenoaaDoorLsc
import Derived.Test.YtmghdeodkeenoaaDoorRor
import Derived.Test.YtmghdeodkeenoaaDoorSor
import Derived.Test.YtmghdeodkeenoaaDoorOfv
import Derived.Test.YtmghdeodkeenoaaDoorOfw
import Derived.Test.YtmghdeodkeenoaaDoorOfx
namespace Go.Proofs.YtmghdeodkeenoaaDoor
open Go.RowKit


theorem ofc_any (x : Cx) (hx : Cok x) (sG sA : Value) (w : World) (B : Nat) (hB : B ≤ w.heap.size) (hG : Gs w B sG x.gates) (hA : Ks w B sA x.outs) :
    Calls Tryd.prog 32 #[.agg #[.int .u8 x.inN, .int .u8 x.dffs, .int .u8 x.d0, .int .u8 x.d1, .bool x.bus, .bool x.mem, .int .u8 x.p0, .int .u8 x.p1, .int .u8 x.p2, .int .u8 x.p3, sG, sA]] w
      fun e w' => (∃ v, e = .returned v ∧ Cir w' w'.heap.size v (ofC x)) ∧ Below w.heap.size w w' := by
  cases h : x.mem
  · rw [← h]; exact ofc_false x h hx sG sA w B hB hG hA
  · rw [← h]; exact ofc_true x h hx sG sA w B hB hG hA


theorem hi_le (k : Int) : hi k ≤ 16 := by
  unfold hi
  split
  · decide
  · have h : ∀ i : Fin 16, spansL.getD (2 * i.val + 1) 0 ≤ 16 := by decide
    exact h ⟨k.toNat, by omega⟩
theorem chk_shape {c : Ck} (h : chkErr c = 0) : shapeErr c = 0 := by
  unfold chkErr at h
  by_cases e : shapeErr c = 0
  · exact e
  · rw [if_pos e] at h; exact absurd h e
/-- A valid circuit of fewer than 20 nodes, with its levels. -/
structure Vld (c : Ck) (L : List Int) (n : Nat) : Prop where
  ok : chkErr c = 0
  lvl : Lvl c.nodes L
  len : n = c.nodes.length
  few : n < 20
section
variable {c : Ck} {L : List Int} {n : Nat}
theorem Vld.wf (V : Vld c L n) : Wf c.nodes := wf_of_shape (chk_shape V.ok)
theorem Vld.bnd (V : Vld c L n) : ∀ i : Nat, i < n → 0 ≤ lat L i ∧ lat L i < (n : Int) := fun i hi => by
  rw [V.len] at hi
  have h1 := V.lvl.nonneg hi
  have h2 := V.lvl.bound V.wf hi
  rw [← V.len] at h2
  exact ⟨h1, h2⟩
theorem Vld.pins (V : Vld c L n) : ∀ k, k < c.nodes.length → (c.nodes.getD k default).ins.length ≤ 16 := fun k hk => by
  have h := (nodeErr_zero ((shape_zero (chk_shape V.ok)).2.2.2.2.1 _ (getD_mem_nd hk))).2.2.1
  have := hi_le (c.nodes.getD k default).kind
  omega
variable {w w1 W : World} {q : Nat} {A0 A1 A2 A3 : Option Addr} {n1 n2 n3 c0 c1 c2 c3 : Nat}
theorem lev_v (V : Vld c L n) (h : LC c w q A0 A1 A2 A3 n n1 n2 n3 c0 c1 c2 c3 w1) (hb : Below w1.heap.size w1 W) : Calls Tryd.prog 15 #[.agg #[.slice A0 n c0, .slice A1 n1 c1, .slice A2 n2 c2, .slice A3 n3 c3]] W
    fun e w' => (∃ g, e = .returned (.tuple #[.slice (some ⟨g, 0, none⟩) n n, .int .i64 0]) ∧ w1.heap.size ≤ g ∧ Row w' g L) ∧ Below w1.heap.size w1 w' ∧ LC c w q A0 A1 A2 A3 n n1 n2 n3 c0 c1 c2 c3 w' := by
  have hn := h.next hb
  refine (levels_any c _ W W.heap.size (Nat.le_refl _) hn.tabs hn.all).mono fun e w' ⟨h1, h2⟩ => ?_
  rcases h2 with ⟨-, -, L', g, h3, -, h4, h5, h6⟩ | ⟨h3, -⟩
  · rw [h3.unique V.wf V.lvl] at h6
    rw [← V.len] at h5
    exact ⟨⟨g, h5, Nat.le_trans hb.size h4, h6⟩, joinB hb h1, hn.next h1⟩
  · exact absurd V.ok h3
theorem ord_v (V : Vld c L n) (h : LC c w q A0 A1 A2 A3 n n1 n2 n3 c0 c1 c2 c3 w1) (hb : Below w1.heap.size w1 W) : Calls Tryd.prog 16 #[.agg #[.slice A0 n c0, .slice A1 n1 c1, .slice A2 n2 c2, .slice A3 n3 c3]] W
    fun e w' => (∃ d, e = .returned (.tuple #[.slice (some ⟨d, 0, none⟩) n n, .int .i64 0]) ∧ w1.heap.size ≤ d ∧ Row w' d (ordTo L n n)) ∧ Below w1.heap.size w1 w' ∧ LC c w q A0 A1 A2 A3 n n1 n2 n3 c0 c1 c2 c3 w' := by
  have hn := h.next hb
  refine (order_any c _ W W.heap.size (Nat.le_refl _) hn.tabs hn.all (by rw [← V.len]; exact V.few)).mono fun e w' ⟨h1, h2⟩ => ?_
  rcases h2 with ⟨-, -, L', R, d, h3, -, h4, h5, h6, h7⟩ | ⟨h3, -⟩
  · rw [h3.unique V.wf V.lvl, ← V.len] at h4
    rw [← V.len] at h6
    rw [ord_eq h4 V.bnd] at h7
    exact ⟨⟨d, h6, Nat.le_trans hb.size h5, h7⟩, joinB hb h1, hn.next h1⟩
  · exact absurd V.ok h3
theorem rord_v (V : Vld c L n) (h : LC c w q A0 A1 A2 A3 n n1 n2 n3 c0 c1 c2 c3 w1) (hb : Below w1.heap.size w1 W) : Calls Tryd.prog 33 #[.agg #[.slice A0 n c0, .slice A1 n1 c1, .slice A2 n2 c2, .slice A3 n3 c3]] W
    fun e w' => (∃ s, e = .returned s ∧ Is w' w'.heap.size s (ordTo L n n)) ∧ Below w1.heap.size w1 w' ∧ LC c w q A0 A1 A2 A3 n n1 n2 n3 c0 c1 c2 c3 w' := by
  have hn := h.next hb
  have hf := V.few
  refine (rord_any c _ W W.heap.size (Nat.le_refl _) hn.all V.wf (by rw [← V.len]; omega) (fun k hk => Nat.le_trans (V.pins k hk) (by decide)) L V.lvl).mono fun e w' ⟨h1, h2⟩ => ?_
  rw [← V.len] at h1
  exact ⟨h1, joinB hb h2, hn.next h2⟩
theorem lives_v (h : LC c w q A0 A1 A2 A3 n n1 n2 n3 c0 c1 c2 c3 w1) (hb : Below w1.heap.size w1 W) : Calls Tryd.prog 12 #[] W fun e w' => e = .returned (.bool true) ∧ Below w.heap.size w w' := by
  have hn := h.next hb
  exact (lives_any W hn.tabs).mono fun e w' ⟨h1, h2⟩ => ⟨h1, joinB hn.bel h2⟩
end
theorem vld_c (x : Cx) (hx : Cok x) : ∃ L, Vld (ofC x) L (sizeN x) := by
  obtain ⟨L, hL⟩ := ofC_lvl x hx
  exact ⟨L, ofC_ok x hx, hL, (ofC_len x).symm, by have := sizeN_le x; omega⟩
/-- The circuit of C is made, and lies in a new variable. -/
theorem ofc_c (x : Cx) (hx : Cok x) {sG sA : Value} {w W : World} (hT : Tabs w) (hG : Gs w w.heap.size sG x.gates) (hA : Ks w w.heap.size sA x.outs) (hb : Below w.heap.size w W) {n : Nat} (hn : n = sizeN x) :
    Calls Tryd.prog 32 #[.agg #[.int .u8 x.inN, .int .u8 x.dffs, .int .u8 x.d0, .int .u8 x.d1, .bool x.bus, .bool x.mem, .int .u8 x.p0, .int .u8 x.p1, .int .u8 x.p2, .int .u8 x.p3, sG, sA]] W
      fun e w' => ∃ A0 A1 A2 A3 n1 n2 n3 c0 c1 c2 c3, e = .returned (.agg #[.slice A0 n c0, .slice A1 n1 c1, .slice A2 n2 c2, .slice A3 n3 c3]) ∧ Below w.heap.size w w' ∧
        LC (ofC x) w w'.heap.size A0 A1 A2 A3 n n1 n2 n3 c0 c1 c2 c3 (w'.alloc (.cells #[.slice A0 n c0, .slice A1 n1 c1, .slice A2 n2 c2, .slice A3 n3 c3] 27)) := by
  refine (ofc_any x hx sG sA W w.heap.size hb.size (hG.below hb) (hA.below hb)).mono fun e w' ⟨⟨v, h1, h2⟩, h3⟩ => ?_
  have hbl := joinB hb h3
  have h4 := h2
  obtain ⟨v0, v1, v2, v3, rfl, hns, hss, hms, hos⟩ := h4
  obtain ⟨A0, b, o, c0, rfl, -⟩ := id hns
  obtain ⟨A1, b1, o1, c1, rfl, -⟩ := id hss
  obtain ⟨A2, b2, o2, c2, rfl, -⟩ := id hms
  obtain ⟨A3, b3, o3, c3, rfl, -⟩ := id hos
  have hlen : (ofC x).nodes.length = n := by rw [hn]; exact ofC_len x
  rw [hlen] at h1 h2
  exact ⟨A0, A1, A2, A3, _, _, _, c0, c1, c2, c3, h1, hbl, below_new hbl _, hbl.size, (hT.below hbl).below (below_new (Below.refl _ _) _), h2.below (below_new (Below.refl _ _) _), heap_alloc_new _ _⟩

/-- A row of truths of the call's own, in block g. -/
def BRow (w : World) (g : Nat) (l : List Bool) : Prop := w.ownsRow g 4 1 (.slice (some ⟨g, 0, none⟩) l.length l.length) l.length (l.map Value.bool)
section
variable {w w' : World} {g : Nat} {l : List Bool}
theorem BRow.cell (h : BRow w g l) {j : Nat} {b : Bool} (hj : l[j]? = some b) : w.cell? ⟨g, j, none⟩ = some (.bool b) := by
  have hl : j < l.length := (List.getElem?_eq_some_iff.1 hj).1
  rw [World.ownsRow.cellAt h j (by omega), List.getElem?_map, hj]; rfl
theorem BRow.frozen (h : BRow w g l) (j : Nat) : w.frozen? ⟨g, j, none⟩ = false := World.ownsRow.frozenAt h j
theorem BRow.set (h : BRow w g l) (j : Nat) (x : Bool) : BRow (w.setCell ⟨g, j, none⟩ (.bool x)) g (l.set j x) := by
  have := (World.ownsRow.stored h j (.bool x)).1
  unfold BRow
  rw [List.length_set, List.map_set]
  exact this
theorem BRow.lt (h : BRow w g l) : g < w.heap.size := (World.ownsRow.lt h g rfl).2
theorem BRow.kept {row : Option Nat} (h : BRow w g l) (hg : w.grownBy w' row) (hne : some g ≠ row) : BRow w' g l := World.ownsRow.kept h hg (.inr hne)
theorem BRow.below (h : BRow w g l) (hb : Below w.heap.size w w') : BRow w' g l :=
  h.kept (row := none) ⟨hb.os, hb.tape, hb.output, hb.size, fun i hi _ => hb.block i hi⟩ (by simp)
end
theorem info_bool : (Tryd.prog.info? 4).map (fun i => (i.zero, i.size, i.bytes)) = some (some (.bool false), 1, 1) := by kernel_rfl
theorem made_false (n : Nat) : (madeCells #[Value.bool false] n).toList = (List.replicate n false).map Value.bool := by
  apply List.ext_getElem?
  intro j
  by_cases hj : j < n
  · simp [madeCells, hj, Nat.mod_one]
  · rw [List.getElem?_eq_none (by simp [madeCells]; omega), List.getElem?_eq_none (by simp; omega)]
end Go.Proofs.YtmghdeodkeenoaaDoor
