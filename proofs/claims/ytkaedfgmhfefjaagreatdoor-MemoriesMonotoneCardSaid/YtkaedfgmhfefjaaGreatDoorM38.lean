/- The texts Lcv Sna Cs St9 Bz9 Cm9 Ts9 Jn9. -/
import Derived.Test.YtkaedfgmhfefjaaGreatDoorM32
import Derived.Test.YtkaedfgmhfefjaaGreatDoorM08
import Derived.Test.YtkaedfgmhfefjaaGreatDoorM34
import Derived.Test.YtkaedfgmhfefjaaGreatDoorM35
import Derived.Test.YtkaedfgmhfefjaaGreatDoorM37
import Derived.Test.YtkaedfgmhfefjaaGreatDoorM31
import Derived.Test.YtkaedfgmhfefjaaGreatDoorM30
import Derived.Deep.RegionHeld3
namespace Go.Proofs.YtkaedfgmhfefjaaGreatDoor
open Go.RowKit


theorem ofc_any (x : Cx) (hx : Cok x) (sG sA : Value) (w : World) (B : Nat) (hB : B ≤ w.heap.size) (hG : Gs w B sG x.gates) (hA : Ks w B sA x.outs) :
    Calls Tryz.prog 7 #[.agg #[.int .u8 x.inN, .int .u8 x.dffs, .int .u8 x.d0, .int .u8 x.d1, .bool x.bus, .bool x.mem, .int .u8 x.p0, .int .u8 x.p1, .int .u8 x.p2, .int .u8 x.p3, sG, sA]] w
      fun e w' => (∃ v, e = .returned v ∧ Cir w' w'.heap.size v (ofC x)) ∧ Below w.heap.size w w' := by
  cases h : x.mem
  · rw [← h]; exact ofc_false x h hx sG sA w B hB hG hA
  · rw [← h]; exact ofc_true x h hx sG sA w B hB hG hA


theorem hi_le (k : Int) : hi k ≤ 16 := by
  unfold hi
  split
  · decide
  · have h : ∀ i : Fin 16, spansL.getD (2 * i.val + 1) 0 ≤ 16 := by decide
    exact h ⟨k.toNat, by omega⟩
theorem chk_shape {c : Ck} (h : chkErr c = 0) : shapeErr c = 0 := by
  unfold chkErr at h
  by_cases e : shapeErr c = 0
  · exact e
  · rw [if_pos e] at h; exact absurd h e
/-- A valid circuit of fewer than 20 nodes, with its levels. -/
structure Vld (c : Ck) (L : List Int) (n : Nat) : Prop where
  ok : chkErr c = 0
  lvl : Lvl c.nodes L
  len : n = c.nodes.length
  few : n < 20
section
variable {c : Ck} {L : List Int} {n : Nat}
theorem Vld.wf (V : Vld c L n) : Wf c.nodes := wf_of_shape (chk_shape V.ok)
theorem Vld.bnd (V : Vld c L n) : ∀ i : Nat, i < n → 0 ≤ lat L i ∧ lat L i < (n : Int) := fun i hi => by
  rw [V.len] at hi
  have h1 := V.lvl.nonneg hi
  have h2 := V.lvl.bound V.wf hi
  rw [← V.len] at h2
  exact ⟨h1, h2⟩
theorem Vld.pins (V : Vld c L n) : ∀ k, k < c.nodes.length → (c.nodes.getD k default).ins.length ≤ 16 := fun k hk => by
  have h := (nodeErr_zero ((shape_zero (chk_shape V.ok)).2.2.2.2.1 _ (getD_mem_nd hk))).2.2.1
  have := hi_le (c.nodes.getD k default).kind
  omega
variable {w w1 W : World} {q : Nat} {A0 A1 A2 A3 : Option Addr} {n1 n2 n3 c0 c1 c2 c3 : Nat}
end
theorem vld_c (x : Cx) (hx : Cok x) : ∃ L, Vld (ofC x) L (sizeN x) := by
  obtain ⟨L, hL⟩ := ofC_lvl x hx
  exact ⟨L, ofC_ok x hx, hL, (ofC_len x).symm, by have := sizeN_le x; omega⟩
/-- A row of truths of the call's own, in block g. -/
def BRow (w : World) (g : Nat) (l : List Bool) : Prop := w.ownsRow g 4 1 (.slice (some ⟨g, 0, none⟩) l.length l.length) l.length (l.map Value.bool)
section
variable {w w' : World} {g : Nat} {l : List Bool}
theorem BRow.cell (h : BRow w g l) {j : Nat} {b : Bool} (hj : l[j]? = some b) : w.cell? ⟨g, j, none⟩ = some (.bool b) := by
  have hl : j < l.length := (List.getElem?_eq_some_iff.1 hj).1
  rw [World.ownsRow.cellAt h j (by omega), List.getElem?_map, hj]; rfl
theorem BRow.frozen (h : BRow w g l) (j : Nat) : w.frozen? ⟨g, j, none⟩ = false := World.ownsRow.frozenAt h j
theorem BRow.set (h : BRow w g l) (j : Nat) (x : Bool) : BRow (w.setCell ⟨g, j, none⟩ (.bool x)) g (l.set j x) := by
  have := (World.ownsRow.stored h j (.bool x)).1
  unfold BRow
  rw [List.length_set, List.map_set]
  exact this
theorem BRow.lt (h : BRow w g l) : g < w.heap.size := (World.ownsRow.lt h g rfl).2
theorem BRow.kept {row : Option Nat} (h : BRow w g l) (hg : w.grownBy w' row) (hne : some g ≠ row) : BRow w' g l := World.ownsRow.kept h hg (.inr hne)
theorem BRow.below (h : BRow w g l) (hb : Below w.heap.size w w') : BRow w' g l :=
  h.kept (row := none) ⟨hb.os, hb.tape, hb.output, hb.size, fun i hi _ => hb.block i hi⟩ (by simp)
end
end Go.Proofs.YtkaedfgmhfefjaaGreatDoor

namespace Go.Proofs.YtkaedfgmhfefjaaGreatDoor
open Go.RowKit

theorem pOf_at (c : Ck) (a b : List Int) (A0 A1 A2 A3 Aa Ab : Option Addr) (n n1 n2 n3 ni ns c0 c1 c2 c3 ma mb ca cb : Nat) (w : World) (B : Nat) (hB : B ≤ w.heap.size) (hn : c.nodes.length = n) (hn1 : c.names.length = n1) (hn2 : c.mems.length = n2) (hn3 : c.outs.length = n3) (hni : (ofTo c.nodes [0] n).length = ni) (hns : (ofTo c.nodes [14] n).length = ns)
    (hc : Cir w B (.agg #[.slice A0 n c0, .slice A1 n1 c1, .slice A2 n2 c2, .slice A3 n3 c3]) c) (hi : Ks w B (.slice Aa ma ca) a) (hs : Ks w B (.slice Ab mb cb) b) (hsz : n ≤ 1000000) (va : ∀ y ∈ a, 0 ≤ y ∧ y ≤ 255) (vb : ∀ y ∈ b, 0 ≤ y ∧ y ≤ 255) :
    Calls Tryz.prog 32 #[.agg #[.slice Aa ma ca, .slice Ab mb cb], .agg #[.slice A0 n c0, .slice A1 n1 c1, .slice A2 n2 c2, .slice A3 n3 c3]] w fun e w' => ∃ AI cI AS cS, e = .returned (.agg #[.slice AI ni cI, .slice AS ns cS]) ∧ VStk w' w.heap.size (.slice AI ni cI) (takL a 4 ni) ∧ VStk w' w.heap.size (.slice AS ns cS) (takL b 3 ns) ∧ (∀ a b, (Value.slice AI ni cI).ownBlock = some a → (Value.slice AS ns cS).ownBlock = some b → a ≠ b) ∧ BelW w w' := by
  subst hn hn1 hn2 hn3 hni hns
  have hp := pOf_any c a b A0 A1 A2 A3 Aa Ab c0 c1 c2 c3 ma mb ca cb w B hB hc hi hs hsz va vb
  refine hp.mono fun e w' ⟨AI, cI, AS, cS, he, r1, r2, r3, r4⟩ => ?_
  rw [takL_len] at he r1 r3
  rw [takL_len] at he r2 r3
  exact ⟨AI, cI, AS, cS, he, r1, r2, r3, r4⟩

theorem run_at (c : Ck) (li ls : List Int) (A0 A1 A2 A3 Ai As : Option Addr) (n n1 n2 n3 ni ns c0 c1 c2 c3 ci cs : Nat) (w : World) (B : Nat) (hB : B ≤ w.heap.size) (hT : Lg.Tabs w) (hn : c.nodes.length = n) (hn1 : c.names.length = n1) (hn2 : c.mems.length = n2) (hn20 : n2 = 0) (hn3 : c.outs.length = n3) (hni : (ofTo c.nodes [0] n).length = ni) (hns : (ofTo c.nodes [14] n).length = ns)
    (hc : Cir w B (.agg #[.slice A0 n c0, .slice A1 n1 c1, .slice A2 n2 c2, .slice A3 n3 c3]) c) (hpi : Ks w B (.slice Ai ni ci) li) (hps : Ks w B (.slice As ns cs) ls) (hfew : n < 20) (hos : c.outs.length ≤ 17592186044416) (hck : chkErr c = 0) (l1 : li.length = ni) (l2 : ls.length = ns) (v1 : ∀ y ∈ li, 0 ≤ y ∧ y ≤ 3) (v2 : ∀ y ∈ ls, 0 ≤ y ∧ y ≤ 3) :
    Calls Tryz.prog 27 #[.agg #[.slice A0 n c0, .slice A1 n1 c1, .slice A2 n2 c2, .slice A3 n3 c3], .agg #[.slice Ai ni ci, .slice As ns cs]] w fun e w' => ∃ nets g h k, Net c.nodes (baseV n (ofTo c.nodes [0] n) (ofTo c.nodes [14] n) li ls) nets ∧ nets.length = n ∧ e = .returned (.tuple #[.agg #[.slice (some ⟨g, 0, none⟩) n3 n3, .slice (some ⟨h, 0, none⟩) ns ns], .slice (some ⟨k, 0, none⟩) n n, .int .i64 0]) ∧ VRow w' g (outV c nets) ∧ VRow w' h (nextV c nets) ∧ VRow w' k nets ∧ BelW w w' := by
  subst hn hn1 hn2 hn3
  have hf : Fits c li ls := ⟨hn20, by rw [l1, hni], by rw [l2, hns], v1, v2⟩
  subst l1 l2
  have hr := run_ok c li ls A0 A1 A2 A3 Ai As c0 c1 c2 c3 ci cs w B hB hT hc hpi hps hfew hos hck hf
  refine hr.mono fun e w' ⟨nets, g, h, k, hn, he, r1, r2, r3, _, _, _, r4⟩ => ?_
  have hnl : nets.length = c.nodes.length := hn.1
  have lo : (outV c nets).length = c.outs.length := List.length_map _
  have ln : (nextV c nets).length = ls.length := by rw [← hns]; exact List.length_map _
  refine ⟨nets, g, h, k, hn, hnl, ?_, r1, r2, r3, r4⟩
  rw [lo, ln, hnl] at he
  exact he

theorem VStk.cellK {w : World} {base g n c : Nat} {l : List Int} (h : VStk w base (.slice (some ⟨g, 0, none⟩) n c) l) (hl : l.length = n) {k : Nat} (hk : k < n) : w.cell? ⟨g, k, none⟩ = some (.int .u8 (l.getD k 0)) := by
  subst hl; exact h.cell hk
theorem VStk.frozenK {w : World} {base g n c : Nat} {l : List Int} (h : VStk w base (.slice (some ⟨g, 0, none⟩) n c) l) (hl : l.length = n) (k : Nat) : w.frozen? ⟨g, k, none⟩ = false := by
  subst hl; exact World.ownsRow.frozenAt h k
theorem VStk.formK {w : World} {base n c : Nat} {A : Option Addr} {l : List Int} (h : VStk w base (.slice A n c) l) (hl : l.length = n) {k : Nat} (hk : k < n) : ∃ g, A = some ⟨g, 0, none⟩ := by
  subst hl
  obtain ⟨A', cc, e, -, -, hq⟩ := h.form
  simp only [Value.slice.injEq, true_and] at e
  obtain ⟨rfl, rfl⟩ := e
  obtain ⟨g, rfl, -, -⟩ := hq (by omega)
  exact ⟨g, rfl⟩
/-- The law's Below on two rows of values. -/
theorem below_rows {l l' : List Int} {g g' n : Nat} {w : World} (h : VRow w g l) (h' : VRow w g' l') (hl : l.length = n) (hl' : l'.length = n) (hle : ∀ j, j < n → blw (l.getD j 0) (l'.getD j 0) = true) :
    Calls Tryz.prog 26 #[.slice (some ⟨g, 0, none⟩) n n, .slice (some ⟨g', 0, none⟩) n n] w fun e w' => e = .returned (.int .i64 0) ∧ BelW w w' := by
  have k := h.ks
  have k' := h'.ks
  rw [hl] at k
  rw [hl'] at k'
  exact belowL_yes l l' n _ _ n n w _ _ k k' hle
theorem ofC_outs4 (x : Cx) : (ofC x).outs.length ≤ 4 := by
  simp only [ofC, List.length_append, outsTo, List.length_map, List.length_range, List.length_cons, List.length_nil, outsN]
  omega
end Go.Proofs.YtkaedfgmhfefjaaGreatDoor

namespace Go.Proofs.YtkaedfgmhfefjaaGreatDoor
open Go.RowKit

/-- A valid circuit without memories, its lengths under names of their own. -/
structure Cst (c : Ck) (L : List Int) (n n1 n3 ni ns : Nat) : Prop where
  vld : Vld c L n
  h1 : c.names.length = n1
  h2 : c.mems.length = 0
  h3 : c.outs.length = n3
  hi : (ofTo c.nodes [0] n).length = ni
  hs : (ofTo c.nodes [14] n).length = ns
  outs : c.outs.length ≤ 17592186044416
section
variable {c : Ck} {L : List Int} {n n1 n3 ni ns : Nat}
theorem Cst.len (S : Cst c L n n1 n3 ni ns) : c.nodes.length = n := S.vld.len.symm
theorem Cst.few (S : Cst c L n n1 n3 ni ns) : n < 20 := S.vld.few
theorem Cst.niB (S : Cst c L n n1 n3 ni ns) : ni ≤ n := by rw [← S.hi]; exact ofTo_len _ _ _
theorem Cst.nsB (S : Cst c L n n1 n3 ni ns) : ns ≤ n := by rw [← S.hs]; exact ofTo_len _ _ _
end
/-- The circuit in variable q. -/
structure Cs (c : Ck) (n n1 n3 : Nat) (A0 A1 A2 A3 : Option Addr) (c0 c1 c2 c3 q : Nat) (W : World) : Prop where
  tabs : Lg.Tabs W
  cir : Cir W W.heap.size (.agg #[.slice A0 n c0, .slice A1 n1 c1, .slice A2 0 c2, .slice A3 n3 c3]) c
  box : Fr W q 39 [.slice A0 n c0, .slice A1 n1 c1, .slice A2 0 c2, .slice A3 n3 c3]
section
variable {c : Ck} {L : List Int} {n n1 n3 ni ns : Nat} {A0 A1 A2 A3 : Option Addr} {c0 c1 c2 c3 q : Nat} {W W' : World}
theorem Cs.next (H : Cs c n n1 n3 A0 A1 A2 A3 c0 c1 c2 c3 q W) (hb : BelW W W') : Cs c n n1 n3 A0 A1 A2 A3 c0 c1 c2 c3 q W' :=
  ⟨H.tabs.below hb, (H.cir.below hb).more (Below.size hb), H.box.below hb⟩
theorem Cs.cells (H : Cs c n n1 n3 A0 A1 A2 A3 c0 c1 c2 c3 q W) : W.cell? ⟨q, 0, none⟩ = some (.slice A0 n c0) ∧ W.cell? ⟨q, 1, none⟩ = some (.slice A1 n1 c1) ∧ W.cell? ⟨q, 2, none⟩ = some (.slice A2 0 c2) ∧ W.cell? ⟨q, 3, none⟩ = some (.slice A3 n3 c3) :=
  ⟨H.box.cell 0, H.box.cell 1, H.box.cell 2, H.box.cell 3⟩
/-- A node's cells and pins. -/
theorem Cs.node (H : Cs c n n1 n3 A0 A1 A2 A3 c0 c1 c2 c3 q W) (hn : c.nodes.length = n) {k : Nat} (hk : k < n) : ∃ b o A m cc, A0 = some ⟨b, o, none⟩ ∧ b < W.heap.size ∧ m = (c.nodes.getD k default).ins.length ∧
    W.cell? ⟨b, o + k * 4, none⟩ = some (.int .u8 (c.nodes.getD k default).kind) ∧ W.cell? ⟨b, o + k * 4 + 1, none⟩ = some (.slice A m cc) ∧ W.cell? ⟨b, o + k * 4 + 2, none⟩ = some (.int .i64 (c.nodes.getD k default).mem) ∧ W.cell? ⟨b, o + k * 4 + 3, none⟩ = some (.int .i64 (c.nodes.getD k default).bit) ∧ Is W W.heap.size (.slice A m cc) (c.nodes.getD k default).ins ∧ 0 ≤ (c.nodes.getD k default).kind ∧ (c.nodes.getD k default).kind ≤ 255 := by
  obtain ⟨v0, v1, v2, v3, e, hN, -, -, -⟩ := H.cir
  have e0 : v0 = .slice A0 n c0 := by have := congrArg (fun v => match v with | Value.agg a => a[0]? | _ => none) e; simpa using this.symm
  subst e0
  obtain ⟨A, b, o, cc, e1, hA, -, -, hc⟩ := hN
  simp only [Value.slice.injEq] at e1
  obtain ⟨rfl, -, rfl⟩ := e1
  obtain ⟨hb, s, f0, f1, f2, f3, hs, k0, k1⟩ := hc k (by rw [hn]; exact hk)
  have hs' := hs
  obtain ⟨A4, b4, o4, c4, rfl, -⟩ := hs'
  exact ⟨b, o, A4, _, c4, hA (by omega), hb, rfl, f0, f1, f2, f3, hs, k0, k1⟩
theorem Cs.kinds (H : Cs c n n1 n3 A0 A1 A2 A3 c0 c1 c2 c3 q W) (hn : c.nodes.length = n) : ∀ i : Nat, i < n → 0 ≤ (c.nodes.getD i default).kind := fun i hi => by
  obtain ⟨_, _, _, _, _, _, _, _, _, _, _, _, _, h, _⟩ := H.node hn hi
  exact h
/-- P.Of on it. -/
theorem Cs.pOf (H : Cs c n n1 n3 A0 A1 A2 A3 c0 c1 c2 c3 q W) (S : Cst c L n n1 n3 ni ns) {a b : List Int} {Aa Ab : Option Addr} {ma mb ca cb : Nat} (h1 : Ks W W.heap.size (.slice Aa ma ca) a) (h2 : Ks W W.heap.size (.slice Ab mb cb) b) (h3 : ∀ y ∈ a, 0 ≤ y ∧ y ≤ 255) (h4 : ∀ y ∈ b, 0 ≤ y ∧ y ≤ 255) :
    Calls Tryz.prog 32 #[.agg #[.slice Aa ma ca, .slice Ab mb cb], .agg #[.slice A0 n c0, .slice A1 n1 c1, .slice A2 0 c2, .slice A3 n3 c3]] W fun e w' => ∃ AI cI AS cS, e = .returned (.agg #[.slice AI ni cI, .slice AS ns cS]) ∧ VStk w' W.heap.size (.slice AI ni cI) (takL a 4 ni) ∧ VStk w' W.heap.size (.slice AS ns cS) (takL b 3 ns) ∧ (∀ a b, (Value.slice AI ni cI).ownBlock = some a → (Value.slice AS ns cS).ownBlock = some b → a ≠ b) ∧ BelW W w' :=
  pOf_at c a b A0 A1 A2 A3 Aa Ab n n1 0 n3 ni ns c0 c1 c2 c3 ma mb ca cb W W.heap.size (Nat.le_refl _) S.len S.h1 S.h2 S.h3 S.hi S.hs H.cir h1 h2 (by have := S.few; omega) h3 h4
/-- Run on it. -/
theorem Cs.run (H : Cs c n n1 n3 A0 A1 A2 A3 c0 c1 c2 c3 q W) (S : Cst c L n n1 n3 ni ns) {li ls : List Int} {Ai As : Option Addr} {ci cs : Nat} (h1 : Ks W W.heap.size (.slice Ai ni ci) li) (h2 : Ks W W.heap.size (.slice As ns cs) ls) (l1 : li.length = ni) (l2 : ls.length = ns) (v1 : ∀ y ∈ li, 0 ≤ y ∧ y ≤ 3) (v2 : ∀ y ∈ ls, 0 ≤ y ∧ y ≤ 3) :
    Calls Tryz.prog 27 #[.agg #[.slice A0 n c0, .slice A1 n1 c1, .slice A2 0 c2, .slice A3 n3 c3], .agg #[.slice Ai ni ci, .slice As ns cs]] W fun e w' => ∃ nets g h k, Net c.nodes (baseV n (ofTo c.nodes [0] n) (ofTo c.nodes [14] n) li ls) nets ∧ nets.length = n ∧ e = .returned (.tuple #[.agg #[.slice (some ⟨g, 0, none⟩) n3 n3, .slice (some ⟨h, 0, none⟩) ns ns], .slice (some ⟨k, 0, none⟩) n n, .int .i64 0]) ∧ VRow w' g (outV c nets) ∧ VRow w' h (nextV c nets) ∧ VRow w' k nets ∧ BelW W w' :=
  run_at c li ls A0 A1 A2 A3 Ai As n n1 0 n3 ni ns c0 c1 c2 c3 ci cs W W.heap.size (Nat.le_refl _) H.tabs S.len S.h1 S.h2 rfl S.h3 S.hi S.hs H.cir h1 h2 S.few S.outs S.vld.ok l1 l2 v1 v2
/-- Order on it: by the circuit's own levels. -/
theorem Cs.order (H : Cs c n n1 n3 A0 A1 A2 A3 c0 c1 c2 c3 q W) (S : Cst c L n n1 n3 ni ns) :
    Calls Tryz.prog 33 #[.agg #[.slice A0 n c0, .slice A1 n1 c1, .slice A2 0 c2, .slice A3 n3 c3]] W fun e w' => ∃ R d, SortTo L n n R ∧ R.length = n ∧ (∀ i : Nat, i < n → (i : Int) ∈ R) ∧ e = .returned (.tuple #[.slice (some ⟨d, 0, none⟩) n n, .int .i64 0]) ∧ W.heap.size ≤ d ∧ Row w' d R ∧ BelW W w' :=
  (order_any c _ W W.heap.size (Nat.le_refl _) (tabs_lg H.tabs) H.cir (by rw [S.len]; exact S.few)).mono fun e w' ⟨h1, h2⟩ => by
    rcases h2 with ⟨-, -, L', R, d, hl, -, hs, hd, he, hr⟩ | ⟨hne, -⟩
    · rw [hl.unique S.vld.wf S.vld.lvl] at hs
      rw [S.len] at hs he
      refine ⟨R, d, hs, ?_, fun i hi => ?_, he, hd, hr, h1⟩
      · obtain ⟨Z, h1, h2, -⟩ := hs
        rw [h1]; simp [rng, h2]
      · rw [ord_eq hs (fun i hi => by have := S.vld.bnd i hi; exact this)]
        exact ordTo_mem.2 ⟨i, rfl, hi, (S.vld.bnd i hi).1, (S.vld.bnd i hi).2⟩
    · exact absurd S.vld.ok hne
end
theorem takL_in4 {l : List Int} (h0 : ∀ x ∈ l, 0 ≤ x ∧ x ≤ 255) (n : Nat) : ∀ x ∈ takL l 4 n, 0 ≤ x ∧ x ≤ 3 := takL_in h0 (by decide) (by decide) n
end Go.Proofs.YtkaedfgmhfefjaaGreatDoor

namespace Go.Proofs.YtkaedfgmhfefjaaGreatDoor
open Go.RowKit

/-- The state behind a cycle whose nets are known. -/
noncomputable def nxtS (c : Ck) (ns m : Nat) (s : Stt) (nets : List Int) : Stt :=
  ⟨bitsL (nextV c nets) ns, (List.range m).map fun k => (List.range (s.words.getD k []).length).map (nxW c.mems s.words nets k), (List.range m).map (nxR c.mems s.words nets)⟩
theorem nextV_mono {c : Ck} {a b : List Int} (h : Lg.LeL a b) : Lg.LeL (nextV c a) (nextV c b) := by
  refine ⟨by unfold nextV; rw [List.length_map, List.length_map], ?_⟩
  refine (resp_le (c := c) h.1 fun i hi => ?_).2.2
  exact lel_lat h (i : Int)
theorem outV_mono {c : Ck} {a b : List Int} (h : Lg.LeL a b) : Lg.LeL (outV c a) (outV c b) := by
  refine ⟨by unfold outV; rw [List.length_map, List.length_map], ?_⟩
  refine (resp_le (c := c) h.1 fun i hi => ?_).2.1
  exact lel_lat h (i : Int)
theorem bitsL_mono {a b : List Int} (h : Lg.LeL a b) (n : Nat) : Lg.LeL (bitsL a n) (bitsL b n) := ⟨by rw [bitsL_len, bitsL_len], fun j hj => bits_mono h n j (by rw [bitsL_len] at hj; exact hj)⟩
theorem nxtS_mono {c : Ck} {ns m : Nat} {s t : Stt} (F : FitS c ns m s) (h : LeS s t) {a b : List Int} (hn : Lg.LeL a b) : LeS (nxtS c ns m s a) (nxtS c ns m t b) := by
  have key : ∀ k, k < m → Lg.LeL (nxR c.mems s.words a k) (nxR c.mems t.words b k) ∧ ∀ i, Lg.LeL (nxW c.mems s.words a k i) (nxW c.mems t.words b k i) := fun k hk =>
    nx_mono hn (h.wk k).1 (h.wk k).2 (by rw [(F.wk k hk).1]; exact Nat.le_refl _)
  refine ⟨bitsL_mono (nextV_mono hn) ns, by simp [nxtS], fun k => ?_, by simp [nxtS], fun k => ?_⟩
  · by_cases hk : k < m
    · have e : (nxtS c ns m s a).words.getD k [] = (List.range (s.words.getD k []).length).map (nxW c.mems s.words a k) := getD_range_map _ _ _ _ hk
      have e' : (nxtS c ns m t b).words.getD k [] = (List.range (t.words.getD k []).length).map (nxW c.mems t.words b k) := getD_range_map _ _ _ _ hk
      rw [e, e', ← (h.wk k).1]
      refine ⟨by rw [List.length_map, List.length_map], fun i => ?_⟩
      by_cases hi : i < (s.words.getD k []).length
      · rw [getD_range_map _ _ _ _ hi, getD_range_map _ _ _ _ hi]; exact (key k hk).2 i
      · rw [getD_none _ _ _ (by rw [List.length_map, List.length_range]; omega), getD_none _ _ _ (by rw [List.length_map, List.length_range]; omega)]; exact lel_refl _
    · rw [getD_none (nxtS c ns m s a).words _ _ (by simp [nxtS]; omega), getD_none (nxtS c ns m t b).words _ _ (by simp [nxtS]; omega)]
      exact ⟨rfl, fun i => lel_refl _⟩
  · by_cases hk : k < m
    · have e : (nxtS c ns m s a).read.getD k [] = nxR c.mems s.words a k := getD_range_map _ _ _ _ hk
      have e' : (nxtS c ns m t b).read.getD k [] = nxR c.mems t.words b k := getD_range_map _ _ _ _ hk
      rw [e, e']; exact (key k hk).1
    · rw [getD_none (nxtS c ns m s a).read _ _ (by simp [nxtS]; omega), getD_none (nxtS c ns m t b).read _ _ (by simp [nxtS]; omega)]
      exact lel_refl _
open Lg in
theorem two_le {n : Nat} {l : List Int} (h : l.length = n) : LeL (List.replicate n 2) l := by
  refine ⟨by rw [List.length_replicate, h], fun j hj => ?_⟩
  rw [rep_two _ _ (by rw [List.length_replicate] at hj; exact hj)]
  exact blw_X _
/-- The blank state is below every state. -/
theorem blS_le {c : Ck} {ns m : Nat} {s : Stt} (F : FitS c ns m s) : LeS (blS c ns m) s := by
  have B := blS_fits c ns m
  refine ⟨two_le F.dl, by rw [B.wl, F.wl], fun k => ?_, by rw [B.rl, F.rl], fun k => ?_⟩
  · by_cases hk : k < m
    · have e : (blS c ns m).words.getD k [] = (List.range (blN c.mems k)).map (blW c.mems k) := getD_range_map _ _ _ _ hk
      refine ⟨by rw [(B.wk k hk).1, (F.wk k hk).1], fun i => ?_⟩
      by_cases hi : i < blN c.mems k
      · rw [e, getD_range_map _ _ _ _ hi]; exact two_le ((F.wk k hk).2 i hi).1
      · rw [getD_none _ _ _ (by rw [(B.wk k hk).1]; omega), getD_none _ _ _ (by rw [(F.wk k hk).1]; omega)]; exact lel_refl _
    · rw [getD_none (blS c ns m).words _ _ (by rw [B.wl]; omega), getD_none s.words _ _ (by rw [F.wl]; omega)]
      exact ⟨rfl, fun i => lel_refl _⟩
  · by_cases hk : k < m
    · have e : (blS c ns m).read.getD k [] = blR c.mems k := getD_range_map _ _ _ _ hk
      rw [e]; exact two_le (F.rk k hk).1
    · rw [getD_none (blS c ns m).read _ _ (by rw [B.rl]; omega), getD_none s.read _ _ (by rw [F.rl]; omega)]
      exact lel_refl _
end Go.Proofs.YtkaedfgmhfefjaaGreatDoor

namespace Go.Proofs.YtkaedfgmhfefjaaGreatDoor
open Go.RowKit

section
variable (A0 A1 A2 A3 : Option Addr) (n0 n1 n2 n3 c0 c1 c2 c3 : Nat) (w : World)
set_option maxHeartbeats 2000000 in
theorem mBlank_ok (ns m : Nat) (lo : List Int) (nw : Nat → Nat) (fw : Nat → Nat → List Int) (fr : Nat → List Int) (h : ∀ W, BelW w W → Calls Tryz.prog 59 #[.agg #[.slice A0 n0 c0, .slice A1 n1 c1, .slice A2 n2 c2, .slice A3 n3 c3]] W fun e w' => e = .returned (.int .i64 0) ∧ BelW W w')
    (h' : ∀ W, BelW w W → Calls Tryz.prog 60 #[.agg #[.slice A0 n0 c0, .slice A1 n1 c1, .slice A2 n2 c2, .slice A3 n3 c3]] W fun e w' => ∃ gB D1 D2, e = .returned (.agg #[.slice (some ⟨gB, 0, none⟩) ns ns, .slice (some ⟨D1, 0, none⟩) m m, .slice (some ⟨D2, 0, none⟩) m m]) ∧ VRow w' gB lo ∧ (∃ L, W.heap.size ≤ L ∧ OSt w' D1 D2 L m nw fw fr m m) ∧ BelW W w') :
    Calls Tryz.prog 20 #[.agg #[.slice A0 n0 c0, .slice A1 n1 c1, .slice A2 n2 c2, .slice A3 n3 c3]] w fun e w' => ∃ gB D1 D2, e = .returned (.agg #[.slice (some ⟨gB, 0, none⟩) ns ns, .slice (some ⟨D1, 0, none⟩) m m, .slice (some ⟨D2, 0, none⟩) m m]) ∧ VRow w' gB lo ∧ (∃ L, w.heap.size ≤ L ∧ OSt w' D1 D2 L m nw fw fr m m) ∧ BelW w w' := by
  obtain ⟨W1, HW1⟩ := named ((w.alloc (.cells #[.slice A0 n0 c0, .slice A1 n1 c1, .slice A2 n2 c2, .slice A3 n3 c3] 39)).alloc (.cells #[.slice none 0 0, .slice none 0 0, .slice none 0 0] 45))
  have hb1 : BelW w W1 := by rw [HW1.out]; exact below_new (below_new (Below.refl _ _) _) _
  have hfc : Fr W1 w.heap.size 39 [.slice A0 n0 c0, .slice A1 n1 c1, .slice A2 n2 c2, .slice A3 n3 c3] := by rw [HW1.out]; exact Fr.alloc (Fr.made _ [.slice A0 n0 c0, .slice A1 n1 c1, .slice A2 n2 c2, .slice A3 n3 c3] _ rfl) _
  have hft : Fr W1 (w.heap.size + 1) 45 [.slice none 0 0, .slice none 0 0, .slice none 0 0] := by rw [HW1.out]; exact Fr.made _ [.slice none 0 0, .slice none 0 0, .slice none 0 0] _ (by simp)
  obtain ⟨s, HS⟩ := named w.heap.size
  have hsw : w.heap.size ≤ s := by rw [HS.out]; exact Nat.le_refl _
  rw [← HS.out] at hfc hft
  have hlt : s + 1 < W1.heap.size := hft.lt
  have HCE : Hid (∀ W, BelW W1 W → W.cell? ⟨s, 0, none⟩ = some (.slice A0 n0 c0) ∧ W.cell? ⟨s, 1, none⟩ = some (.slice A1 n1 c1) ∧ W.cell? ⟨s, 2, none⟩ = some (.slice A2 n2 c2) ∧ W.cell? ⟨s, 3, none⟩ = some (.slice A3 n3 c3) ∧ W.cell? ⟨s + 1, 0, none⟩ = some (.slice none 0 0) ∧ W.cell? ⟨s + 1, 1, none⟩ = some (.slice none 0 0) ∧ W.cell? ⟨s + 1, 2, none⟩ = some (.slice none 0 0) ∧ W.frozen? ⟨s + 1, 0, none⟩ = false ∧ W.frozen? ⟨s + 1, 1, none⟩ = false ∧ W.frozen? ⟨s + 1, 2, none⟩ = false) := Lib.hid fun W h => ⟨(hfc.below h).cell 0, (hfc.below h).cell 1, (hfc.below h).cell 2, (hfc.below h).cell 3, (hft.below h).cell 0, (hft.below h).cell 1, (hft.below h).cell 2, (hft.below h).frozen 0, (hft.below h).frozen 1, (hft.below h).frozen 2⟩
  have HEND : Hid (∀ W gB D1 D2 L, BelW W1 W → VRow W gB lo → W1.heap.size ≤ L → OSt W D1 D2 L m nw fw fr m m → Fr (((W.setCell ⟨s + 1, 0, none⟩ (.slice (some ⟨gB, 0, none⟩) ns ns)).setCell ⟨s + 1, 1, none⟩ (.slice (some ⟨D1, 0, none⟩) m m)).setCell ⟨s + 1, 2, none⟩ (.slice (some ⟨D2, 0, none⟩) m m)) (s + 1) 45 [.slice (some ⟨gB, 0, none⟩) ns ns, .slice (some ⟨D1, 0, none⟩) m m, .slice (some ⟨D2, 0, none⟩) m m] ∧ VRow (((W.setCell ⟨s + 1, 0, none⟩ (.slice (some ⟨gB, 0, none⟩) ns ns)).setCell ⟨s + 1, 1, none⟩ (.slice (some ⟨D1, 0, none⟩) m m)).setCell ⟨s + 1, 2, none⟩ (.slice (some ⟨D2, 0, none⟩) m m)) gB lo ∧ (∃ L, w.heap.size ≤ L ∧ OSt (((W.setCell ⟨s + 1, 0, none⟩ (.slice (some ⟨gB, 0, none⟩) ns ns)).setCell ⟨s + 1, 1, none⟩ (.slice (some ⟨D1, 0, none⟩) m m)).setCell ⟨s + 1, 2, none⟩ (.slice (some ⟨D2, 0, none⟩) m m)) D1 D2 L m nw fw fr m m) ∧ BelW w (((W.setCell ⟨s + 1, 0, none⟩ (.slice (some ⟨gB, 0, none⟩) ns ns)).setCell ⟨s + 1, 1, none⟩ (.slice (some ⟨D1, 0, none⟩) m m)).setCell ⟨s + 1, 2, none⟩ (.slice (some ⟨D2, 0, none⟩) m m))) := Lib.hid fun W gB D1 D2 L h hv hL hst => by
    have ft := hft.below h
    have hw := joinB hb1 h
    exact ⟨(((ft.set 0 (.slice (some ⟨gB, 0, none⟩) ns ns)).set 1 (.slice (some ⟨D1, 0, none⟩) m m)).set 2 (.slice (some ⟨D2, 0, none⟩) m m)), (((hv.other (a := ⟨s + 1, 0, none⟩) (ft.apart9 hv.fr (by decide)) (.slice (some ⟨gB, 0, none⟩) ns ns)).other (a := ⟨s + 1, 1, none⟩) (ft.apart9 hv.fr (by decide)) (.slice (some ⟨D1, 0, none⟩) m m)).other (a := ⟨s + 1, 2, none⟩) (ft.apart9 hv.fr (by decide)) (.slice (some ⟨D2, 0, none⟩) m m)), ⟨L, by omega, (((hst.off ft (by omega) 0 (.slice (some ⟨gB, 0, none⟩) ns ns)).off (ft.set 0 (.slice (some ⟨gB, 0, none⟩) ns ns)) (by omega) 1 (.slice (some ⟨D1, 0, none⟩) m m)).off ((ft.set 0 (.slice (some ⟨gB, 0, none⟩) ns ns)).set 1 (.slice (some ⟨D1, 0, none⟩) m m)) (by omega) 2 (.slice (some ⟨D2, 0, none⟩) m m))⟩, (((hw.setCell (p := ⟨s + 1, 0, none⟩) (by show w.heap.size ≤ s + 1; omega) (.slice (some ⟨gB, 0, none⟩) ns ns)).setCell (p := ⟨s + 1, 1, none⟩) (by show w.heap.size ≤ s + 1; omega) (.slice (some ⟨D1, 0, none⟩) m m)).setCell (p := ⟨s + 1, 2, none⟩) (by show w.heap.size ≤ s + 1; omega) (.slice (some ⟨D2, 0, none⟩) m m))⟩
  have HH := Lib.hid (h W1 hb1)
  have HK : Hid (∀ W, BelW W1 W → Calls Tryz.prog 60 #[.agg #[.slice A0 n0 c0, .slice A1 n1 c1, .slice A2 n2 c2, .slice A3 n3 c3]] W fun e w' => ∃ gB D1 D2, e = .returned (.agg #[.slice (some ⟨gB, 0, none⟩) ns ns, .slice (some ⟨D1, 0, none⟩) m m, .slice (some ⟨D2, 0, none⟩) m m]) ∧ VRow w' gB lo ∧ (∃ L, W.heap.size ≤ L ∧ OSt w' D1 D2 L m nw fw fr m m) ∧ BelW W w') := Lib.hid fun W hb => h' W (joinB hb1 hb)
  obtain ⟨x0, x1, x2, x3, r0, r1, r2, f0, f1, f2⟩ := HCE.out W1 (Below.refl _ _)
  clear h h' hfc hft hb1 hsw hlt
  go_enter Tryz.func20, Tryz.ntmps20
  go_upto_region 1 with (fail)
  rw [← HW1.out, ← HS.out]
  go_wp2_with (first
    | (go_at_call 59; (with_reducible refine HH.out.mono ?_); rintro e w2 ⟨rfl, hb⟩; have HB2 := Lib.hid hb; clear x0 x1 x2 x3 r0 r1 r2 f0 f1 f2; obtain ⟨x0, x1, x2, x3, r0, r1, r2, f0, f1, f2⟩ := HCE.out _ hb; clear hb)
    | (go_at_call 60; (with_reducible refine (HK.out _ HB2.out).mono ?_); rintro e w3 ⟨gB, D1, D2, rfl, hv3, ⟨L, hL3, hst3⟩, hb3⟩; have HE := Lib.hid (HEND.out w3 gB D1 D2 L (joinB HB2.out hb3) hv3 (Nat.le_trans (Below.size HB2.out) hL3) hst3); clear x0 x1 x2 x3 r0 r1 r2 f0 f1 f2; obtain ⟨x0, x1, x2, x3, r0, r1, r2, f0, f1, f2⟩ := HCE.out _ (joinB HB2.out hb3); clear hv3 hL3 hst3 hb3))
  (try simp only [Exit.inBlock, Exit.then])
  refine bodyPost_ret (results_cell_row rfl _ _ _ _ _ _ _ rfl HE.out.1 Tryz.underlying45 rfl (by kernel_rfl)) rfl ?_
  exact ⟨gB, D1, D2, rfl, HE.out.2.1, HE.out.2.2.1, HE.out.2.2.2⟩
end
end Go.Proofs.YtkaedfgmhfefjaaGreatDoor

namespace Go.Proofs.YtkaedfgmhfefjaaGreatDoor
open Go.RowKit

/-- A valid circuit of C, its lengths under names of their own. -/
structure Cmt (c : Ck) (L : List Int) (n n1 m n3 ni ns : Nat) : Prop where
  vld : Vld c L n
  h1 : c.names.length = n1
  h2 : c.mems.length = m
  h3 : c.outs.length = n3
  hi : (ofTo c.nodes [0] n).length = ni
  hs : (ofTo c.nodes [14] n).length = ns
  m1 : m ≤ 1
  port : ∀ k, k < m → (c.mems.getD k default).addr.length = 1 ∧ (c.mems.getD k default).data.length = 2
  outs : c.outs.length ≤ 17592186044416
theorem getD_mem_mm {l : List Mm} {i : Nat} (h : i < l.length) : l.getD i default ∈ l := by
  rw [List.getD_eq_getElem?_getD, List.getElem?_eq_getElem h]; exact List.getElem_mem h
theorem memErr_zero {c : Ck} {x : Mm} (h : memErr c x = 0) : (0 ≤ x.write ∧ x.write < (c.nodes.length : Int)) ∧ (∀ y ∈ x.addr, 0 ≤ y ∧ y < (c.nodes.length : Int)) ∧ (∀ y ∈ x.data, 0 ≤ y ∧ y < (c.nodes.length : Int)) := by
  unfold memErr at h
  split at h
  · cases h
  split at h
  · cases h
  · rename_i h1 h2
    refine ⟨isIdx_iff.1 ?_, areIdx_iff.1 ?_, areIdx_iff.1 ?_⟩
    · refine (Bool.not_eq_false _).mp fun e => h2 (.inl e)
    · refine (Bool.not_eq_false _).mp fun e => h2 (.inr (.inl e))
    · refine (Bool.not_eq_false _).mp fun e => h2 (.inr (.inr e))
section
variable {c : Ck} {L : List Int} {n n1 m n3 ni ns : Nat}
theorem Cmt.len (S : Cmt c L n n1 m n3 ni ns) : c.nodes.length = n := S.vld.len.symm
theorem Cmt.few (S : Cmt c L n n1 m n3 ni ns) : n < 20 := S.vld.few
theorem Cmt.niB (S : Cmt c L n n1 m n3 ni ns) : ni ≤ n := by rw [← S.hi]; exact ofTo_len _ _ _
theorem Cmt.nsB (S : Cmt c L n n1 m n3 ni ns) : ns ≤ n := by rw [← S.hs]; exact ofTo_len _ _ _
theorem Cmt.hi' (S : Cmt c L n n1 m n3 ni ns) : (ofTo c.nodes [0] c.nodes.length).length = ni := by rw [S.len]; exact S.hi
theorem Cmt.hs' (S : Cmt c L n n1 m n3 ni ns) : (ofTo c.nodes [14] c.nodes.length).length = ns := by rw [S.len]; exact S.hs
theorem Cmt.pos (S : Cmt c L n n1 m n3 ni ns) : ∀ k, k < m → posS c.mems ns (k + 1) ≤ 10000000 := fun k hk => by
  have h1 := S.m1
  have h2 := S.nsB
  have h3 := S.few
  obtain rfl : k = 0 := by omega
  obtain ⟨p, q⟩ := S.port 0 hk
  show ns + 2 ^ (c.mems.getD 0 default).addr.length * (c.mems.getD 0 default).data.length + (c.mems.getD 0 default).data.length ≤ _
  rw [p, q]
  omega
theorem Cmt.idx (S : Cmt c L n n1 m n3 ni ns) : ∀ k, k < m → (∀ x ∈ (c.mems.getD k default).addr, 0 ≤ x ∧ x < (n : Int)) ∧ (∀ x ∈ (c.mems.getD k default).data, 0 ≤ x ∧ x < (n : Int)) ∧ 0 ≤ (c.mems.getD k default).write ∧ (c.mems.getD k default).write < (n : Int) := fun k hk => by
  have h := memErr_zero ((shape_zero (chk_shape S.vld.ok)).2.2.2.2.2.2.1 _ (getD_mem_mm (by rw [S.h2]; exact hk)))
  rw [S.len] at h
  exact ⟨h.2.1, h.2.2, h.1.1, h.1.2⟩
theorem Cmt.memOk (S : Cmt c L n n1 m n3 ni ns) {s : Stt} (F : FitS c ns m s) : MemOk c.nodes s.read := fun i hi hk => by
  have h := (nodeErr_zero ((shape_zero (chk_shape S.vld.ok)).2.2.2.2.1 _ (getD_mem_nd hi))).2.2.2.2.2
  unfold placeOk at h
  rw [if_pos hk, Bool.and_eq_true, isIdx_iff, isIdx_iff] at h
  obtain ⟨⟨a, b⟩, d, e⟩ := h
  rw [S.h2] at b
  have hm : (c.nodes.getD i default).mem.toNat < m := by omega
  refine ⟨a, by rw [F.rl]; exact b, d, ?_⟩
  rw [(F.rk _ hm).1]
  exact e
theorem Cmt.cy (S : Cmt c L n n1 m n3 ni ns) {s : Stt} {inp : List Int} (F : FitS c ns m s) (hl : inp.length = ni) (hv : ∀ y ∈ inp, 0 ≤ y ∧ y ≤ 3) : CyOk c s inp n ni ns m where
  hn := S.len
  hm := S.h2
  hni := S.hi'
  hns := S.hs'
  ck := ck_fits F hl fun j hj => (hv _ (getD_inL hj)).2
  li := hl
  ld := F.dl
  wf := S.vld.wf
  pins := S.vld.pins
  mem := S.memOk F
  nx := F.nx S.h2 fun k hk => by
    obtain ⟨a, b, d, e⟩ := S.idx k hk
    obtain ⟨p, q⟩ := S.port k hk
    exact ⟨a, b, d, e, by omega, by omega⟩
  nsz := by have := S.few; omega
  msz := by have := S.m1; omega
  port := fun k hk => by obtain ⟨p, q⟩ := S.port k hk; omega
  outs := S.outs
end
/-- A cycle's nets. -/
noncomputable def cyN (c : Ck) (L : List Int) (n : Nat) (s : Stt) (inp : List Int) : List Int := stmK c.nodes s.read (cyB c n s inp) (ordTo L n n) n
theorem cyN_len (c : Ck) (L : List Int) (n : Nat) (s : Stt) (inp : List Int) : (cyN c L n s inp).length = n := by
  unfold cyN cyB
  rw [stmK_len, asg_len, asg_len, List.length_replicate]
/-- The circuit in variable q. -/
structure Cm (c : Ck) (n n1 m n3 : Nat) (A0 A1 A2 A3 : Option Addr) (c0 c1 c2 c3 q : Nat) (W : World) : Prop where
  tabs : Lg.Tabs W
  cir : Cir W W.heap.size (.agg #[.slice A0 n c0, .slice A1 n1 c1, .slice A2 m c2, .slice A3 n3 c3]) c
  box : Fr W q 39 [.slice A0 n c0, .slice A1 n1 c1, .slice A2 m c2, .slice A3 n3 c3]
section
variable {c : Ck} {L : List Int} {n n1 m n3 ni ns : Nat} {A0 A1 A2 A3 : Option Addr} {c0 c1 c2 c3 q : Nat} {W W' : World}
theorem Cm.next (H : Cm c n n1 m n3 A0 A1 A2 A3 c0 c1 c2 c3 q W) (hb : BelW W W') : Cm c n n1 m n3 A0 A1 A2 A3 c0 c1 c2 c3 q W' :=
  ⟨H.tabs.below hb, (H.cir.below hb).more (Below.size hb), H.box.below hb⟩
theorem Cm.cells (H : Cm c n n1 m n3 A0 A1 A2 A3 c0 c1 c2 c3 q W) : W.cell? ⟨q, 0, none⟩ = some (.slice A0 n c0) ∧ W.cell? ⟨q, 1, none⟩ = some (.slice A1 n1 c1) ∧ W.cell? ⟨q, 2, none⟩ = some (.slice A2 m c2) ∧ W.cell? ⟨q, 3, none⟩ = some (.slice A3 n3 c3) :=
  ⟨H.box.cell 0, H.box.cell 1, H.box.cell 2, H.box.cell 3⟩
/-- P.Of on it. -/
theorem Cm.pOf (H : Cm c n n1 m n3 A0 A1 A2 A3 c0 c1 c2 c3 q W) (S : Cmt c L n n1 m n3 ni ns) {a b : List Int} {Aa Ab : Option Addr} {ma mb ca cb : Nat} (h1 : Ks W W.heap.size (.slice Aa ma ca) a) (h2 : Ks W W.heap.size (.slice Ab mb cb) b) (h3 : ∀ y ∈ a, 0 ≤ y ∧ y ≤ 255) (h4 : ∀ y ∈ b, 0 ≤ y ∧ y ≤ 255) :
    Calls Tryz.prog 32 #[.agg #[.slice Aa ma ca, .slice Ab mb cb], .agg #[.slice A0 n c0, .slice A1 n1 c1, .slice A2 m c2, .slice A3 n3 c3]] W fun e w' => ∃ AI cI AS cS, e = .returned (.agg #[.slice AI ni cI, .slice AS ns cS]) ∧ VStk w' W.heap.size (.slice AI ni cI) (takL a 4 ni) ∧ VStk w' W.heap.size (.slice AS ns cS) (takL b 3 ns) ∧ (∀ a b, (Value.slice AI ni cI).ownBlock = some a → (Value.slice AS ns cS).ownBlock = some b → a ≠ b) ∧ BelW W w' :=
  pOf_at c a b A0 A1 A2 A3 Aa Ab n n1 m n3 ni ns c0 c1 c2 c3 ma mb ca cb W W.heap.size (Nat.le_refl _) S.len S.h1 S.h2 S.h3 S.hi S.hs H.cir h1 h2 (by have := S.few; omega) h3 h4
/-- Check on it. -/
theorem Cm.check (H : Cm c n n1 m n3 A0 A1 A2 A3 c0 c1 c2 c3 q W) (S : Cmt c L n n1 m n3 ni ns) :
    Calls Tryz.prog 59 #[.agg #[.slice A0 n c0, .slice A1 n1 c1, .slice A2 m c2, .slice A3 n3 c3]] W fun e w' => e = .returned (.int .i64 0) ∧ BelW W w' :=
  (check_any c _ W W.heap.size (Nat.le_refl _) (tabs_lg H.tabs) H.cir).mono fun e w' ⟨he, hb⟩ => by
    rw [S.vld.ok] at he
    exact ⟨he, hb⟩
/-- Order on it: by the circuit's own levels. -/
theorem Cm.order (H : Cm c n n1 m n3 A0 A1 A2 A3 c0 c1 c2 c3 q W) (S : Cmt c L n n1 m n3 ni ns) :
    Calls Tryz.prog 33 #[.agg #[.slice A0 n c0, .slice A1 n1 c1, .slice A2 m c2, .slice A3 n3 c3]] W fun e w' => ∃ R d, (R = ordTo L n n ∧ R.length = n ∧ ∀ x ∈ R, 0 ≤ x ∧ x < (n : Int)) ∧ e = .returned (.tuple #[.slice (some ⟨d, 0, none⟩) n n, .int .i64 0]) ∧ W.heap.size ≤ d ∧ Row w' d R ∧ BelW W w' :=
  (order_any c _ W W.heap.size (Nat.le_refl _) (tabs_lg H.tabs) H.cir (by rw [S.len]; exact S.few)).mono fun e w' ⟨h1, h2⟩ => by
    rcases h2 with ⟨-, -, L', R, d, hl, -, hs, hd, he, hr⟩ | ⟨hne, -⟩
    · rw [hl.unique S.vld.wf S.vld.lvl] at hs
      rw [S.len] at hs he
      have e1 := ord_eq hs S.vld.bnd
      refine ⟨R, d, ⟨e1, ?_, fun x hx => ?_⟩, he, hd, hr, h1⟩
      · rw [e1]; exact ordTo_full S.vld.bnd
      · rw [e1] at hx
        obtain ⟨i, rfl, hi, -⟩ := ordTo_mem.1 hx
        omega
    · exact absurd S.vld.ok hne
theorem osts_reads {w : World} {gB D1 D2 LL : Nat} {ns m : Nat} {lo : List Int} {nw : Nat → Nat} {fw : Nat → Nat → List Int} {fr : Nat → List Int} (hB : VRow w gB lo) (hl : lo.length = ns) (h : OSt w D1 D2 LL m nw fw fr m m) (hm : m ≤ maxLen) (hn : ∀ j, j < m → nw j ≤ maxLen) :
    StR w w.heap.size (some ⟨gB, 0, none⟩) (some ⟨D1, 0, none⟩) (some ⟨D2, 0, none⟩) ns m m ns m m ⟨lo, (List.range m).map fun j => (List.range (nw j)).map (fw j), (List.range m).map fr⟩ := by
  obtain ⟨r1, r2⟩ := h.reads hm hn
  have r0 := hB.ks
  rw [hl] at r0
  exact ⟨r0, r1, r2⟩
/-- Cycle on it. -/
theorem Cm.cycle (H : Cm c n n1 m n3 A0 A1 A2 A3 c0 c1 c2 c3 q W) (S : Cmt c L n n1 m n3 ni ns) {s : Stt} {inp : List Int} {As0 As1 As2 Ai : Option Addr} {d0 d1 d2 ci : Nat} (hS : StR W W.heap.size As0 As1 As2 ns m m d0 d1 d2 s) (hI : Ks W W.heap.size (.slice Ai ni ci) inp) (F : FitS c ns m s) (hl : inp.length = ni) (hv : ∀ y ∈ inp, 0 ≤ y ∧ y ≤ 3) :
    Calls Tryz.prog 9 #[.agg #[.slice A0 n c0, .slice A1 n1 c1, .slice A2 m c2, .slice A3 n3 c3], .agg #[.slice As0 ns d0, .slice As1 m d1, .slice As2 m d2], .slice Ai ni ci] W fun e w' => ∃ gB D1 D2 go gn g, e = .returned (.tuple #[.agg #[.slice (some ⟨gB, 0, none⟩) ns ns, .slice (some ⟨D1, 0, none⟩) m m, .slice (some ⟨D2, 0, none⟩) m m], .agg #[.slice (some ⟨go, 0, none⟩) n3 n3, .slice (some ⟨gn, 0, none⟩) ns ns], .slice (some ⟨g, 0, none⟩) n n, .int .i64 0])
      ∧ VRow w' g (cyN c L n s inp) ∧ VRow w' go (outV c (cyN c L n s inp)) ∧ VRow w' gn (nextV c (cyN c L n s inp)) ∧ StR w' w'.heap.size (some ⟨gB, 0, none⟩) (some ⟨D1, 0, none⟩) (some ⟨D2, 0, none⟩) ns m m ns m m (nxtS c ns m s (cyN c L n s inp)) ∧ BelW W w' := by
  have hk := S.cy F hl hv
  have hlo : ∀ l, (outV c l).length = n3 := fun l => by rw [← S.h3]; exact List.length_map _
  refine (mcycle_ok c s inp (fun R => R = ordTo L n n) A0 A1 A2 A3 As0 As1 As2 Ai n n1 m n3 c0 c1 c2 c3 m d0 d1 d2 ci ns ni W H.tabs H.cir hS hI hk fun W' hb => (H.next hb).order S).mono fun e w' ⟨R, gB, D1, D2, go, gn, g, hR, he, r1, r2, r3, r4, ⟨LL, r5⟩, r6⟩ => ?_
  subst hR
  rw [hlo] at he
  refine ⟨gB, D1, D2, go, gn, g, he, r1, r2, r3, ?_, r6⟩
  refine osts_reads r4 (bitsL_len _ _) r5 (by have := S.m1; unfold maxLen; omega) fun j hj => ?_
  have := (hk.nx.words j (by rw [S.h2]; exact hj)).2.1
  unfold maxLen
  omega
/-- Blank on it. -/
theorem Cm.blank (H : Cm c n n1 m n3 A0 A1 A2 A3 c0 c1 c2 c3 q W) (S : Cmt c L n n1 m n3 ni ns) :
    Calls Tryz.prog 20 #[.agg #[.slice A0 n c0, .slice A1 n1 c1, .slice A2 m c2, .slice A3 n3 c3]] W fun e w' => ∃ gB D1 D2, e = .returned (.agg #[.slice (some ⟨gB, 0, none⟩) ns ns, .slice (some ⟨D1, 0, none⟩) m m, .slice (some ⟨D2, 0, none⟩) m m]) ∧ StR w' w'.heap.size (some ⟨gB, 0, none⟩) (some ⟨D1, 0, none⟩) (some ⟨D2, 0, none⟩) ns m m ns m m (blS c ns m) ∧ BelW W w' := by
  refine (mBlank_ok A0 A1 A2 A3 n n1 m n3 c0 c1 c2 c3 W ns m (List.replicate ns 2) (blN c.mems) (blW c.mems) (blR c.mems) (fun W' hb => (H.next hb).check S) fun W' hb => mblank_any c A0 A1 A2 A3 n n1 m n3 c0 c1 c2 c3 ns W' (H.next hb).cir (by rw [S.len]; have := S.few; omega) S.hs' (by have := S.nsB; have := S.few; omega) (by have := S.m1; omega) (fun k hk => by obtain ⟨p, q⟩ := S.port k hk; omega)).mono fun e w' ⟨gB, D1, D2, he, r1, ⟨LL, _, r2⟩, r3⟩ => ?_
  refine ⟨gB, D1, D2, he, ?_, r3⟩
  refine osts_reads r1 List.length_replicate r2 (by have := S.m1; unfold maxLen; omega) fun j hj => ?_
  obtain ⟨p, q⟩ := S.port j hj
  show 2 ^ (c.mems.getD j default).addr.length ≤ _
  rw [p]
  decide
end
/-- C.Of: a valid circuit. -/
theorem ofc_m (x : Cx) (hx : Cok x) (sG sA : Value) (w W : World) (hb : BelW w W) (hG : Gs w w.heap.size sG x.gates) (hA : Ks w w.heap.size sA x.outs) {c : Ck} (hc : c = ofC x) {n : Nat} (hn : n = c.nodes.length) {m : Nat} (hm : m = c.mems.length) :
    Calls Tryz.prog 7 #[.agg #[.int .u8 x.inN, .int .u8 x.dffs, .int .u8 x.d0, .int .u8 x.d1, .bool x.bus, .bool x.mem, .int .u8 x.p0, .int .u8 x.p1, .int .u8 x.p2, .int .u8 x.p3, sG, sA]] W fun e w' => (∃ A0 A1 A2 A3 n1 n3 c0 c1 c2 c3, e = .returned (.agg #[.slice A0 n c0, .slice A1 n1 c1, .slice A2 m c2, .slice A3 n3 c3]) ∧ Cir w' w'.heap.size (.agg #[.slice A0 n c0, .slice A1 n1 c1, .slice A2 m c2, .slice A3 n3 c3]) c ∧ n1 = c.names.length ∧ n3 = c.outs.length) ∧ BelW W w' := by
  refine (ofc_any x hx sG sA W w.heap.size (Below.size hb) (hG.below hb) (Arr.keep stays_u8 hA (Nat.le_refl _) fun _ hp => Below.cell hb hp)).mono fun e w' ⟨⟨v, he, hc1⟩, hb1⟩ => ?_
  rw [← hc] at hc1
  have hc2 := hc1
  obtain ⟨v0, v1, v2, v3, rfl, g0, g1, g2, g3⟩ := hc2
  obtain ⟨A0, _, _, c0, rfl, -⟩ := id g0
  obtain ⟨A1, _, _, c1, rfl, -⟩ := id g1
  obtain ⟨A2, _, _, c2, rfl, -⟩ := id g2
  obtain ⟨A3, _, _, c3, rfl, -⟩ := id g3
  rw [← hm, ← hn] at hc1 he
  exact ⟨⟨A0, A1, A2, A3, _, _, c0, c1, c2, c3, he, hc1, rfl, rfl⟩, hb1⟩
/-- What the walks know of it. -/
theorem cmt_of (x : Cx) (hx : Cok x) {c : Ck} (hc : c = ofC x) {n n1 m n3 ni ns : Nat} (hn : n = c.nodes.length) (h1 : n1 = c.names.length) (hm : m = c.mems.length) (h3 : n3 = c.outs.length) (hi : ni = (ofTo c.nodes [0] n).length) (hs : ns = (ofTo c.nodes [14] n).length) : ∃ L, Cmt c L n n1 m n3 ni ns := by
  obtain ⟨L, V⟩ := vld_c x hx
  rw [← hc] at V
  have hlen := V.len
  rw [hlen, ← hn] at V
  have hml : c.mems = memsN x := by rw [hc]; rfl
  refine ⟨L, V, h1.symm, hm.symm, h3.symm, hi.symm, hs.symm, ?_, fun k hk => ?_, ?_⟩
  · rw [hm, hml]; unfold memsN; split <;> simp
  · rw [hm, hml] at hk
    rw [hml]
    unfold memsN at hk ⊢
    split at hk
    · rename_i h
      rw [if_pos h]
      obtain rfl : k = 0 := by simpa using hk
      exact ⟨rfl, rfl⟩
    · exact absurd hk (by simp)
  · have := ofC_outs4 x
    rw [← hc] at this
    omega
end Go.Proofs.YtkaedfgmhfefjaaGreatDoor

namespace Go.Proofs.YtkaedfgmhfefjaaGreatDoor
open Go.RowKit

theorem results_row_tmp1 {P : Program} {fn : Func} {p t1 : Tmp} {ty : TypeId} (h : fn.results = #[.cell p ty, .tmp t1]) (tmps : Array Value) (w : World) (g : Nat) (t : TypeId) (cs : Array Value) (fr : Nat × Nat) (d : TypeDesc)
    (hp : tmps.getD p undef = .pointer (some ⟨g, 0, none⟩)) (hg : w.heap[g]? = some (.cells cs t fr)) (hu : P.underlying ty = some d) (hd : (match d with | .struct _ | .array _ _ => true | _ => false) = true) (hi : (P.info? ty).map (·.size) = some cs.size) :
    (results fn tmps).run P w = .ok (.tuple #[.agg cs, tmps.getD t1 undef]) w := by
  have q : tmps[p]?.getD undef = .pointer (some ⟨g, 0, none⟩) := by simpa using hp
  simp [results, h, q, asAddr, run_loadVar_row w g t ty cs fr d hg hu hd hi, Sem.run_bind, Result.andThen]
set_option maxRecDepth 100000 in
set_option maxHeartbeats 8000000 in
theorem step9_any {c : Ck} {L : List Int} {n n1 m n3 ni ns : Nat} {A0 A1 A2 A3 : Option Addr} {c0 c1 c2 c3 q : Nat} {w : World} (H : Cm c n n1 m n3 A0 A1 A2 A3 c0 c1 c2 c3 q w) (S : Cmt c L n n1 m n3 ni ns) {l a b : List Int} {A Aa Ab : Option Addr} {ml ma mb cl ca cb : Nat} (hl : Ks w w.heap.size (.slice A ml cl) l) (ha : Ks w w.heap.size (.slice Aa ma ca) a) (hb : Ks w w.heap.size (.slice Ab mb cb) b) (vl : ∀ x ∈ l, 0 ≤ x ∧ x ≤ 255) (va : ∀ x ∈ a, 0 ≤ x ∧ x ≤ 255) (vb : ∀ x ∈ b, 0 ≤ x ∧ x ≤ 255) :
    Calls Tryz.prog 8 #[.agg #[.slice A ml cl, .slice Aa ma ca, .slice Ab mb cb], .agg #[.slice A0 n c0, .slice A1 n1 c1, .slice A2 m c2, .slice A3 n3 c3]] w fun e w' => ∃ A7 c7 Aa1 ca1 Aa2 ca2 AI cI, e = .returned (.tuple #[.agg #[.slice A7 ns c7, .slice Aa1 m ca1, .slice Aa2 m ca2], .slice AI ni cI]) ∧ OwnS w' w.heap.size A7 Aa1 Aa2 ns m m c7 ca1 ca2 (sofS c ns m l) ∧ VStk w' w.heap.size (.slice AI ni cI) (takL a 4 ni) ∧ BelW w w' := by
  obtain ⟨W0, HW0⟩ := named (((w.alloc (.cells #[.slice A ml cl, .slice Aa ma ca, .slice Ab mb cb] 33)).alloc (.cells #[.slice A0 n c0, .slice A1 n1 c1, .slice A2 m c2, .slice A3 n3 c3] 39)).alloc (.cells #[.slice none 0 0, .slice none 0 0, .slice none 0 0] 45))
  have hb0 : BelW w W0 := by rw [HW0.out]; exact below_new (below_new (below_new (Below.refl _ _) _) _) _
  have hfy : Fr W0 w.heap.size 33 [.slice A ml cl, .slice Aa ma ca, .slice Ab mb cb] := by rw [HW0.out]; exact Fr.alloc (Fr.alloc (Fr.made _ [.slice A ml cl, .slice Aa ma ca, .slice Ab mb cb] _ rfl) _) _
  have hfc : Fr W0 (w.heap.size + 1) 39 [.slice A0 n c0, .slice A1 n1 c1, .slice A2 m c2, .slice A3 n3 c3] := by rw [HW0.out]; exact Fr.alloc (Fr.made _ [.slice A0 n c0, .slice A1 n1 c1, .slice A2 m c2, .slice A3 n3 c3] _ (by simp)) _
  have hft : Fr W0 (w.heap.size + 1 + 1) 45 [.slice none 0 0, .slice none 0 0, .slice none 0 0] := by rw [HW0.out]; exact Fr.made _ [.slice none 0 0, .slice none 0 0, .slice none 0 0] _ (by simp)
  obtain ⟨s, HS⟩ := named w.heap.size
  have HFT0 : Hid (s = w.heap.size) := HS
  rw [← HS.out] at hfy hfc hft
  have HCE : Hid (∀ W, BelW W0 W → W.cell? ⟨s, 0, none⟩ = some (.slice A ml cl) ∧ W.cell? ⟨s, 1, none⟩ = some (.slice Aa ma ca) ∧ W.cell? ⟨s, 2, none⟩ = some (.slice Ab mb cb) ∧ W.cell? ⟨s + 1, 0, none⟩ = some (.slice A0 n c0) ∧ W.cell? ⟨s + 1, 1, none⟩ = some (.slice A1 n1 c1) ∧ W.cell? ⟨s + 1, 2, none⟩ = some (.slice A2 m c2) ∧ W.cell? ⟨s + 1, 3, none⟩ = some (.slice A3 n3 c3)) := Lib.hid fun W h => ⟨(hfy.below h).cell 0, (hfy.below h).cell 1, (hfy.below h).cell 2, (hfc.below h).cell 0, (hfc.below h).cell 1, (hfc.below h).cell 2, (hfc.below h).cell 3⟩
  have HKP : Hid (∀ {v : Value} {x : List Int} {W : World}, BelW W0 W → Ks w w.heap.size v x → Ks W W.heap.size v x) := Lib.hid fun h hk => Arr.keep stays_u8 hk (joinB hb0 h).size fun _ hp => (joinB hb0 h).cell hp
  have HSO : Hid (∀ W, BelW W0 W → Calls Tryz.prog 23 #[.agg #[.slice A ml cl], .agg #[.slice A0 n c0, .slice A1 n1 c1, .slice A2 m c2, .slice A3 n3 c3]] W fun e w' => ∃ A7 c7 Aa1 ca1 Aa2 ca2, e = .returned (.agg #[.slice A7 ns c7, .slice Aa1 m ca1, .slice Aa2 m ca2]) ∧ OwnS w' W0.heap.size A7 Aa1 Aa2 ns m m c7 ca1 ca2 (sofS c ns m l) ∧ BelW W w') := Lib.hid fun W h => by
    have hbw := joinB hb0 h
    exact (sof9_any c l A A0 A1 A2 A3 n n1 m n3 c0 c1 c2 c3 ml cl ns W (H.next hbw).cir (HKP.out h hl) vl (by rw [S.len]; have := S.few; omega) S.hs' (by have := S.nsB; have := S.few; omega) (by have := S.m1; omega) (fun k hk => by obtain ⟨p, q⟩ := S.port k hk; omega) S.pos).mono fun e w' ⟨A7, c7, Aa1, ca1, Aa2, ca2, he, ho, hb⟩ => ⟨A7, c7, Aa1, ca1, Aa2, ca2, he, ho.low (Below.size h), hb⟩
  have HPO : Hid (∀ W, BelW W0 W → Calls Tryz.prog 32 #[.agg #[.slice Aa ma ca, .slice Ab mb cb], .agg #[.slice A0 n c0, .slice A1 n1 c1, .slice A2 m c2, .slice A3 n3 c3]] W fun e w' => ∃ AI cI AS cS, e = .returned (.agg #[.slice AI ni cI, .slice AS ns cS]) ∧ VStk w' W0.heap.size (.slice AI ni cI) (takL a 4 ni) ∧ BelW W w') := Lib.hid fun W h => by
    have hbw := joinB hb0 h
    exact ((H.next hbw).pOf S (HKP.out h ha) (HKP.out h hb) va vb).mono fun e w' ⟨AI, cI, AS, cS, he, r1, _, _, hb⟩ => ⟨AI, cI, AS, cS, he, r1.low (Below.size h), hb⟩
  have HB0 := Lib.hid hb0
  have HSZ : Hid (W0.heap.size = w.heap.size + 1 + 1 + 1) := Lib.hid (by rw [HW0.out]; simp)
  have HRB : Hid (∀ W, BelW W0 W → W.cell? ⟨s + 1 + 1, 0, none⟩ = some (.slice none 0 0) ∧ W.cell? ⟨s + 1 + 1, 1, none⟩ = some (.slice none 0 0) ∧ W.cell? ⟨s + 1 + 1, 2, none⟩ = some (.slice none 0 0) ∧ W.frozen? ⟨s + 1 + 1, 0, none⟩ = false ∧ W.frozen? ⟨s + 1 + 1, 1, none⟩ = false ∧ W.frozen? ⟨s + 1 + 1, 2, none⟩ = false) := Lib.hid fun W h => ⟨(hft.below h).cell 0, (hft.below h).cell 1, (hft.below h).cell 2, (hft.below h).frozen 0, (hft.below h).frozen 1, (hft.below h).frozen 2⟩
  have HS3 : Hid (∀ (W : World) (u0 u1 u2 : Value), BelW W0 W → (((W.setCell ⟨s + 1 + 1, 0, none⟩ u0).setCell ⟨s + 1 + 1, 1, none⟩ u1).setCell ⟨s + 1 + 1, 2, none⟩ u2).cell? ⟨s, 0, none⟩ = some (.slice A ml cl) ∧ (((W.setCell ⟨s + 1 + 1, 0, none⟩ u0).setCell ⟨s + 1 + 1, 1, none⟩ u1).setCell ⟨s + 1 + 1, 2, none⟩ u2).cell? ⟨s, 1, none⟩ = some (.slice Aa ma ca) ∧ (((W.setCell ⟨s + 1 + 1, 0, none⟩ u0).setCell ⟨s + 1 + 1, 1, none⟩ u1).setCell ⟨s + 1 + 1, 2, none⟩ u2).cell? ⟨s, 2, none⟩ = some (.slice Ab mb cb) ∧ (((W.setCell ⟨s + 1 + 1, 0, none⟩ u0).setCell ⟨s + 1 + 1, 1, none⟩ u1).setCell ⟨s + 1 + 1, 2, none⟩ u2).cell? ⟨s + 1, 0, none⟩ = some (.slice A0 n c0) ∧ (((W.setCell ⟨s + 1 + 1, 0, none⟩ u0).setCell ⟨s + 1 + 1, 1, none⟩ u1).setCell ⟨s + 1 + 1, 2, none⟩ u2).cell? ⟨s + 1, 1, none⟩ = some (.slice A1 n1 c1) ∧ (((W.setCell ⟨s + 1 + 1, 0, none⟩ u0).setCell ⟨s + 1 + 1, 1, none⟩ u1).setCell ⟨s + 1 + 1, 2, none⟩ u2).cell? ⟨s + 1, 2, none⟩ = some (.slice A2 m c2) ∧ (((W.setCell ⟨s + 1 + 1, 0, none⟩ u0).setCell ⟨s + 1 + 1, 1, none⟩ u1).setCell ⟨s + 1 + 1, 2, none⟩ u2).cell? ⟨s + 1, 3, none⟩ = some (.slice A3 n3 c3)) := Lib.hid fun W u0 u1 u2 h => by
    have g1 := (((hfy.below h).other (a := ⟨s + 1 + 1, 0, none⟩) (by show s + 1 + 1 ≠ s; omega) u0).other (a := ⟨s + 1 + 1, 1, none⟩) (by show s + 1 + 1 ≠ s; omega) u1).other (a := ⟨s + 1 + 1, 2, none⟩) (by show s + 1 + 1 ≠ s; omega) u2
    have g2 := (((hfc.below h).other (a := ⟨s + 1 + 1, 0, none⟩) (by show s + 1 + 1 ≠ s + 1; omega) u0).other (a := ⟨s + 1 + 1, 1, none⟩) (by show s + 1 + 1 ≠ s + 1; omega) u1).other (a := ⟨s + 1 + 1, 2, none⟩) (by show s + 1 + 1 ≠ s + 1; omega) u2
    exact ⟨g1.cell 0, g1.cell 1, g1.cell 2, g2.cell 0, g2.cell 1, g2.cell 2, g2.cell 3⟩
  have HFT := Lib.hid hft
  obtain ⟨x0, x1, x2, y0, y1, y2, y3⟩ := HCE.out W0 (Below.refl _ _)
  clear H S hl ha hb vl va vb hb0 hfy hfc hft
  go_enter Tryz.func8, Tryz.ntmps8
  go_upto_region 1 with (fail)
  rw [← HW0.out, ← HS.out]
  have h0 : BelW W0 W0 := Below.refl _ _
  have hfd : ∀ (B B' : Option Addr) (b1 b2 b3 b4 : Nat) (W : World), (Instr.field 73 (.agg #[.slice B b1 b2, .slice B' b3 b4]) 0).run Tryz.prog W = .ok (.slice B b1 b2) W := fun _ _ _ _ _ _ _ => by kernel_rfl
  go_region_held3 (fun w' => w'.cell? ⟨s, 0, none⟩ = some (.slice A ml cl) ∧ w'.cell? ⟨s, 1, none⟩ = some (.slice Aa ma ca) ∧ w'.cell? ⟨s, 2, none⟩ = some (.slice Ab mb cb) ∧ w'.cell? ⟨s + 1, 0, none⟩ = some (.slice A0 n c0) ∧ w'.cell? ⟨s + 1, 1, none⟩ = some (.slice A1 n1 c1) ∧ w'.cell? ⟨s + 1, 2, none⟩ = some (.slice A2 m c2) ∧ w'.cell? ⟨s + 1, 3, none⟩ = some (.slice A3 n3 c3))
    ((first | (with_reducible exact h14) | (refine HCE.out _ ?_; (with_reducible repeat (first | assumption | refine BelW.drew ?_))) | (refine HCE.out _ ?_; trivial)))
    (first
      | (go_at_call 23; (refine Calls.mono (HSO.out _ (BelW.drew h0)) ?_)
         rintro e w1 ⟨A7, c7, Aa1, ca1, Aa2, ca2, rfl, ho, hb1⟩
         have h1 : BelW W0 w1 := BelW.trans (BelW.drew h0) hb1)
      | (go_at_call 32; (refine Calls.mono (HPO.out _ h1) ?_)
         rintro e w2 ⟨AI, cI, AS, cS, rfl, hv, hb2⟩
         have ho2 := ho.below hb2
         have h2 : BelW W0 w2 := BelW.trans h1 hb2
         have h14 := HS3.out w2 (.slice A7 ns c7) (.slice Aa1 m ca1) (.slice Aa2 m ca2) h2
         obtain ⟨t0, t1, t2, t3, t4, t5⟩ := HRB.out w2 h2))
  have hlt : s + 1 + 1 < W0.heap.size := by rw [HSZ.out, HFT0.out]; omega
  have hle : w.heap.size ≤ s + 1 + 1 := by rw [HFT0.out]; omega
  have HOW := Lib.hid (((ho2.setS (a := ⟨s + 1 + 1, 0, none⟩) hlt (.slice A7 ns c7)).setS (a := ⟨s + 1 + 1, 1, none⟩) hlt (.slice Aa1 m ca1)).setS (a := ⟨s + 1 + 1, 2, none⟩) hlt (.slice Aa2 m ca2))
  have HVI := Lib.hid (((hv.setS (a := ⟨s + 1 + 1, 0, none⟩) hlt (.slice A7 ns c7)).setS (a := ⟨s + 1 + 1, 1, none⟩) hlt (.slice Aa1 m ca1)).setS (a := ⟨s + 1 + 1, 2, none⟩) hlt (.slice Aa2 m ca2))
  have HBE := Lib.hid ((((joinB HB0.out h2).setCell (p := ⟨s + 1 + 1, 0, none⟩) hle (.slice A7 ns c7)).setCell (p := ⟨s + 1 + 1, 1, none⟩) hle (.slice Aa1 m ca1)).setCell (p := ⟨s + 1 + 1, 2, none⟩) hle (.slice Aa2 m ca2))
  have HQ := Lib.hid ((((HFT.out.below h2).set 0 (.slice A7 ns c7)).set 1 (.slice Aa1 m ca1)).set 2 (.slice Aa2 m ca2))
  have HLO : Hid (w.heap.size ≤ W0.heap.size) := Lib.hid (by omega)
  clear h0 h1 h2 ho ho2 hv hb1 hb2 hlt hle h14 t0 t1 t2 t3 t4 t5 hfd
  go_wp2
  refine bodyPost_ret (results_row_tmp1 rfl _ _ _ _ _ _ _ rfl HQ.out Tryz.underlying45 rfl (by kernel_rfl)) rfl ?_
  exact ⟨A7, c7, Aa1, ca1, Aa2, ca2, AI, cI, rfl, HOW.out.low HLO.out, HVI.out.low HLO.out, HBE.out⟩
end Go.Proofs.YtkaedfgmhfefjaaGreatDoor

namespace Go.Proofs.YtkaedfgmhfefjaaGreatDoor
open Go.RowKit

def joinK (a b : List Int) (k : Nat) : List Int := (List.range k).map fun j => if a.getD j 0 = 2 then b.getD j 0 else a.getD j 0
theorem joinK_len (a b : List Int) (k : Nat) : (joinK a b k).length = k := by simp [joinK]
theorem joinK_succ (a b : List Int) (k : Nat) : joinK a b (k + 1) = joinK a b k ++ [if a.getD k 0 = 2 then b.getD k 0 else a.getD k 0] := by simp [joinK, List.range_succ]
theorem joinK_all (a b : List Int) : joinK a b a.length = joinL a b := rfl
set_option maxHeartbeats 2000000 in
theorem join9_any (l b : List Int) (A Ab : Option Addr) (n cl mb cb : Nat) (w : World) (B : Nat) (hB : B ≤ w.heap.size) (hs : Ks w B (.slice A n cl) l) (hs2 : Ks w B (.slice Ab mb cb) b) (hle : n ≤ mb) (hn : n ≤ 1000000) :
    Calls Tryz.prog 65 #[.slice A n cl, .slice Ab mb cb] w fun e w' => ∃ v, e = .returned v ∧ VStk w' w.heap.size v (joinL l b) ∧ Below w.heap.size w w' := by
  obtain ⟨A', b0, o0, c', e, hA, -, hm, hc⟩ := hs.opens
  simp only [Value.slice.injEq] at e
  obtain ⟨rfl, hnl, rfl⟩ := e
  rw [← hnl] at hA hc
  obtain ⟨A'', b1, o1, c'', e, hA2, -, hm2, hc2⟩ := hs2.opens
  simp only [Value.slice.injEq] at e
  obtain ⟨rfl, hnl2, rfl⟩ := e
  rw [← hnl2] at hA2 hc2
  have HA := Lib.hid hA
  have HC := Lib.hid hc
  have HA2 := Lib.hid hA2
  have HC2 := Lib.hid hc2
  have HEND : Hid (joinK l b n = joinL l b) := Lib.hid (by rw [hnl]; exact joinK_all l b)
  have HSU := Lib.hid (fun k => joinK_succ l b k)
  have HLE := Lib.hid (fun k => joinK_len l b k)
  clear hs hs2 hA hc hA2 hc2 hm hm2 hnl hnl2
  obtain ⟨i1, hi1, hz0, hz1, hz2⟩ := info_parts info_val
  have HI := Lib.hid (And.intro hi1 (And.intro hz0 (And.intro hz1 hz2)))
  clear hi1 hz0 hz1 hz2
  go_enter Tryz.func65, Tryz.ntmps65
  go_wp2
  go_loopw [5, 6] (fun sv ci wr => ∃ k : Nat, k ≤ n ∧ ci = .int .i64 k ∧ Below w.heap.size w wr ∧ w.heap.size ≤ wr.heap.size ∧ VStk wr w.heap.size sv (joinK l b k)) (fun _ ci _ => n - (intOf ci).toNat)
  case atStart => exact ⟨0, Nat.zero_le _, rfl, Below.refl _ _, Nat.le_refl _, VStk.nil _ _⟩
  case round =>
    obtain ⟨k, hk, rfl, hb, hg, hst⟩ := hrel
    obtain ⟨A6, c6, rfl, hle6, hc6, -⟩ := hst.form
    have hol := HLE.out k
    rw [hol] at hle6
    by_cases hlt : k < n
    · have hsu := HSU.out k
      have HST := Lib.hid hst
      have HB := Lib.hid hb
      obtain ⟨st, HL⟩ := named (joinK l b k)
      rw [← HL.out] at HST hol
      rw [← HL.out, hol]
      have HST2 : Hid (VStk wr w.heap.size (.slice A6 k c6) st) := Lib.hid (by have := HST.out; rw [hol] at this; exact this)
      have HOL := Lib.hid hol
      have HSTR : Hid (wr.ownsRow w.heap.size 77 1 (.slice A6 k c6) k (st.map (Value.int .u8))) := Lib.hid (by have := HST2.out; unfold VStk at this; rw [HOL.out] at this; exact this)
      rw [← HL.out] at hsu
      clear hst hb hol
      have hk2 : (k : Int) < (n : Int) := by omega
      have hk3 : (k : Int) < (mb : Int) := by omega
      obtain rfl := HA.out (by omega)
      obtain ⟨hlb, hx1⟩ := HC.out k hlt
      have hx2 : wr.cell? ⟨b0, o0 + k, none⟩ = some (.int .u8 (l.getD k 0)) := (HB.out.cell (p := ⟨b0, _, none⟩) (by show b0 < w.heap.size; omega)).trans hx1
      obtain rfl := HA2.out (by omega)
      obtain ⟨hlb2, hy1⟩ := HC2.out k (by omega)
      have hy2 : wr.cell? ⟨b1, o1 + k, none⟩ = some (.int .u8 (b.getD k 0)) := (HB.out.cell (p := ⟨b1, _, none⟩) (by show b1 < w.heap.size; omega)).trans hy1
      obtain ⟨x, HX⟩ := named (l.getD k 0)
      obtain ⟨y, HY⟩ := named (b.getD k 0)
      rw [← HX.out] at hx2 hsu
      rw [← HY.out] at hy2 hsu
      clear hx1 hy1
      by_cases h2 : x = 2
      · subst h2
        have HS : Hid (joinK l b (k + 1) = st ++ [y]) := Lib.hid (by rw [hsu, if_pos rfl])
        clear hsu
        go_wp2_with (at_builtin; refine wpList_append_own_at _ rfl _ _ 41 rfl w.heap.size 77 i1 (.int .u8 0) 1 1 Tryz.underlying41 HI.out.1 HI.out.2.1 HI.out.2.2.1 HI.out.2.2.2 rfl (by decide) _ _ _ rfl (World.ownsRow.alloc HSTR.out _) ⟨wr.heap.size, 0, none⟩ 1 1 [.int .u8 y] rfl rfl (by have := one_new wr (.int .u8 y) 77; simpa using this) (ints_oneCell .u8 [y]) (by unfold maxLen; omega) (by omega) (by first | omega | (simp; omega)) ?_; intro v' w5 hown' hgrow hnil hloc; have HF := Lib.hid (vpush (x := y) (by first | omega | (simp; omega)) HB.out HST2.out (by rw [HOL.out]; exact hown') hgrow); have HZ := Lib.hid hgrow.size; clear hown' hgrow hnil hloc)
        go_roundw
        case rel => exact ⟨k + 1, by omega, by go_num, HF.out.1, by have := HZ.out; simp at this; omega, by rw [HS.out]; exact HF.out.2⟩
        case measure => simp [intOf]; omega
      · have HS : Hid (joinK l b (k + 1) = st ++ [x]) := Lib.hid (by rw [hsu, if_neg h2])
        have h2b : (x == 2) = false := by simpa using h2
        clear hsu
        go_wp2_with (at_builtin; refine wpList_append_own_at _ rfl _ _ 41 rfl w.heap.size 77 i1 (.int .u8 0) 1 1 Tryz.underlying41 HI.out.1 HI.out.2.1 HI.out.2.2.1 HI.out.2.2.2 rfl (by decide) _ _ _ rfl (World.ownsRow.alloc HSTR.out _) ⟨wr.heap.size, 0, none⟩ 1 1 [.int .u8 x] rfl rfl (by have := one_new wr (.int .u8 x) 77; simpa using this) (ints_oneCell .u8 [x]) (by unfold maxLen; omega) (by omega) (by first | omega | (simp; omega)) ?_; intro v' w5 hown' hgrow hnil hloc; have HF := Lib.hid (vpush (x := x) (by first | omega | (simp; omega)) HB.out HST2.out (by rw [HOL.out]; exact hown') hgrow); have HZ := Lib.hid hgrow.size; clear hown' hgrow hnil hloc)
        go_roundw
        case rel => exact ⟨k + 1, by omega, by go_num, HF.out.1, by have := HZ.out; simp at this; omega, by rw [HS.out]; exact HF.out.2⟩
        case measure => simp [intOf]; omega
    · obtain rfl : n = k := by omega
      rw [HEND.out] at hst
      have hll : (joinK l b n).length = (joinL l b).length := by rw [HEND.out]
      rw [HEND.out]
      go_wp2
      go_ret
      exact ⟨_, rfl, hst, hb⟩
end Go.Proofs.YtkaedfgmhfefjaaGreatDoor
