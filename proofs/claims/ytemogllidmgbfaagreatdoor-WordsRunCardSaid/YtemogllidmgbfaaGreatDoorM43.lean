/- The texts Wow Snb Cs Wrn Eqs Smn. -/
import Derived.Test.YtemogllidmgbfaaGreatDoorM23
import Derived.Test.YtemogllidmgbfaaGreatDoorM37
import Derived.Maps.AppendAt
import Derived.Test.YtemogllidmgbfaaGreatDoorM30
import Derived.Test.YtemogllidmgbfaaGreatDoorM39
import Derived.Test.YtemogllidmgbfaaGreatDoorM26
import Derived.Test.YtemogllidmgbfaaGreatDoorM10
import Derived.Test.YtemogllidmgbfaaGreatDoorM03
namespace Go.Proofs.YtemogllidmgbfaaGreatDoor
open Go.RowKit

theorem own_bel {w w' : World} {base : Nat} {e : TypeId} {size n : Nat} {v : Value} {xs : List Value} (h : w.ownsRow base e size v n xs) (hb : BelW w w') : w'.ownsRow base e size v n xs :=
  h.kept (row := none) ⟨hb.os, hb.tape, hb.output, Below.size hb, fun i hi _ => Below.block hb i hi⟩ (by cases v.ownBlock <;> simp)
theorem bel_own {w0 w w' : World} {e : TypeId} {size n : Nat} {v : Value} {xs : List Value} (h : w.ownsRow w0.heap.size e size v n xs) (hb : BelW w0 w) (hg : w.grownBy w' v.ownBlock) : BelW w0 w' :=
  Below.grown hb hg (Below.size hb) fun k hk => (World.ownsRow.lt h k hk).1
theorem snocT {α : Type} {l : List α} {k : Nat} {d : α} (hk : k < l.length) : l.take (k + 1) = l.take k ++ [l.getD k d] := by
  rw [List.take_add_one, List.getD_eq_getElem?_getD, List.getElem?_eq_getElem hk]; rfl
theorem two_cells (w : World) (u v : Value) (t : TypeId) : ∀ (j : Nat) (x : Value), [u, v][j]? = some x → (w.alloc (.cells #[u, v] t)).cell? ((⟨w.heap.size, 0, none⟩ : Addr).add j) = some x := by
  intro j x hj
  match j, hj with
  | 0, hj =>
    rw [show (⟨w.heap.size, 0, none⟩ : Addr).add 0 = ⟨w.heap.size, 0, none⟩ from rfl, World.cell?_alloc_at _ _ _ _ rfl]
    simpa using hj
  | 1, hj =>
    rw [show (⟨w.heap.size, 0, none⟩ : Addr).add 1 = ⟨w.heap.size, 1, none⟩ from rfl, World.cell?_alloc_at _ _ _ _ rfl]
    simpa using hj
  | j + 2, hj => simp at hj
end Go.Proofs.YtemogllidmgbfaaGreatDoor

namespace Go.Proofs.YtemogllidmgbfaaGreatDoor
open Go.RowKit

def sameTo (l l' : List Int) (k : Nat) : Prop := ∀ j, j < k → l.getD j 0 = l'.getD j 0
theorem sameTo_all {l l' : List Int} (hl : l.length = l'.length) (h : sameTo l l' l.length) : l = l' := by
  apply List.ext_getElem hl
  intro i h1 h2
  have := h i h1
  simpa [List.getD_eq_getElem?_getD, List.getElem?_eq_getElem h1, List.getElem?_eq_getElem h2] using this

theorem same6_any (l l' : List Int) (n m : Nat) (A A' : Option Addr) (c c' : Nat) (w : World) (B B' : Nat) (hs : Ks w B (.slice A n c) l) (hs' : Ks w B' (.slice A' m c') l') :
    Calls Tryz.prog 16 #[.slice A n c, .slice A' m c'] w fun e w' => e = .returned (.int .i64 (if l = l' then 0 else 1)) ∧ BelW w w' := by
  obtain ⟨A1, b, o, c1, e, hA, -, hm, hc⟩ := hs.opens
  simp only [Value.slice.injEq] at e
  obtain ⟨rfl, hml, rfl⟩ := e
  obtain ⟨A2, b', o', c2, e, hA', -, hm', hc'⟩ := hs'.opens
  simp only [Value.slice.injEq] at e
  obtain ⟨rfl, hml', rfl⟩ := e
  have hne : ¬ n = m → ¬ l = l' := fun h h' => h (by rw [hml, hml', h'])
  have hall : n = m → sameTo l l' n → l = l' := fun h h' => sameTo_all (by rw [← hml, ← hml', h]) (by rw [← hml]; exact h')
  rw [← hml] at hA hc hm
  rw [← hml'] at hA' hc' hm'
  unfold maxLen at hm hm'
  have HA := Lib.hid hA
  have HC := Lib.hid hc
  have HA' := Lib.hid hA'
  have HC' := Lib.hid hc'
  have HNE := Lib.hid hne
  have HALL := Lib.hid hall
  have HM := Lib.hid (And.intro hm hm')
  clear hA hc hA' hc' hs hs' hml hml' hne hall hm hm'
  obtain ⟨r, HRR⟩ := named (if l = l' then (0 : Int) else 1)
  rw [← HRR.out]
  go_enter Tryz.func16, Tryz.ntmps16
  by_cases hnm : n = m
  · subst hnm
    have hm := HM.out.1
    go_wp2
    go_loopw [5] (fun i wr => BelW w wr ∧ ∃ k : Nat, k ≤ n ∧ i = .int .i64 k ∧ sameTo l l' k) (fun i _ => n - (intOf i).toNat)
    case atStart => exact ⟨Below.refl _ _, 0, Nat.zero_le _, rfl, fun j h => absurd h (Nat.not_lt_zero j)⟩
    case round =>
      obtain ⟨hb, k, hk, rfl, hst⟩ := hrel
      have HBR := Lib.hid hb
      have HST := Lib.hid hst
      by_cases hlt : k < n
      · obtain rfl := HA.out (by omega)
        obtain rfl := HA'.out (by omega)
        obtain ⟨h1, h2⟩ := HC.out k hlt
        obtain ⟨h3, h4⟩ := HC'.out k hlt
        have x1 := (Below.cell hb (p := ⟨b, o + k, none⟩) (cell_lt h2)).trans h2
        have x2 := (Below.cell hb (p := ⟨b', o' + k, none⟩) (cell_lt h4)).trans h4
        obtain ⟨y, HY⟩ := named (l.getD k 0)
        obtain ⟨y', HY'⟩ := named (l'.getD k 0)
        rw [← HY.out] at x1
        rw [← HY'.out] at x2
        clear h2 h4 hb hst
        by_cases hyy : y = y'
        · have HNX : Hid (sameTo l l' (k + 1)) := Lib.hid fun j hj => by
            by_cases e : j = k
            · subst e; rw [← HY.out, ← HY'.out, hyy]
            · exact HST.out j (by omega)
          have t1 : (y != y') = false := by simp [hyy]
          go_wp2
          go_quiet (fail)
          go_wp2
          go_roundw
          case rel => exact ⟨below_drewN HBR.out _, k + 1, by omega, by go_num, HNX.out⟩
          case measure => simp [intOf]; omega
        · have HNO : Hid (r = 1) := Lib.hid (by rw [HRR.out]; exact if_neg fun e => hyy (by rw [HY.out, HY'.out, e]))
          have t1 : (y != y') = true := by simpa using hyy
          go_wp2
          go_quiet (fail)
          go_wp2
          go_ret
          exact ⟨by rw [HNO.out]; rfl, below_drewN HBR.out _⟩
      · obtain rfl : n = k := by omega
        have HYS : Hid (r = 0) := Lib.hid (by rw [HRR.out]; exact if_pos (HALL.out (by trivial) HST.out))
        clear hb hst
        go_wp2
        go_ret
        exact ⟨by rw [HYS.out]; rfl, HBR.out⟩
  · have HNO : Hid (r = 1) := Lib.hid (by rw [HRR.out]; exact if_neg (HNE.out hnm))
    have hm := HM.out.1
    have hm' := HM.out.2
    go_wp2
    go_ret
    exact ⟨by rw [HNO.out]; rfl, Below.refl _ _⟩
end Go.Proofs.YtemogllidmgbfaaGreatDoor

namespace Go.Proofs.YtemogllidmgbfaaGreatDoor
open Go.RowKit

/-- A valid circuit without memories, its lengths under names of their own. -/
structure Cst (c : Ck) (L : List Int) (n n1 n3 ni ns : Nat) : Prop where
  vld : Vld c L n
  h1 : c.names.length = n1
  h2 : c.mems.length = 0
  h3 : c.outs.length = n3
  hi : (ofTo c.nodes [0] n).length = ni
  hs : (ofTo c.nodes [14] n).length = ns
  outs : c.outs.length ≤ 17592186044416
section
variable {c : Ck} {L : List Int} {n n1 n3 ni ns : Nat}
theorem Cst.len (S : Cst c L n n1 n3 ni ns) : c.nodes.length = n := S.vld.len.symm
theorem Cst.few (S : Cst c L n n1 n3 ni ns) : n < 20 := S.vld.few
theorem Cst.niB (S : Cst c L n n1 n3 ni ns) : ni ≤ n := by rw [← S.hi]; exact ofTo_len _ _ _
theorem Cst.nsB (S : Cst c L n n1 n3 ni ns) : ns ≤ n := by rw [← S.hs]; exact ofTo_len _ _ _
end
/-- The circuit in variable q. -/
structure Cs (c : Ck) (n n1 n3 : Nat) (A0 A1 A2 A3 : Option Addr) (c0 c1 c2 c3 q : Nat) (W : World) : Prop where
  tabs : Lg.Tabs W
  cir : Cir W W.heap.size (.agg #[.slice A0 n c0, .slice A1 n1 c1, .slice A2 0 c2, .slice A3 n3 c3]) c
  box : Fr W q 46 [.slice A0 n c0, .slice A1 n1 c1, .slice A2 0 c2, .slice A3 n3 c3]
section
variable {c : Ck} {L : List Int} {n n1 n3 ni ns : Nat} {A0 A1 A2 A3 : Option Addr} {c0 c1 c2 c3 q : Nat} {W W' : World}
theorem Cs.next (H : Cs c n n1 n3 A0 A1 A2 A3 c0 c1 c2 c3 q W) (hb : BelW W W') : Cs c n n1 n3 A0 A1 A2 A3 c0 c1 c2 c3 q W' :=
  ⟨H.tabs.below hb, (H.cir.below hb).more (Below.size hb), H.box.below hb⟩
theorem Cs.cells (H : Cs c n n1 n3 A0 A1 A2 A3 c0 c1 c2 c3 q W) : W.cell? ⟨q, 0, none⟩ = some (.slice A0 n c0) ∧ W.cell? ⟨q, 1, none⟩ = some (.slice A1 n1 c1) ∧ W.cell? ⟨q, 2, none⟩ = some (.slice A2 0 c2) ∧ W.cell? ⟨q, 3, none⟩ = some (.slice A3 n3 c3) :=
  ⟨H.box.cell 0, H.box.cell 1, H.box.cell 2, H.box.cell 3⟩
/-- A node's cells and pins. -/
theorem Cs.node (H : Cs c n n1 n3 A0 A1 A2 A3 c0 c1 c2 c3 q W) (hn : c.nodes.length = n) {k : Nat} (hk : k < n) : ∃ b o A m cc, A0 = some ⟨b, o, none⟩ ∧ b < W.heap.size ∧ m = (c.nodes.getD k default).ins.length ∧
    W.cell? ⟨b, o + k * 4, none⟩ = some (.int .u8 (c.nodes.getD k default).kind) ∧ W.cell? ⟨b, o + k * 4 + 1, none⟩ = some (.slice A m cc) ∧ W.cell? ⟨b, o + k * 4 + 2, none⟩ = some (.int .i64 (c.nodes.getD k default).mem) ∧ W.cell? ⟨b, o + k * 4 + 3, none⟩ = some (.int .i64 (c.nodes.getD k default).bit) ∧ Is W W.heap.size (.slice A m cc) (c.nodes.getD k default).ins ∧ 0 ≤ (c.nodes.getD k default).kind ∧ (c.nodes.getD k default).kind ≤ 255 := by
  obtain ⟨v0, v1, v2, v3, e, hN, -, -, -⟩ := H.cir
  have e0 : v0 = .slice A0 n c0 := by have := congrArg (fun v => match v with | Value.agg a => a[0]? | _ => none) e; simpa using this.symm
  subst e0
  obtain ⟨A, b, o, cc, e1, hA, -, -, hc⟩ := hN
  simp only [Value.slice.injEq] at e1
  obtain ⟨rfl, -, rfl⟩ := e1
  obtain ⟨hb, s, f0, f1, f2, f3, hs, k0, k1⟩ := hc k (by rw [hn]; exact hk)
  have hs' := hs
  obtain ⟨A4, b4, o4, c4, rfl, -⟩ := hs'
  exact ⟨b, o, A4, _, c4, hA (by omega), hb, rfl, f0, f1, f2, f3, hs, k0, k1⟩
theorem Cs.kinds (H : Cs c n n1 n3 A0 A1 A2 A3 c0 c1 c2 c3 q W) (hn : c.nodes.length = n) : ∀ i : Nat, i < n → 0 ≤ (c.nodes.getD i default).kind := fun i hi => by
  obtain ⟨_, _, _, _, _, _, _, _, _, _, _, _, _, h, _⟩ := H.node hn hi
  exact h
/-- P.Of on it. -/
theorem Cs.pOf (H : Cs c n n1 n3 A0 A1 A2 A3 c0 c1 c2 c3 q W) (S : Cst c L n n1 n3 ni ns) {a b : List Int} {Aa Ab : Option Addr} {ma mb ca cb : Nat} (h1 : Ks W W.heap.size (.slice Aa ma ca) a) (h2 : Ks W W.heap.size (.slice Ab mb cb) b) (h3 : ∀ y ∈ a, 0 ≤ y ∧ y ≤ 255) (h4 : ∀ y ∈ b, 0 ≤ y ∧ y ≤ 255) :
    Calls Tryz.prog 12 #[.agg #[.slice Aa ma ca, .slice Ab mb cb], .agg #[.slice A0 n c0, .slice A1 n1 c1, .slice A2 0 c2, .slice A3 n3 c3]] W fun e w' => ∃ AI cI AS cS, e = .returned (.agg #[.slice AI ni cI, .slice AS ns cS]) ∧ VStk w' W.heap.size (.slice AI ni cI) (takL a 4 ni) ∧ VStk w' W.heap.size (.slice AS ns cS) (takL b 3 ns) ∧ (∀ a b, (Value.slice AI ni cI).ownBlock = some a → (Value.slice AS ns cS).ownBlock = some b → a ≠ b) ∧ BelW W w' :=
  pOf_at c a b A0 A1 A2 A3 Aa Ab n n1 0 n3 ni ns c0 c1 c2 c3 ma mb ca cb W W.heap.size (Nat.le_refl _) S.len S.h1 S.h2 S.h3 S.hi S.hs H.cir h1 h2 (by have := S.few; omega) h3 h4
/-- Run on it. -/
theorem Cs.run (H : Cs c n n1 n3 A0 A1 A2 A3 c0 c1 c2 c3 q W) (S : Cst c L n n1 n3 ni ns) {li ls : List Int} {Ai As : Option Addr} {ci cs : Nat} (h1 : Ks W W.heap.size (.slice Ai ni ci) li) (h2 : Ks W W.heap.size (.slice As ns cs) ls) (l1 : li.length = ni) (l2 : ls.length = ns) (v1 : ∀ y ∈ li, 0 ≤ y ∧ y ≤ 3) (v2 : ∀ y ∈ ls, 0 ≤ y ∧ y ≤ 3) :
    Calls Tryz.prog 15 #[.agg #[.slice A0 n c0, .slice A1 n1 c1, .slice A2 0 c2, .slice A3 n3 c3], .agg #[.slice Ai ni ci, .slice As ns cs]] W fun e w' => ∃ nets g h k, Net c.nodes (baseV n (ofTo c.nodes [0] n) (ofTo c.nodes [14] n) li ls) nets ∧ nets.length = n ∧ e = .returned (.tuple #[.agg #[.slice (some ⟨g, 0, none⟩) n3 n3, .slice (some ⟨h, 0, none⟩) ns ns], .slice (some ⟨k, 0, none⟩) n n, .int .i64 0]) ∧ VRow w' g (outV c nets) ∧ VRow w' h (nextV c nets) ∧ VRow w' k nets ∧ BelW W w' :=
  run_at c li ls A0 A1 A2 A3 Ai As n n1 0 n3 ni ns c0 c1 c2 c3 ci cs W W.heap.size (Nat.le_refl _) H.tabs S.len S.h1 S.h2 rfl S.h3 S.hi S.hs H.cir h1 h2 S.few S.outs S.vld.ok l1 l2 v1 v2
end
theorem takL_in4 {l : List Int} (h0 : ∀ x ∈ l, 0 ≤ x ∧ x ≤ 255) (n : Nat) : ∀ x ∈ takL l 4 n, 0 ≤ x ∧ x ≤ 3 := takL_in h0 (by decide) (by decide) n
theorem takL_in3 {l : List Int} (h0 : ∀ x ∈ l, 0 ≤ x ∧ x ≤ 255) (n : Nat) : ∀ x ∈ takL l 3 n, 0 ≤ x ∧ x ≤ 3 := takL_in h0 (by decide) (by decide) n
/-- C.Of without a memory: a valid circuit. -/
theorem ofc_s (x : Cx) (hx : Cok x) (sG sA : Value) (w W : World) (hb : BelW w W) (hG : Gs w w.heap.size sG x.gates) (hA : Ks w w.heap.size sA x.outs) {c : Ck} (hc : c = ofC { x with mem := false }) {n : Nat} (hn : n = c.nodes.length) :
    Calls Tryz.prog 11 #[.agg #[.int .u8 x.inN, .int .u8 x.dffs, .int .u8 x.d0, .int .u8 x.d1, .bool x.bus, .bool false, .int .u8 x.p0, .int .u8 x.p1, .int .u8 x.p2, .int .u8 x.p3, sG, sA]] W fun e w' => (∃ A0 A1 A2 A3 n1 n3 c0 c1 c2 c3, e = .returned (.agg #[.slice A0 n c0, .slice A1 n1 c1, .slice A2 0 c2, .slice A3 n3 c3]) ∧ Cir w' w'.heap.size (.agg #[.slice A0 n c0, .slice A1 n1 c1, .slice A2 0 c2, .slice A3 n3 c3]) c ∧ n1 = c.names.length ∧ n3 = c.outs.length) ∧ BelW W w' := by
  have hxf : Cok { x with mem := false } := ⟨hx.inN, hx.dffs, hx.d0, hx.d1, hx.p0, hx.p1, hx.p2, hx.p3, hx.gates, hx.outs⟩
  have hmem : c.mems.length = 0 := by rw [hc]; rfl
  refine (ofc_any { x with mem := false } hxf sG sA W w.heap.size (Below.size hb) (hG.below hb) (Arr.keep stays_u8 hA (Nat.le_refl _) fun _ hp => Below.cell hb hp)).mono fun e w' ⟨⟨v, he, hc1⟩, hb1⟩ => ?_
  rw [← hc] at hc1
  have hc2 := hc1
  obtain ⟨v0, v1, v2, v3, rfl, g0, g1, g2, g3⟩ := hc2
  obtain ⟨A0, _, _, c0, rfl, -⟩ := id g0
  obtain ⟨A1, _, _, c1, rfl, -⟩ := id g1
  obtain ⟨A2, _, _, c2, rfl, -⟩ := id g2
  obtain ⟨A3, _, _, c3, rfl, -⟩ := id g3
  rw [hmem, ← hn] at hc1 he
  exact ⟨⟨A0, A1, A2, A3, _, _, c0, c1, c2, c3, he, hc1, rfl, rfl⟩, hb1⟩
/-- What the walks know of it. -/
theorem cst_of (x : Cx) (hx : Cok x) {c : Ck} (hc : c = ofC { x with mem := false }) {n n1 n3 ni ns : Nat} (hn : n = c.nodes.length) (h1 : n1 = c.names.length) (h3 : n3 = c.outs.length) (hi : ni = (ofTo c.nodes [0] n).length) (hs : ns = (ofTo c.nodes [14] n).length) : ∃ L, Cst c L n n1 n3 ni ns := by
  have hxf : Cok { x with mem := false } := ⟨hx.inN, hx.dffs, hx.d0, hx.d1, hx.p0, hx.p1, hx.p2, hx.p3, hx.gates, hx.outs⟩
  obtain ⟨L, V⟩ := vld_c { x with mem := false } hxf
  rw [← hc] at V
  have hlen := V.len
  rw [hlen, ← hn] at V
  refine ⟨L, V, h1.symm, by rw [hc]; rfl, h3.symm, hi.symm, hs.symm, ?_⟩
  have := ofC_outs4 { x with mem := false }
  rw [← hc] at this
  omega
theorem ofC_inputs (x : Cx) {c : Ck} (hc : c = ofC { x with mem := false }) : 0 < c.nodes.length := by
  rw [hc, ofC_len]
  have := sizeN_le { x with mem := false }
  omega
end Go.Proofs.YtemogllidmgbfaaGreatDoor

namespace Go.Proofs.YtemogllidmgbfaaGreatDoor
open Go.RowKit

theorem belw_drewN {w w1 : World} (h : BelW w w1) (k : Nat) : BelW w (w1.drewN k) := by
  induction k with
  | zero => exact h
  | succ k ih => exact BelW.drew ih
theorem info_pat : (Tryz.prog.info? 50).map (fun i => (i.zero, i.size, i.bytes)) = some (some (.agg #[.slice none 0 0, .slice none 0 0]), 2, 48) := by kernel_rfl
theorem flatP_app (l : List (Value × Value)) (a b : Value) : flatP l ++ [a, b] = flatP (l ++ [(a, b)]) := by
  induction l with
  | nil => rfl
  | cons y l ih => simp only [flatP, List.cons_append]; rw [← ih]
/-- Rows of different types are different rows. -/
theorem own_ne {w : World} {b b' : Nat} {e e' : TypeId} {s s' n n' : Nat} {v u : Value} {xs ys : List Value} (he : e ≠ e') (h : w.ownsRow b e s v n xs) (h' : w.ownsRow b' e' s' u n' ys) : u.ownBlock = none ∨ u.ownBlock ≠ v.ownBlock := by
  rcases h'.2 with ⟨rfl, -⟩ | ⟨g', c', cur', rfl, -, hg', -⟩
  · exact .inl rfl
  · refine .inr fun e1 => ?_
    rcases h.2 with ⟨rfl, -⟩ | ⟨g, c, cur, rfl, -, hg, -⟩
    · simp [Value.ownBlock] at e1
    · simp only [Value.ownBlock, Option.some.injEq] at e1
      rw [e1] at hg'
      have h2 := Option.some.inj (hg.symm.trans hg')
      injection h2 with _ h3 _
      exact he h3
/-- A pattern whose values lie in rows of the call's own. -/
def PatE (w : World) (B : Nat) (x : Value × Value) (p : List Int × List Int) : Prop :=
  ∃ AI cI AS cS, x = (.slice AI p.1.length cI, .slice AS p.2.length cS) ∧ VStk w B (.slice AI p.1.length cI) p.1 ∧ VStk w B (.slice AS p.2.length cS) p.2
/-- An own row of such patterns. -/
def PS (w : World) (B : Nat) (v : Value) (l : List (List Int × List Int)) : Prop :=
  ∃ vs : List (Value × Value), vs.length = l.length ∧ w.ownsRow B 50 2 v l.length (flatP vs) ∧ ∀ j, j < l.length → ∃ x, vs[j]? = some x ∧ PatE w B x (l.getD j ([], []))
section
variable {w w' : World} {B : Nat} {v v' a b : Value} {l : List (List Int × List Int)} {vs : List (Value × Value)} {x : Value × Value} {p : List Int × List Int}
theorem PatE.below (h : PatE w B x p) (hb : BelW w w') : PatE w' B x p := by
  obtain ⟨AI, cI, AS, cS, e, h1, h2⟩ := h
  exact ⟨AI, cI, AS, cS, e, h1.below hb, h2.below hb⟩
theorem PS.nil (w : World) (B : Nat) : PS w B (.slice none 0 0) [] := ⟨[], rfl, World.ownsRow_nil _ _ _ _, fun j hj => absurd hj (by simp)⟩
theorem PS.below (h : PS w B v l) (hb : BelW w w') : PS w' B v l := by
  obtain ⟨vs, h1, h2, h3⟩ := h
  exact ⟨vs, h1, own_bel h2 hb, fun j hj => by obtain ⟨x, e, hp⟩ := h3 j hj; exact ⟨x, e, hp.below hb⟩⟩
theorem ps_add (h1 : vs.length = l.length) (h2 : w.ownsRow B 50 2 v l.length (flatP vs)) (h3 : ∀ j, j < l.length → ∃ x, vs[j]? = some x ∧ PatE w B x (l.getD j ([], [])))
    (hg : w.grownBy w' v.ownBlock) (ho : w'.ownsRow B 50 2 v' (l.length + 1) (flatP vs ++ [a, b])) (hp : PatE w B (a, b) p) : PS w' B v' (l ++ [p]) := by
  have hk : ∀ {x q}, PatE w B x q → PatE w' B x q := fun {x q} ⟨AI, cI, AS, cS, e, g1, g2⟩ => ⟨AI, cI, AS, cS, e, World.ownsRow.kept g1 hg (own_ne (by decide) h2 g1), World.ownsRow.kept g2 hg (own_ne (by decide) h2 g2)⟩
  refine ⟨vs ++ [(a, b)], by simp [h1], by rw [flatP_app] at ho; simpa using ho, fun j hj => ?_⟩
  have hlen : (l ++ [p]).length = l.length + 1 := by simp
  by_cases hlt : j < l.length
  · obtain ⟨x, e, hp'⟩ := h3 j hlt
    refine ⟨x, by rw [List.getElem?_append_left (by omega)]; exact e, ?_⟩
    rw [List.getD_eq_getElem?_getD, List.getElem?_append_left hlt, ← List.getD_eq_getElem?_getD]
    exact hk hp'
  · obtain rfl : j = l.length := by omega
    refine ⟨(a, b), by rw [List.getElem?_append_right (by omega), h1, Nat.sub_self]; rfl, ?_⟩
    rw [List.getD_eq_getElem?_getD, List.getElem?_append_right (Nat.le_refl _), Nat.sub_self]
    exact hk hp
theorem PS.pts (h : PS w B v l) : ∃ A c, v = .slice A l.length c ∧ Pts w w.heap.size (.slice A l.length c) l := by
  obtain ⟨vs, h1, h2, h3⟩ := h
  rcases id h2.2 with ⟨rfl, h0⟩ | ⟨g, cap, cur, rfl, hb, hg, hle, hm, -⟩
  · obtain rfl : l = [] := List.eq_nil_of_length_eq_zero h0
    exact ⟨none, 0, rfl, Arr.nil _ _ _ _ _⟩
  · refine ⟨_, cap, rfl, some ⟨g, 0, none⟩, g, 0, cap, rfl, fun _ => rfl, hle, Nat.le_trans hle hm, fun k hk => ⟨(World.ownsRow.lt h2 g rfl).2, ?_⟩⟩
    obtain ⟨x, e, AI, cI, AS, cS, rfl, g1, g2⟩ := h3 k hk
    refine ⟨AI, AS, cI, cS, ?_, ?_, g1.ks, g2.ks⟩
    · rw [Nat.zero_add, World.ownsRow.cellAt h2 (k * 2) (by omega), (flatP_get vs k).1, e]; rfl
    · rw [Nat.zero_add, World.ownsRow.cellAt h2 (k * 2 + 1) (by omega), (flatP_get vs k).2, e]; rfl
end
theorem step_ownP {P : Program} {ops : Array Oper} {o : Oper} {a : Act} {w : World} {K : Act → World → Prop} {Q : Exit → Act → World → Prop} {E : Prop} (hgd : o.guard = none) (s x : Operand) (t : TypeId)
    (ho : o.op = .call { callee := .builtin .append, args := #[s, x], argTypes := #[t, t] })
    (base : Nat) (e : TypeId) (i : TypeInfo) (z : Value) (ht : P.underlying t = some (.slice e)) (hi : P.info? e = some i) (hz : i.zero = some z) (hsize : i.size = 2) (hby : i.bytes = 48) (hzs : z.cells.size = 2)
    (v : Value) (n : Nat) (xs : List Value) (hs : a.eval s = v) (hown : w.ownsRow base e 2 v n xs) (ad : Addr) (m c : Nat) (news : List Value) (hx : a.eval x = .slice (some ad) m c)
    (hl : news.length = m * 2) (hnews : ∀ j u, news[j]? = some u → w.cell? (ad.add j) = some u) (h1 : ∀ u ∈ news, u.oneCell' = true) (hnm : n + m ≤ 1000) (hbase : base ≤ w.heap.size)
    (h : ∀ v' w', w'.ownsRow base e 2 v' (n + m) (xs ++ news) → w.grownBy w' v.ownBlock → K (a.put o.dst v') w') :
    if Region.wanted o (yielded ops a.tmps) = true then Oper.wp P o a w K Q else E := by
  have hw : Region.wanted o (yielded ops a.tmps) = true := by simp [Region.wanted, hgd]
  rw [if_pos hw]
  exact wp_append_own w s x t ho base e i z 2 48 ht hi hz hsize hby hzs (by decide) v n xs hs hown ad m c news hx hl hnews h1 (by unfold maxLen; omega) (by omega) hbase fun v' w' h2 h3 _ => h v' w' h2 h3
theorem two_sl {A A' : Option Addr} {n n' c c' : Nat} : ∀ u ∈ [Value.slice A n c, .slice A' n' c'], u.oneCell' = true := fun q hq => by
  simp only [List.mem_cons, List.not_mem_nil, or_false] at hq
  rcases hq with rfl | rfl <;> rfl
/-- The patterns of the circuit that the law's arguments draw. -/
def patsL (ni ns : Nat) (qs : List (List Int × List Int)) : List (List Int × List Int) := qs.map fun x => (takL x.1 4 ni, takL x.2 3 ns)
/-- The patterns fit the circuit. -/
def FitP (ni ns : Nat) (ps : List (List Int × List Int)) : Prop := ∀ x ∈ ps, (x.1.length = ni ∧ ∀ y ∈ x.1, 0 ≤ y ∧ y ≤ 3) ∧ x.2.length = ns ∧ ∀ y ∈ x.2, 0 ≤ y ∧ y ≤ 3
theorem patsL_fit {ni ns : Nat} {qs : List (List Int × List Int)} (h : ∀ x ∈ qs, (∀ y ∈ x.1, 0 ≤ y ∧ y ≤ 255) ∧ ∀ y ∈ x.2, 0 ≤ y ∧ y ≤ 255) : FitP ni ns (patsL ni ns qs) := fun x hx => by
  unfold patsL at hx
  obtain ⟨q, hq, rfl⟩ := List.mem_map.1 hx
  exact ⟨⟨takL_len _ _ _, takL_in4 (h q hq).1 _⟩, takL_len _ _ _, takL_in3 (h q hq).2 _⟩
/-- The words of the nets hold, in each lane, the nets of its pattern; those of the unknown pattern in a lane without one. -/
def LaneN (c : Ck) (n : Nat) (ps : List (List Int × List Int)) (ni ns : Nat) (out : Wls) : Prop :=
  ∀ i, i < 64 → Net c.nodes (baseV n (ofTo c.nodes [0] n) (ofTo c.nodes [14] n) (rowV (ps.map (·.1)) ni i) (rowV (ps.map (·.2)) ns i)) (lanes out i)
section
variable {c : Ck} {L : List Int} {n n1 n3 ni ns : Nat} {A0 A1 A2 A3 : Option Addr} {c0 c1 c2 c3 q : Nat} {W : World}
theorem Cs.wrun (H : Cs c n n1 n3 A0 A1 A2 A3 c0 c1 c2 c3 q W) (S : Cst c L n n1 n3 ni ns) (hft : Ft W) {ps : List (List Int × List Int)} {Al : Option Addr} {np cl : Nat} (hp : Pts W W.heap.size (.slice Al np cl) ps) (hfit : FitP ni ns ps) (hnp : np ≤ 64) :
    Calls Tryz.prog 13 #[.agg #[.slice A0 n c0, .slice A1 n1 c1, .slice A2 0 c2, .slice A3 n3 c3], .slice Al np cl] W fun e w' => ∃ gr g out, e = .returned (.tuple #[.slice (some ⟨gr, 0, none⟩) np np, .slice (some ⟨g, 0, none⟩) n n, .int .i64 0]) ∧ LaneN c n ps ni ns out ∧ WRow w' g out ∧ WOk out ∧ out.length = n ∧ RRow w' gr (respW c out) np np ∧ BelW W w' := by
  obtain rfl := S.len
  obtain rfl := S.h1
  obtain rfl := S.h3
  obtain rfl := S.hi
  obtain rfl := S.hs
  have hk := H.kinds rfl
  have hm := S.h2
  have hcir : Cir W W.heap.size (.agg #[.slice A0 c.nodes.length c0, .slice A1 c.names.length c1, .slice A2 c.mems.length c2, .slice A3 c.outs.length c3]) c := by rw [S.h2]; exact H.cir
  have hT := H.tabs
  have hfew := S.few
  have hpl : np = ps.length := by
    obtain ⟨A', b, o, c', e, -⟩ := id hp
    simp only [Value.slice.injEq] at e
    exact e.2.1
  have hfits : ∀ x ∈ ps, Fits c x.1 x.2 := fun x hx => ⟨hm, (hfit x hx).1.1, (hfit x hx).2.1, (hfit x hx).1.2, (hfit x hx).2.2⟩
  have hwk : wkE c ps = 0 := by
    unfold wkE
    rw [if_neg (by omega), blE_of S.vld.ok hm]
    refine foldE_zero fun k hk2 => ?_
    have hx : ps.getD k ([], []) ∈ ps := by rw [List.getD_eq_getElem?_getD, List.getElem?_eq_getElem hk2]; exact List.getElem_mem hk2
    have hF := hfits _ hx
    rw [ckE_val S.vld.ok hm hF.li hF.ls, abv_none hF.vi, abv_none hF.vs]; rfl
  have hv1 : ∀ p ∈ ps.map (·.1), p.length = (ofTo c.nodes [0] c.nodes.length).length ∧ ∀ y ∈ p, 0 ≤ y ∧ y ≤ 3 := fun p hp => by
    obtain ⟨x, hx, rfl⟩ := List.mem_map.1 hp
    exact (hfit x hx).1
  have hv2 : ∀ p ∈ ps.map (·.2), p.length = (ofTo c.nodes [14] c.nodes.length).length ∧ ∀ y ∈ p, 0 ≤ y ∧ y ≤ 3 := fun p hp => by
    obtain ⟨x, hx, rfl⟩ := List.mem_map.1 hp
    exact (hfit x hx).2
  have key := (wrun_gen c ps A0 A1 A2 A3 Al c0 c1 c2 c3 np cl W W.heap.size (Nat.le_refl _) hT hft hcir hp (by omega) S.outs hwk hnp (LaneN c c.nodes.length ps (ofTo c.nodes [0] c.nodes.length).length (ofTo c.nodes [14] c.nodes.length).length) fun V h => ?a)
  case a =>
   refine (simw_any c ps A0 A1 A2 A3 Al c0 c1 c2 c3 np cl V W.heap.size (Below.size h) (hT.below h) (hft.below h) (hcir.below h) (Arr.keep stays_pat hp (Nat.le_refl _) fun _ hp => Below.cell h hp) (by omega) S.vld.ok hnp hfits).mono fun e w' ⟨g, L', P, out, he, hr, hL, hst, hP, hg, hb⟩ => ⟨g, out, he, hr, hst.ok, hst.len, fun i hi => ?_, hg, hb⟩
   have := WSt.stop S.vld hm hk (by rw [rowW_len]) (by rw [rowW_len]) hst hP hi
   rwa [rowW_lane (by rw [List.length_map]; omega) hv1 hi, rowW_lane (by rw [List.length_map]; omega) hv2 hi] at this
  rw [hm] at key
  exact key.mono fun e w' ⟨gr, g, out, he, hQ, hr, hok, hl, hrr, hb⟩ => ⟨gr, g, out, he, hQ, hr, hok, hl, hrr, hb⟩
theorem Cs.wbad (H : Cs c n n1 n3 A0 A1 A2 A3 c0 c1 c2 c3 q W) (S : Cst c L n n1 n3 ni ns) {ps : List (List Int × List Int)} {Al : Option Addr} {np cl : Nat} (hp : Pts W W.heap.size (.slice Al np cl) ps) (hnp : 64 < np) :
    Calls Tryz.prog 13 #[.agg #[.slice A0 n c0, .slice A1 n1 c1, .slice A2 0 c2, .slice A3 n3 c3], .slice Al np cl] W fun e w' => e = .returned (.tuple #[.slice none 0 0, .slice none 0 0, .int .i64 3]) ∧ BelW W w' := by
  obtain rfl := S.len
  obtain rfl := S.h1
  obtain rfl := S.h3
  have hm := S.h2
  have hcir : Cir W W.heap.size (.agg #[.slice A0 c.nodes.length c0, .slice A1 c.names.length c1, .slice A2 c.mems.length c2, .slice A3 c.outs.length c3]) c := by rw [S.h2]; exact H.cir
  have hfew := S.few
  have hpl : np = ps.length := by
    obtain ⟨A', b, o, c', e, -⟩ := id hp
    simp only [Value.slice.injEq] at e
    exact e.2.1
  have hwk : wkE c ps = 3 := by unfold wkE; rw [if_pos (by omega)]
  have := wrun_bad c ps A0 A1 A2 A3 Al c0 c1 c2 c3 np cl W W.heap.size (Nat.le_refl _) H.tabs hcir hp (by omega) (by rw [hwk]; decide)
  rwa [hwk, hm] at this
theorem Cs.blank (H : Cs c n n1 n3 A0 A1 A2 A3 c0 c1 c2 c3 q W) (S : Cst c L n n1 n3 ni ns) :
    Calls Tryz.prog 14 #[.agg #[.slice A0 n c0, .slice A1 n1 c1, .slice A2 0 c2, .slice A3 n3 c3]] W (BlkPost ni ns W) := by
  obtain rfl := S.len
  obtain rfl := S.h1
  obtain rfl := S.h3
  obtain rfl := S.hi
  obtain rfl := S.hs
  have hcir : Cir W W.heap.size (.agg #[.slice A0 c.nodes.length c0, .slice A1 c.names.length c1, .slice A2 c.mems.length c2, .slice A3 c.outs.length c3]) c := by rw [S.h2]; exact H.cir
  have hfew := S.few
  have hm := S.h2
  have := blank_any c A0 A1 A2 A3 c0 c1 c2 c3 W W.heap.size (Nat.le_refl _) hcir (by omega)
  rwa [hm] at this
end
section
variable {c : Ck} {L : List Int} {n n1 n3 ni ns : Nat} {ps : List (List Int × List Int)} {out : Wls} {w : World}
theorem rowV_1 {k m : Nat} (hk : k < ps.length) : rowV (ps.map (·.1)) m k = (ps.getD k ([], [])).1 := by
  unfold rowV
  rw [if_pos (by rw [List.length_map]; exact hk), List.getD_eq_getElem?_getD, List.getElem?_map, List.getD_eq_getElem?_getD, List.getElem?_eq_getElem hk]; rfl
theorem rowV_2 {k m : Nat} (hk : k < ps.length) : rowV (ps.map (·.2)) m k = (ps.getD k ([], [])).2 := by
  unfold rowV
  rw [if_pos (by rw [List.length_map]; exact hk), List.getD_eq_getElem?_getD, List.getElem?_map, List.getD_eq_getElem?_getD, List.getElem?_eq_getElem hk]; rfl
theorem rowV_no {α : Type} {l : List α} (f : α → List Int) {k m : Nat} (hk : ¬ k < l.length) : rowV (l.map f) m k = List.replicate m 2 := by
  unfold rowV
  rw [if_neg (by rw [List.length_map]; exact hk)]
theorem rowV_fit (hf : FitP ni ns ps) (k : Nat) : ((rowV (ps.map (·.1)) ni k).length = ni ∧ ∀ y ∈ rowV (ps.map (·.1)) ni k, 0 ≤ y ∧ y ≤ 3) ∧ (rowV (ps.map (·.2)) ns k).length = ns ∧ ∀ y ∈ rowV (ps.map (·.2)) ns k, 0 ≤ y ∧ y ≤ 3 := by
  by_cases hk : k < ps.length
  · rw [rowV_1 hk, rowV_2 hk]
    exact hf _ (by rw [List.getD_eq_getElem?_getD, List.getElem?_eq_getElem hk]; exact List.getElem_mem hk)
  · rw [rowV_no _ hk, rowV_no _ hk]
    refine ⟨⟨List.length_replicate, fun y hy => ?_⟩, List.length_replicate, fun y hy => ?_⟩ <;> (obtain ⟨-, rfl⟩ := List.mem_replicate.1 hy; decide)
theorem pts_at {A : Option Addr} {np cl : Nat} (hp : Pts w w.heap.size (.slice A np cl) ps) (hf : FitP ni ns ps) : ∃ b o, (0 < np → A = some ⟨b, o, none⟩) ∧ ∀ k, k < np → b < w.heap.size ∧ ∃ AI AS cI cS, ∀ W, BelW w W → W.cell? ⟨b, o + k * 2, none⟩ = some (.slice AI ni cI) ∧ W.cell? ⟨b, o + k * 2 + 1, none⟩ = some (.slice AS ns cS) ∧ Ks W W.heap.size (.slice AI ni cI) (rowV (ps.map (·.1)) ni k) ∧ Ks W W.heap.size (.slice AS ns cS) (rowV (ps.map (·.2)) ns k) := by
  obtain ⟨A', b, o, c', e, hA, -, -, hc⟩ := hp
  simp only [Value.slice.injEq] at e
  obtain ⟨rfl, hml, rfl⟩ := e
  rw [← hml] at hA hc
  refine ⟨b, o, hA, fun k hk => ?_⟩
  obtain ⟨hb, AI, AS, cI, cS, g1, g2, k1, k2⟩ := hc k hk
  have hm : ps.getD k ([], []) ∈ ps := by rw [List.getD_eq_getElem?_getD, List.getElem?_eq_getElem (by omega)]; exact List.getElem_mem _
  have l1 := (hf _ hm).1.1
  have l2 := (hf _ hm).2.1
  rw [l1] at g1 k1
  rw [l2] at g2 k2
  refine ⟨hb, AI, AS, cI, cS, fun W h => ⟨(Below.cell h (p := ⟨b, o + k * 2, none⟩) hb).trans g1, (Below.cell h (p := ⟨b, o + k * 2 + 1, none⟩) hb).trans g2, ?_, ?_⟩⟩
  · rw [rowV_1 (by omega)]; exact Arr.keep stays_u8 k1 (Below.size h) fun _ hp => Below.cell h hp
  · rw [rowV_2 (by omega)]; exact Arr.keep stays_u8 k2 (Below.size h) fun _ hp => Below.cell h hp
theorem Cst.out_len (S : Cst c L n n1 n3 ni ns) (nets : List Int) : (outV c nets).length = n3 ∧ (nextV c nets).length = ns := by
  constructor
  · unfold outV; rw [List.length_map]; exact S.h3
  · unfold nextV; rw [List.length_map, S.len]; exact S.hs
theorem rrow_at (S : Cst c L n n1 n3 ni ns) {gr np : Nat} (h : RRow w gr (respW c out) np np) (k : Nat) (hk : k < np) : ∃ a b, ∀ W, BelW w W → W.cell? ⟨gr, k * 2, none⟩ = some (.slice (some ⟨a, 0, none⟩) n3 n3) ∧ W.cell? ⟨gr, k * 2 + 1, none⟩ = some (.slice (some ⟨b, 0, none⟩) ns ns) ∧ Ks W W.heap.size (.slice (some ⟨a, 0, none⟩) n3 n3) (outV c (lanes out k)) ∧ Ks W W.heap.size (.slice (some ⟨b, 0, none⟩) ns ns) (nextV c (lanes out k)) := by
  obtain ⟨a, b, e1, e2, va, vb⟩ := h.at hk
  have hg := h.lt
  obtain ⟨l1, l2⟩ := S.out_len (lanes out k)
  simp only [respW] at e1 e2 va vb
  rw [l1] at e1
  rw [l2] at e2
  refine ⟨a, b, fun W hb => ⟨(Below.cell hb (p := ⟨gr, k * 2, none⟩) hg).trans e1, (Below.cell hb (p := ⟨gr, k * 2 + 1, none⟩) hg).trans e2, ?_, ?_⟩⟩
  · have := (va.below hb).ks; rwa [l1] at this
  · have := (vb.below hb).ks; rwa [l2] at this
theorem at_lane (hok : WOk out) {j k : Nat} (hj : j < out.length) (hk : k < 64) (W : World) : Calls Tryz.prog 9 #[.agg #[.int .u64 ((out.getD j (0, 0)).1 : Int), .int .u64 ((out.getD j (0, 0)).2 : Int)], .int .i64 (k : Int)] W fun e w' => e = .returned (.int .u8 (lat (lanes out k) (j : Int))) ∧ BelW W w' := by
  have := lat7_any _ _ k (hok j).1 (hok j).2 hk W
  have e : lat (lanes out k) (j : Int) = lnV (out.getD j (0, 0)).1 (out.getD j (0, 0)).2 k := lanes_at hj
  rw [e]
  exact this
theorem lane_net (S : Cst c L n n1 n3 ni ns) (hL : LaneN c n ps ni ns out) {k : Nat} (hk : k < 64) {nt : List Int} (hn : Net c.nodes (baseV n (ofTo c.nodes [0] n) (ofTo c.nodes [14] n) (rowV (ps.map (·.1)) ni k) (rowV (ps.map (·.2)) ns k)) nt) : nt = lanes out k :=
  Net.same S.vld.wf S.vld.lvl hn (hL k hk) fun _ _ _ => rfl
end
end Go.Proofs.YtemogllidmgbfaaGreatDoor

namespace Go.Proofs.YtemogllidmgbfaaGreatDoor
open Go.RowKit

theorem strs_eq_of {l l' : List ByteArray} (hl : l.length = l'.length) (h : ∀ j, j < l.length → l.getD j ByteArray.empty = l'.getD j ByteArray.empty) : l = l' := by
  apply List.ext_getElem hl
  intro j h1 h2
  have := h j h1
  simpa [List.getD_eq_getElem?_getD, List.getElem?_eq_getElem h1, List.getElem?_eq_getElem h2] using this
set_option maxHeartbeats 1000000 in
theorem eqI_any (l l' : List Int) (s s' : Value) (w : World) (B B' : Nat) (h : Is w B s l) (h' : Is w B' s' l') :
    Calls Tryz.prog 60 #[s, s'] w fun e w' => e = .returned (.bool (decide (l = l'))) ∧ ∃ n, w' = w.drewN n := by
  obtain ⟨y, HY⟩ := named (decide (l = l'))
  rw [← HY.out]
  obtain ⟨A, b, o, c, rfl, hA, hcc, hm, hc⟩ := h.opens
  obtain ⟨A', b', o', c', rfl, hA', -, hm', hc'⟩ := h'.opens
  unfold maxLen at hm hm'
  have HC := Lib.hid hc
  have HC' := Lib.hid hc'
  have HAA := Lib.hid hA
  have HAA' := Lib.hid hA'
  clear hc hc' hA hA' h h'
  obtain ⟨n, hn⟩ : ∃ n, n = l.length := ⟨_, rfl⟩
  obtain ⟨n', hn'⟩ : ∃ n', n' = l'.length := ⟨_, rfl⟩
  rw [← hn] at hm hcc
  rw [← hn'] at hm'
  rw [← hn, ← hn']
  have HN := Lib.hid hn
  have HN' := Lib.hid hn'
  clear hn hn'
  by_cases hnn : n = n'
  rotate_left
  · have hv : y = false := by rw [HY.out, decide_eq_false_iff_not]; intro h; exact hnn (by rw [HN.out, HN'.out, h])
    have hb : ((n : Int) != (n' : Int)) = true := by rw [bne_iff_ne]; omega
    have HV := Lib.hid hv
    clear hv hnn
    go_enter Tryz.func60, Tryz.ntmps60
    go_wp2
    go_ret
    exact ⟨ret_bool (by rw [HV.out]), 0, rfl⟩
  subst hnn
  go_enter Tryz.func60, Tryz.ntmps60
  go_wp2
  go_loopw [13] (fun i wr => ∃ k m : Nat, k ≤ n ∧ i = .int .i64 k ∧ wr = w.drewN m ∧ ∀ j, j < k → l.getD j 0 = l'.getD j 0) (fun i _ => n - (intOf i).toNat)
  case atStart => exact ⟨0, 0, Nat.zero_le _, rfl, rfl, fun j hj => absurd hj (by omega)⟩
  case round =>
    obtain ⟨k, m, hk, rfl, rfl, hno⟩ := hrel
    have HNO := Lib.hid hno
    clear hno
    by_cases hlt : k < n
    · obtain rfl := HAA.out (by rw [← HN.out]; omega)
      obtain rfl := HAA'.out (by rw [← HN'.out]; omega)
      have h1 := (HC.out k (by rw [← HN.out]; omega)).2
      have h2 := (HC'.out k (by rw [← HN'.out]; omega)).2
      obtain ⟨x, HX⟩ := named (l.getD k 0)
      obtain ⟨x', HX'⟩ := named (l'.getD k 0)
      rw [← HX.out] at h1
      rw [← HX'.out] at h2
      cases hv : (x != x')
      · have HV := Lib.hid hv
        go_wp2
        go_quiet (fail)
        go_wp2
        go_roundw
        case rel =>
          refine ⟨k + 1, m + nq, by omega, by go_num, by first | rfl | rw [World.drewN_drewN], fun j hj => ?_⟩
          by_cases hjk : j = k
          · rw [hjk, ← HX.out, ← HX'.out]; simpa using HV.out
          · exact HNO.out j (by omega)
        case measure => simp [intOf]; omega
      · have hy1 : y = false := by
          rw [HY.out, decide_eq_false_iff_not]
          intro h
          have : x = x' := by rw [HX.out, HX'.out, h]
          simp [this] at hv
        have HV := Lib.hid hy1
        clear hy1
        go_wp2
        go_quiet (fail)
        go_wp2
        go_ret
        exact ⟨ret_bool (by rw [HV.out]), m + nq, by first | rfl | rw [World.drewN_drewN]⟩
    · have hkn : k = n := by omega
      go_wp2
      go_ret
      exact ⟨ret_bool (by rw [HY.out]; exact (decide_eq_true (list_eq_of (HN.out.symm.trans HN'.out) (fun j hj => HNO.out j (by rw [← HN.out] at hj; omega)))).symm), m, rfl⟩
set_option maxHeartbeats 1000000 in
theorem eqS_any (l l' : List ByteArray) (s s' : Value) (w : World) (B B' : Nat) (h : Ss w B s l) (h' : Ss w B' s' l') :
    Calls Tryz.prog 57 #[s, s'] w fun e w' => e = .returned (.bool (decide (l = l'))) ∧ ∃ n, w' = w.drewN n := by
  obtain ⟨y, HY⟩ := named (decide (l = l'))
  rw [← HY.out]
  obtain ⟨A, b, o, c, rfl, hA, hcc, hm, hc⟩ := h.opens
  obtain ⟨A', b', o', c', rfl, hA', -, hm', hc'⟩ := h'.opens
  unfold maxLen at hm hm'
  have HC := Lib.hid hc
  have HC' := Lib.hid hc'
  have HAA := Lib.hid hA
  have HAA' := Lib.hid hA'
  clear hc hc' hA hA' h h'
  obtain ⟨n, hn⟩ : ∃ n, n = l.length := ⟨_, rfl⟩
  obtain ⟨n', hn'⟩ : ∃ n', n' = l'.length := ⟨_, rfl⟩
  rw [← hn] at hm hcc
  rw [← hn'] at hm'
  rw [← hn, ← hn']
  have HN := Lib.hid hn
  have HN' := Lib.hid hn'
  clear hn hn'
  by_cases hnn : n = n'
  rotate_left
  · have hv : y = false := by rw [HY.out, decide_eq_false_iff_not]; intro h; exact hnn (by rw [HN.out, HN'.out, h])
    have hb : ((n : Int) != (n' : Int)) = true := by rw [bne_iff_ne]; omega
    have HV := Lib.hid hv
    clear hv hnn
    go_enter Tryz.func57, Tryz.ntmps57
    go_wp2
    go_ret
    exact ⟨ret_bool (by rw [HV.out]), 0, rfl⟩
  subst hnn
  go_enter Tryz.func57, Tryz.ntmps57
  go_wp2
  go_loopw [13] (fun i wr => ∃ k m : Nat, k ≤ n ∧ i = .int .i64 k ∧ wr = w.drewN m ∧ ∀ j, j < k → l.getD j ByteArray.empty = l'.getD j ByteArray.empty) (fun i _ => n - (intOf i).toNat)
  case atStart => exact ⟨0, 0, Nat.zero_le _, rfl, rfl, fun j hj => absurd hj (by omega)⟩
  case round =>
    obtain ⟨k, m, hk, rfl, rfl, hno⟩ := hrel
    have HNO := Lib.hid hno
    clear hno
    by_cases hlt : k < n
    · obtain rfl := HAA.out (by rw [← HN.out]; omega)
      obtain rfl := HAA'.out (by rw [← HN'.out]; omega)
      have h1 := (HC.out k (by rw [← HN.out]; omega)).2.1
      have h2 := (HC'.out k (by rw [← HN'.out]; omega)).2.1
      obtain ⟨x, HX⟩ := named (l.getD k ByteArray.empty)
      obtain ⟨x', HX'⟩ := named (l'.getD k ByteArray.empty)
      rw [← HX.out] at h1
      rw [← HX'.out] at h2
      cases hv2 : (x.toList == x'.toList)
      rotate_left
      · have hv : (x.toList != x'.toList) = false := by simp only [bne, hv2]; rfl
        have e : x.toList = x'.toList := by simpa using hv2
        rw [ByteArray.toList_eq, ByteArray.toList_eq] at e
        have HV : Hid (x = x') := Lib.hid (ByteArray.ext (Array.toList_inj.mp e))
        clear e
        go_wp2
        go_quiet (fail)
        go_wp2
        go_roundw
        case rel =>
          refine ⟨k + 1, m + nq, by omega, by go_num, by first | rfl | rw [World.drewN_drewN], fun j hj => ?_⟩
          by_cases hjk : j = k
          · rw [hjk, ← HX.out, ← HX'.out]; exact HV.out
          · exact HNO.out j (by omega)
        case measure => simp [intOf]; omega
      · have hv : (x.toList != x'.toList) = true := by simp only [bne, hv2]; rfl
        have hy1 : y = false := by
          rw [HY.out, decide_eq_false_iff_not]
          intro h
          have : x = x' := by rw [HX.out, HX'.out, h]
          simp [this] at hv2
        have HV := Lib.hid hy1
        clear hy1
        go_wp2
        go_quiet (fail)
        go_wp2
        go_ret
        exact ⟨ret_bool (by rw [HV.out]), m + nq, by first | rfl | rw [World.drewN_drewN]⟩
    · have hkn : k = n := by omega
      go_wp2
      go_ret
      exact ⟨ret_bool (by rw [HY.out]; exact (decide_eq_true (strs_eq_of (HN.out.symm.trans HN'.out) (fun j hj => HNO.out j (by rw [← HN.out] at hj; omega)))).symm), m, rfl⟩
end Go.Proofs.YtemogllidmgbfaaGreatDoor

namespace Go.Proofs.YtemogllidmgbfaaGreatDoor
open Go.RowKit

def ndEq (x y : Nd) : Bool := x.kind == y.kind && x.mem == y.mem && x.bit == y.bit && decide (x.ins = y.ins)
def mmEq (x y : Mm) : Bool := x.write == y.write && decide (x.addr = y.addr) && decide (x.data = y.data)

set_option maxHeartbeats 1000000 in
theorem sameNode_any (x x' : Nd) (s s' : Value) (w : World) (B B' : Nat) (hB : B ≤ w.heap.size) (hB' : B' ≤ w.heap.size) (h : Is w B s x.ins) (h' : Is w B' s' x'.ins) :
    Calls Tryz.prog 56 #[.agg #[.int .u8 x.kind, s, .int .i64 x.mem, .int .i64 x.bit], .agg #[.int .u8 x'.kind, s', .int .i64 x'.mem, .int .i64 x'.bit]] w
      fun e w' => e = .returned (.bool (ndEq x x')) ∧ Below w.heap.size w w' := by
  obtain ⟨y, HY⟩ := named (ndEq x x')
  rw [← HY.out]
  have hy : ndEq x x' = (x.kind == x'.kind && x.mem == x'.mem && x.bit == x'.bit && decide (x.ins = x'.ins)) := rfl
  have hE : ∀ w1, Below w.heap.size w w1 → Calls Tryz.prog 60 #[s, s'] w1 fun e w' => e = .returned (.bool (decide (x.ins = x'.ins))) ∧ ∃ n, w' = w1.drewN n :=
    fun w1 hb => eqI_any _ _ _ _ w1 B B' (h.below (hb.mono hB)) (h'.below (hb.mono hB'))
  obtain ⟨A, b, o, c, rfl, -, -, -, -⟩ := h.opens
  obtain ⟨A', b', o', c', rfl, -, -, -, -⟩ := h'.opens
  have HE := Lib.hid hE
  clear hE h h'
  generalize decide (x.ins = x'.ins) = di at hy HE
  generalize x.ins.length = n at HE ⊢
  generalize x'.ins.length = n' at HE ⊢
  generalize x.kind = k at hy ⊢
  generalize x'.kind = k' at hy ⊢
  generalize x.mem = m at hy ⊢
  generalize x'.mem = m' at hy ⊢
  generalize x.bit = t at hy ⊢
  generalize x'.bit = t' at hy ⊢
  have HYY := Lib.hid hy
  clear hy
  cases h1 : k == k'
  · have H1 := Lib.hid h1
    go_enter Tryz.func56, Tryz.ntmps56
    go_wp2
    go_ret
    exact ⟨ret_bool (by rw [HY.out, HYY.out, H1.out]; rfl), ((Below.refl _ _).alloc (Nat.le_refl _) _).alloc (by simp) _⟩
  cases h2 : m == m'
  · have H1 := Lib.hid h1
    have H2 := Lib.hid h2
    go_enter Tryz.func56, Tryz.ntmps56
    go_wp2
    go_ret
    exact ⟨ret_bool (by rw [HY.out, HYY.out, H1.out, H2.out]; rfl), ((Below.refl _ _).alloc (Nat.le_refl _) _).alloc (by simp) _⟩
  cases h3 : t == t'
  · have H1 := Lib.hid h1
    have H2 := Lib.hid h2
    have H3 := Lib.hid h3
    go_enter Tryz.func56, Tryz.ntmps56
    go_wp2
    go_ret
    exact ⟨ret_bool (by rw [HY.out, HYY.out, H1.out, H2.out, H3.out]; rfl), ((Below.refl _ _).alloc (Nat.le_refl _) _).alloc (by simp) _⟩
  · have H1 := Lib.hid h1
    have H2 := Lib.hid h2
    have H3 := Lib.hid h3
    go_enter Tryz.func56, Tryz.ntmps56
    go_wp2_with (go_at_call 60; (with_reducible refine (HE.out _ (((Below.refl _ _).alloc (Nat.le_refl _) _).alloc (by simp) _)).mono ?_); rintro e w' ⟨rfl, q, rfl⟩)
    go_ret
    exact ⟨ret_bool (by rw [HY.out, HYY.out, H1.out, H2.out, H3.out]; rfl), below_drewN (((Below.refl _ _).alloc (Nat.le_refl _) _).alloc (by simp) _) _⟩
set_option maxHeartbeats 1000000 in
theorem sameMem_any (x x' : Mm) (s t s' t' : Value) (w : World) (B B' : Nat) (hB : B ≤ w.heap.size) (hB' : B' ≤ w.heap.size) (h : Is w B s x.addr) (hd : Is w B t x.data) (h' : Is w B' s' x'.addr) (hd' : Is w B' t' x'.data) :
    Calls Tryz.prog 59 #[.agg #[s, t, .int .i64 x.write], .agg #[s', t', .int .i64 x'.write]] w
      fun e w' => e = .returned (.bool (mmEq x x')) ∧ Below w.heap.size w w' := by
  obtain ⟨y, HY⟩ := named (mmEq x x')
  rw [← HY.out]
  have hy : mmEq x x' = (x.write == x'.write && decide (x.addr = x'.addr) && decide (x.data = x'.data)) := rfl
  have hE : ∀ w1, Below w.heap.size w w1 → Calls Tryz.prog 60 #[s, s'] w1 fun e w' => e = .returned (.bool (decide (x.addr = x'.addr))) ∧ ∃ n, w' = w1.drewN n :=
    fun w1 hb => eqI_any _ _ _ _ w1 B B' (h.below (hb.mono hB)) (h'.below (hb.mono hB'))
  have hF : ∀ w1, Below w.heap.size w w1 → Calls Tryz.prog 60 #[t, t'] w1 fun e w' => e = .returned (.bool (decide (x.data = x'.data))) ∧ ∃ n, w' = w1.drewN n :=
    fun w1 hb => eqI_any _ _ _ _ w1 B B' (hd.below (hb.mono hB)) (hd'.below (hb.mono hB'))
  obtain ⟨A, b, o, c, rfl, -, -, -, -⟩ := h.opens
  obtain ⟨A', b', o', c', rfl, -, -, -, -⟩ := h'.opens
  obtain ⟨D, p, r, d, rfl, -, -, -, -⟩ := hd.opens
  obtain ⟨D', p', r', d', rfl, -, -, -, -⟩ := hd'.opens
  have HE := Lib.hid hE
  have HF := Lib.hid hF
  clear hE hF h h' hd hd'
  generalize decide (x.addr = x'.addr) = di at hy HE
  generalize decide (x.data = x'.data) = dj at hy HF
  generalize x.addr.length = n at HE ⊢
  generalize x'.addr.length = n' at HE ⊢
  generalize x.data.length = l at HF ⊢
  generalize x'.data.length = l' at HF ⊢
  generalize x.write = k at hy ⊢
  generalize x'.write = k' at hy ⊢
  have HYY := Lib.hid hy
  clear hy
  cases h1 : k == k'
  · have H1 := Lib.hid h1
    go_enter Tryz.func59, Tryz.ntmps59
    go_wp2
    go_ret
    exact ⟨ret_bool (by rw [HY.out, HYY.out, H1.out]; rfl), ((Below.refl _ _).alloc (Nat.le_refl _) _).alloc (by simp) _⟩
  have H1 := Lib.hid h1
  cases di
  · go_enter Tryz.func59, Tryz.ntmps59
    go_wp2_with (go_at_call 60; (with_reducible refine (HE.out _ (((Below.refl _ _).alloc (Nat.le_refl _) _).alloc (by simp) _)).mono ?_); rintro e w' ⟨rfl, q, rfl⟩)
    go_ret
    exact ⟨ret_bool (by rw [HY.out, HYY.out, H1.out]; rfl), below_drewN (((Below.refl _ _).alloc (Nat.le_refl _) _).alloc (by simp) _) _⟩
  · go_enter Tryz.func59, Tryz.ntmps59
    go_wp2_with (go_at_call 60; (with_reducible first | refine (HE.out _ (((Below.refl _ _).alloc (Nat.le_refl _) _).alloc (by simp) _)).mono ?_ | refine (HF.out _ (below_drewN (((Below.refl _ _).alloc (Nat.le_refl _) _).alloc (by simp) _) _)).mono ?_); rintro e w' ⟨rfl, q, rfl⟩)
    go_ret
    exact ⟨ret_bool (by rw [HY.out, HYY.out, H1.out]; rfl), below_drewN (((Below.refl _ _).alloc (Nat.le_refl _) _).alloc (by simp) _) _⟩
end Go.Proofs.YtemogllidmgbfaaGreatDoor
