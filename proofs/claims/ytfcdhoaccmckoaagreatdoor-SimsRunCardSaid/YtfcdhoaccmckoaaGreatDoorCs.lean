/- A circuit of the laws in its variable, without memories: what every walk asks of it, and the calls on it. -/
import Derived.Test.YtfcdhoaccmckoaaGreatDoorSmu
import Derived.Test.YtfcdhoaccmckoaaGreatDoorSmk
import Derived.Test.YtfcdhoaccmckoaaGreatDoorOfp
import Derived.Test.YtfcdhoaccmckoaaGreatDoorLcv
namespace Go.Proofs.YtfcdhoaccmckoaaGreatDoor
open Go.RowKit

def sameTo (l l' : List Int) (k : Nat) : Prop := ∀ j, j < k → l.getD j 0 = l'.getD j 0
theorem sameTo_all {l l' : List Int} (hl : l.length = l'.length) (h : sameTo l l' l.length) : l = l' := by
  apply List.ext_getElem hl
  intro i h1 h2
  have := h i h1
  simpa [List.getD_eq_getElem?_getD, List.getElem?_eq_getElem h1, List.getElem?_eq_getElem h2] using this

theorem same6_any (l l' : List Int) (n m : Nat) (A A' : Option Addr) (c c' : Nat) (w : World) (B B' : Nat) (hs : Ks w B (.slice A n c) l) (hs' : Ks w B' (.slice A' m c') l') :
    Calls Tryz.prog 10 #[.slice A n c, .slice A' m c'] w fun e w' => e = .returned (.int .i64 (if l = l' then 0 else 1)) ∧ BelW w w' := by
  obtain ⟨A1, b, o, c1, e, hA, -, hm, hc⟩ := hs.opens
  simp only [Value.slice.injEq] at e
  obtain ⟨rfl, hml, rfl⟩ := e
  obtain ⟨A2, b', o', c2, e, hA', -, hm', hc'⟩ := hs'.opens
  simp only [Value.slice.injEq] at e
  obtain ⟨rfl, hml', rfl⟩ := e
  have hne : ¬ n = m → ¬ l = l' := fun h h' => h (by rw [hml, hml', h'])
  have hall : n = m → sameTo l l' n → l = l' := fun h h' => sameTo_all (by rw [← hml, ← hml', h]) (by rw [← hml]; exact h')
  rw [← hml] at hA hc hm
  rw [← hml'] at hA' hc' hm'
  unfold maxLen at hm hm'
  have HA := Lib.hid hA
  have HC := Lib.hid hc
  have HA' := Lib.hid hA'
  have HC' := Lib.hid hc'
  have HNE := Lib.hid hne
  have HALL := Lib.hid hall
  have HM := Lib.hid (And.intro hm hm')
  clear hA hc hA' hc' hs hs' hml hml' hne hall hm hm'
  obtain ⟨r, HRR⟩ := named (if l = l' then (0 : Int) else 1)
  rw [← HRR.out]
  go_enter Tryz.func10, Tryz.ntmps10
  by_cases hnm : n = m
  · subst hnm
    have hm := HM.out.1
    go_wp2
    go_loopw [5] (fun i wr => BelW w wr ∧ ∃ k : Nat, k ≤ n ∧ i = .int .i64 k ∧ sameTo l l' k) (fun i _ => n - (intOf i).toNat)
    case atStart => exact ⟨Below.refl _ _, 0, Nat.zero_le _, rfl, fun j h => absurd h (Nat.not_lt_zero j)⟩
    case round =>
      obtain ⟨hb, k, hk, rfl, hst⟩ := hrel
      have HBR := Lib.hid hb
      have HST := Lib.hid hst
      by_cases hlt : k < n
      · obtain rfl := HA.out (by omega)
        obtain rfl := HA'.out (by omega)
        obtain ⟨h1, h2⟩ := HC.out k hlt
        obtain ⟨h3, h4⟩ := HC'.out k hlt
        have x1 := (Below.cell hb (p := ⟨b, o + k, none⟩) (cell_lt h2)).trans h2
        have x2 := (Below.cell hb (p := ⟨b', o' + k, none⟩) (cell_lt h4)).trans h4
        obtain ⟨y, HY⟩ := named (l.getD k 0)
        obtain ⟨y', HY'⟩ := named (l'.getD k 0)
        rw [← HY.out] at x1
        rw [← HY'.out] at x2
        clear h2 h4 hb hst
        by_cases hyy : y = y'
        · have HNX : Hid (sameTo l l' (k + 1)) := Lib.hid fun j hj => by
            by_cases e : j = k
            · subst e; rw [← HY.out, ← HY'.out, hyy]
            · exact HST.out j (by omega)
          have t1 : (y != y') = false := by simp [hyy]
          go_wp2
          go_quiet (fail)
          go_wp2
          go_roundw
          case rel => exact ⟨below_drewN HBR.out _, k + 1, by omega, by go_num, HNX.out⟩
          case measure => simp [intOf]; omega
        · have HNO : Hid (r = 1) := Lib.hid (by rw [HRR.out]; exact if_neg fun e => hyy (by rw [HY.out, HY'.out, e]))
          have t1 : (y != y') = true := by simpa using hyy
          go_wp2
          go_quiet (fail)
          go_wp2
          go_ret
          exact ⟨by rw [HNO.out]; rfl, below_drewN HBR.out _⟩
      · obtain rfl : n = k := by omega
        have HYS : Hid (r = 0) := Lib.hid (by rw [HRR.out]; exact if_pos (HALL.out (by trivial) HST.out))
        clear hb hst
        go_wp2
        go_ret
        exact ⟨by rw [HYS.out]; rfl, HBR.out⟩
  · have HNO : Hid (r = 1) := Lib.hid (by rw [HRR.out]; exact if_neg (HNE.out hnm))
    have hm := HM.out.1
    have hm' := HM.out.2
    go_wp2
    go_ret
    exact ⟨by rw [HNO.out]; rfl, Below.refl _ _⟩
end Go.Proofs.YtfcdhoaccmckoaaGreatDoor

namespace Go.Proofs.YtfcdhoaccmckoaaGreatDoor
open Go.RowKit

theorem pOf_at (c : Ck) (a b : List Int) (A0 A1 A2 A3 Aa Ab : Option Addr) (n n1 n2 n3 ni ns c0 c1 c2 c3 ma mb ca cb : Nat) (w : World) (B : Nat) (hB : B ≤ w.heap.size) (hn : c.nodes.length = n) (hn1 : c.names.length = n1) (hn2 : c.mems.length = n2) (hn3 : c.outs.length = n3) (hni : (ofTo c.nodes [0] n).length = ni) (hns : (ofTo c.nodes [14] n).length = ns)
    (hc : Cir w B (.agg #[.slice A0 n c0, .slice A1 n1 c1, .slice A2 n2 c2, .slice A3 n3 c3]) c) (hi : Ks w B (.slice Aa ma ca) a) (hs : Ks w B (.slice Ab mb cb) b) (hsz : n ≤ 1000000) (va : ∀ y ∈ a, 0 ≤ y ∧ y ≤ 255) (vb : ∀ y ∈ b, 0 ≤ y ∧ y ≤ 255) :
    Calls Tryz.prog 5 #[.agg #[.slice Aa ma ca, .slice Ab mb cb], .agg #[.slice A0 n c0, .slice A1 n1 c1, .slice A2 n2 c2, .slice A3 n3 c3]] w fun e w' => ∃ AI cI AS cS, e = .returned (.agg #[.slice AI ni cI, .slice AS ns cS]) ∧ VStk w' w.heap.size (.slice AI ni cI) (takL a 4 ni) ∧ VStk w' w.heap.size (.slice AS ns cS) (takL b 3 ns) ∧ (∀ a b, (Value.slice AI ni cI).ownBlock = some a → (Value.slice AS ns cS).ownBlock = some b → a ≠ b) ∧ BelW w w' := by
  subst hn hn1 hn2 hn3 hni hns
  have hp := pOf_any c a b A0 A1 A2 A3 Aa Ab c0 c1 c2 c3 ma mb ca cb w B hB hc hi hs hsz va vb
  refine hp.mono fun e w' ⟨AI, cI, AS, cS, he, r1, r2, r3, r4⟩ => ?_
  rw [takL_len] at he r1 r3
  rw [takL_len] at he r2 r3
  exact ⟨AI, cI, AS, cS, he, r1, r2, r3, r4⟩

theorem run_at (c : Ck) (li ls : List Int) (A0 A1 A2 A3 Ai As : Option Addr) (n n1 n2 n3 ni ns c0 c1 c2 c3 ci cs : Nat) (w : World) (B : Nat) (hB : B ≤ w.heap.size) (hT : Lg.Tabs w) (hn : c.nodes.length = n) (hn1 : c.names.length = n1) (hn2 : c.mems.length = n2) (hn20 : n2 = 0) (hn3 : c.outs.length = n3) (hni : (ofTo c.nodes [0] n).length = ni) (hns : (ofTo c.nodes [14] n).length = ns)
    (hc : Cir w B (.agg #[.slice A0 n c0, .slice A1 n1 c1, .slice A2 n2 c2, .slice A3 n3 c3]) c) (hpi : Ks w B (.slice Ai ni ci) li) (hps : Ks w B (.slice As ns cs) ls) (hfew : n < 20) (hos : c.outs.length ≤ 17592186044416) (hck : chkErr c = 0) (l1 : li.length = ni) (l2 : ls.length = ns) (v1 : ∀ y ∈ li, 0 ≤ y ∧ y ≤ 3) (v2 : ∀ y ∈ ls, 0 ≤ y ∧ y ≤ 3) :
    Calls Tryz.prog 6 #[.agg #[.slice A0 n c0, .slice A1 n1 c1, .slice A2 n2 c2, .slice A3 n3 c3], .agg #[.slice Ai ni ci, .slice As ns cs]] w fun e w' => ∃ nets g h k, Net c.nodes (baseV n (ofTo c.nodes [0] n) (ofTo c.nodes [14] n) li ls) nets ∧ nets.length = n ∧ e = .returned (.tuple #[.agg #[.slice (some ⟨g, 0, none⟩) n3 n3, .slice (some ⟨h, 0, none⟩) ns ns], .slice (some ⟨k, 0, none⟩) n n, .int .i64 0]) ∧ VRow w' g (outV c nets) ∧ VRow w' h (nextV c nets) ∧ VRow w' k nets ∧ BelW w w' := by
  subst hn hn1 hn2 hn3
  have hf : Fits c li ls := ⟨hn20, by rw [l1, hni], by rw [l2, hns], v1, v2⟩
  subst l1 l2
  have hr := run_ok c li ls A0 A1 A2 A3 Ai As c0 c1 c2 c3 ci cs w B hB hT hc hpi hps hfew hos hck hf
  refine hr.mono fun e w' ⟨nets, g, h, k, hn, he, r1, r2, r3, _, _, _, r4⟩ => ?_
  have hnl : nets.length = c.nodes.length := hn.1
  have lo : (outV c nets).length = c.outs.length := List.length_map _
  have ln : (nextV c nets).length = ls.length := by rw [← hns]; exact List.length_map _
  refine ⟨nets, g, h, k, hn, hnl, ?_, r1, r2, r3, r4⟩
  rw [lo, ln, hnl] at he
  exact he

theorem VStk.cellK {w : World} {base g n c : Nat} {l : List Int} (h : VStk w base (.slice (some ⟨g, 0, none⟩) n c) l) (hl : l.length = n) {k : Nat} (hk : k < n) : w.cell? ⟨g, k, none⟩ = some (.int .u8 (l.getD k 0)) := by
  subst hl; exact h.cell hk
theorem VStk.frozenK {w : World} {base g n c : Nat} {l : List Int} (h : VStk w base (.slice (some ⟨g, 0, none⟩) n c) l) (hl : l.length = n) (k : Nat) : w.frozen? ⟨g, k, none⟩ = false := by
  subst hl; exact World.ownsRow.frozenAt h k
theorem VStk.formK {w : World} {base n c : Nat} {A : Option Addr} {l : List Int} (h : VStk w base (.slice A n c) l) (hl : l.length = n) {k : Nat} (hk : k < n) : ∃ g, A = some ⟨g, 0, none⟩ := by
  subst hl
  obtain ⟨A', cc, e, -, -, hq⟩ := h.form
  simp only [Value.slice.injEq, true_and] at e
  obtain ⟨rfl, rfl⟩ := e
  obtain ⟨g, rfl, -, -⟩ := hq (by omega)
  exact ⟨g, rfl⟩
theorem mono_nets {c : Ck} {L : List Int} {m n : Nat} (V : Vld c L m) (hn : c.nodes.length = n) {pin pst mI mS nt1 nt2 : List Int} (l1 : pin.length = mI.length) (l2 : pst.length = mS.length) (r1 : ∀ j, j < pin.length → blw (pin.getD j 0) (mI.getD j 0) = true) (r2 : ∀ j, j < pst.length → blw (pst.getD j 0) (mS.getD j 0) = true)
    (h1 : Net c.nodes (baseV n (ofTo c.nodes [0] n) (ofTo c.nodes [14] n) pin pst) nt1) (h2 : Net c.nodes (baseV n (ofTo c.nodes [0] n) (ofTo c.nodes [14] n) mI mS) nt2) : ∀ i : Nat, i < n → blw (lat nt1 i) (lat nt2 i) = true := by
  subst hn
  exact Net.mono V.wf V.lvl h1 h2 fun i hi _ => baseV_rel (R := fun a b => blw a b = true) (fun x hx => (ofTo_in hx).1) (fun x hx => (ofTo_in hx).1) (Lg.blw_refl 0) l1 l2 r1 r2 hi
theorem ofC_outs4 (x : Cx) : (ofC x).outs.length ≤ 4 := by
  simp only [ofC, List.length_append, outsTo, List.length_map, List.length_range, List.length_cons, List.length_nil, outsN]
  omega
end Go.Proofs.YtfcdhoaccmckoaaGreatDoor

namespace Go.Proofs.YtfcdhoaccmckoaaGreatDoor
open Go.RowKit

/-- A valid circuit without memories, its lengths under names of their own. -/
structure Cst (c : Ck) (L : List Int) (n n1 n3 ni ns : Nat) : Prop where
  vld : Vld c L n
  h1 : c.names.length = n1
  h2 : c.mems.length = 0
  h3 : c.outs.length = n3
  hi : (ofTo c.nodes [0] n).length = ni
  hs : (ofTo c.nodes [14] n).length = ns
  outs : c.outs.length ≤ 17592186044416
section
variable {c : Ck} {L : List Int} {n n1 n3 ni ns : Nat}
theorem Cst.len (S : Cst c L n n1 n3 ni ns) : c.nodes.length = n := S.vld.len.symm
theorem Cst.few (S : Cst c L n n1 n3 ni ns) : n < 20 := S.vld.few
theorem Cst.niB (S : Cst c L n n1 n3 ni ns) : ni ≤ n := by rw [← S.hi]; exact ofTo_len _ _ _
theorem Cst.nsB (S : Cst c L n n1 n3 ni ns) : ns ≤ n := by rw [← S.hs]; exact ofTo_len _ _ _
end
/-- The circuit in variable q. -/
structure Cs (c : Ck) (n n1 n3 : Nat) (A0 A1 A2 A3 : Option Addr) (c0 c1 c2 c3 q : Nat) (W : World) : Prop where
  tabs : Lg.Tabs W
  cir : Cir W W.heap.size (.agg #[.slice A0 n c0, .slice A1 n1 c1, .slice A2 0 c2, .slice A3 n3 c3]) c
  box : Fr W q 35 [.slice A0 n c0, .slice A1 n1 c1, .slice A2 0 c2, .slice A3 n3 c3]
section
variable {c : Ck} {L : List Int} {n n1 n3 ni ns : Nat} {A0 A1 A2 A3 : Option Addr} {c0 c1 c2 c3 q : Nat} {W W' : World}
theorem Cs.next (H : Cs c n n1 n3 A0 A1 A2 A3 c0 c1 c2 c3 q W) (hb : BelW W W') : Cs c n n1 n3 A0 A1 A2 A3 c0 c1 c2 c3 q W' :=
  ⟨H.tabs.below hb, (H.cir.below hb).more (Below.size hb), H.box.below hb⟩
theorem Cs.cells (H : Cs c n n1 n3 A0 A1 A2 A3 c0 c1 c2 c3 q W) : W.cell? ⟨q, 0, none⟩ = some (.slice A0 n c0) ∧ W.cell? ⟨q, 1, none⟩ = some (.slice A1 n1 c1) ∧ W.cell? ⟨q, 2, none⟩ = some (.slice A2 0 c2) ∧ W.cell? ⟨q, 3, none⟩ = some (.slice A3 n3 c3) :=
  ⟨H.box.cell 0, H.box.cell 1, H.box.cell 2, H.box.cell 3⟩
/-- A node's cells and pins. -/
theorem Cs.node (H : Cs c n n1 n3 A0 A1 A2 A3 c0 c1 c2 c3 q W) (hn : c.nodes.length = n) {k : Nat} (hk : k < n) : ∃ b o A m cc, A0 = some ⟨b, o, none⟩ ∧ b < W.heap.size ∧ m = (c.nodes.getD k default).ins.length ∧
    W.cell? ⟨b, o + k * 4, none⟩ = some (.int .u8 (c.nodes.getD k default).kind) ∧ W.cell? ⟨b, o + k * 4 + 1, none⟩ = some (.slice A m cc) ∧ W.cell? ⟨b, o + k * 4 + 2, none⟩ = some (.int .i64 (c.nodes.getD k default).mem) ∧ W.cell? ⟨b, o + k * 4 + 3, none⟩ = some (.int .i64 (c.nodes.getD k default).bit) ∧ Is W W.heap.size (.slice A m cc) (c.nodes.getD k default).ins ∧ 0 ≤ (c.nodes.getD k default).kind ∧ (c.nodes.getD k default).kind ≤ 255 := by
  obtain ⟨v0, v1, v2, v3, e, hN, -, -, -⟩ := H.cir
  have e0 : v0 = .slice A0 n c0 := by have := congrArg (fun v => match v with | Value.agg a => a[0]? | _ => none) e; simpa using this.symm
  subst e0
  obtain ⟨A, b, o, cc, e1, hA, -, -, hc⟩ := hN
  simp only [Value.slice.injEq] at e1
  obtain ⟨rfl, -, rfl⟩ := e1
  obtain ⟨hb, s, f0, f1, f2, f3, hs, k0, k1⟩ := hc k (by rw [hn]; exact hk)
  have hs' := hs
  obtain ⟨A4, b4, o4, c4, rfl, -⟩ := hs'
  exact ⟨b, o, A4, _, c4, hA (by omega), hb, rfl, f0, f1, f2, f3, hs, k0, k1⟩
theorem Cs.kinds (H : Cs c n n1 n3 A0 A1 A2 A3 c0 c1 c2 c3 q W) (hn : c.nodes.length = n) : ∀ i : Nat, i < n → 0 ≤ (c.nodes.getD i default).kind := fun i hi => by
  obtain ⟨_, _, _, _, _, _, _, _, _, _, _, _, _, h, _⟩ := H.node hn hi
  exact h
/-- P.Of on it. -/
theorem Cs.pOf (H : Cs c n n1 n3 A0 A1 A2 A3 c0 c1 c2 c3 q W) (S : Cst c L n n1 n3 ni ns) {a b : List Int} {Aa Ab : Option Addr} {ma mb ca cb : Nat} (h1 : Ks W W.heap.size (.slice Aa ma ca) a) (h2 : Ks W W.heap.size (.slice Ab mb cb) b) (h3 : ∀ y ∈ a, 0 ≤ y ∧ y ≤ 255) (h4 : ∀ y ∈ b, 0 ≤ y ∧ y ≤ 255) :
    Calls Tryz.prog 5 #[.agg #[.slice Aa ma ca, .slice Ab mb cb], .agg #[.slice A0 n c0, .slice A1 n1 c1, .slice A2 0 c2, .slice A3 n3 c3]] W fun e w' => ∃ AI cI AS cS, e = .returned (.agg #[.slice AI ni cI, .slice AS ns cS]) ∧ VStk w' W.heap.size (.slice AI ni cI) (takL a 4 ni) ∧ VStk w' W.heap.size (.slice AS ns cS) (takL b 3 ns) ∧ (∀ a b, (Value.slice AI ni cI).ownBlock = some a → (Value.slice AS ns cS).ownBlock = some b → a ≠ b) ∧ BelW W w' :=
  pOf_at c a b A0 A1 A2 A3 Aa Ab n n1 0 n3 ni ns c0 c1 c2 c3 ma mb ca cb W W.heap.size (Nat.le_refl _) S.len S.h1 S.h2 S.h3 S.hi S.hs H.cir h1 h2 (by have := S.few; omega) h3 h4
/-- Run on it. -/
theorem Cs.run (H : Cs c n n1 n3 A0 A1 A2 A3 c0 c1 c2 c3 q W) (S : Cst c L n n1 n3 ni ns) {li ls : List Int} {Ai As : Option Addr} {ci cs : Nat} (h1 : Ks W W.heap.size (.slice Ai ni ci) li) (h2 : Ks W W.heap.size (.slice As ns cs) ls) (l1 : li.length = ni) (l2 : ls.length = ns) (v1 : ∀ y ∈ li, 0 ≤ y ∧ y ≤ 3) (v2 : ∀ y ∈ ls, 0 ≤ y ∧ y ≤ 3) :
    Calls Tryz.prog 6 #[.agg #[.slice A0 n c0, .slice A1 n1 c1, .slice A2 0 c2, .slice A3 n3 c3], .agg #[.slice Ai ni ci, .slice As ns cs]] W fun e w' => ∃ nets g h k, Net c.nodes (baseV n (ofTo c.nodes [0] n) (ofTo c.nodes [14] n) li ls) nets ∧ nets.length = n ∧ e = .returned (.tuple #[.agg #[.slice (some ⟨g, 0, none⟩) n3 n3, .slice (some ⟨h, 0, none⟩) ns ns], .slice (some ⟨k, 0, none⟩) n n, .int .i64 0]) ∧ VRow w' g (outV c nets) ∧ VRow w' h (nextV c nets) ∧ VRow w' k nets ∧ BelW W w' :=
  run_at c li ls A0 A1 A2 A3 Ai As n n1 0 n3 ni ns c0 c1 c2 c3 ci cs W W.heap.size (Nat.le_refl _) H.tabs S.len S.h1 S.h2 rfl S.h3 S.hi S.hs H.cir h1 h2 S.few S.outs S.vld.ok l1 l2 v1 v2
/-- Order on it: by the circuit's own levels. -/
theorem Cs.order (H : Cs c n n1 n3 A0 A1 A2 A3 c0 c1 c2 c3 q W) (S : Cst c L n n1 n3 ni ns) :
    Calls Tryz.prog 17 #[.agg #[.slice A0 n c0, .slice A1 n1 c1, .slice A2 0 c2, .slice A3 n3 c3]] W fun e w' => ∃ R d, SortTo L n n R ∧ R.length = n ∧ (∀ i : Nat, i < n → (i : Int) ∈ R) ∧ e = .returned (.tuple #[.slice (some ⟨d, 0, none⟩) n n, .int .i64 0]) ∧ W.heap.size ≤ d ∧ Row w' d R ∧ BelW W w' :=
  (order_any c _ W W.heap.size (Nat.le_refl _) (tabs_lg H.tabs) H.cir (by rw [S.len]; exact S.few)).mono fun e w' ⟨h1, h2⟩ => by
    rcases h2 with ⟨-, -, L', R, d, hl, -, hs, hd, he, hr⟩ | ⟨hne, -⟩
    · rw [hl.unique S.vld.wf S.vld.lvl] at hs
      rw [S.len] at hs he
      refine ⟨R, d, hs, ?_, fun i hi => ?_, he, hd, hr, h1⟩
      · obtain ⟨Z, h1, h2, -⟩ := hs
        rw [h1]; simp [rng, h2]
      · rw [ord_eq hs (fun i hi => by have := S.vld.bnd i hi; exact this)]
        exact ordTo_mem.2 ⟨i, rfl, hi, (S.vld.bnd i hi).1, (S.vld.bnd i hi).2⟩
    · exact absurd S.vld.ok hne
end
theorem takL_in4 {l : List Int} (h0 : ∀ x ∈ l, 0 ≤ x ∧ x ≤ 255) (n : Nat) : ∀ x ∈ takL l 4 n, 0 ≤ x ∧ x ≤ 3 := takL_in h0 (by decide) (by decide) n
theorem takL_in3 {l : List Int} (h0 : ∀ x ∈ l, 0 ≤ x ∧ x ≤ 255) (n : Nat) : ∀ x ∈ takL l 3 n, 0 ≤ x ∧ x ≤ 3 := takL_in h0 (by decide) (by decide) n
/-- C.Of without a memory: a valid circuit. -/
theorem ofc_s (x : Cx) (hx : Cok x) (sG sA : Value) (w W : World) (hb : BelW w W) (hG : Gs w w.heap.size sG x.gates) (hA : Ks w w.heap.size sA x.outs) {c : Ck} (hc : c = ofC { x with mem := false }) {n : Nat} (hn : n = c.nodes.length) :
    Calls Tryz.prog 4 #[.agg #[.int .u8 x.inN, .int .u8 x.dffs, .int .u8 x.d0, .int .u8 x.d1, .bool x.bus, .bool false, .int .u8 x.p0, .int .u8 x.p1, .int .u8 x.p2, .int .u8 x.p3, sG, sA]] W fun e w' => (∃ A0 A1 A2 A3 n1 n3 c0 c1 c2 c3, e = .returned (.agg #[.slice A0 n c0, .slice A1 n1 c1, .slice A2 0 c2, .slice A3 n3 c3]) ∧ Cir w' w'.heap.size (.agg #[.slice A0 n c0, .slice A1 n1 c1, .slice A2 0 c2, .slice A3 n3 c3]) c ∧ n1 = c.names.length ∧ n3 = c.outs.length) ∧ BelW W w' := by
  have hxf : Cok { x with mem := false } := ⟨hx.inN, hx.dffs, hx.d0, hx.d1, hx.p0, hx.p1, hx.p2, hx.p3, hx.gates, hx.outs⟩
  have hmem : c.mems.length = 0 := by rw [hc]; rfl
  refine (ofc_any { x with mem := false } hxf sG sA W w.heap.size (Below.size hb) (hG.below hb) (Arr.keep stays_u8 hA (Nat.le_refl _) fun _ hp => Below.cell hb hp)).mono fun e w' ⟨⟨v, he, hc1⟩, hb1⟩ => ?_
  rw [← hc] at hc1
  have hc2 := hc1
  obtain ⟨v0, v1, v2, v3, rfl, g0, g1, g2, g3⟩ := hc2
  obtain ⟨A0, _, _, c0, rfl, -⟩ := id g0
  obtain ⟨A1, _, _, c1, rfl, -⟩ := id g1
  obtain ⟨A2, _, _, c2, rfl, -⟩ := id g2
  obtain ⟨A3, _, _, c3, rfl, -⟩ := id g3
  rw [hmem, ← hn] at hc1 he
  exact ⟨⟨A0, A1, A2, A3, _, _, c0, c1, c2, c3, he, hc1, rfl, rfl⟩, hb1⟩
/-- What the walks know of it. -/
theorem cst_of (x : Cx) (hx : Cok x) {c : Ck} (hc : c = ofC { x with mem := false }) {n n1 n3 ni ns : Nat} (hn : n = c.nodes.length) (h1 : n1 = c.names.length) (h3 : n3 = c.outs.length) (hi : ni = (ofTo c.nodes [0] n).length) (hs : ns = (ofTo c.nodes [14] n).length) : ∃ L, Cst c L n n1 n3 ni ns := by
  have hxf : Cok { x with mem := false } := ⟨hx.inN, hx.dffs, hx.d0, hx.d1, hx.p0, hx.p1, hx.p2, hx.p3, hx.gates, hx.outs⟩
  obtain ⟨L, V⟩ := vld_c { x with mem := false } hxf
  rw [← hc] at V
  have hlen := V.len
  rw [hlen, ← hn] at V
  refine ⟨L, V, h1.symm, by rw [hc]; rfl, h3.symm, hi.symm, hs.symm, ?_⟩
  have := ofC_outs4 { x with mem := false }
  rw [← hc] at this
  omega
theorem ofC_inputs (x : Cx) {c : Ck} (hc : c = ofC { x with mem := false }) : 0 < c.nodes.length := by
  rw [hc, ofC_len]
  have := sizeN_le { x with mem := false }
  omega
end Go.Proofs.YtfcdhoaccmckoaaGreatDoor
