/- The texts Lcv Sna Snb Cs Srw Blk Meu Mag. -/
import Derived.Test.YtkaedfgmhfefjaaGreatDoorM16
import Derived.Test.YtkaedfgmhfefjaaGreatDoorM17
import Derived.Test.YtkaedfgmhfefjaaGreatDoorM08
import Derived.Test.YtkaedfgmhfefjaaGreatDoorM19
import Derived.Test.YtkaedfgmhfefjaaGreatDoorM20
import Derived.Test.YtkaedfgmhfefjaaGreatDoorM22
import Derived.Test.YtkaedfgmhfefjaaGreatDoorM15
import Derived.Test.YtkaedfgmhfefjaaGreatDoorM14
import Derived.Deep.LoopGhost
import Derived.Deep.CutBlock
import Derived.Deep.DeepCutAuto
import Derived.Test.YtkaedfgmhfefjaaGreatDoorM03
import Derived.Test.YtkaedfgmhfefjaaGreatDoorM12
import Derived.Test.YtkaedfgmhfefjaaGreatDoorM13
import Derived.Test.YtkaedfgmhfefjaaGreatDoorM06
import Derived.Test.YtkaedfgmhfefjaaGreatDoorM09
import Derived.Laws.CopyOwn
namespace Go.Proofs.YtkaedfgmhfefjaaGreatDoor
open Go.RowKit
theorem ofc_any (x : Cx) (hx : Cok x) (sG sA : Value) (w : World) (B : Nat) (hB : B ≤ w.heap.size) (hG : Gs w B sG x.gates) (hA : Ks w B sA x.outs) :
    Calls Tryz.prog 7 #[.agg #[.int .u8 x.inN, .int .u8 x.dffs, .int .u8 x.d0, .int .u8 x.d1, .bool x.bus, .bool x.mem, .int .u8 x.p0, .int .u8 x.p1, .int .u8 x.p2, .int .u8 x.p3, sG, sA]] w
      fun e w' => (∃ v, e = .returned v ∧ Cir w' w'.heap.size v (ofC x)) ∧ Below w.heap.size w w' := by
  cases h : x.mem
  · rw [← h]; exact ofc_false x h hx sG sA w B hB hG hA
  · rw [← h]; exact ofc_true x h hx sG sA w B hB hG hA
theorem hi_le (k : Int) : hi k ≤ 16 := by
  unfold hi
  split
  · decide
  · have h : ∀ i : Fin 16, spansL.getD (2 * i.val + 1) 0 ≤ 16 := by decide
    exact h ⟨k.toNat, by omega⟩
theorem chk_shape {c : Ck} (h : chkErr c = 0) : shapeErr c = 0 := by
  unfold chkErr at h
  by_cases e : shapeErr c = 0
  · exact e
  · rw [if_pos e] at h; exact absurd h e
structure Vld (c : Ck) (L : List Int) (n : Nat) : Prop where
  ok : chkErr c = 0
  lvl : Lvl c.nodes L
  len : n = c.nodes.length
  few : n < 20
section
variable {c : Ck} {L : List Int} {n : Nat}
theorem Vld.wf (V : Vld c L n) : Wf c.nodes := wf_of_shape (chk_shape V.ok)
theorem Vld.bnd (V : Vld c L n) : ∀ i : Nat, i < n → 0 ≤ lat L i ∧ lat L i < (n : Int) := fun i hi => by
  rw [V.len] at hi
  have h1 := V.lvl.nonneg hi
  have h2 := V.lvl.bound V.wf hi
  rw [← V.len] at h2
  exact ⟨h1, h2⟩
theorem Vld.pins (V : Vld c L n) : ∀ k, k < c.nodes.length → (c.nodes.getD k default).ins.length ≤ 16 := fun k hk => by
  have h := (nodeErr_zero ((shape_zero (chk_shape V.ok)).2.2.2.2.1 _ (getD_mem_nd hk))).2.2.1
  have := hi_le (c.nodes.getD k default).kind
  omega
variable {w w1 W : World} {q : Nat} {A0 A1 A2 A3 : Option Addr} {n1 n2 n3 c0 c1 c2 c3 : Nat}
end
theorem vld_c (x : Cx) (hx : Cok x) : ∃ L, Vld (ofC x) L (sizeN x) := by
  obtain ⟨L, hL⟩ := ofC_lvl x hx
  exact ⟨L, ofC_ok x hx, hL, (ofC_len x).symm, by have := sizeN_le x; omega⟩
def BRow (w : World) (g : Nat) (l : List Bool) : Prop := w.ownsRow g 4 1 (.slice (some ⟨g, 0, none⟩) l.length l.length) l.length (l.map Value.bool)
section
variable {w w' : World} {g : Nat} {l : List Bool}
end
end Go.Proofs.YtkaedfgmhfefjaaGreatDoor

namespace Go.Proofs.YtkaedfgmhfefjaaGreatDoor
open Go.RowKit
theorem pOf_at (c : Ck) (a b : List Int) (A0 A1 A2 A3 Aa Ab : Option Addr) (n n1 n2 n3 ni ns c0 c1 c2 c3 ma mb ca cb : Nat) (w : World) (B : Nat) (hB : B ≤ w.heap.size) (hn : c.nodes.length = n) (hn1 : c.names.length = n1) (hn2 : c.mems.length = n2) (hn3 : c.outs.length = n3) (hni : (ofTo c.nodes [0] n).length = ni) (hns : (ofTo c.nodes [14] n).length = ns)
    (hc : Cir w B (.agg #[.slice A0 n c0, .slice A1 n1 c1, .slice A2 n2 c2, .slice A3 n3 c3]) c) (hi : Ks w B (.slice Aa ma ca) a) (hs : Ks w B (.slice Ab mb cb) b) (hsz : n ≤ 1000000) (va : ∀ y ∈ a, 0 ≤ y ∧ y ≤ 255) (vb : ∀ y ∈ b, 0 ≤ y ∧ y ≤ 255) :
    Calls Tryz.prog 32 #[.agg #[.slice Aa ma ca, .slice Ab mb cb], .agg #[.slice A0 n c0, .slice A1 n1 c1, .slice A2 n2 c2, .slice A3 n3 c3]] w fun e w' => ∃ AI cI AS cS, e = .returned (.agg #[.slice AI ni cI, .slice AS ns cS]) ∧ VStk w' w.heap.size (.slice AI ni cI) (takL a 4 ni) ∧ VStk w' w.heap.size (.slice AS ns cS) (takL b 3 ns) ∧ (∀ a b, (Value.slice AI ni cI).ownBlock = some a → (Value.slice AS ns cS).ownBlock = some b → a ≠ b) ∧ BelW w w' := by
  subst hn hn1 hn2 hn3 hni hns
  have hp := pOf_any c a b A0 A1 A2 A3 Aa Ab c0 c1 c2 c3 ma mb ca cb w B hB hc hi hs hsz va vb
  refine hp.mono fun e w' ⟨AI, cI, AS, cS, he, r1, r2, r3, r4⟩ => ?_
  rw [takL_len] at he r1 r3
  rw [takL_len] at he r2 r3
  exact ⟨AI, cI, AS, cS, he, r1, r2, r3, r4⟩
theorem run_at (c : Ck) (li ls : List Int) (A0 A1 A2 A3 Ai As : Option Addr) (n n1 n2 n3 ni ns c0 c1 c2 c3 ci cs : Nat) (w : World) (B : Nat) (hB : B ≤ w.heap.size) (hT : Lg.Tabs w) (hn : c.nodes.length = n) (hn1 : c.names.length = n1) (hn2 : c.mems.length = n2) (hn20 : n2 = 0) (hn3 : c.outs.length = n3) (hni : (ofTo c.nodes [0] n).length = ni) (hns : (ofTo c.nodes [14] n).length = ns)
    (hc : Cir w B (.agg #[.slice A0 n c0, .slice A1 n1 c1, .slice A2 n2 c2, .slice A3 n3 c3]) c) (hpi : Ks w B (.slice Ai ni ci) li) (hps : Ks w B (.slice As ns cs) ls) (hfew : n < 20) (hos : c.outs.length ≤ 17592186044416) (hck : chkErr c = 0) (l1 : li.length = ni) (l2 : ls.length = ns) (v1 : ∀ y ∈ li, 0 ≤ y ∧ y ≤ 3) (v2 : ∀ y ∈ ls, 0 ≤ y ∧ y ≤ 3) :
    Calls Tryz.prog 27 #[.agg #[.slice A0 n c0, .slice A1 n1 c1, .slice A2 n2 c2, .slice A3 n3 c3], .agg #[.slice Ai ni ci, .slice As ns cs]] w fun e w' => ∃ nets g h k, Net c.nodes (baseV n (ofTo c.nodes [0] n) (ofTo c.nodes [14] n) li ls) nets ∧ nets.length = n ∧ e = .returned (.tuple #[.agg #[.slice (some ⟨g, 0, none⟩) n3 n3, .slice (some ⟨h, 0, none⟩) ns ns], .slice (some ⟨k, 0, none⟩) n n, .int .i64 0]) ∧ VRow w' g (outV c nets) ∧ VRow w' h (nextV c nets) ∧ VRow w' k nets ∧ BelW w w' := by
  subst hn hn1 hn2 hn3
  have hf : Fits c li ls := ⟨hn20, by rw [l1, hni], by rw [l2, hns], v1, v2⟩
  subst l1 l2
  have hr := run_ok c li ls A0 A1 A2 A3 Ai As c0 c1 c2 c3 ci cs w B hB hT hc hpi hps hfew hos hck hf
  refine hr.mono fun e w' ⟨nets, g, h, k, hn, he, r1, r2, r3, _, _, _, r4⟩ => ?_
  have hnl : nets.length = c.nodes.length := hn.1
  have lo : (outV c nets).length = c.outs.length := List.length_map _
  have ln : (nextV c nets).length = ls.length := by rw [← hns]; exact List.length_map _
  refine ⟨nets, g, h, k, hn, hnl, ?_, r1, r2, r3, r4⟩
  rw [lo, ln, hnl] at he
  exact he
theorem VStk.cellK {w : World} {base g n c : Nat} {l : List Int} (h : VStk w base (.slice (some ⟨g, 0, none⟩) n c) l) (hl : l.length = n) {k : Nat} (hk : k < n) : w.cell? ⟨g, k, none⟩ = some (.int .u8 (l.getD k 0)) := by
  subst hl; exact h.cell hk
theorem VStk.formK {w : World} {base n c : Nat} {A : Option Addr} {l : List Int} (h : VStk w base (.slice A n c) l) (hl : l.length = n) {k : Nat} (hk : k < n) : ∃ g, A = some ⟨g, 0, none⟩ := by
  subst hl
  obtain ⟨A', cc, e, -, -, hq⟩ := h.form
  simp only [Value.slice.injEq, true_and] at e
  obtain ⟨rfl, rfl⟩ := e
  obtain ⟨g, rfl, -, -⟩ := hq (by omega)
  exact ⟨g, rfl⟩
theorem ofC_outs4 (x : Cx) : (ofC x).outs.length ≤ 4 := by
  simp only [ofC, List.length_append, outsTo, List.length_map, List.length_range, List.length_cons, List.length_nil, outsN]
  omega
end Go.Proofs.YtkaedfgmhfefjaaGreatDoor

namespace Go.Proofs.YtkaedfgmhfefjaaGreatDoor
open Go.RowKit
def sameTo (l l' : List Int) (k : Nat) : Prop := ∀ j, j < k → l.getD j 0 = l'.getD j 0
theorem sameTo_all {l l' : List Int} (hl : l.length = l'.length) (h : sameTo l l' l.length) : l = l' := by
  apply List.ext_getElem hl
  intro i h1 h2
  have := h i h1
  simpa [List.getD_eq_getElem?_getD, List.getElem?_eq_getElem h1, List.getElem?_eq_getElem h2] using this
theorem same6_any (l l' : List Int) (n m : Nat) (A A' : Option Addr) (c c' : Nat) (w : World) (B B' : Nat) (hs : Ks w B (.slice A n c) l) (hs' : Ks w B' (.slice A' m c') l') :
    Calls Tryz.prog 12 #[.slice A n c, .slice A' m c'] w fun e w' => e = .returned (.int .i64 (if l = l' then 0 else 1)) ∧ BelW w w' := by
  obtain ⟨A1, b, o, c1, e, hA, -, hm, hc⟩ := hs.opens
  simp only [Value.slice.injEq] at e
  obtain ⟨rfl, hml, rfl⟩ := e
  obtain ⟨A2, b', o', c2, e, hA', -, hm', hc'⟩ := hs'.opens
  simp only [Value.slice.injEq] at e
  obtain ⟨rfl, hml', rfl⟩ := e
  have hne : ¬ n = m → ¬ l = l' := fun h h' => h (by rw [hml, hml', h'])
  have hall : n = m → sameTo l l' n → l = l' := fun h h' => sameTo_all (by rw [← hml, ← hml', h]) (by rw [← hml]; exact h')
  rw [← hml] at hA hc hm
  rw [← hml'] at hA' hc' hm'
  unfold maxLen at hm hm'
  have HA := Lib.hid hA
  have HC := Lib.hid hc
  have HA' := Lib.hid hA'
  have HC' := Lib.hid hc'
  have HNE := Lib.hid hne
  have HALL := Lib.hid hall
  have HM := Lib.hid (And.intro hm hm')
  clear hA hc hA' hc' hs hs' hml hml' hne hall hm hm'
  obtain ⟨r, HRR⟩ := named (if l = l' then (0 : Int) else 1)
  rw [← HRR.out]
  go_enter Tryz.func12, Tryz.ntmps12
  by_cases hnm : n = m
  · subst hnm
    have hm := HM.out.1
    go_wp2
    go_loopw [5] (fun i wr => BelW w wr ∧ ∃ k : Nat, k ≤ n ∧ i = .int .i64 k ∧ sameTo l l' k) (fun i _ => n - (intOf i).toNat)
    case atStart => exact ⟨Below.refl _ _, 0, Nat.zero_le _, rfl, fun j h => absurd h (Nat.not_lt_zero j)⟩
    case round =>
      obtain ⟨hb, k, hk, rfl, hst⟩ := hrel
      have HBR := Lib.hid hb
      have HST := Lib.hid hst
      by_cases hlt : k < n
      · obtain rfl := HA.out (by omega)
        obtain rfl := HA'.out (by omega)
        obtain ⟨h1, h2⟩ := HC.out k hlt
        obtain ⟨h3, h4⟩ := HC'.out k hlt
        have x1 := (Below.cell hb (p := ⟨b, o + k, none⟩) (cell_lt h2)).trans h2
        have x2 := (Below.cell hb (p := ⟨b', o' + k, none⟩) (cell_lt h4)).trans h4
        obtain ⟨y, HY⟩ := named (l.getD k 0)
        obtain ⟨y', HY'⟩ := named (l'.getD k 0)
        rw [← HY.out] at x1
        rw [← HY'.out] at x2
        clear h2 h4 hb hst
        by_cases hyy : y = y'
        · have HNX : Hid (sameTo l l' (k + 1)) := Lib.hid fun j hj => by
            by_cases e : j = k
            · subst e; rw [← HY.out, ← HY'.out, hyy]
            · exact HST.out j (by omega)
          have t1 : (y != y') = false := by simp [hyy]
          go_wp2
          go_quiet (fail)
          go_wp2
          go_roundw
          case rel => exact ⟨below_drewN HBR.out _, k + 1, by omega, by go_num, HNX.out⟩
          case measure => simp [intOf]; omega
        · have HNO : Hid (r = 1) := Lib.hid (by rw [HRR.out]; exact if_neg fun e => hyy (by rw [HY.out, HY'.out, e]))
          have t1 : (y != y') = true := by simpa using hyy
          go_wp2
          go_quiet (fail)
          go_wp2
          go_ret
          exact ⟨by rw [HNO.out]; rfl, below_drewN HBR.out _⟩
      · obtain rfl : n = k := by omega
        have HYS : Hid (r = 0) := Lib.hid (by rw [HRR.out]; exact if_pos (HALL.out (by trivial) HST.out))
        clear hb hst
        go_wp2
        go_ret
        exact ⟨by rw [HYS.out]; rfl, HBR.out⟩
  · have HNO : Hid (r = 1) := Lib.hid (by rw [HRR.out]; exact if_neg (HNE.out hnm))
    have hm := HM.out.1
    have hm' := HM.out.2
    go_wp2
    go_ret
    exact ⟨by rw [HNO.out]; rfl, Below.refl _ _⟩
end Go.Proofs.YtkaedfgmhfefjaaGreatDoor

namespace Go.Proofs.YtkaedfgmhfefjaaGreatDoor
open Go.RowKit
structure Cst (c : Ck) (L : List Int) (n n1 n3 ni ns : Nat) : Prop where
  vld : Vld c L n
  h1 : c.names.length = n1
  h2 : c.mems.length = 0
  h3 : c.outs.length = n3
  hi : (ofTo c.nodes [0] n).length = ni
  hs : (ofTo c.nodes [14] n).length = ns
  outs : c.outs.length ≤ 17592186044416
section
variable {c : Ck} {L : List Int} {n n1 n3 ni ns : Nat}
theorem Cst.len (S : Cst c L n n1 n3 ni ns) : c.nodes.length = n := S.vld.len.symm
theorem Cst.few (S : Cst c L n n1 n3 ni ns) : n < 20 := S.vld.few
end
structure Cs (c : Ck) (n n1 n3 : Nat) (A0 A1 A2 A3 : Option Addr) (c0 c1 c2 c3 q : Nat) (W : World) : Prop where
  tabs : Lg.Tabs W
  cir : Cir W W.heap.size (.agg #[.slice A0 n c0, .slice A1 n1 c1, .slice A2 0 c2, .slice A3 n3 c3]) c
  box : Fr W q 39 [.slice A0 n c0, .slice A1 n1 c1, .slice A2 0 c2, .slice A3 n3 c3]
section
variable {c : Ck} {L : List Int} {n n1 n3 ni ns : Nat} {A0 A1 A2 A3 : Option Addr} {c0 c1 c2 c3 q : Nat} {W W' : World}
theorem Cs.run (H : Cs c n n1 n3 A0 A1 A2 A3 c0 c1 c2 c3 q W) (S : Cst c L n n1 n3 ni ns) {li ls : List Int} {Ai As : Option Addr} {ci cs : Nat} (h1 : Ks W W.heap.size (.slice Ai ni ci) li) (h2 : Ks W W.heap.size (.slice As ns cs) ls) (l1 : li.length = ni) (l2 : ls.length = ns) (v1 : ∀ y ∈ li, 0 ≤ y ∧ y ≤ 3) (v2 : ∀ y ∈ ls, 0 ≤ y ∧ y ≤ 3) :
    Calls Tryz.prog 27 #[.agg #[.slice A0 n c0, .slice A1 n1 c1, .slice A2 0 c2, .slice A3 n3 c3], .agg #[.slice Ai ni ci, .slice As ns cs]] W fun e w' => ∃ nets g h k, Net c.nodes (baseV n (ofTo c.nodes [0] n) (ofTo c.nodes [14] n) li ls) nets ∧ nets.length = n ∧ e = .returned (.tuple #[.agg #[.slice (some ⟨g, 0, none⟩) n3 n3, .slice (some ⟨h, 0, none⟩) ns ns], .slice (some ⟨k, 0, none⟩) n n, .int .i64 0]) ∧ VRow w' g (outV c nets) ∧ VRow w' h (nextV c nets) ∧ VRow w' k nets ∧ BelW W w' :=
  run_at c li ls A0 A1 A2 A3 Ai As n n1 0 n3 ni ns c0 c1 c2 c3 ci cs W W.heap.size (Nat.le_refl _) H.tabs S.len S.h1 S.h2 rfl S.h3 S.hi S.hs H.cir h1 h2 S.few S.outs S.vld.ok l1 l2 v1 v2
end
theorem takL_in4 {l : List Int} (h0 : ∀ x ∈ l, 0 ≤ x ∧ x ≤ 255) (n : Nat) : ∀ x ∈ takL l 4 n, 0 ≤ x ∧ x ≤ 3 := takL_in h0 (by decide) (by decide) n
end Go.Proofs.YtkaedfgmhfefjaaGreatDoor

namespace Go.Proofs.YtkaedfgmhfefjaaGreatDoor
open Go.RowKit
def Rg (n : Nat) (R : List Int) : Prop := R.length = n ∧ ∀ x ∈ R, 0 ≤ x ∧ x < (n : Int)
def SV (w : World) (B d g q n : Nat) (L : List Int) (wr : World) : Prop := ∃ R, Rg n R ∧ SW w B d g q n L R wr
section
variable {w wr : World} {B d g q n : Nat} {L : List Int}
end
end Go.Proofs.YtkaedfgmhfefjaaGreatDoor

namespace Go.Proofs.YtkaedfgmhfefjaaGreatDoor
open Go.RowKit
def UnkPost (n : Nat) (w : World) (e : Ending) (w' : World) : Prop := ∃ g, e = .returned (.slice (some ⟨g, 0, none⟩) n n) ∧ VRow w' g (List.replicate n 2) ∧ w.heap.size ≤ g ∧ Below w.heap.size w w'
def filled (l : List Int) (n k : Nat) : Prop := l.length = n ∧ ∀ j, j < k → l.getD j 0 = 2
theorem filled_all {l : List Int} {n : Nat} (h : filled l n n) : l = List.replicate n 2 := by
  apply List.ext_getElem (by rw [h.1, List.length_replicate])
  intro i h1 h2
  have := h.2 i (by rw [← h.1]; exact h1)
  rw [List.getD_eq_getElem?_getD, List.getElem?_eq_getElem h1] at this
  simpa using this
theorem filled_succ {l : List Int} {n k : Nat} (h : filled l n k) (hk : k < n) : filled (l.set k 2) n (k + 1) := by
  refine ⟨by rw [List.length_set]; exact h.1, fun j hj => ?_⟩
  rw [getD_set _ _ _ _ _ (by rw [h.1]; exact hk)]
  split
  · rfl
  · exact h.2 j (by omega)
end Go.Proofs.YtkaedfgmhfefjaaGreatDoor

namespace Go.Proofs.YtkaedfgmhfefjaaGreatDoor
open Go.RowKit
set_option maxHeartbeats 4000000 in
theorem munk_any (n : Nat) (hn : n ≤ 1000000) (w : World) : Calls Tryz.prog 102 #[.int .i64 (n : Int)] w (UnkPost n w) := by
  obtain ⟨i0, hi, hz0, hz1', hz2⟩ := info_parts info_val
  have HI := Lib.hid (And.intro hi (And.intro hz0 (And.intro hz1' hz2)))
  clear hi hz0 hz1' hz2
  go_enter Tryz.func102, Tryz.ntmps102
  go_wp2_with (at_make; refine wpList_make_full _ rfl _ _ 41 rfl w.heap.size 77 i0 (.int .u8 0) 1 Tryz.underlying41 HI.out.1 HI.out.2.1 HI.out.2.2.1 .i64 .i64 _ _ n rfl rfl rfl rfl ?b2 ?b3 ?b4 ?_)
  case b2 => rw [HI.out.2.2.2]; omega
  case b3 => unfold maxLen; omega
  case b4 => exact Nat.le_refl _
  intro w1 hown hgr
  rw [made_vals] at hown
  have hv : VRow w1 w.heap.size (List.replicate n 0) := VRow.of hown (by simp)
  have hb : Below w.heap.size w w1 := (Below.refl _ _).grown hgr (Nat.le_refl _) (fun k h => by cases h)
  have HV := Lib.hid hv
  have HB := Lib.hid hb
  obtain ⟨g, HG⟩ := named w.heap.size
  rw [← HG.out] at HV
  rw [← HG.out]
  clear hown hgr hv hb
  go_wp2
  go_loopw [9] (fun i wr => ∃ (k : Nat) (l : List Int), k ≤ n ∧ i = .int .i64 k ∧ filled l n k ∧ VRow wr g l ∧ Below w.heap.size w wr) (fun i _ => n - (intOf i).toNat)
  case atStart => exact ⟨0, _, Nat.zero_le _, rfl, ⟨by simp, fun j h => absurd h (Nat.not_lt_zero j)⟩, HV.out, HB.out⟩
  case round =>
    obtain ⟨k, l, hk, rfl, hf, hv, hb⟩ := hrel
    have HF := Lib.hid hf
    have HVR := Lib.hid hv
    have HBR := Lib.hid hb
    by_cases hlt : k < n
    · have hkl : k < l.length := by rw [hf.1]; exact hlt
      have x1 := hv.cell hkl
      have x2 := hv.frozen k
      obtain ⟨y, HY⟩ := named (lat l (k : Int))
      rw [← HY.out] at x1
      clear hf hv hb hkl
      go_wp2
      have HN := Lib.hid (filled_succ HF.out hlt)
      have HVN := Lib.hid (HVR.out.set k 2)
      have HBN := Lib.hid (HBR.out.setCell (p := ⟨g, k, none⟩) (by show w.heap.size ≤ g; have := HG.out; omega) (.int .u8 2))
      go_roundw
      case rel => exact ⟨k + 1, l.set k 2, by omega, by go_num, HN.out, HVN.out, HBN.out⟩
      case measure => simp [intOf]; omega
    · obtain rfl : n = k := by omega
      obtain rfl := filled_all HF.out
      clear hf hv hb
      go_wp2
      go_ret
      exact ⟨g, rfl, HVR.out, by have := HG.out; omega, HBR.out⟩
def cpyL (l : List Int) (n : Nat) : List Int := l.take n ++ List.replicate (n - l.length) 2
theorem cpyL_len (l : List Int) (n : Nat) : (cpyL l n).length = n := by unfold cpyL; simp; omega
def bitsL (l : List Int) (n : Nat) : List Int := (cpyL l n).map rd
theorem bitsL_len (l : List Int) (n : Nat) : (bitsL l n).length = n := by unfold bitsL; rw [List.length_map, cpyL_len]
theorem vrow_of {w : World} {g : Nat} {l : List Value} {k : List Int} (h : w.heap[g]? = some (.cells l.toArray 77 (0, 0))) (e : l = k.map (Value.int .u8)) (hm : k.length ≤ maxLen) : VRow w g k := by
  subst e
  exact ⟨by simp, .inr ⟨g, k.length, _, rfl, Nat.le_refl _, h, Nat.le_refl _, hm, by simp, by
    rw [Nat.mul_one]
    exact List.take_of_length_le (by rw [List.length_map]; exact Nat.le_refl _)⟩⟩
theorem vrow_heap {w : World} {g : Nat} {l : List Int} (h : VRow w g l) : w.heap[g]? = some (.cells (l.map (Value.int .u8)).toArray 77 (0, 0)) := by
  rcases h.2 with ⟨e, -⟩ | ⟨g', cap, cur, e, -, hg, -, -, hs, ht⟩
  · cases e
  · simp only [Value.slice.injEq, Option.some.injEq, Addr.mk.injEq, and_true, true_and] at e
    obtain ⟨rfl, rfl⟩ := e
    rw [hg]
    have : cur.toList = l.map (Value.int .u8) := by
      rw [← ht, List.take_of_length_le]
      rw [Array.length_toList, hs]; exact Nat.le_refl _
    rw [← this, Array.toArray_toList]
theorem splice_cpy (l : List Int) (n : Nat) : splice ((List.replicate n (2 : Int)).map (Value.int .u8)) 0 ((l.take n).map (Value.int .u8)) = (cpyL l n).map (Value.int .u8) := by
  unfold splice cpyL
  rw [List.take_zero, List.nil_append, List.map_append, ← List.map_drop, List.drop_replicate, List.length_map, List.length_take]
  congr 3
  omega
def rdK (c : List Int) (k : Nat) (out : List Int) : Prop := out.length = c.length ∧ (∀ j, j < k → out.getD j 0 = rd (c.getD j 0)) ∧ ∀ j, k ≤ j → out.getD j 0 = c.getD j 0
theorem rdK_all {c out : List Int} (h : rdK c c.length out) : out = c.map rd := by
  apply List.ext_getElem (by rw [h.1, List.length_map])
  intro i h1 h2
  have h3 : i < c.length := by rw [← h.1]; exact h1
  have := h.2.1 i h3
  rw [List.getD_eq_getElem?_getD, List.getElem?_eq_getElem h1, List.getD_eq_getElem?_getD, List.getElem?_eq_getElem h3] at this
  simpa using this
theorem rdK_succ {c out : List Int} {k : Nat} (h : rdK c k out) (hk : k < c.length) : rdK c (k + 1) (out.set k (rd (c.getD k 0))) := by
  have hl : k < out.length := by rw [h.1]; exact hk
  refine ⟨by rw [List.length_set]; exact h.1, fun j hj => ?_, fun j hj => ?_⟩
  · rw [getD_set _ _ _ _ _ hl]
    split
    · subst_vars; rfl
    · exact h.2.1 j (by omega)
  · rw [getD_set _ _ _ _ _ hl, if_neg (by omega)]
    exact h.2.2 j (by omega)
set_option maxRecDepth 100000 in
set_option maxHeartbeats 4000000 in
theorem bits_any (l : List Int) (A : Option Addr) (m c n : Nat) (hn : n ≤ 1000000) (w : World) (B : Nat) (hB : B ≤ w.heap.size) (hs : Ks w B (.slice A m c) l) :
    Calls Tryz.prog 86 #[.slice A m c, .int .i64 (n : Int)] w fun e w' => ∃ g, e = .returned (.slice (some ⟨g, 0, none⟩) n n) ∧ VRow w' g (bitsL l n) ∧ w.heap.size ≤ g ∧ BelW w w' := by
  obtain ⟨A', b, o, c', e, hA, -, hm, hc⟩ := hs.opens
  simp only [Value.slice.injEq] at e
  obtain ⟨rfl, hml, rfl⟩ := e
  rw [← hml] at hA
  have HUN := Lib.hid (munk_any n hn w)
  have hsz : (Tryz.prog.info? 77).map (·.size) = some 1 := by kernel_rfl
  have HSZ := Lib.hid hsz
  obtain ⟨cs, HCS⟩ := named ((l.take n).map (Value.int .u8))
  have HCL : Hid (cs.length = Nat.min m n) := Lib.hid (by rw [HCS.out, List.length_map, List.length_take, hml]; exact Nat.min_comm _ _)
  have HC1 : Hid (∀ v ∈ cs, v.oneCell' = true) := Lib.hid fun v hv => by
    rw [HCS.out] at hv
    obtain ⟨y, -, rfl⟩ := List.mem_map.1 hv
    rfl
  have HCP : Hid (∀ W, BelW w W → 0 < cs.length → ∃ ad, A = some ad ∧ ∀ j v, cs[j]? = some v → W.cell? (ad.add j) = some v) := Lib.hid fun W h h0 => by
    have hm0 : 0 < m := by have := HCL.out; have : Nat.min m n ≤ m := Nat.min_le_left _ _; omega
    refine ⟨_, hA hm0, fun j v hv => ?_⟩
    rw [HCS.out, List.getElem?_map, List.getElem?_take] at hv
    split at hv
    · have hj : j < l.length := by
        rcases Nat.lt_or_ge j l.length with h | h
        · exact h
        · rw [List.getElem?_eq_none h] at hv; cases hv
      rw [List.getElem?_eq_getElem hj] at hv
      have := (hc j hj)
      rw [WideShapes.add_plain]
      rw [Below.cell h (p := ⟨b, o + j, none⟩) (Nat.lt_of_lt_of_le this.1 hB), this.2, List.getD_eq_getElem?_getD, List.getElem?_eq_getElem hj]
      simpa using hv
    · cases hv
  obtain ⟨r, HR⟩ := named (cpyL l n)
  have HRL : Hid (r.length = n) := Lib.hid (by rw [HR.out, cpyL_len])
  have HSP : Hid (splice ((List.replicate n (2 : Int)).map (Value.int .u8)) 0 cs = r.map (Value.int .u8)) := Lib.hid (by rw [HCS.out, HR.out]; exact splice_cpy l n)
  have HRD : Hid (∀ W y, Calls Tryz.prog 112 #[.int .u8 y] W fun e w' => e = .returned (.int .u8 (rd y)) ∧ w' = W) := Lib.hid fun W y => (Lg.read_any y W).mono fun e w' h => ⟨h.1, by first | exact h.2 | exact h.2.symm⟩
  have HML := Lib.hid hml
  clear hA hc hsz hml hm hs
  go_enter Tryz.func86, Tryz.ntmps86
  go_upto_region 2 with (go_at_call 102; (with_reducible refine HUN.out.mono ?_); rintro e w1 ⟨g, rfl, hv, hg, hb⟩; have HV := Lib.hid hv; have HG := Lib.hid hg; have HB1 : Hid (BelW w w1) := Lib.hid hb; clear hv hg hb)
  have hrow : w1.heap[g]? = some (.cells ((List.replicate n (2 : Int)).map (Value.int .u8)).toArray 77 (0, 0)) := vrow_heap HV.out
  have HROW := Lib.hid hrow
  have HFT : Hid (0 + cs.length ≤ ((List.replicate n (2 : Int)).map (Value.int .u8)).length) := Lib.hid (by rw [HCL.out, List.length_map, List.length_replicate, Nat.zero_add]; exact Nat.min_le_right _ _)
  clear hrow
  go_wp2_with (refine wpList_copy_splice rfl (.tmp 10) (.tmp 11) 41 41 rfl 77 Tryz.underlying41 HSZ.out (some ⟨g, 0, none⟩) A n n m c rfl rfl g 0 _ 77 HROW.out cs HCL.out (fun h => ⟨rfl, HCP.out w1 HB1.out h⟩) HFT.out HC1.out w.heap.size w HB1.out HG.out ?_)
  intro w2 hrow2 hb2
  have HV2 : Hid (VRow w2 g r) := Lib.hid (vrow_of hrow2.out (by have := HSP.out; rwa [List.map_replicate] at this) (by rw [HRL.out]; unfold maxLen; omega))
  have HB2 : Hid (BelW w w2) := Lib.hid hb2
  clear hrow2 hb2
  go_wp2
  go_loopw [15] (fun i wr => ∃ (k : Nat) (out : List Int), k ≤ n ∧ i = .int .i64 k ∧ rdK r k out ∧ VRow wr g out ∧ BelW w wr) (fun i _ => n - (intOf i).toNat)
  case atStart => exact ⟨0, r, Nat.zero_le _, rfl, ⟨rfl, fun j h => absurd h (Nat.not_lt_zero j), fun j _ => rfl⟩, HV2.out, HB2.out⟩
  case round =>
    obtain ⟨k, out, hk, rfl, hf, hv, hb⟩ := hrel
    have HF := Lib.hid hf
    have HVR := Lib.hid hv
    have HBR := Lib.hid hb
    by_cases hlt : k < n
    · have hkl : k < out.length := by rw [hf.1, HRL.out]; exact hlt
      have x1 := hv.cell hkl
      have x2 := hv.frozen k
      have hx : lat out (k : Int) = r.getD k 0 := hf.2.2 k (Nat.le_refl _)
      rw [hx] at x1
      obtain ⟨y, HY⟩ := named (r.getD k 0)
      rw [← HY.out] at x1
      have HRY := Lib.hid (fun W => HRD.out W y)
      obtain ⟨z, HZ⟩ := named (rd y)
      rw [← HZ.out] at HRY
      have hk2 : (k : Int) < (n : Int) := by omega
      have HN := Lib.hid (rdK_succ HF.out (by rw [HRL.out]; exact hlt))
      rw [← HY.out, ← HZ.out] at HN
      have HVN := Lib.hid (HVR.out.set k z)
      have HBN := Lib.hid (HBR.out.setCell (p := ⟨g, k, none⟩) HG.out (.int .u8 z))
      clear hf hv hb hkl hx
      go_wp2_with (go_at_call 112; (with_reducible refine (HRY.out _).mono ?_); rintro e w' ⟨rfl, rfl⟩)
      go_roundw
      case rel => exact ⟨k + 1, out.set k z, by omega, by go_num, HN.out, HVN.out, HBN.out⟩
      case measure => simp [intOf]; omega
    · obtain rfl : n = k := by omega
      have e9 : out = r.map rd := rdK_all (by rw [HRL.out]; exact HF.out)
      clear hf hv hb
      go_wp2
      go_ret
      exact ⟨g, rfl, by unfold bitsL; rw [← HR.out, ← e9]; exact HVR.out, HG.out, HBR.out⟩
end Go.Proofs.YtkaedfgmhfefjaaGreatDoor

namespace Go.Proofs.YtkaedfgmhfefjaaGreatDoor
open Go.RowKit
def agB (a b : List Int) (j : Nat) : Int := if a.getD j 0 = b.getD j 0 then a.getD j 0 else 2
def agL (a b : List Int) : List Int := (List.range a.length).map (agB a b)
theorem agL_len (a b : List Int) : (agL a b).length = a.length := by simp [agL]
def agK (a b : List Int) (k : Nat) (out : List Int) : Prop := out.length = a.length ∧ (∀ j, j < k → out.getD j 0 = agB a b j) ∧ ∀ j, k ≤ j → out.getD j 0 = a.getD j 0
theorem agK_all {a b out : List Int} (h : agK a b a.length out) : out = agL a b := by
  apply List.ext_getElem (by rw [h.1, agL_len])
  intro i h1 h2
  have := h.2.1 i (by rw [← h.1]; exact h1)
  rw [List.getD_eq_getElem?_getD, List.getElem?_eq_getElem h1] at this
  simpa [agL] using this
theorem agK_same {a b out : List Int} {k : Nat} (h : agK a b k out) (e : a.getD k 0 = b.getD k 0) : agK a b (k + 1) out := by
  refine ⟨h.1, fun j hj => ?_, fun j hj => h.2.2 j (by omega)⟩
  by_cases hjk : j < k
  · exact h.2.1 j hjk
  · obtain rfl : j = k := by omega
    rw [h.2.2 j (Nat.le_refl _)]; unfold agB; rw [if_pos e]
theorem agK_set {a b out : List Int} {k : Nat} (h : agK a b k out) (hk : k < a.length) (e : ¬ a.getD k 0 = b.getD k 0) : agK a b (k + 1) (out.set k 2) := by
  have hl : k < out.length := by rw [h.1]; exact hk
  refine ⟨by rw [List.length_set]; exact h.1, fun j hj => ?_, fun j hj => ?_⟩
  · rw [getD_set _ _ _ _ _ hl]
    split
    · subst_vars; unfold agB; rw [if_neg e]
    · exact h.2.1 j (by omega)
  · rw [getD_set _ _ _ _ _ hl, if_neg (by omega)]
    exact h.2.2 j (by omega)
set_option maxRecDepth 100000 in
set_option maxHeartbeats 4000000 in
theorem agreed_any (a b : List Int) (g h n : Nat) (w : World) (ha : VRow w g a) (hb : VRow w h b) (la : a.length = n) (lb : b.length = n) (hne : h ≠ g) :
    Calls Tryz.prog 103 #[.slice (some ⟨g, 0, none⟩) n n, .slice (some ⟨h, 0, none⟩) n n] w fun e w' => e = .returned (.tuple #[]) ∧ VRow w' g (agL a b) ∧ w.grownBy w' (some g) := by
  have HA := Lib.hid ha
  have HB := Lib.hid hb
  have HLA := Lib.hid la
  have HLB := Lib.hid lb
  have HNE : Hid (some h ≠ some g) := Lib.hid fun e => hne (Option.some.inj e)
  have hnm := ha.len
  rw [la] at hnm
  unfold maxLen at hnm
  clear ha hb la lb hne
  go_enter Tryz.func103, Tryz.ntmps103
  go_wp2
  go_loopw [8] (fun i wr => ∃ (k : Nat) (out : List Int), k ≤ n ∧ i = .int .i64 k ∧ agK a b k out ∧ VRow wr g out ∧ w.grownBy wr (some g)) (fun i _ => n - (intOf i).toNat)
  case atStart => exact ⟨0, a, Nat.zero_le _, rfl, ⟨rfl, fun j h => absurd h (Nat.not_lt_zero j), fun j _ => rfl⟩, HA.out, World.grownBy.refl _ _⟩
  case round =>
    obtain ⟨k, out, hk, rfl, hf, hv, hg⟩ := hrel
    have HF := Lib.hid hf
    have HVR := Lib.hid hv
    have HGR := Lib.hid hg
    by_cases hlt : k < n
    · have hk2 : (k : Int) < (n : Int) := by omega
      have x1 := hv.cell (by rw [hf.1, HLA.out]; exact hlt)
      have x2 := hv.frozen k
      have y1 := (HB.out.kept hg HNE.out).cell (by rw [HLB.out]; exact hlt)
      have hx : lat out (k : Int) = a.getD k 0 := hf.2.2 k (Nat.le_refl _)
      have hy : lat b (k : Int) = b.getD k 0 := rfl
      rw [hx] at x1
      rw [hy] at y1
      have HSM := Lib.hid (fun e => agK_same HF.out (k := k) e)
      have HST := Lib.hid (fun e => agK_set HF.out (k := k) (by rw [HLA.out]; exact hlt) e)
      obtain ⟨u, HU⟩ := named (a.getD k 0)
      obtain ⟨v, HV⟩ := named (b.getD k 0)
      rw [← HU.out] at x1
      rw [← HV.out] at y1
      rw [← HU.out, ← HV.out] at HSM HST
      clear hf hv hg hx hy
      by_cases huv : u = v
      · have HN := Lib.hid (HSM.out huv)
        subst huv
        go_wp2
        go_roundw
        case rel => exact ⟨k + 1, out, by omega, by go_num, HN.out, HVR.out, HGR.out⟩
        case measure => simp [intOf]; omega
      · have HN := Lib.hid (HST.out huv)
        have HVN := Lib.hid (HVR.out.set k 2)
        have HGN : Hid (w.grownBy (wr.setCell ⟨g, k, none⟩ (.int .u8 2)) (some g)) := Lib.hid (grown_v HGR.out k _)
        go_wp2
        go_roundw
        case rel => exact ⟨k + 1, out.set k 2, by omega, by go_num, HN.out, HVN.out, HGN.out⟩
        case measure => simp [intOf]; omega
    · obtain rfl : n = k := by omega
      have e9 : out = agL a b := agK_all (by rw [HLA.out]; exact HF.out)
      clear hf hv hg
      go_wp2
      go_end0
      exact ⟨rfl, by rw [← e9]; exact HVR.out, HGR.out⟩
end Go.Proofs.YtkaedfgmhfefjaaGreatDoor
