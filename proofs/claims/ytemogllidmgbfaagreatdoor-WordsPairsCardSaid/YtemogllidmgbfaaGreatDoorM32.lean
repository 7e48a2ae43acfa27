/- The texts Smt Smu Smk Ofp Lsc Ror. -/
import Derived.Test.YtemogllidmgbfaaGreatDoorM17
import Derived.Deep.AppendLies
import Derived.Deep.RegionHeld3
import Derived.Test.YtemogllidmgbfaaGreatDoorM08
import Derived.Test.YtemogllidmgbfaaGreatDoorM28
import Derived.Test.YtemogllidmgbfaaGreatDoorM01
import Derived.Test.YtemogllidmgbfaaGreatDoorM29
namespace Go.Proofs.YtemogllidmgbfaaGreatDoor
open Go.RowKit

/-- A row of values of the call's own, with any capacity. -/
def VStk (w : World) (base : Nat) (v : Value) (l : List Int) : Prop := w.ownsRow base 30 1 v l.length (l.map (Value.int .u8))
section
variable {w w' : World} {base : Nat} {v : Value} {l : List Int}
theorem VStk.nil (w : World) (base : Nat) : VStk w base (.slice none 0 0) [] := World.ownsRow_nil w base _ _
theorem VStk.kept {row : Option Nat} (h : VStk w base v l) (hg : w.grownBy w' row) (hne : ∀ q, row = some q → q < base) : VStk w' base v l := by
  refine World.ownsRow.kept h hg ?_
  rcases ho : v.ownBlock with _ | q
  · exact .inl rfl
  · refine .inr fun e => ?_
    have h1 := (World.ownsRow.lt h q ho).1
    have h2 := hne q e.symm
    omega
theorem VStk.below (h : VStk w base v l) (hb : Below w.heap.size w w') : VStk w' base v l :=
  h.kept (row := none) ⟨hb.os, hb.tape, hb.output, hb.size, fun i hi _ => hb.block i hi⟩ (by simp)
theorem VStk.form (h : VStk w base v l) : ∃ A c, v = .slice A l.length c ∧ l.length ≤ c ∧ c ≤ maxLen ∧ (0 < l.length → ∃ q, A = some ⟨q, 0, none⟩ ∧ base ≤ q ∧ q < w.heap.size) := by
  have hlt := World.ownsRow.lt h
  rcases h.2 with ⟨rfl, hn⟩ | ⟨g, cap, cur, rfl, hb, hg, hle, hm, -⟩
  · exact ⟨none, 0, by rw [hn], by omega, by simp, fun h => by omega⟩
  · exact ⟨_, cap, rfl, hle, hm, fun _ => ⟨g, rfl, hb, (hlt g rfl).2⟩⟩
theorem VStk.cell {q c : Nat} (h : VStk w base (.slice (some ⟨q, 0, none⟩) l.length c) l) {j : Nat} (hj : j < l.length) : w.cell? ⟨q, j, none⟩ = some (.int .u8 (l.getD j 0)) := by
  rw [World.ownsRow.cellAt h j (by omega), List.getElem?_map, List.getElem?_eq_getElem hj]
  simp [List.getD_eq_getElem?_getD, List.getElem?_eq_getElem hj]
theorem VStk.ks (h : VStk w base v l) : Ks w w.heap.size v l := by
  obtain ⟨A, c, rfl, hle, hm, hq⟩ := h.form
  by_cases h0 : 0 < l.length
  · obtain ⟨q, rfl, -, hlt⟩ := hq h0
    refine ⟨_, q, 0, c, rfl, fun _ => rfl, hle, Nat.le_trans hle hm, fun j hj => ⟨hlt, ?_⟩⟩
    show World.cell? _ _ = _
    rw [Nat.zero_add, Nat.mul_one]
    exact h.cell hj
  · exact ⟨A, 0, 0, c, rfl, fun h => absurd h h0, hle, Nat.le_trans hle hm, fun j hj => absurd hj (by omega)⟩
end

end Go.Proofs.YtemogllidmgbfaaGreatDoor

namespace Go.Proofs.YtemogllidmgbfaaGreatDoor
open Go.RowKit

theorem VStk.low {w : World} {base base' : Nat} {v : Value} {l : List Int} (h : VStk w base v l) (hb : base' ≤ base) : VStk w base' v l := by
  refine ⟨h.1, ?_⟩
  rcases h.2 with h2 | ⟨g, cap, cur, e, hb', h3⟩
  · exact .inl h2
  · exact .inr ⟨g, cap, cur, e, Nat.le_trans hb hb', h3⟩

end Go.Proofs.YtemogllidmgbfaaGreatDoor

namespace Go.Proofs.YtemogllidmgbfaaGreatDoor
open Go.RowKit

/-- The pattern that is changed in place, in its variable q4: rows of its own behind V3. -/
structure MV (V3 : World) (q4 ni ns cI cS : Nat) (AI AS : Option Addr) (lI lS : List Int) (wr : World) : Prop where
  bel : BelW V3 wr
  box : Fr wr q4 50 [.slice AI ni cI, .slice AS ns cS]
  rI : VStk wr V3.heap.size (.slice AI ni cI) lI
  rS : VStk wr V3.heap.size (.slice AS ns cS) lS
  apart : ∀ a b, (Value.slice AI ni cI).ownBlock = some a → (Value.slice AS ns cS).ownBlock = some b → a ≠ b
  offI : ∀ a, (Value.slice AI ni cI).ownBlock = some a → a ≠ q4
  offS : ∀ a, (Value.slice AS ns cS).ownBlock = some a → a ≠ q4
  lenI : lI.length = ni
  lenS : lS.length = ns
section
variable {V3 wr w' : World} {q4 ni ns cI cS : Nat} {AI AS : Option Addr} {lI lS : List Int}
theorem MV.next (h : MV V3 q4 ni ns cI cS AI AS lI lS wr) (hb : Below wr.heap.size wr w') : MV V3 q4 ni ns cI cS AI AS lI lS w' :=
  ⟨joinB h.bel hb, h.box.below hb, h.rI.below hb, h.rS.below hb, h.apart, h.offI, h.offS, h.lenI, h.lenS⟩
theorem VStk.other {w : World} {base : Nat} {v : Value} {l : List Int} (h : VStk w base v l) {a : Addr} (ha : v.ownBlock ≠ some a.block) (x : Value) : VStk (w.setCell a x) base v l :=
  World.ownsRow.kept h (row := some a.block) ⟨rfl, rfl, rfl, by simp [World.setCell], fun i _ hne => Below.heap_setCell _ _ _ _ (fun e => hne (by rw [e]))⟩ (.inr ha)
theorem VStk.set {w : World} {base g n c : Nat} {l : List Int} (h : VStk w base (.slice (some ⟨g, 0, none⟩) n c) l) (hl : l.length = n) (j : Nat) (x : Int) : VStk (w.setCell ⟨g, j, none⟩ (.int .u8 x)) base (.slice (some ⟨g, 0, none⟩) n c) (l.set j x) := by
  subst hl
  have := (World.ownsRow.stored h j (.int .u8 x)).1
  unfold VStk
  rw [List.length_set, List.map_set]
  exact this
end
end Go.Proofs.YtemogllidmgbfaaGreatDoor

namespace Go.Proofs.YtemogllidmgbfaaGreatDoor
open Go.RowKit

structure Gx where
  kind : Int
  i0 : Int
  i1 : Int
  i2 : Int
instance gxInh : Inhabited Gx := ⟨⟨0, 0, 0, 0⟩⟩
structure Cx where
  inN : Int
  dffs : Int
  d0 : Int
  d1 : Int
  bus : Bool
  mem : Bool
  p0 : Int
  p1 : Int
  p2 : Int
  p3 : Int
  gates : List Gx
  outs : List Int
def U8 (x : Int) : Prop := 0 ≤ x ∧ x ≤ 255
def Gok (g : Gx) : Prop := U8 g.kind ∧ U8 g.i0 ∧ U8 g.i1 ∧ U8 g.i2
structure Cok (x : Cx) : Prop where
  inN : U8 x.inN
  dffs : U8 x.dffs
  d0 : U8 x.d0
  d1 : U8 x.d1
  p0 : U8 x.p0
  p1 : U8 x.p1
  p2 : U8 x.p2
  p3 : U8 x.p3
  gates : ∀ k, k < x.gates.length → Gok (x.gates.getD k default)
  outs : ∀ k, k < x.outs.length → U8 (x.outs.getD k 0)

section
variable {bus : Bool} {k i0 i1 i2 : Int} {nodes : List Nd} {n : Nat} {a b d : Int}
end

end Go.Proofs.YtemogllidmgbfaaGreatDoor

namespace Go.Proofs.YtemogllidmgbfaaGreatDoor
open Go.RowKit

/-- The argument in its variable at q. -/
structure LC (c : Ck) (w : World) (q : Nat) (A0 A1 A2 A3 : Option Addr) (n0 n1 n2 n3 c0 c1 c2 c3 : Nat) (wr : World) : Prop where
  bel : Below w.heap.size w wr
  low : w.heap.size ≤ q
  tabs : Tabs wr
  cir : Cir wr q (.agg #[.slice A0 n0 c0, .slice A1 n1 c1, .slice A2 n2 c2, .slice A3 n3 c3]) c
  box : Fr wr q 46 [.slice A0 n0 c0, .slice A1 n1 c1, .slice A2 n2 c2, .slice A3 n3 c3]
section
variable {c : Ck} {w w1 W : World} {q : Nat} {A0 A1 A2 A3 : Option Addr} {n0 n1 n2 n3 c0 c1 c2 c3 : Nat}
theorem LC.next (h : LC c w q A0 A1 A2 A3 n0 n1 n2 n3 c0 c1 c2 c3 w1) (hb : Below w1.heap.size w1 W) : LC c w q A0 A1 A2 A3 n0 n1 n2 n3 c0 c1 c2 c3 W :=
  ⟨joinB h.bel hb, h.low, h.tabs.below hb, h.cir.below (hb.mono (Nat.le_of_lt h.box.lt)), h.box.below hb⟩
theorem LC.cells (h : LC c w q A0 A1 A2 A3 n0 n1 n2 n3 c0 c1 c2 c3 w1) : w1.cell? ⟨q, 0, none⟩ = some (.slice A0 n0 c0) ∧ w1.cell? ⟨q, 1, none⟩ = some (.slice A1 n1 c1) ∧ w1.cell? ⟨q, 2, none⟩ = some (.slice A2 n2 c2) ∧ w1.cell? ⟨q, 3, none⟩ = some (.slice A3 n3 c3) :=
  ⟨h.box.cell 0, h.box.cell 1, h.box.cell 2, h.box.cell 3⟩
theorem LC.all (h : LC c w q A0 A1 A2 A3 n0 n1 n2 n3 c0 c1 c2 c3 w1) : Cir w1 w1.heap.size (.agg #[.slice A0 n0 c0, .slice A1 n1 c1, .slice A2 n2 c2, .slice A3 n3 c3]) c := h.cir.more (Nat.le_of_lt h.box.lt)
theorem LC.start (hT : Tabs w) (hc : Cir w w.heap.size (.agg #[.slice A0 n0 c0, .slice A1 n1 c1, .slice A2 n2 c2, .slice A3 n3 c3]) c) :
    LC c w w.heap.size A0 A1 A2 A3 n0 n1 n2 n3 c0 c1 c2 c3 (w.alloc (.cells #[.slice A0 n0 c0, .slice A1 n1 c1, .slice A2 n2 c2, .slice A3 n3 c3] 46)) :=
  ⟨below_new (Below.refl _ _) _, Nat.le_refl _, hT.below (below_new (Below.refl _ _) _), hc.below (below_new (Below.refl _ _) _), heap_alloc_new _ _⟩
end

end Go.Proofs.YtemogllidmgbfaaGreatDoor

namespace Go.Proofs.YtemogllidmgbfaaGreatDoor
open Go.RowKit

/-- What stands while the reference's Order runs. -/
structure OO (w : World) (vs : List Value) (g T : Nat) (L : List Int) (wr : World) (sv : Value) (l : List Int) : Prop where
  bel : Below w.heap.size w wr
  box : Fr wr w.heap.size 46 vs
  row : Row wr g L
  stk : Stk wr T sv l
  hg : g < T
  hw : w.heap.size < T
  hT : T ≤ wr.heap.size
theorem OO.push {w wr w1 : World} {vs : List Value} {g T : Nat} {L l : List Int} {sv v' : Value} {x : Int} {o : Obj} (h : OO w vs g T L wr sv l) (hown : w1.ownsRow T 3 1 v' (l.length + 1) (l.map (Value.int .i64) ++ [.int .i64 x])) (hgr : (wr.alloc o).grownBy w1 sv.ownBlock) : OO w vs g T L w1 v' (l ++ [x]) := by
  have hlt := World.ownsRow.lt h.stk
  have h1 := h.hg
  have h2 := h.hw
  have hq : ∀ q, sv.ownBlock = some q → T ≤ q := fun q e => (hlt q e).1
  have h3 := h.hT
  refine ⟨(below_new h.bel o).grown hgr (by simp; have := h.bel.size; omega) (fun q e => by have := hq q e; omega), ?_, (h.row.kept (World.grownBy_alloc wr o none) (by simp)).kept hgr (fun e => by have := hq g e.symm; omega), ?_, h1, h2, by have := hgr.size; simp at this; omega⟩
  · exact (h.box.alloc o).kept hgr (fun e => by have := hq _ e.symm; omega)
  · unfold Stk
    rw [List.length_append, List.map_append]
    exact hown

/-- Element k of the order. -/
structure OrdAt (L : List Int) (n : Nat) (R : List Int) (k y : Nat) : Prop where
  at_ : R.getD k 0 = (y : Int)
  lt : y < n
  fresh : (y : Int) ∉ R.take k
  next : R.take (k + 1) = R.take k ++ [(y : Int)]
  prev : ∀ k', k = k' + 1 → Lex L (R.getD k' 0) y
  deps : ∀ x : Nat, x < n → lat L x < lat L y → (x : Int) ∈ R.take (k + 1)
end Go.Proofs.YtemogllidmgbfaaGreatDoor
