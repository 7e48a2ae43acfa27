/- The texts Ofs Ofv Hef Lcv Unp Wnt. -/
import Derived.Test.YtemogllidmgbfaaGreatDoorM29
import Derived.Test.YtemogllidmgbfaaGreatDoorM30
import Derived.Laws.BytesArg
import Derived.Test.YtemogllidmgbfaaGreatDoorM09
import Derived.Test.YtemogllidmgbfaaGreatDoorM26
import Derived.Test.YtemogllidmgbfaaGreatDoorM10
import Derived.Deep.DeepCutAuto
import Derived.Deep.CutBlock
import Derived.Deep.RegionHeld3
import Derived.Test.YtemogllidmgbfaaGreatDoorM19
import Derived.Test.YtemogllidmgbfaaGreatDoorM16
namespace Go.Proofs.YtemogllidmgbfaaGreatDoor
open Go.RowKit

def GAt (w : World) (_B b p : Nat) (g : Gx) : Prop := w.cell? ⟨b, p, none⟩ = some (.int .u8 g.kind) ∧ w.cell? ⟨b, p + 1, none⟩ = some (.int .u8 g.i0) ∧ w.cell? ⟨b, p + 2, none⟩ = some (.int .u8 g.i1) ∧ w.cell? ⟨b, p + 3, none⟩ = some (.int .u8 g.i2)
theorem stays_g : Stays GAt := fun w w' B B' b p x hb hB ⟨h0, h1, h2, h3⟩ hk => ⟨(hk ⟨b, p, none⟩ hb).trans h0, (hk ⟨b, p + 1, none⟩ hb).trans h1, (hk ⟨b, p + 2, none⟩ hb).trans h2, (hk ⟨b, p + 3, none⟩ hb).trans h3⟩
def Gs (w : World) (B : Nat) (v : Value) (l : List Gx) : Prop := Arr default 4 GAt w B v l
theorem Gs.below {w w' : World} {B : Nat} {v : Value} {l : List Gx} (h : Gs w B v l) (hb : Below B w w') : Gs w' B v l := Arr.keep stays_g h (Nat.le_refl _) fun _ hp => hb.cell hp

def xCs (x : Cx) (sG sO : Value) : List Value := [.int .u8 x.inN, .int .u8 x.dffs, .int .u8 x.d0, .int .u8 x.d1, .bool x.bus, .bool x.mem, .int .u8 x.p0, .int .u8 x.p1, .int .u8 x.p2, .int .u8 x.p3, sG, sO]
def nil4 : List Value := [.slice none 0 0, .slice none 0 0, .slice none 0 0, .slice none 0 0]
structure OW (xs : List Value) (w : World) (q1 q2 q3 T : Nat) (sN sS sM sO : Value) (wr : World) : Prop where
  bel : Below w.heap.size w wr
  low : T ≤ wr.heap.size
  e1 : w.heap.size ≤ q1
  e2 : q1 < q2
  e3 : q2 < q3
  eT : q3 < T
  fx : Fr wr q1 39 xs
  fr : Fr wr q2 46 nil4
  fc : Fr wr q3 46 [sN, sS, sM, sO]
section
variable {xs : List Value} {w wr w1 w2 : World} {q1 q2 q3 T : Nat} {sN sS sM sO u : Value}
theorem OW.next (h : OW xs w q1 q2 q3 T sN sS sM sO wr) (hb : Below wr.heap.size wr w1) : OW xs w q1 q2 q3 T sN sS sM sO w1 :=
  ⟨joinB h.bel hb, Nat.le_trans h.low hb.size, h.e1, h.e2, h.e3, h.eT, h.fx.below hb, h.fr.below hb, h.fc.below hb⟩
theorem Fr.grown {g : Nat} {t : TypeId} {cs : List Value} {R : Option Nat} (h : Fr wr g t cs) (hg : wr.grownBy w1 R) (hR : R ≠ some g) : Fr w1 g t cs :=
  (hg.block g h.lt (fun e => hR e.symm)).trans h
theorem OW.grown {R : Option Nat} (h : OW xs w q1 q2 q3 T sN sS sM sO wr) (hg : wr.grownBy w1 R) (hR : ∀ q, R = some q → T ≤ q) : OW xs w q1 q2 q3 T sN sS sM sO w1 := by
  have a1 := h.e1; have a2 := h.e2; have a3 := h.e3; have a4 := h.eT
  refine ⟨Below.grown h.bel hg (Below.size h.bel) (fun q hq => ?_), Nat.le_trans h.low hg.size, a1, a2, a3, a4, h.fx.grown hg ?_, h.fr.grown hg ?_, h.fc.grown hg ?_⟩
  · have := hR q hq; omega
  · intro e; have := hR _ e; omega
  · intro e; have := hR _ e; omega
  · intro e; have := hR _ e; omega
theorem OW.set (h : OW xs w q1 q2 q3 T sN sS sM sO wr) (j : Nat) (v : Value) {sN' sS' sM' sO' : Value} (e : [sN, sS, sM, sO].set j v = [sN', sS', sM', sO']) : OW xs w q1 q2 q3 T sN' sS' sM' sO' (wr.setCell ⟨q3, j, none⟩ v) := by
  have a1 := h.e1; have a2 := h.e2; have a3 := h.e3; have a4 := h.eT
  exact ⟨Below.setCell h.bel (by show w.heap.size ≤ q3; omega) v, by simpa using h.low, a1, a2, a3, a4, h.fx.other (a := ⟨q3, j, none⟩) (by show q3 ≠ q1; omega) v, h.fr.other (a := ⟨q3, j, none⟩) (by show q3 ≠ q2; omega) v, by rw [← e]; exact h.fc.set j v⟩
theorem OW.drewN (h : OW xs w q1 q2 q3 T sN sS sM sO wr) (n : Nat) : OW xs w q1 q2 q3 T sN sS sM sO (wr.drewN n) := h.next (below_drewN (Below.refl _ _) n)
theorem OW.cells (h : OW xs w q1 q2 q3 T sN sS sM sO wr) : wr.cell? ⟨q3, 0, none⟩ = some sN ∧ wr.cell? ⟨q3, 1, none⟩ = some sS ∧ wr.cell? ⟨q3, 2, none⟩ = some sM ∧ wr.cell? ⟨q3, 3, none⟩ = some sO ∧
    wr.frozen? ⟨q3, 0, none⟩ = false ∧ wr.frozen? ⟨q3, 1, none⟩ = false ∧ wr.frozen? ⟨q3, 2, none⟩ = false ∧ wr.frozen? ⟨q3, 3, none⟩ = false ∧ q3 < wr.heap.size ∧ ¬ q3 = wr.heap.size :=
  ⟨h.fc.cell 0, h.fc.cell 1, h.fc.cell 2, h.fc.cell 3, h.fc.frozen 0, h.fc.frozen 1, h.fc.frozen 2, h.fc.frozen 3, h.fc.lt, by have := h.fc.lt; omega⟩
theorem OW.args {x : Cx} {sG sA : Value} (h : OW (xCs x sG sA) w q1 q2 q3 T sN sS sM sO wr) : wr.cell? ⟨q1, 0, none⟩ = some (.int .u8 x.inN) ∧ wr.cell? ⟨q1, 1, none⟩ = some (.int .u8 x.dffs) ∧ wr.cell? ⟨q1, 5, none⟩ = some (.bool x.mem) ∧ wr.cell? ⟨q1, 10, none⟩ = some sG ∧ wr.cell? ⟨q1, 11, none⟩ = some sA ∧ q1 < wr.heap.size ∧ ¬ q1 = wr.heap.size :=
  ⟨h.fx.cell 0, h.fx.cell 1, h.fx.cell 5, h.fx.cell 10, h.fx.cell 11, h.fx.lt, by have := h.fx.lt; omega⟩
end
theorem OW.drew {xs : List Value} {w wr : World} {q1 q2 q3 T : Nat} {sN sS sM sO : Value} (h : OW xs w q1 q2 q3 T sN sS sM sO wr) : OW xs w q1 q2 q3 T sN sS sM sO wr.drew := h.next (Below.refl _ _).drew
end Go.Proofs.YtemogllidmgbfaaGreatDoor

namespace Go.Proofs.YtemogllidmgbfaaGreatDoor
open Go.RowKit

theorem ofTo_mem {nodes : List Nd} {kl : List Int} {k : Nat} {x : Int} (h : x ∈ ofTo nodes kl k) : ∃ i : Nat, x = (i : Int) ∧ i < k ∧ isK kl (nodes.getD i default).kind = true := by
  unfold ofTo at h
  obtain ⟨i, hi, rfl⟩ := List.mem_map.1 h
  obtain ⟨h1, h2⟩ := List.mem_filter.1 hi
  exact ⟨i, rfl, List.mem_range.1 h1, h2⟩
theorem ints_mem {l : List Int} {k : Nat} (h : k < l.length) : l.getD k 0 ∈ l := by
  rw [List.getD_eq_getElem?_getD, List.getElem?_eq_getElem h]; exact List.getElem_mem h
/-- A gate's pins name earlier nodes; its number of pins fits; a Bus reads Tris. -/
structure Gate (nodes : List Nd) (nd : Nd) : Prop where
  lo : 1 ≤ nd.kind
  hi : nd.kind ≤ 13
  wid : Proofs.YtemogllidmgbfaaGreatDoor.lo nd.kind ≤ nd.ins.length ∧ (nd.ins.length : Int) ≤ Proofs.YtemogllidmgbfaaGreatDoor.hi nd.kind
  ins : ∀ y ∈ nd.ins, ∃ i : Nat, y = (i : Int) ∧ i < nodes.length
  bus : nd.kind = 13 → ∀ y ∈ nd.ins, (nodes.getD y.toNat default).kind = 12
  mem : nd.mem = 0
  bit : nd.bit = 0
end Go.Proofs.YtemogllidmgbfaaGreatDoor

namespace Go.Proofs.YtemogllidmgbfaaGreatDoor
open Go.RowKit

/-- s reads as the memories, whatever happens below T. -/
def MG (w : World) (T : Nat) (s : Value) (l : List Mm) : Prop := ∀ w', Kp T none w w' → Ms w' w'.heap.size s l
theorem MG.keep {w w' : World} {T : Nat} {s : Value} {l : List Mm} (h : MG w T s l) (hk : Kp T none w w') : MG w' T s l := fun w2 h2 => h w2 (hk.trans h2)
theorem MG.one {w : World} {T m a d : Nat} {x y z v : Int} (hm : T ≤ m) (ha : T ≤ a) (hd : T ≤ d) (c0 : w.cell? ⟨m, 0, none⟩ = some (.slice (some ⟨a, 0, none⟩) 1 1)) (c1 : w.cell? ⟨m, 1, none⟩ = some (.slice (some ⟨d, 0, none⟩) 2 2)) (c2 : w.cell? ⟨m, 2, none⟩ = some (.int .i64 v))
    (a0 : w.cell? ⟨a, 0, none⟩ = some (.int .i64 x)) (d0 : w.cell? ⟨d, 0, none⟩ = some (.int .i64 y)) (d1 : w.cell? ⟨d, 1, none⟩ = some (.int .i64 z)) : MG w T (.slice (some ⟨m, 0, none⟩) 1 1) [⟨[x], [y, z], v⟩] := by
  intro w' hk
  have key : ∀ b o u, T ≤ b → w.cell? ⟨b, o, none⟩ = some u → b < w'.heap.size ∧ w'.cell? ⟨b, o, none⟩ = some u := fun b o u hb hc => by
    have hl := cell_lt hc
    exact ⟨Nat.lt_of_lt_of_le hl hk.1, (World.cell?_of_block (hk.2 b hb hl (by simp))).trans hc⟩
  obtain ⟨m1, e0⟩ := key _ _ _ hm c0
  obtain ⟨-, e1⟩ := key _ _ _ hm c1
  obtain ⟨-, e2⟩ := key _ _ _ hm c2
  obtain ⟨a1, f0⟩ := key _ _ _ ha a0
  obtain ⟨d2, h0⟩ := key _ _ _ hd d0
  obtain ⟨-, h1⟩ := key _ _ _ hd d1
  refine ⟨some ⟨m, 0, none⟩, m, 0, 1, rfl, fun _ => rfl, by simp, by simp [maxLen], fun k hk' => ?_⟩
  obtain rfl : k = 0 := by simp at hk'; omega
  refine ⟨m1, _, _, e0, e1, e2, ⟨some ⟨a, 0, none⟩, a, 0, 1, rfl, fun _ => rfl, by simp, by simp [maxLen], fun j hj => ?_⟩, ⟨some ⟨d, 0, none⟩, d, 0, 2, rfl, fun _ => rfl, by simp, by simp [maxLen], fun j hj => ?_⟩⟩
  · obtain rfl : j = 0 := by simp at hj; omega
    exact ⟨a1, f0⟩
  · have h2 : j = 0 ∨ j = 1 := by simp at hj; omega
    rcases h2 with rfl | rfl
    · exact ⟨d2, h0⟩
    · exact ⟨d2, h1⟩
end Go.Proofs.YtemogllidmgbfaaGreatDoor

namespace Go.Proofs.YtemogllidmgbfaaGreatDoor
open Go.RowKit


theorem chk_shape {c : Ck} (h : chkErr c = 0) : shapeErr c = 0 := by
  unfold chkErr at h
  by_cases e : shapeErr c = 0
  · exact e
  · rw [if_pos e] at h; exact absurd h e
/-- A valid circuit of fewer than 20 nodes, with its levels. -/
structure Vld (c : Ck) (L : List Int) (n : Nat) : Prop where
  ok : chkErr c = 0
  lvl : Lvl c.nodes L
  len : n = c.nodes.length
  few : n < 20
section
variable {c : Ck} {L : List Int} {n : Nat}
variable {w w1 W : World} {q : Nat} {A0 A1 A2 A3 : Option Addr} {n1 n2 n3 c0 c1 c2 c3 : Nat}
end
/-- A row of truths of the call's own, in block g. -/
def BRow (w : World) (g : Nat) (l : List Bool) : Prop := w.ownsRow g 4 1 (.slice (some ⟨g, 0, none⟩) l.length l.length) l.length (l.map Value.bool)
section
variable {w w' : World} {g : Nat} {l : List Bool}
theorem BRow.cell (h : BRow w g l) {j : Nat} {b : Bool} (hj : l[j]? = some b) : w.cell? ⟨g, j, none⟩ = some (.bool b) := by
  have hl : j < l.length := (List.getElem?_eq_some_iff.1 hj).1
  rw [World.ownsRow.cellAt h j (by omega), List.getElem?_map, hj]; rfl
theorem BRow.frozen (h : BRow w g l) (j : Nat) : w.frozen? ⟨g, j, none⟩ = false := World.ownsRow.frozenAt h j
theorem BRow.set (h : BRow w g l) (j : Nat) (x : Bool) : BRow (w.setCell ⟨g, j, none⟩ (.bool x)) g (l.set j x) := by
  have := (World.ownsRow.stored h j (.bool x)).1
  unfold BRow
  rw [List.length_set, List.map_set]
  exact this
theorem BRow.lt (h : BRow w g l) : g < w.heap.size := (World.ownsRow.lt h g rfl).2
theorem BRow.kept {row : Option Nat} (h : BRow w g l) (hg : w.grownBy w' row) (hne : some g ≠ row) : BRow w' g l := World.ownsRow.kept h hg (.inr hne)
theorem BRow.below (h : BRow w g l) (hb : Below w.heap.size w w') : BRow w' g l :=
  h.kept (row := none) ⟨hb.os, hb.tape, hb.output, hb.size, fun i hi _ => hb.block i hi⟩ (by simp)
end
end Go.Proofs.YtemogllidmgbfaaGreatDoor

namespace Go.Proofs.YtemogllidmgbfaaGreatDoor

theorem asg_cons (out : List Int) (x : Int) (l : List Int) (v : Int) (vs : List Int) : asg out (x :: l) (v :: vs) = asg (out.set x.toNat v) l vs := rfl
theorem asg_off : ∀ (l vs out : List Int) (i : Nat), (∀ y ∈ l, 0 ≤ y ∧ y ≠ (i : Int)) → lat (asg out l vs) i = lat out i := by
  intro l
  induction l with
  | nil => intro vs out i _; rfl
  | cons x l ih =>
    intro vs out i h
    cases vs with
    | nil => rfl
    | cons v vs =>
      rw [asg_cons, ih _ _ _ fun y hy => h y (List.mem_cons_of_mem _ hy), lat_set _ (by omega), if_neg (fun e => (h x List.mem_cons_self).2 (by have := (h x List.mem_cons_self).1; omega))]
theorem asg_on : ∀ (l vs out : List Int), l.Pairwise (· < ·) → (∀ y ∈ l, 0 ≤ y ∧ y < (out.length : Int)) → l.length = vs.length → ∀ k, k < l.length → lat (asg out l vs) (l.getD k 0) = vs.getD k 0 := by
  intro l
  induction l with
  | nil => intro vs out _ _ _ k hk; exact absurd hk (by simp)
  | cons x l ih =>
    intro vs out hp hr hl k hk
    cases vs with
    | nil => cases hl
    | cons v vs =>
      have hx := hr x List.mem_cons_self
      rw [asg_cons]
      cases k with
      | zero =>
        obtain ⟨j, rfl⟩ := Int.eq_ofNat_of_zero_le hx.1
        show lat _ (j : Int) = v
        rw [asg_off l vs _ j fun y hy => ⟨(hr y (List.mem_cons_of_mem _ hy)).1, fun e => by have := (List.pairwise_cons.1 hp).1 y hy; omega⟩, lat_set _ (by omega), if_pos ⟨by omega, by omega⟩]
      | succ k =>
        show lat _ (l.getD k 0) = vs.getD k 0
        exact ih vs _ (List.pairwise_cons.1 hp).2 (fun y hy => by rw [List.length_set]; exact hr y (List.mem_cons_of_mem _ hy)) (by simpa using hl) k (by simpa using hk)
theorem ofTo_pair (nodes : List Nd) (kl : List Int) (n : Nat) : (ofTo nodes kl n).Pairwise (· < ·) := by
  unfold ofTo
  rw [List.pairwise_map]
  exact (List.pairwise_lt_range.filter _).imp fun h => by omega
theorem ofTo_at {nodes : List Nd} {kl : List Int} : ∀ (n : Nat) {i : Nat}, i < n → isK kl (nodes.getD i default).kind = true → (ofTo nodes kl i).length < (ofTo nodes kl n).length ∧ (ofTo nodes kl n).getD (ofTo nodes kl i).length 0 = (i : Int) := by
  intro n
  induction n with
  | zero => intro i hi; exact absurd hi (by omega)
  | succ n ih =>
    intro i hi hk
    rw [ofTo_succ]
    by_cases e : i = n
    · subst e
      rw [if_pos hk]
      refine ⟨by simp, ?_⟩
      simp [List.getD_eq_getElem?_getD]
    · obtain ⟨h1, h2⟩ := ih (i := i) (by omega) hk
      refine ⟨by rw [List.length_append]; omega, ?_⟩
      rw [List.getD_eq_getElem?_getD, List.getElem?_append_left h1, ← List.getD_eq_getElem?_getD]
      exact h2
/-- The base of a pattern at an input. -/
theorem base_in {nodes : List Nd} {n : Nat} {pin pst : List Int} (hi : (ofTo nodes [0] n).length = pin.length) {i : Nat} (hn : i < n) (hk : (nodes.getD i default).kind = 0) :
    lat (baseV n (ofTo nodes [0] n) (ofTo nodes [14] n) pin pst) i = pin.getD (ofTo nodes [0] i).length 0 := by
  have hat := ofTo_at n hn (kl := [0]) (nodes := nodes) (by rw [isK_one, hk]; rfl)
  unfold baseV
  rw [asg_off _ _ _ i fun y hy => ?_, ← hat.2]
  · exact asg_on _ _ _ (ofTo_pair _ _ _) (fun y hy => by have := ofTo_in hy; simp; omega) hi _ hat.1
  · obtain ⟨j, rfl, hj, hj2⟩ := ofTo_mem hy
    refine ⟨by omega, fun e => ?_⟩
    have : j = i := by omega
    subst this
    rw [isK_one, hk] at hj2
    simp at hj2
/-- The base of a pattern at a state. -/
theorem base_st {nodes : List Nd} {n : Nat} {pin pst : List Int} (hs : (ofTo nodes [14] n).length = pst.length) {i : Nat} (hn : i < n) (hk : (nodes.getD i default).kind = 14) :
    lat (baseV n (ofTo nodes [0] n) (ofTo nodes [14] n) pin pst) i = pst.getD (ofTo nodes [14] i).length 0 := by
  have hat := ofTo_at n hn (kl := [14]) (nodes := nodes) (by rw [isK_one, hk]; rfl)
  unfold baseV
  rw [← hat.2]
  exact asg_on _ _ _ (ofTo_pair _ _ _) (fun y hy => by have := ofTo_in hy; simp [asg_len]; omega) hs _ hat.1

/-- A valid circuit without memories has nodes of these kinds. -/
theorem kinds_of {c : Ck} {L : List Int} {m : Nat} (V : Vld c L m) (hm : c.mems.length = 0) {i : Nat} (hi : i < c.nodes.length) (h0 : 0 ≤ (c.nodes.getD i default).kind) :
    ((c.nodes.getD i default).kind = 0 ∨ (c.nodes.getD i default).kind = 14 ∨ cmb (c.nodes.getD i default).kind = true) ∧ ∀ j, j < (c.nodes.getD i default).ins.length → 0 ≤ (c.nodes.getD i default).ins.getD j 0 ∧ (c.nodes.getD i default).ins.getD j 0 < (c.nodes.length : Int) := by
  have h := nodeErr_zero ((shape_zero (chk_shape V.ok)).2.2.2.2.1 _ (getD_mem_nd hi))
  refine ⟨?_, fun j hj => ?_⟩
  · have h15 : (c.nodes.getD i default).kind ≠ 15 := fun e => by
      have hp := h.2.2.2.2.2
      unfold placeOk at hp
      rw [if_pos e, hm] at hp
      simp [isIdx] at hp
      omega
    unfold cmb
    by_cases e0 : (c.nodes.getD i default).kind = 0
    · exact .inl e0
    · by_cases e1 : (c.nodes.getD i default).kind = 14
      · exact .inr (.inl e1)
      · refine .inr (.inr ?_)
        have := h.1
        rw [Bool.and_eq_true, decide_eq_true_iff, decide_eq_true_iff]
        omega
  · have ha := h.2.2.2.1
    unfold areIdx at ha
    have hz : anyP (fun x => !isIdx c.nodes.length x) (c.nodes.getD i default).ins = false := by
      cases hh : anyP (fun x => !isIdx c.nodes.length x) (c.nodes.getD i default).ins
      · rfl
      · rw [hh] at ha; cases ha
    have hb := List.any_eq_false.1 hz _ (ints_mem hj)
    cases hx : isIdx c.nodes.length ((c.nodes.getD i default).ins.getD j 0)
    · rw [hx] at hb; exact absurd rfl hb
    · unfold isIdx at hx
      rw [Bool.and_eq_true, decide_eq_true_iff, decide_eq_true_iff] at hx
      exact hx
end Go.Proofs.YtemogllidmgbfaaGreatDoor

namespace Go.Proofs.YtemogllidmgbfaaGreatDoor

abbrev Wls := List (Nat × Nat)
def WOk (l : Wls) : Prop := ∀ k, W64 (l.getD k (0, 0)).1 ∧ W64 (l.getD k (0, 0)).2
theorem WOk.set {l : Wls} (h : WOk l) (k : Nat) {x : Nat × Nat} (hx : W64 x.1 ∧ W64 x.2) : WOk (l.set k x) := fun j => by
  rw [List.getD_eq_getElem?_getD, List.getElem?_set]
  split
  · split
    · exact hx
    · exact ⟨w_zero, w_zero⟩
  · have := h j
    rw [List.getD_eq_getElem?_getD] at this
    exact this
theorem WOk.nil_ (n : Nat) : WOk (List.replicate n (0, 0)) := fun k => by
  rw [List.getD_eq_getElem?_getD, List.getElem?_replicate]
  split <;> exact ⟨w_zero, w_zero⟩
def wlat (out : Wls) (y : Int) : Nat × Nat := out.getD y.toNat (0, 0)
theorem lanes_lat {out : Wls} {i : Nat} {y : Int} (hy : y.toNat < out.length) : lat (lanes out i) y = lnV (wlat out y).1 (wlat out y).2 i := by
  unfold lat wlat
  exact lanes_at hy
theorem lanes_set (out : Wls) (i k : Nat) (x : Nat × Nat) : lanes (out.set k x) i = (lanes out i).set k (lnV x.1 x.2 i) := by
  unfold lanes
  rw [List.map_set]
/-- One node settled in all lanes. -/
def wstl (nodes : List Nd) (out : Wls) (x : Int) : Wls := if cmb (nodes.getD x.toNat default).kind = true then out.set x.toNat (evW (nodes.getD x.toNat default).kind ((nodes.getD x.toNat default).ins.map (wlat out))) else out
theorem wmap_ok {out : Wls} (h : WOk out) (ins : List Int) : WOk (ins.map (wlat out)) := fun k => by
  rw [List.getD_eq_getElem?_getD, List.getElem?_map]
  cases e : ins[k]? with
  | none => exact ⟨w_zero, w_zero⟩
  | some y => exact h _
theorem wstl_ok {nodes : List Nd} {out : Wls} (h : WOk out) (x : Int) : WOk (wstl nodes out x) := by
  unfold wstl
  split
  · exact h.set _ (evW_w (wmap_ok h _) _)
  · exact h
theorem wstl_len (nodes : List Nd) (out : Wls) (x : Int) : (wstl nodes out x).length = out.length := by
  unfold wstl
  split
  · exact List.length_set
  · rfl
theorem wstl_lane {nodes : List Nd} {out : Wls} (h : WOk out) {i : Nat} (hi : i < 64) {x : Int} (hr : ∀ y ∈ (nodes.getD x.toNat default).ins, 0 ≤ y ∧ y < (out.length : Int)) : lanes (wstl nodes out x) i = stl nodes (lanes out i) x := by
  unfold wstl stl
  split
  · rw [lanes_set, evW_ln (wmap_ok h _) hi]
    unfold gateV
    congr 2
    unfold lanes
    rw [List.map_map]
    refine List.map_congr_left fun y hy => ?_
    have hy2 := hr y hy
    have e := lanes_lat (out := out) (i := i) (y := y) (by omega)
    unfold lanes at e
    rw [e]
    exact (lnV_cln _ _ _).symm
  · rfl
/-- The nodes of P are settled in all lanes. -/
structure WSt (nodes : List Nd) (wb : Wls) (P : List Int) (out : Wls) : Prop where
  ok : WOk out
  len : out.length = nodes.length
  st : ∀ i, i < 64 → StI nodes (lanes wb i) P (lanes out i)
theorem WSt.start {nodes : List Nd} {wb : Wls} (h : WOk wb) (hl : wb.length = nodes.length) : WSt nodes wb [] wb := ⟨h, hl, fun i _ => StI.start _ _ (by rw [lanes_len]; exact hl)⟩
theorem WSt.step {nodes : List Nd} {wb out : Wls} {P L : List Int} (hw : Wf nodes) (hL : Lvl nodes L) (h : WSt nodes wb P out) {x : Int} (h0 : 0 ≤ x) (hx : x < (nodes.length : Int)) (hP : ∀ y ∈ P, 0 ≤ y ∧ y < (nodes.length : Int) ∧ y ≠ x ∧ lat L y ≤ lat L x) : WSt nodes wb (P ++ [x]) (wstl nodes out x) :=
  ⟨wstl_ok h.ok x, by rw [wstl_len]; exact h.len, fun i hi => by
    rw [wstl_lane h.ok hi fun y hy => by have := hw x.toNat (by omega) y hy; rw [h.len]; exact this]
    exact (h.st i hi).step hw hL h0 hx hP⟩
def asgW (out : Wls) (l : List Int) (vs : Wls) : Wls := (l.zip vs).foldl (fun o p => o.set p.1.toNat p.2) out
theorem lanes_asg (l : List Int) : ∀ (vs out : Wls) (i : Nat), lanes (asgW out l vs) i = asg (lanes out i) l (lanes vs i) := by
  induction l with
  | nil => intro vs out i; rfl
  | cons x l ih =>
    intro vs out i
    cases vs with
    | nil => rfl
    | cons v vs =>
      have := ih vs (out.set x.toNat v) i
      rw [lanes_set] at this
      exact this
theorem asgW_len (l : List Int) : ∀ (vs out : Wls), (asgW out l vs).length = out.length := by
  induction l with
  | nil => intro vs out; rfl
  | cons x l ih =>
    intro vs out
    cases vs with
    | nil => rfl
    | cons v vs => exact (ih vs (out.set x.toNat v)).trans List.length_set
theorem asgW_ok (l : List Int) : ∀ (vs out : Wls), (∀ x ∈ vs, W64 x.1 ∧ W64 x.2) → WOk out → WOk (asgW out l vs) := by
  induction l with
  | nil => intro vs out _ h; exact h
  | cons x l ih =>
    intro vs out hv h
    cases vs with
    | nil => exact h
    | cons v vs => exact ih vs (out.set x.toNat v) (fun y hy => hv y (List.mem_cons_of_mem _ hy)) (h.set _ (hv v List.mem_cons_self))
/-- The words of the inputs and states. -/
def baseW (n : Nat) (ins sts : List Int) (pin pst : Wls) : Wls := asgW (asgW (List.replicate n (0, 0)) ins pin) sts pst
theorem baseW_len (n : Nat) (ins sts : List Int) (pin pst : Wls) : (baseW n ins sts pin pst).length = n := by unfold baseW; rw [asgW_len, asgW_len]; simp
theorem baseW_ok {n : Nat} {ins sts : List Int} {pin pst : Wls} (h1 : ∀ x ∈ pin, W64 x.1 ∧ W64 x.2) (h2 : ∀ x ∈ pst, W64 x.1 ∧ W64 x.2) : WOk (baseW n ins sts pin pst) := asgW_ok _ _ _ h2 (asgW_ok _ _ _ h1 (WOk.nil_ n))
theorem lanes_rep (n i : Nat) : lanes (List.replicate n (0, 0)) i = List.replicate n 2 := by
  unfold lanes
  rw [List.map_replicate]
  unfold lnV
  rw [Nat.zero_testBit]; rfl
theorem base_in2 {nodes : List Nd} {n : Nat} {pin pst : List Int} (hi : (ofTo nodes [0] n).length = pin.length) {i : Nat} (hn : i < n) (hk : (nodes.getD i default).kind = 0) :
    lat (asg (asg (List.replicate n 2) (ofTo nodes [0] n) pin) (ofTo nodes [14] n) pst) i = pin.getD (ofTo nodes [0] i).length 0 := by
  have hat := ofTo_at n hn (kl := [0]) (nodes := nodes) (by rw [isK_one, hk]; rfl)
  rw [asg_off _ _ _ i fun y hy => ?_, ← hat.2]
  · exact asg_on _ _ _ (ofTo_pair _ _ _) (fun y hy => by have := ofTo_in hy; simp; omega) hi _ hat.1
  · obtain ⟨j, rfl, hj, hj2⟩ := ofTo_mem hy
    refine ⟨by omega, fun e => ?_⟩
    have : j = i := by omega
    subst this
    rw [isK_one, hk] at hj2
    simp at hj2
theorem base_st2 {nodes : List Nd} {n : Nat} {pin pst : List Int} (hs : (ofTo nodes [14] n).length = pst.length) {i : Nat} (hn : i < n) (hk : (nodes.getD i default).kind = 14) :
    lat (asg (asg (List.replicate n 2) (ofTo nodes [0] n) pin) (ofTo nodes [14] n) pst) i = pst.getD (ofTo nodes [14] i).length 0 := by
  have hat := ofTo_at n hn (kl := [14]) (nodes := nodes) (by rw [isK_one, hk]; rfl)
  rw [← hat.2]
  exact asg_on _ _ _ (ofTo_pair _ _ _) (fun y hy => by have := ofTo_in hy; simp [asg_len]; omega) hs _ hat.1
/-- At the end each lane has the nets of its pattern. -/
theorem WSt.stop {c : Ck} {L : List Int} {n : Nat} (V : Vld c L n) (hm : c.mems.length = 0) (hk : ∀ i : Nat, i < n → 0 ≤ (c.nodes.getD i default).kind) {pinW pstW out : Wls} {P : List Int}
    (hi : (ofTo c.nodes [0] n).length = pinW.length) (hs : (ofTo c.nodes [14] n).length = pstW.length) (h : WSt c.nodes (baseW n (ofTo c.nodes [0] n) (ofTo c.nodes [14] n) pinW pstW) P out) (hP : ∀ i : Nat, i < n → (i : Int) ∈ P) {i : Nat} (hi64 : i < 64) :
    Net c.nodes (baseV n (ofTo c.nodes [0] n) (ofTo c.nodes [14] n) (lanes pinW i) (lanes pstW i)) (lanes out i) := by
  have hlen := V.len
  have hn := (h.st i hi64).stop fun j hj => hP j (by omega)
  refine ⟨hn.1, fun j hj => ?_⟩
  rw [hn.2 j hj]
  split
  · rfl
  · rename_i hc
    unfold baseW
    rw [lanes_asg, lanes_asg, lanes_rep]
    rcases (kinds_of V hm (i := j) hj (hk j (by omega))).1 with e | e | e
    · rw [base_in2 (by rw [lanes_len]; exact hi) (by omega) e, base_in (by rw [lanes_len]; exact hi) (by omega) e]
    · rw [base_st2 (by rw [lanes_len]; exact hs) (by omega) e, base_st (by rw [lanes_len]; exact hs) (by omega) e]
    · exact absurd e hc
/-- The word of a value of each pattern. -/
def colW (l : List (List Int)) (j : Nat) : Nat × Nat := (pkA (l.map fun p => p.getD j 0) (min l.length 64), pkB (l.map fun p => p.getD j 0) (min l.length 64))
def rowW (l : List (List Int)) (m : Nat) : Wls := (List.range m).map (colW l)
theorem rowW_ok (l : List (List Int)) (m : Nat) : ∀ x ∈ rowW l m, W64 x.1 ∧ W64 x.2 := fun x hx => by
  unfold rowW at hx
  obtain ⟨j, -, rfl⟩ := List.mem_map.1 hx
  exact ⟨pkA_w _ _ (by omega), pkB_w _ _ (by omega)⟩
theorem rowW_len (l : List (List Int)) (m : Nat) : (rowW l m).length = m := by simp [rowW]
end Go.Proofs.YtemogllidmgbfaaGreatDoor
