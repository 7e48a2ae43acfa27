/- NetlistsLists: what stands while the law runs, and its calls on the circuit. -/
import Derived.Test.YtmghdeodkeenoaaDoorRfl
import Derived.Test.YtmghdeodkeenoaaDoorGrt
import Derived.Test.YtmghdeodkeenoaaDoorLvs
namespace Go.Proofs.YtmghdeodkeenoaaDoor
open Go.RowKit

/-- The argument in its variable at q. -/
structure LC (c : Ck) (w : World) (q : Nat) (A0 A1 A2 A3 : Option Addr) (n0 n1 n2 n3 c0 c1 c2 c3 : Nat) (wr : World) : Prop where
  bel : Below w.heap.size w wr
  low : w.heap.size ≤ q
  tabs : Tabs wr
  cir : Cir wr q (.agg #[.slice A0 n0 c0, .slice A1 n1 c1, .slice A2 n2 c2, .slice A3 n3 c3]) c
  box : Fr wr q 27 [.slice A0 n0 c0, .slice A1 n1 c1, .slice A2 n2 c2, .slice A3 n3 c3]
section
variable {c : Ck} {w w1 W : World} {q : Nat} {A0 A1 A2 A3 : Option Addr} {n0 n1 n2 n3 c0 c1 c2 c3 : Nat}
theorem LC.next (h : LC c w q A0 A1 A2 A3 n0 n1 n2 n3 c0 c1 c2 c3 w1) (hb : Below w1.heap.size w1 W) : LC c w q A0 A1 A2 A3 n0 n1 n2 n3 c0 c1 c2 c3 W :=
  ⟨joinB h.bel hb, h.low, h.tabs.below hb, h.cir.below (hb.mono (Nat.le_of_lt h.box.lt)), h.box.below hb⟩
theorem LC.cells (h : LC c w q A0 A1 A2 A3 n0 n1 n2 n3 c0 c1 c2 c3 w1) : w1.cell? ⟨q, 0, none⟩ = some (.slice A0 n0 c0) ∧ w1.cell? ⟨q, 1, none⟩ = some (.slice A1 n1 c1) ∧ w1.cell? ⟨q, 2, none⟩ = some (.slice A2 n2 c2) ∧ w1.cell? ⟨q, 3, none⟩ = some (.slice A3 n3 c3) :=
  ⟨h.box.cell 0, h.box.cell 1, h.box.cell 2, h.box.cell 3⟩
theorem LC.all (h : LC c w q A0 A1 A2 A3 n0 n1 n2 n3 c0 c1 c2 c3 w1) : Cir w1 w1.heap.size (.agg #[.slice A0 n0 c0, .slice A1 n1 c1, .slice A2 n2 c2, .slice A3 n3 c3]) c := h.cir.more (Nat.le_of_lt h.box.lt)
theorem LC.start (hT : Tabs w) (hc : Cir w w.heap.size (.agg #[.slice A0 n0 c0, .slice A1 n1 c1, .slice A2 n2 c2, .slice A3 n3 c3]) c) :
    LC c w w.heap.size A0 A1 A2 A3 n0 n1 n2 n3 c0 c1 c2 c3 (w.alloc (.cells #[.slice A0 n0 c0, .slice A1 n1 c1, .slice A2 n2 c2, .slice A3 n3 c3] 27)) :=
  ⟨below_new (Below.refl _ _) _, Nat.le_refl _, hT.below (below_new (Below.refl _ _) _), hc.below (below_new (Below.refl _ _) _), heap_alloc_new _ _⟩
theorem great_c (h : LC c w q A0 A1 A2 A3 n0 n1 n2 n3 c0 c1 c2 c3 w1) (hb : Below w1.heap.size w1 W) : Calls Tryd.prog 11 #[.agg #[.slice A0 n0 c0, .slice A1 n1 c1, .slice A2 n2 c2, .slice A3 n3 c3]] W
    fun e w' => (∃ b, e = .returned (.bool b) ∧ (b = false → Small c)) ∧ Below w1.heap.size w1 w' ∧ LC c w q A0 A1 A2 A3 n0 n1 n2 n3 c0 c1 c2 c3 w' := by
  have hn := h.next hb
  refine (great_any c _ W W.heap.size (Nat.le_refl _) hn.all).mono fun e w' ⟨h1, h2⟩ => ?_
  exact ⟨h1, joinB hb h2, hn.next h2⟩
theorem fan_c (hs : Small c) (hp : (nodP c.nodes c.nodes.length).length ≤ 1000000000000) (h : LC c w q A0 A1 A2 A3 n0 n1 n2 n3 c0 c1 c2 c3 w1) (hb : Below w1.heap.size w1 W) : Calls Tryd.prog 24 #[.agg #[.slice A0 n0 c0, .slice A1 n1 c1, .slice A2 n2 c2, .slice A3 n3 c3]] W
    fun e w' => (∃ g, e = .returned (.slice (some ⟨g, 0, none⟩) c.nodes.length c.nodes.length) ∧ Fos w' w'.heap.size (.slice (some ⟨g, 0, none⟩) c.nodes.length c.nodes.length) (fanL c.nodes)) ∧ Below w1.heap.size w1 w' ∧ LC c w q A0 A1 A2 A3 n0 n1 n2 n3 c0 c1 c2 c3 w' := by
  have hn := h.next hb
  refine (fanout_any c _ W W.heap.size (Nat.le_refl _) hn.all (by have := hs.1; omega) hp).mono fun e w' ⟨g, h1, h2, h3, h4⟩ => ?_
  exact ⟨⟨g, h1, h3⟩, joinB hb h4, hn.next h4⟩
theorem ofk_c (hs : Small c) (h : LC c w q A0 A1 A2 A3 n0 n1 n2 n3 c0 c1 c2 c3 w1) (hb : Below w1.heap.size w1 W) {s : Value} {kl : List Int} (hk : Ks W W.heap.size s kl) : Calls Tryd.prog 26 #[.agg #[.slice A0 n0 c0, .slice A1 n1 c1, .slice A2 n2 c2, .slice A3 n3 c3], s] W
    fun e w' => (∃ A, e = .returned (.slice A (ofTo c.nodes kl c.nodes.length).length (ofTo c.nodes kl c.nodes.length).length) ∧ Is w' w'.heap.size (.slice A (ofTo c.nodes kl c.nodes.length).length (ofTo c.nodes kl c.nodes.length).length) (ofTo c.nodes kl c.nodes.length)) ∧ Below w1.heap.size w1 w' ∧ LC c w q A0 A1 A2 A3 n0 n1 n2 n3 c0 c1 c2 c3 w' := by
  have hn := h.next hb
  refine (of_any c kl _ s W W.heap.size (Nat.le_refl _) hn.all hk (by have := hs.1; omega)).mono fun e w' ⟨A, h1, h2, h3⟩ => ?_
  exact ⟨⟨A, h1, h2⟩, joinB hb h3, hn.next h3⟩
theorem ins_c (hs : Small c) (h : LC c w q A0 A1 A2 A3 n0 n1 n2 n3 c0 c1 c2 c3 w1) (hb : Below w1.heap.size w1 W) : Calls Tryd.prog 28 #[.agg #[.slice A0 n0 c0, .slice A1 n1 c1, .slice A2 n2 c2, .slice A3 n3 c3]] W
    fun e w' => (∃ A, e = .returned (.slice A (ofTo c.nodes [0] c.nodes.length).length (ofTo c.nodes [0] c.nodes.length).length) ∧ Is w' w'.heap.size (.slice A (ofTo c.nodes [0] c.nodes.length).length (ofTo c.nodes [0] c.nodes.length).length) (ofTo c.nodes [0] c.nodes.length)) ∧ Below w1.heap.size w1 w' ∧ LC c w q A0 A1 A2 A3 n0 n1 n2 n3 c0 c1 c2 c3 w' := by
  have hn := h.next hb
  refine (inputs_any c _ W W.heap.size (Nat.le_refl _) hn.all (by have := hs.1; omega)).mono fun e w' ⟨A, h1, h2, h3⟩ => ?_
  exact ⟨⟨A, h1, h2⟩, joinB hb h3, hn.next h3⟩
theorem sts_c (hs : Small c) (h : LC c w q A0 A1 A2 A3 n0 n1 n2 n3 c0 c1 c2 c3 w1) (hb : Below w1.heap.size w1 W) : Calls Tryd.prog 29 #[.agg #[.slice A0 n0 c0, .slice A1 n1 c1, .slice A2 n2 c2, .slice A3 n3 c3]] W
    fun e w' => (∃ A, e = .returned (.slice A (ofTo c.nodes [14] c.nodes.length).length (ofTo c.nodes [14] c.nodes.length).length) ∧ Is w' w'.heap.size (.slice A (ofTo c.nodes [14] c.nodes.length).length (ofTo c.nodes [14] c.nodes.length).length) (ofTo c.nodes [14] c.nodes.length)) ∧ Below w1.heap.size w1 w' ∧ LC c w q A0 A1 A2 A3 n0 n1 n2 n3 c0 c1 c2 c3 w' := by
  have hn := h.next hb
  refine (states_any c _ W W.heap.size (Nat.le_refl _) hn.all (by have := hs.1; omega)).mono fun e w' ⟨A, h1, h2, h3⟩ => ?_
  exact ⟨⟨A, h1, h2⟩, joinB hb h3, hn.next h3⟩
theorem rof_c (hs : Small c) (kd : Int) (h : LC c w q A0 A1 A2 A3 n0 n1 n2 n3 c0 c1 c2 c3 w1) (hb : Below w1.heap.size w1 W) : Calls Tryd.prog 27 #[.agg #[.slice A0 n0 c0, .slice A1 n1 c1, .slice A2 n2 c2, .slice A3 n3 c3], .int .u8 kd] W
    fun e w' => (∃ s, e = .returned s ∧ Is w' w'.heap.size s (ofTo c.nodes [kd] c.nodes.length)) ∧ Below w1.heap.size w1 w' ∧ LC c w q A0 A1 A2 A3 n0 n1 n2 n3 c0 c1 c2 c3 w' := by
  have hn := h.next hb
  refine (refOf_any c kd _ W W.heap.size (Nat.le_refl _) hn.all (by have := hs.1; omega)).mono fun e w' ⟨h1, h2⟩ => ?_
  exact ⟨h1, joinB hb h2, hn.next h2⟩
theorem ris_c (x : Int) (h : LC c w q A0 A1 A2 A3 n0 n1 n2 n3 c0 c1 c2 c3 w1) (hb : Below w1.heap.size w1 W) : Calls Tryd.prog 30 #[.agg #[.slice A0 n0 c0, .slice A1 n1 c1, .slice A2 n2 c2, .slice A3 n3 c3], .int .i64 x] W
    fun e w' => e = .returned (.bool (isIdx c.nodes.length x)) ∧ Below w1.heap.size w1 w' ∧ LC c w q A0 A1 A2 A3 n0 n1 n2 n3 c0 c1 c2 c3 w' := by
  have hn := h.next hb
  refine (refIs_any c x _ W W.heap.size hn.all).mono fun e w' ⟨h1, h2⟩ => ?_
  exact ⟨h1, joinB hb h2, hn.next h2⟩
theorem rfan_c (j : Nat) (hp : (nodP c.nodes c.nodes.length).length ≤ 1000000000000) (h : LC c w q A0 A1 A2 A3 n0 n1 n2 n3 c0 c1 c2 c3 w1) (hb : Below w1.heap.size w1 W) : Calls Tryd.prog 31 #[.agg #[.slice A0 n0 c0, .slice A1 n1 c1, .slice A2 n2 c2, .slice A3 n3 c3], .int .i64 (j : Int)] W
    fun e w' => (∃ s, e = .returned s ∧ Lns w' w'.heap.size s (fan (nodP c.nodes c.nodes.length) j)) ∧ Below w1.heap.size w1 w' ∧ LC c w q A0 A1 A2 A3 n0 n1 n2 n3 c0 c1 c2 c3 w' := by
  have hn := h.next hb
  refine (refFan_any c j _ W W.heap.size (Nat.le_refl _) hn.all hp).mono fun e w' ⟨h1, h2⟩ => ?_
  exact ⟨h1, joinB hb h2, hn.next h2⟩
theorem int_c (h : LC c w q A0 A1 A2 A3 n0 n1 n2 n3 c0 c1 c2 c3 w1) (hb : Below w1.heap.size w1 W) {A : Option Addr} {s : Value} {l : List Int} (hi : Is W W.heap.size (.slice A l.length l.length) l) (hs : Is W W.heap.size s l) :
    Calls Tryd.prog 25 #[.slice A l.length l.length, s] W fun e w' => e = .returned (.int .i64 0) ∧ Below w1.heap.size w1 w' ∧ LC c w q A0 A1 A2 A3 n0 n1 n2 n3 c0 c1 c2 c3 w' := by
  have hn := h.next hb
  refine (ints_any l l A l.length s _ _ _ hi hs).mono fun e w' ⟨h1, k, h2⟩ => ?_
  subst h2
  exact ⟨by rw [h1]; simp [intsR], below_drewN hb k, hn.next (below_drewN (Below.refl _ _) k)⟩
theorem lives_c (h : LC c w q A0 A1 A2 A3 n0 n1 n2 n3 c0 c1 c2 c3 w1) (hb : Below w1.heap.size w1 W) : Calls Tryd.prog 12 #[] W fun e w' => e = .returned (.bool true) ∧ Below w1.heap.size w1 w' := by
  have hn := h.next hb
  exact (lives_any W hn.tabs).mono fun e w' ⟨h1, h2⟩ => ⟨h1, joinB hb h2⟩
end

end Go.Proofs.YtmghdeodkeenoaaDoor
