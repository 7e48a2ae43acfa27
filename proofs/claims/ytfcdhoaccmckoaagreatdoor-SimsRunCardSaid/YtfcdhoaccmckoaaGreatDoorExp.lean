/- The example of the chapter: plain facts. -/
import Derived.Test.YtfcdhoaccmckoaaGreatDoorRfl
import Derived.Test.YtfcdhoaccmckoaaGreatDoorSor
namespace Go.Proofs.YtfcdhoaccmckoaaGreatDoor
open Go.RowKit

def exN (k2 : Int) (i2 : List Int) : List Nd := [⟨0, [], 0, 0⟩, ⟨14, [3], 0, 0⟩, ⟨k2, i2, 0, 0⟩, ⟨5, [1, 2], 0, 0⟩]
def exS (b : UInt8) : List ByteArray := [⟨#[97]⟩, ⟨#[113]⟩, ⟨#[b]⟩, ⟨#[103]⟩]
def Ex : Ck := ⟨exN 4 [0], exS 110, [], [3]⟩
theorem ex_lvl {L : List Int} (h : Lvl (exN 4 [0]) L) : L = [0, 0, 1, 2] := by
  have h0 := h.2 0 (by decide)
  have h1 := h.2 1 (by decide)
  have h2 := h.2 2 (by decide)
  have h3 := h.2 3 (by decide)
  have d0 : dep (exN 4 [0]) ((0 : Nat) : Int) = [] := by decide
  have d1 : dep (exN 4 [0]) ((1 : Nat) : Int) = [] := by decide
  have d2 : dep (exN 4 [0]) ((2 : Nat) : Int) = [0] := by decide
  have d3 : dep (exN 4 [0]) ((3 : Nat) : Int) = [1, 2] := by decide
  rw [d0] at h0
  rw [d1] at h1
  rw [d2] at h2
  rw [d3] at h3
  simp only [levf, List.foldl_nil, List.foldl_cons] at h0 h1 h2 h3
  have hl : L.length = 4 := h.1
  match L, hl with
  | [a, b, c, d], _ =>
    simp [lat] at h0 h1 h2 h3
    subst h0; subst h1
    simp at h2
    subst h2
    simp at h3
    rw [h3]; decide
theorem ex_lvl_is : Lvl (exN 4 [0]) [0, 0, 1, 2] := by
  refine ⟨rfl, fun i hi => ?_⟩
  have : i = 0 ∨ i = 1 ∨ i = 2 ∨ i = 3 := by simp [exN] at hi; omega
  rcases this with rfl | rfl | rfl | rfl <;> decide
theorem ex_shape : shapeErr Ex = 0 := by decide
theorem ex_ok : chkErr Ex = 0 := by
  unfold chkErr
  rw [if_neg (by rw [ex_shape]; simp), if_pos ⟨_, ex_lvl_is⟩]
theorem ex_loop : chkErr ⟨exN 4 [3], exS 110, [], [3]⟩ = 6 := by
  unfold chkErr
  rw [if_neg (by decide), if_neg]
  rintro ⟨L, h⟩
  have h2 := h.2 2 (by decide)
  have h3 := h.2 3 (by decide)
  have d2 : dep (exN 4 [3]) ((2 : Nat) : Int) = [3] := by decide
  have d3 : dep (exN 4 [3]) ((3 : Nat) : Int) = [1, 2] := by decide
  rw [d2] at h2
  rw [d3] at h3
  have m2 := levf_mem (lv := L) (l := [3]) (x := 3) (by simp)
  have m3 := levf_mem (lv := L) (l := [1, 2]) (x := 2) (by simp)
  rw [← h2] at m2
  rw [← h3] at m3
  have e2 : lat L ((2 : Nat) : Int) = lat L 2 := rfl
  have e3 : lat L ((3 : Nat) : Int) = lat L 3 := rfl
  omega
theorem ex_bus : chkErr ⟨exN 13 [0], exS 110, [], [3]⟩ = 7 := by
  unfold chkErr
  have e : shapeErr ⟨exN 13 [0], exS 110, [], [3]⟩ = 7 := by decide
  rw [e, if_pos (by decide)]
theorem ex_named : chkErr ⟨exN 4 [0], exS 103, [], [3]⟩ = 5 := by
  unfold chkErr
  have e : shapeErr ⟨exN 4 [0], exS 103, [], [3]⟩ = 5 := by decide
  rw [e, if_pos (by decide)]
theorem ex_ord {R : List Int} (h : SortTo [0, 0, 1, 2] 4 4 R) : R = [0, 1, 2, 3] := by
  obtain ⟨S, h1, h2, -, h3, h4⟩ := h
  have hr : rng 4 4 = [] := rfl
  rw [hr, List.append_nil] at h1
  subst h1
  have key : ∀ x y : Int, 0 ≤ x → x < 4 → 0 ≤ y → y < 4 → Lex [0, 0, 1, 2] x y → x < y := by
    intro x y a b c d hx
    have hx' : x = 0 ∨ x = 1 ∨ x = 2 ∨ x = 3 := by omega
    have hy' : y = 0 ∨ y = 1 ∨ y = 2 ∨ y = 3 := by omega
    rcases hx' with rfl | rfl | rfl | rfl <;> rcases hy' with rfl | rfl | rfl | rfl <;> revert hx <;> simp [Lex, lat]
  match R, h2 with
  | [a, b, c, d], _ =>
    simp only [List.pairwise_cons, List.mem_cons, List.not_mem_nil, or_false, forall_eq_or_imp, forall_eq] at h3 h4
    obtain ⟨⟨a1, a2⟩, ⟨b1, b2⟩, ⟨c1, c2⟩, d1, d2⟩ := h4
    have k1 := key a b a1 a2 b1 b2 h3.1.1
    have k2 := key b c b1 b2 c1 c2 h3.2.1.1
    have k3 := key c d c1 c2 d1 d2 h3.2.2.1
    obtain rfl : a = 0 := by omega
    obtain rfl : b = 1 := by omega
    obtain rfl : c = 2 := by omega
    obtain rfl : d = 3 := by omega
    rfl
theorem ex_fan : fanL (exN 4 [0]) = [[(2, 0)], [(3, 0)], [(3, 1)], [(1, 0)]] := by decide
theorem ex_pins : (nodP (exN 4 [0]) (exN 4 [0]).length).length ≤ 1000000000000 := by decide
theorem ex_ins : ofTo (exN 4 [0]) [0] 4 = [0] := by decide
theorem ex_sts : ofTo (exN 4 [0]) [14] 4 = [1] := by decide

theorem seven (w W : World) (o0 o1 o2 o3 o4 o5 o6 : Obj) (h : W = ((((((w.alloc o0).alloc o1).alloc o2).alloc o3).alloc o4).alloc o5).alloc o6) :
    W.heap.size = w.heap.size + 7 ∧ W.heap[w.heap.size]? = some o0 ∧ W.heap[w.heap.size + 1]? = some o1 ∧ W.heap[w.heap.size + 1 + 1]? = some o2 ∧ W.heap[w.heap.size + 1 + 1 + 1]? = some o3 ∧ W.heap[w.heap.size + 1 + 1 + 1 + 1]? = some o4 ∧ W.heap[w.heap.size + 1 + 1 + 1 + 1 + 1]? = some o5 ∧ W.heap[w.heap.size + 1 + 1 + 1 + 1 + 1 + 1]? = some o6 ∧ Below w.heap.size w W := by
  subst h
  refine ⟨by simp, ?_, ?_, ?_, ?_, ?_, ?_, ?_, ?_⟩
  any_goals (simp only [World.alloc, Array.getElem?_push, Array.size_push, if_true] <;> (repeat' split) <;> first | rfl | omega)
  refine Below.alloc (Below.alloc (Below.alloc (Below.alloc (Below.alloc (Below.alloc (Below.alloc (Below.refl _ _) ?_ _) ?_ _) ?_ _) ?_ _) ?_ _) ?_ _) ?_ _ <;> simp <;> omega
theorem is_of {w : World} {g : Nat} {l : List Int} (t : TypeId) (hg : w.heap[g]? = some (.cells (l.map (Value.int .i64)).toArray t (0, 0))) (hm : l.length ≤ maxLen) (hB : g < w.heap.size) : Is w w.heap.size (.slice (some ⟨g, 0, none⟩) l.length l.length) l :=
  ⟨_, g, 0, _, rfl, fun _ => rfl, Nat.le_refl _, hm, fun k hk => ⟨hB, by
    unfold IntAt
    rw [cell_of_row w g _ _ t _ hg]
    simp [hk, List.getD_eq_getElem?_getD]⟩⟩
end Go.Proofs.YtfcdhoaccmckoaaGreatDoor

