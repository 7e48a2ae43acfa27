/- The texts Wow LgMonow. -/
import Derived.Test.YtemogllidmgbfaaGreatDoorM25
import Derived.Test.YtemogllidmgbfaaGreatDoorM36
import Derived.Maps.AppendAt
import Derived.Test.YtemogllidmgbfaaGreatDoorM15
import Derived.Test.YtemogllidmgbfaaGreatDoorM14
import Derived.Test.YtemogllidmgbfaaGreatDoorM18
namespace Go.Proofs.YtemogllidmgbfaaGreatDoor
open Go.RowKit

theorem own_bel {w w' : World} {base : Nat} {e : TypeId} {size n : Nat} {v : Value} {xs : List Value} (h : w.ownsRow base e size v n xs) (hb : BelW w w') : w'.ownsRow base e size v n xs :=
  h.kept (row := none) ⟨hb.os, hb.tape, hb.output, Below.size hb, fun i hi _ => Below.block hb i hi⟩ (by cases v.ownBlock <;> simp)
theorem bel_own {w0 w w' : World} {e : TypeId} {size n : Nat} {v : Value} {xs : List Value} (h : w.ownsRow w0.heap.size e size v n xs) (hb : BelW w0 w) (hg : w.grownBy w' v.ownBlock) : BelW w0 w' :=
  Below.grown hb hg (Below.size hb) fun k hk => (World.ownsRow.lt h k hk).1
theorem flatW_app (l : Wls) (x : Nat × Nat) : flatW l ++ [.int .u64 (x.1 : Int), .int .u64 (x.2 : Int)] = flatW (l ++ [x]) := by
  induction l with
  | nil => rfl
  | cons y l ih => simp only [flatW, List.cons_append]; rw [← ih]
theorem wd_own {w : World} {base n : Nat} {v : Value} {l : Wls} (h : w.ownsRow base 27 2 v n (flatW l)) (hl : l.length = n) (hw : ∀ k, W64 (l.getD k (0, 0)).1 ∧ W64 (l.getD k (0, 0)).2) : ∃ A c, v = .slice A n c ∧ Wd w w.heap.size (.slice A n c) l := by
  subst hl
  rcases h.2 with ⟨rfl, h0⟩ | ⟨g, cap, cur, rfl, hb, hg, hle, hm, -⟩
  · obtain rfl : l = [] := List.eq_nil_of_length_eq_zero h0
    exact ⟨none, 0, rfl, Arr.nil _ _ _ _ _⟩
  · refine ⟨_, cap, rfl, some ⟨g, 0, none⟩, g, 0, cap, rfl, fun _ => rfl, hle, Nat.le_trans hle hm, fun k hk => ⟨(World.ownsRow.lt h g rfl).2, ?_, ?_, (hw k).1, (hw k).2⟩⟩
    · rw [Nat.zero_add, World.ownsRow.cellAt h (k * 2) (by omega), (flatW_get l k).1, List.getElem?_eq_getElem hk]
      simp [List.getD_eq_getElem?_getD, List.getElem?_eq_getElem hk]
    · rw [Nat.zero_add, World.ownsRow.cellAt h (k * 2 + 1) (by omega), (flatW_get l k).2, List.getElem?_eq_getElem hk]
      simp [List.getD_eq_getElem?_getD, List.getElem?_eq_getElem hk]
theorem wd_w {w : World} {B : Nat} {v : Value} {l : Wls} (h : Wd w B v l) : ∀ k, W64 (l.getD k (0, 0)).1 ∧ W64 (l.getD k (0, 0)).2 := fun k => by
  obtain ⟨A', b, o, c', e, hA, hle, hm, hc⟩ := h
  by_cases h : k < l.length
  · exact (hc k h).2.2.2
  · rw [List.getD_eq_getElem?_getD, List.getElem?_eq_none (by omega)]; exact ⟨w_zero, w_zero⟩
theorem snocT {α : Type} {l : List α} {k : Nat} {d : α} (hk : k < l.length) : l.take (k + 1) = l.take k ++ [l.getD k d] := by
  rw [List.take_add_one, List.getD_eq_getElem?_getD, List.getElem?_eq_getElem hk]; rfl
theorem two_cells (w : World) (u v : Value) (t : TypeId) : ∀ (j : Nat) (x : Value), [u, v][j]? = some x → (w.alloc (.cells #[u, v] t)).cell? ((⟨w.heap.size, 0, none⟩ : Addr).add j) = some x := by
  intro j x hj
  match j, hj with
  | 0, hj =>
    rw [show (⟨w.heap.size, 0, none⟩ : Addr).add 0 = ⟨w.heap.size, 0, none⟩ from rfl, World.cell?_alloc_at _ _ _ _ rfl]
    simpa using hj
  | 1, hj =>
    rw [show (⟨w.heap.size, 0, none⟩ : Addr).add 1 = ⟨w.heap.size, 1, none⟩ from rfl, World.cell?_alloc_at _ _ _ _ rfl]
    simpa using hj
  | j + 2, hj => simp at hj
end Go.Proofs.YtemogllidmgbfaaGreatDoor

namespace Go.Proofs.YtemogllidmgbfaaGreatDoor.Lg
open Go.RowKit

/-- A row of the call's own reads as its list. -/
theorem Vs.of_own {w : World} {base : Nat} {v : Value} {n : Nat} {l : List Int} (h : w.ownsRow base 30 1 v n (l.map (Value.int .u8))) : Vs w w.heap.size v l ∧ l.length = n := by
  have hl : l.length = n := by simpa using h.1
  refine ⟨?_, hl⟩
  subst hl
  rcases h.2 with ⟨rfl, hn⟩ | ⟨g, cap, cur, rfl, -, hg, hle, hm, hsz, htake⟩
  · obtain rfl : l = [] := List.eq_nil_of_length_eq_zero hn
    exact Vs.nil _ _ _ _
  · have hlt : g < w.heap.size := by
      rcases Nat.lt_or_ge g w.heap.size with h | h
      · exact h
      · rw [Array.getElem?_eq_none h] at hg; cases hg
    refine ⟨g, 0, cap, .inl rfl, by omega, fun k hk => ⟨hlt, ?_⟩⟩
    rw [Nat.zero_add, h.cellAt k (by omega), List.getElem?_map, List.getElem?_eq_getElem hk, List.getD_eq_getElem?_getD, List.getElem?_eq_getElem hk]
    rfl

theorem one_new (w : World) (u : Value) (t : TypeId) : ∀ (j : Nat) (v : Value), [u][j]? = some v → (w.alloc (.cells #[u] t)).cell? ((⟨w.heap.size, 0, none⟩ : Addr).add j) = some v := by
  intro j v h
  match j, h with
  | 0, h =>
    obtain rfl : u = v := by simpa using h
    rw [show (⟨w.heap.size, 0, none⟩ : Addr).add 0 = ⟨w.heap.size, 0, none⟩ from rfl, World.cell?_alloc_at _ _ _ _ rfl]
    rfl
end Go.Proofs.YtemogllidmgbfaaGreatDoor.Lg
