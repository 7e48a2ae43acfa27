/- Arguments opened: a slice of pairs. -/
import Derived.Test.YtnddgkcgedkabaaDoorPar
import Derived.Deep.SlicePairs
namespace Go.Proofs.YtnddgkcgedkabaaDoor
open Go.ChangeShapes Go.WideShapes Go.ChangeAt Go.RowKit

theorem getD_map_range {α : Type} (f : Nat → α) (n k : Nat) (d : α) (h : k < n) : ((List.range n).map f).getD k d = f k := by
  rw [List.getD_eq_getElem?_getD, List.getElem?_map, List.getElem?_range h]; rfl

/-- AN ARGUMENT that is a slice of pairs. -/
theorem open_pairs {H : Type} {enc : TypeId × Value → H} {W : World} {base b0 : Nat} {sp : Nat → Bool} {held : Bool} {r : Reach} {v : Value} {d : DataW H} {p : List MemPlace}
    (hv : Value.okWide Tryd.prog W r b0 23 v) (h : DataW.Trod enc Tryd.prog W base sp held 23 v d p) :
    ∃ (l : List (Int × Int)) (A : Option Addr) (c b o : Nat), v = .slice A l.length c ∧ (0 < l.length → A = some ⟨b, o, none⟩) ∧
      (∀ k, k < l.length → b < W.heap.size ∧ W.cell? ⟨b, o + k * 2, none⟩ = some (.int .u8 (l.getD k (0, 0)).1) ∧ W.cell? ⟨b, o + k * 2 + 1, none⟩ = some (.int .u8 (l.getD k (0, 0)).2)) ∧
      Pl W W.heap.size v l ∧ (∀ k, k < l.length → 0 ≤ (l.getD k (0, 0)).1 ∧ (l.getD k (0, 0)).1 ≤ 255 ∧ 0 ≤ (l.getD k (0, 0)).2 ∧ (l.getD k (0, 0)).2 ≤ 255) ∧ l.length ≤ c ∧ l.length ≤ maxLen := by
  obtain ⟨A, len, cap, rfl⟩ := okWide_slice Tryd.underlying23 hv
  obtain ⟨fuel, hf⟩ := h
  rcases Go.Deep.open_slice_pairs Tryd.underlying23 Tryd.underlying28 c_pair rfl rfl c_value c_value hf with ⟨hcs, -⟩ | ⟨a, len', cap', m, n, V0, V1, D0, D1, P0, P1, hcs, -, hl, hm, hmm, -, hcell⟩
  · simp only [Value.cells, List.cons.injEq, Value.slice.injEq, and_true] at hcs
    obtain ⟨rfl, rfl, rfl⟩ := hcs
    exact ⟨[], none, 0, 0, 0, rfl, fun h => absurd h (by simp), fun k hk => absurd hk (by simp), Pl.nil _ _ _ _, fun k hk => absurd hk (by simp), by simp, by simp⟩
  · simp only [Value.cells, List.cons.injEq, Value.slice.injEq, and_true] at hcs
    obtain ⟨rfl, rfl, rfl⟩ := hcs
    have hlm : len ≤ m := by rw [hmm]; split <;> omega
    have hval : ∀ k, k < len → ∃ x y : Int, V0 k = .int .u8 x ∧ V1 k = .int .u8 y ∧ 0 ≤ x ∧ x ≤ 255 ∧ 0 ≤ y ∧ y ≤ 255 := fun k hk => by
      obtain ⟨-, -, h0, h1⟩ := hcell k (by omega)
      obtain ⟨x, ex, -, wx⟩ := DataW.trod_int Tryd.underlying26 h0
      obtain ⟨y, ey, -, wy⟩ := DataW.trod_int Tryd.underlying26 h1
      exact ⟨x, y, by simpa using ex, by simpa using ey, (bounds_u8 wx).1, (bounds_u8 wx).2, (bounds_u8 wy).1, (bounds_u8 wy).2⟩
    obtain ⟨q, hq⟩ := Go.Deep.choose_lt (n := len) (p := fun k (q : Int × Int) => V0 k = .int .u8 q.1 ∧ V1 k = .int .u8 q.2 ∧ 0 ≤ q.1 ∧ q.1 ≤ 255 ∧ 0 ≤ q.2 ∧ q.2 ≤ 255) (fun k hk => by
      obtain ⟨x, y, h⟩ := hval k hk; exact ⟨(x, y), h⟩)
    have hll : ((List.range len).map q).length = len := by simp
    have hget : ∀ k, k < len → ((List.range len).map q).getD k (0, 0) = q k := fun k hk => getD_map_range q len k (0, 0) hk
    have hbd : ∀ k, k < ((List.range len).map q).length → 0 ≤ (((List.range len).map q).getD k (0, 0)).1 ∧ (((List.range len).map q).getD k (0, 0)).1 ≤ 255 ∧ 0 ≤ (((List.range len).map q).getD k (0, 0)).2 ∧ (((List.range len).map q).getD k (0, 0)).2 ≤ 255 := fun k hk => by
      rw [hll] at hk
      rw [hget k hk]
      exact ⟨(hq k hk).2.2.1, (hq k hk).2.2.2.1, (hq k hk).2.2.2.2.1, (hq k hk).2.2.2.2.2⟩
    by_cases h0 : 0 < len
    · have hsp : a.spot = none := by simpa [Addr.add] using World.cell?_spot (hcell 0 (by omega)).1
      obtain ⟨b, o, spot⟩ := a
      obtain rfl : spot = none := hsp
      have hcc : ∀ k, k < len → b < W.heap.size ∧ W.cell? ⟨b, o + k * 2, none⟩ = some (.int .u8 (((List.range len).map q).getD k (0, 0)).1) ∧ W.cell? ⟨b, o + k * 2 + 1, none⟩ = some (.int .u8 (((List.range len).map q).getD k (0, 0)).2) := fun k hk => by
        have h1 := (hcell k (by omega)).1
        have h2 := (hcell k (by omega)).2.1
        rw [Go.WideShapes.add_plain, (hq k hk).1] at h1
        rw [Go.WideShapes.add_plain, (hq k hk).2.1, ← Nat.add_assoc] at h2
        rw [hget k hk]
        exact ⟨cell_lt h1, h1, h2⟩
      refine ⟨(List.range len).map q, some ⟨b, o, none⟩, cap, b, o, by rw [hll], fun _ => rfl, by rw [hll]; exact hcc, ⟨b, o, cap, .inl (by rw [hll]), by rw [hll]; omega, by rw [hll]; exact hcc⟩, hbd, by rw [hll]; exact hl, by rw [hll]; omega⟩
    · obtain rfl : len = 0 := by omega
      exact ⟨[], _, cap, 0, 0, rfl, fun h => absurd h (by simp), fun k hk => absurd hk (by simp), Pl.nil _ _ _ _, fun k hk => absurd hk (by simp), by simp, by simp⟩

end Go.Proofs.YtnddgkcgedkabaaDoor
