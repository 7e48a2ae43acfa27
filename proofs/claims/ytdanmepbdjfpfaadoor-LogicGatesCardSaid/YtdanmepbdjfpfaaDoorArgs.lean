/- Arguments that are slices of values, opened. -/
import Derived.Test.YtdanmepbdjfpfaaDoorRow
import Derived.Test.YtdanmepbdjfpfaaDoorSome
namespace Go.Proofs.YtdanmepbdjfpfaaDoor
open Go.ChangeShapes Go.WideShapes Go.ChangeAt Go.RowKit

theorem cell_lt {W : World} {g i : Nat} {v : Value} (h : W.cell? ⟨g, i, none⟩ = some v) : g < W.heap.size := by
  rcases Nat.lt_or_ge g W.heap.size with hl | hl
  · exact hl
  · simp [World.cell?, Array.getElem?_eq_none hl] at h

/-- AN ARGUMENT that is a slice of values: it reads as a list of bytes. -/
theorem open_vals {H : Type} {enc : TypeId × Value → H} {W : World} {base b0 : Nat} {sp : Nat → Bool} {held : Bool} {r : Reach} {v : Value} {d : DataW H} {p : List MemPlace}
    (hv : Value.okWide Tryd.prog W r b0 22 v) (h : DataW.Trod enc Tryd.prog W base sp held 22 v d p) :
    ∃ (l : List Int) (A : Option Addr) (c b o : Nat), v = .slice A l.length c ∧ (0 < l.length → A = some ⟨b, o, none⟩) ∧ (∀ k, k < l.length → b < W.heap.size ∧ W.cell? ⟨b, o + k, none⟩ = some (.int .u8 (l.getD k 0))) ∧
      Vs W W.heap.size v l ∧ (∀ k, k < l.length → 0 ≤ l.getD k 0 ∧ l.getD k 0 ≤ 255) ∧ l.length ≤ maxLen ∧ l.length ≤ c := by
  obtain ⟨A, len, cap, rfl⟩ := okWide_slice Tryd.underlying22 hv
  obtain ⟨fuel, hf⟩ := h
  rcases open_ints Tryd.underlying22 Tryd.underlying24 c_value hf with ⟨hcs, -⟩ | ⟨a, len', cap', zs, hcs, -, hl, hm, hz, -, hcell, hwz⟩
  · simp only [Value.cells, List.cons.injEq, Value.slice.injEq, and_true] at hcs
    obtain ⟨rfl, rfl, rfl⟩ := hcs
    exact ⟨[], none, 0, 0, 0, rfl, fun h => absurd h (by simp), fun k hk => absurd hk (by simp), Vs.nil _ _ _ _, fun k hk => absurd hk (by simp), by simp, by simp⟩
  · simp only [Value.cells, List.cons.injEq, Value.slice.injEq, and_true] at hcs
    obtain ⟨rfl, rfl, rfl⟩ := hcs
    have hlz : len ≤ zs.length := by rw [hz]; split <;> omega
    have hll : (zs.take len).length = len := by rw [List.length_take]; omega
    have hget : ∀ k, k < len → (zs.take len).getD k 0 = zs.getD k 0 := fun k hk => by
      rw [List.getD_eq_getElem?_getD, List.getD_eq_getElem?_getD, List.getElem?_take, if_pos hk]
    have hbd : ∀ k, k < len → 0 ≤ zs.getD k 0 ∧ zs.getD k 0 ≤ 255 := fun k hk => by
      rw [List.getD_eq_getElem?_getD, List.getElem?_eq_getElem (by omega)]
      exact bounds_u8 (hwz _ (List.getElem_mem (by omega)))
    by_cases h0 : 0 < len
    · obtain ⟨b, o, rfl, hc⟩ := ints_at hcell (by omega)
      have hcc : ∀ k, k < len → b < W.heap.size ∧ W.cell? ⟨b, o + k, none⟩ = some (.int .u8 ((zs.take len).getD k 0)) := fun k hk => by
        have := hc k (by omega)
        exact ⟨cell_lt this, by rw [hget k hk]; exact this⟩
      refine ⟨zs.take len, some ⟨b, o, none⟩, cap, b, o, by rw [hll], fun _ => rfl, by rw [hll]; exact hcc, ⟨b, o, cap, .inl (by rw [hll]), by rw [hll]; omega, by rw [hll]; exact hcc⟩, ?_, by rw [hll]; omega, by rw [hll]; exact hl⟩
      rw [hll]
      exact fun k hk => by rw [hget k hk]; exact hbd k hk
    · obtain rfl : len = 0 := by omega
      exact ⟨[], _, cap, 0, 0, rfl, fun h => absurd h (by simp), fun k hk => absurd hk (by simp), Vs.nil _ _ _ _, fun k hk => absurd hk (by simp), by simp, by simp⟩

end Go.Proofs.YtdanmepbdjfpfaaDoor
