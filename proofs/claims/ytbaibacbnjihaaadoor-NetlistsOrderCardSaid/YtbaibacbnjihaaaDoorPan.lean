/- Arguments opened: a slice of texts. -/
import Derived.Test.YtbaibacbnjihaaaDoorRn
import Derived.Test.YtbaibacbnjihaaaDoorSli
import Derived.Deep.Slices
import Derived.Deep.Fields
import Derived.SliceStrings
import Derived.ChangeSame
namespace Go.Proofs.YtbaibacbnjihaaaDoor
open Go.ChangeShapes Go.WideShapes Go.ChangeAt Go.RowKit

theorem c_str : Tryd.prog.cellsOf 9 = 1 := by kernel_rfl
set_option maxRecDepth 100000 in
theorem open_texts {H : Type} {enc : TypeId × Value → H} {W : World} {base b0 : Nat} {sp : Nat → Bool} {held : Bool} {r : Reach} {v : Value} {d : DataW H} {p : List MemPlace}
    (hv : Value.okWide Tryd.prog W r b0 23 v) (h : DataW.Trod enc Tryd.prog W base sp held 23 v d p) : ∃ l : List ByteArray, Ss W W.heap.size v l := by
  obtain ⟨A, len, cap, rfl⟩ := okWide_slice Tryd.underlying23 hv
  obtain ⟨fuel, hf⟩ := h
  rcases open_strings Tryd.underlying23 Tryd.underlying9 c_str hf with ⟨hcs, -⟩ | ⟨a, len', cap', ss, hcs, -, hl, hm, hmm, -, hcell, hsz⟩
  · simp only [Value.cells, List.cons.injEq, Value.slice.injEq, and_true] at hcs
    obtain ⟨rfl, rfl, rfl⟩ := hcs
    exact ⟨[], Arr.nil _ _ _ _ _⟩
  · simp only [Value.cells, List.cons.injEq, Value.slice.injEq, and_true] at hcs
    obtain ⟨rfl, rfl, rfl⟩ := hcs
    have hlm : len ≤ ss.length := by rw [hmm]; split <;> omega
    have hll : (ss.take len).length = len := by simp; omega
    by_cases h0 : 0 < len
    · have hsp : a.spot = none := by simpa [Addr.add] using World.cell?_spot (hcell 0 (by omega))
      obtain ⟨b, o, spot⟩ := a
      obtain rfl : spot = none := hsp
      refine ⟨ss.take len, some ⟨b, o, none⟩, b, o, cap, by rw [hll], fun _ => rfl, by rw [hll]; exact hl, by rw [hll]; omega, fun k hk => ?_⟩
      rw [hll] at hk
      have hc := hcell k (by omega)
      rw [Go.WideShapes.add_plain] at hc
      have hg : (ss.take len).getD k ByteArray.empty = ss.getD k ByteArray.empty := by
        rw [List.getD_eq_getElem?_getD, List.getD_eq_getElem?_getD, List.getElem?_take, if_pos hk]
      refine ⟨cell_lt hc, ?_, ?_⟩
      · rw [hg, Nat.mul_one]; exact hc
      · rw [hg]
        refine hsz _ ?_
        rw [List.getD_eq_getElem?_getD, List.getElem?_eq_getElem (by omega)]
        exact List.getElem_mem _
    · obtain rfl : len = 0 := by omega
      exact ⟨[], some a, 0, 0, cap, rfl, fun h => absurd h (by simp), by simp, by simp, fun k hk => absurd hk (by simp)⟩

end Go.Proofs.YtbaibacbnjihaaaDoor
