/- Arguments opened: a pair, a slice of pairs, an array of three pairs. -/
import Derived.Test.YtnddgkcgedkabaaDoorRw
import Derived.Test.YtnddgkcgedkabaaDoorPev
import Derived.Deep.Slices
import Derived.Deep.Fields
import Derived.ChangeSame
namespace Go.Proofs.YtnddgkcgedkabaaDoor
open Go.ChangeShapes Go.WideShapes Go.ChangeAt Go.RowKit

theorem cell_lt {W : World} {g i : Nat} {v : Value} (h : W.cell? ⟨g, i, none⟩ = some v) : g < W.heap.size := by
  rcases Nat.lt_or_ge g W.heap.size with hl | hl
  · exact hl
  · simp [World.cell?, Array.getElem?_eq_none hl] at h
theorem c_pair : Tryd.prog.cellsOf 28 = 2 := by kernel_rfl

section
variable {H : Type} {enc : TypeId × Value → H}
/-- AN ARGUMENT that is a pair. -/
theorem open_pair {W : World} {base b0 : Nat} {sp : Nat → Bool} {held : Bool} {r : Reach} {v : Value} {d : DataW H} {p : List MemPlace}
    (hv : Value.okWide Tryd.prog W r b0 28 v) (h : DataW.Trod enc Tryd.prog W base sp held 28 v d p) :
    ∃ a b : Int, v = .agg #[.int .u8 a, .int .u8 b] ∧ d = .agg [.lit (.int .u8 a), .lit (.int .u8 b)] ∧ p = [] ∧ 0 ≤ a ∧ a ≤ 255 ∧ 0 ≤ b ∧ b ≤ 255 := by
  obtain ⟨v0, v1, y0, y1, n, rfl, rfl, rfl, h0, h1⟩ := Joins.open_agg2 Tryd.underlying28 (by kernel_rfl) c_pair hv h
  obtain ⟨a, ea, ha, wa⟩ := DataW.trod_int Tryd.underlying26 h0
  obtain ⟨b, eb, hb, wb⟩ := DataW.trod_int Tryd.underlying26 h1
  obtain rfl : v0 = .int .u8 a := by simpa using ea
  obtain rfl : v1 = .int .u8 b := by simpa using eb
  refine ⟨a, b, rfl, by rw [ha, hb], by rw [ha, hb]; rfl, (bounds_u8 wa).1, (bounds_u8 wa).2, (bounds_u8 wb).1, (bounds_u8 wb).2⟩
end

end Go.Proofs.YtnddgkcgedkabaaDoor
