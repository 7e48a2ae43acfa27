/- An argument opened: an array of three pairs. -/
import Derived.Test.YtnddgkcgedkabaaDoorPar
namespace Go.Proofs.YtnddgkcgedkabaaDoor
open Go.ChangeShapes Go.WideShapes Go.ChangeAt Go.RowKit

theorem array6 {α : Type} {cs : Array α} (h : cs.size = 6) : ∃ c0 c1 c2 c3 c4 c5, cs = #[c0, c1, c2, c3, c4, c5] := by
  obtain ⟨l⟩ := cs
  match l, h with
  | [c0, c1, c2, c3, c4, c5], _ => exact ⟨c0, c1, c2, c3, c4, c5, rfl⟩

/-- Two cells that read as a pair. -/
theorem pair_cells {H : Type} {enc : TypeId × Value → H} {W : World} {base fuel : Nat} {sp : Nat → Bool} {held : Bool} {c0 c1 : Value} {x : DataW H × List MemPlace}
    (h : DataW.trod enc Tryd.prog W base sp held fuel 28 [c0, c1] = some x) :
    ∃ a b : Int, c0 = .int .u8 a ∧ c1 = .int .u8 b ∧ x = (.agg [.lit (.int .u8 a), .lit (.int .u8 b)], []) := by
  obtain ⟨y0, y1, n, hx, -, h0, h1⟩ := trod_struct2 Tryd.underlying28 h
  obtain ⟨a, ea, ha, -⟩ := DataW.trod_int Tryd.underlying26 h0
  obtain ⟨b, eb, hb, -⟩ := DataW.trod_int Tryd.underlying26 h1
  rw [c_value] at ea eb
  refine ⟨a, b, by simpa using ea, by simpa using eb, by rw [hx, ha, hb]; rfl⟩

/-- AN ARGUMENT that is an array of three pairs. -/
theorem open_three {H : Type} {enc : TypeId × Value → H} {W : World} {base b0 : Nat} {sp : Nat → Bool} {held : Bool} {r : Reach} {v : Value} {d : DataW H} {p : List MemPlace}
    (hv : Value.okWide Tryd.prog W r b0 43 v) (h : DataW.Trod enc Tryd.prog W base sp held 43 v d p) :
    ∃ a0 a1 a2 a3 a4 a5 : Int, v = .agg #[.int .u8 a0, .int .u8 a1, .int .u8 a2, .int .u8 a3, .int .u8 a4, .int .u8 a5] := by
  have c6 : Tryd.prog.cellsOf 43 = 6 := by kernel_rfl
  simp only [Value.okWide, Tryd.underlying43] at hv
  obtain ⟨cs, rfl, hsz, -⟩ := hv
  obtain ⟨c0, c1, c2, c3, c4, c5, rfl⟩ := array6 (hsz.trans c6)
  obtain ⟨fuel, hf⟩ := h
  obtain ⟨xs, m, -, hx, hlen, hn, hel⟩ := DataW.trod_array Tryd.underlying43 hf
  match xs, hn with
  | [x0, x1, x2], _ =>
    have e0 := hel 0 (by decide)
    have e1 := hel 1 (by decide)
    have e2 := hel 2 (by decide)
    rw [c_pair] at e0 e1 e2
    obtain ⟨a0, a1, rfl, rfl, -⟩ := pair_cells (show DataW.trod _ _ _ _ _ _ _ _ [c0, c1] = some x0 from e0)
    obtain ⟨a2, a3, rfl, rfl, -⟩ := pair_cells (show DataW.trod _ _ _ _ _ _ _ _ [c2, c3] = some x1 from e1)
    obtain ⟨a4, a5, rfl, rfl, -⟩ := pair_cells (show DataW.trod _ _ _ _ _ _ _ _ [c4, c5] = some x2 from e2)
    exact ⟨a0, a1, a2, a3, a4, a5, rfl⟩

end Go.Proofs.YtnddgkcgedkabaaDoor
