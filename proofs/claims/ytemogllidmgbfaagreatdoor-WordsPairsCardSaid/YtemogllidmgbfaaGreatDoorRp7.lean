/- A further argument of layer 7's laws: a slice of pairs. -/
import Derived.Test.YtemogllidmgbfaaGreatDoorM41
import Derived.Test.YtemogllidmgbfaaGreatDoorWpr
namespace Go.Proofs.YtemogllidmgbfaaGreatDoor
open Go.ChangeShapes Go.WideShapes Go.ChangeAt Go.RowKit
theorem c_pr7 : Tryz.prog.cellsOf 72 = 2 := by kernel_rfl
section
variable {H : Type} {enc : TypeId × Value → H} {W : World} {base : Nat} {sp : Nat → Bool} {held : Bool}
set_option maxRecDepth 100000 in
/-- AN ARGUMENT that is a slice of pairs. -/
theorem open_pr7 {b0 : Nat} {r : Reach} {v : Value} {d : DataW H} {p : List MemPlace} (hv : Value.okWide Tryz.prog W r b0 69 v) (h : DataW.Trod enc Tryz.prog W base sp held 69 v d p) :
    ∃ (A : Option Addr) (n c : Nat) (l : List (Int × Int)), v = .slice A n c ∧ Prs7 W W.heap.size (.slice A n c) l := by
  obtain ⟨A, len, cap, rfl⟩ := okWide_slice Tryz.underlying69 hv
  obtain ⟨fuel, hf⟩ := h
  obtain ⟨s0, l0, e0, g0⟩ := arr_of (α := Int × Int) (d := (0, 0)) (sz := 2) (R := PrAt) Tryz.underlying69 c_pr7 (by decide) (fun b p cs' y n h3 hc ht => by
    match cs', h3 with
    | [u0, u1], _ =>
      obtain ⟨y0, y1, n', hyx, -, h0, h1⟩ := trod_struct2 Tryz.underlying72 ht
      rw [c_val] at h0 h1
      obtain ⟨a, e0, wa⟩ := v8_of h0
      obtain ⟨b', e1, wb⟩ := v8_of h1
      simp at e0 e1
      subst e0 e1
      exact ⟨(a, b'), by have := hc 0 (by decide); simpa using this, by have := hc 1 (by decide); simpa using this, wa, wb⟩) hf
  obtain rfl : s0 = Value.slice A len cap := by simpa [Value.cells] using e0.symm
  exact ⟨A, len, cap, l0, rfl, g0⟩
end
end Go.Proofs.YtemogllidmgbfaaGreatDoor
