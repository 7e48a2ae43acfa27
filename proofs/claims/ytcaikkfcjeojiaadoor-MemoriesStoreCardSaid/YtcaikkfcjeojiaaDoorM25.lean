/- The texts O9. -/
import Derived.Test.YtcaikkfcjeojiaaDoorM12
import Derived.Test.YtcaikkfcjeojiaaDoorM24
namespace Go.Proofs.YtcaikkfcjeojiaaDoor
open Go.ChangeShapes Go.WideShapes Go.ChangeAt Go.RowKit

theorem b_vals : Tryd.prog.bytesOf 23 = 24 := by kernel_rfl
/-- What a list of words may be. -/
def Fine1 (l : List Int) : Prop := (∀ y ∈ l, 0 ≤ y ∧ y ≤ 255) ∧ l.length ≤ 140737488355328
def Fine2 (l : List (List Int)) : Prop := l.length ≤ 140737488355328 ∧ ∀ k, k < l.length → Fine1 (l.getD k [])
section
variable {H : Type} {enc : TypeId × Value → H} {W : World} {base : Nat} {sp : Nat → Bool} {held : Bool}
theorem vals_szf {fuel : Nat} {cs : List Value} {x : DataW H × List MemPlace} (hz : Wok 23 x.1) (h : DataW.trod enc Tryd.prog W base sp held fuel 23 cs = some x) : ∃ A l c, cs = [.slice A l.length c] ∧ Ks W W.heap.size (.slice A l.length c) l ∧ Fine1 l := by
  obtain ⟨s0, l0, e0, g0⟩ := vs_of h
  obtain ⟨k0, v0⟩ := ks_of g0
  obtain ⟨A, _, _, c, e, -⟩ := id k0
  subst e
  exact ⟨A, l0, c, e0, k0, v0, vals_sz hz (e0 ▸ h) rfl⟩
theorem wds_szl {fuel : Nat} {v : Value} {A : Option Addr} {n c : Nat} {x : DataW H × List MemPlace} (hz : Wok 22 x.1) (h : DataW.trod enc Tryd.prog W base sp held fuel 22 [v] = some x) (hv : v = .slice A n c) : n ≤ 140737488355328 := by
  subst hv
  rcases Go.Deep.open_slice Tryd.underlying22 h with ⟨e, -⟩ | ⟨a, len, cap, m, k, D, Pl, e, -, -, -, -, rfl, -⟩
  · simp only [List.cons.injEq, Value.slice.injEq, and_true] at e
    omega
  · simp only [List.cons.injEq, Value.slice.injEq, and_true] at e
    have h1 := hz ((((List.range len).map D).length + ((List.range (m - len)).map fun j => D (len + j)).length) * 24) (by simp only [DataW.weights, Tryd.underlying22, b_vals]; exact List.mem_cons_self)
    simp only [List.length_map, List.length_range, reachBytes] at h1
    omega
theorem wds_szf {fuel : Nat} {cs : List Value} {x : DataW H × List MemPlace} (hz : Wok 22 x.1) (h : DataW.trod enc Tryd.prog W base sp held fuel 22 cs = some x) : ∃ A l c, cs = [.slice A l.length c] ∧ Wrds W W.heap.size (.slice A l.length c) l ∧ Fine2 l := by
  obtain ⟨v, l, rfl, ha⟩ := arr_sz (α := List Int) (d := []) (R := fun w B b p q => WdsAt w B b p q ∧ Fine1 q) Tryd.underlying22 c_vals (by decide) (fun b p cs' y n h3 hc ht hb => by
    obtain ⟨A, l, c, rfl, hk, hf⟩ := vals_szf hb ht
    have := hc 0 (by decide)
    exact ⟨l, ⟨A, c, by simpa using this, hk⟩, hf⟩) hz h
  obtain ⟨h1, h2⟩ := Arr.two ha
  obtain ⟨A, _, _, c, e, -⟩ := id h1
  subst e
  exact ⟨A, l, c, rfl, h1, wds_szl hz h rfl, h2⟩
set_option maxRecDepth 100000 in
/-- AN ARGUMENT of words. -/
theorem open_wds {b0 : Nat} {r : Reach} {v : Value} {d : DataW H} {p : List MemPlace} (hN : Wok 22 d) (hv : Value.okWide Tryd.prog W r b0 22 v) (h : DataW.Trod enc Tryd.prog W base sp held 22 v d p) :
    ∃ A l c, v = .slice A l.length c ∧ Wrds W W.heap.size (.slice A l.length c) l ∧ Fine2 l := by
  obtain ⟨A0, len, cap, rfl⟩ := okWide_slice Tryd.underlying22 hv
  obtain ⟨fuel, hf⟩ := h
  obtain ⟨A, l, c, e, h1, h2⟩ := wds_szf hN (show DataW.trod enc Tryd.prog W base sp held fuel 22 [.slice A0 len cap] = _ from hf)
  exact ⟨A, l, c, by simpa using e, h1, h2⟩
end
end Go.Proofs.YtcaikkfcjeojiaaDoor
