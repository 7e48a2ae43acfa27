/- The texts O9. -/
import Derived.Test.YtcaikkfcjeojiaaDoorM09
import Derived.Test.YtcaikkfcjeojiaaDoorM21
namespace Go.Proofs.YtcaikkfcjeojiaaDoor
open Go.ChangeShapes Go.WideShapes Go.ChangeAt Go.RowKit

theorem b_vals : Tryd.prog.bytesOf 23 = 24 := by kernel_rfl
theorem b_wds : Tryd.prog.bytesOf 22 = 24 := by kernel_rfl
theorem c_wds : Tryd.prog.cellsOf 22 = 1 := by kernel_rfl
/-- What a list of words may be. -/
def Fine1 (l : List Int) : Prop := (∀ y ∈ l, 0 ≤ y ∧ y ≤ 255) ∧ l.length ≤ 140737488355328
def Fine2 (l : List (List Int)) : Prop := l.length ≤ 140737488355328 ∧ ∀ k, k < l.length → Fine1 (l.getD k [])
def Fine3 (l : List (List (List Int))) : Prop := l.length ≤ 140737488355328 ∧ ∀ k, k < l.length → Fine2 (l.getD k [])
section
variable {H : Type} {enc : TypeId × Value → H} {W : World} {base : Nat} {sp : Nat → Bool} {held : Bool}
theorem vals_szf {fuel : Nat} {cs : List Value} {x : DataW H × List MemPlace} (hz : Wok 23 x.1) (h : DataW.trod enc Tryd.prog W base sp held fuel 23 cs = some x) : ∃ A l c, cs = [.slice A l.length c] ∧ Ks W W.heap.size (.slice A l.length c) l ∧ Fine1 l := by
  obtain ⟨s0, l0, e0, g0⟩ := vs_of h
  obtain ⟨k0, v0⟩ := ks_of g0
  obtain ⟨A, _, _, c, e, -⟩ := id k0
  subst e
  exact ⟨A, l0, c, e0, k0, v0, vals_sz hz (e0 ▸ h) rfl⟩
theorem wds_szl {fuel : Nat} {v : Value} {A : Option Addr} {n c : Nat} {x : DataW H × List MemPlace} (hz : Wok 22 x.1) (h : DataW.trod enc Tryd.prog W base sp held fuel 22 [v] = some x) (hv : v = .slice A n c) : n ≤ 140737488355328 := by
  subst hv
  rcases Go.Deep.open_slice Tryd.underlying22 h with ⟨e, -⟩ | ⟨a, len, cap, m, k, D, Pl, e, -, -, -, -, rfl, -⟩
  · simp only [List.cons.injEq, Value.slice.injEq, and_true] at e
    omega
  · simp only [List.cons.injEq, Value.slice.injEq, and_true] at e
    have h1 := hz ((((List.range len).map D).length + ((List.range (m - len)).map fun j => D (len + j)).length) * 24) (by simp only [DataW.weights, Tryd.underlying22, b_vals]; exact List.mem_cons_self)
    simp only [List.length_map, List.length_range, reachBytes] at h1
    omega
theorem wws_szl {fuel : Nat} {v : Value} {A : Option Addr} {n c : Nat} {x : DataW H × List MemPlace} (hz : Wok 34 x.1) (h : DataW.trod enc Tryd.prog W base sp held fuel 34 [v] = some x) (hv : v = .slice A n c) : n ≤ 140737488355328 := by
  subst hv
  rcases Go.Deep.open_slice Tryd.underlying34 h with ⟨e, -⟩ | ⟨a, len, cap, m, k, D, Pl, e, -, -, -, -, rfl, -⟩
  · simp only [List.cons.injEq, Value.slice.injEq, and_true] at e
    omega
  · simp only [List.cons.injEq, Value.slice.injEq, and_true] at e
    have h1 := hz ((((List.range len).map D).length + ((List.range (m - len)).map fun j => D (len + j)).length) * 24) (by simp only [DataW.weights, Tryd.underlying34, b_wds]; exact List.mem_cons_self)
    simp only [List.length_map, List.length_range, reachBytes] at h1
    omega
theorem wds_szf {fuel : Nat} {cs : List Value} {x : DataW H × List MemPlace} (hz : Wok 22 x.1) (h : DataW.trod enc Tryd.prog W base sp held fuel 22 cs = some x) : ∃ A l c, cs = [.slice A l.length c] ∧ Wrds W W.heap.size (.slice A l.length c) l ∧ Fine2 l := by
  obtain ⟨v, l, rfl, ha⟩ := arr_sz (α := List Int) (d := []) (R := fun w B b p q => WdsAt w B b p q ∧ Fine1 q) Tryd.underlying22 c_vals (by decide) (fun b p cs' y n h3 hc ht hb => by
    obtain ⟨A, l, c, rfl, hk, hf⟩ := vals_szf hb ht
    have := hc 0 (by decide)
    exact ⟨l, ⟨A, c, by simpa using this, hk⟩, hf⟩) hz h
  obtain ⟨h1, h2⟩ := Arr.two ha
  obtain ⟨A, _, _, c, e, -⟩ := id h1
  subst e
  exact ⟨A, l, c, rfl, h1, wds_szl hz h rfl, h2⟩
theorem wws_szf {fuel : Nat} {cs : List Value} {x : DataW H × List MemPlace} (hz : Wok 34 x.1) (h : DataW.trod enc Tryd.prog W base sp held fuel 34 cs = some x) : ∃ A l c, cs = [.slice A l.length c] ∧ Wwss W W.heap.size (.slice A l.length c) l ∧ Fine3 l := by
  obtain ⟨v, l, rfl, ha⟩ := arr_sz (α := List (List Int)) (d := []) (R := fun w B b p q => WwsAt w B b p q ∧ Fine2 q) Tryd.underlying34 c_wds (by decide) (fun b p cs' y n h3 hc ht hb => by
    obtain ⟨A, l, c, rfl, hk, hf⟩ := wds_szf hb ht
    have := hc 0 (by decide)
    exact ⟨l, ⟨A, c, by simpa using this, hk⟩, hf⟩) hz h
  obtain ⟨h1, h2⟩ := Arr.two ha
  obtain ⟨A, _, _, c, e, -⟩ := id h1
  subst e
  exact ⟨A, l, c, rfl, h1, wws_szl hz h rfl, h2⟩
def SttFine (s : Stt) : Prop := Fine1 s.dff ∧ Fine3 s.words ∧ Fine2 s.read
theorem c_state : Tryd.prog.cellsOf 36 = 3 := by kernel_rfl
theorem c_wws : Tryd.prog.cellsOf 34 = 1 := by kernel_rfl
set_option maxRecDepth 100000 in
/-- AN ARGUMENT that is a state. -/
theorem open_state {b0 : Nat} {r : Reach} {v : Value} {d : DataW H} {p : List MemPlace} (hN : Wok 36 d) (hv : Value.okWide Tryd.prog W r b0 36 v) (h : DataW.Trod enc Tryd.prog W base sp held 36 v d p) :
    ∃ (A0 A1 A2 : Option Addr) (c0 c1 c2 : Nat) (s : Stt), v = .agg #[.slice A0 s.dff.length c0, .slice A1 s.words.length c1, .slice A2 s.read.length c2] ∧ StR W W.heap.size A0 A1 A2 s.dff.length s.words.length s.read.length c0 c1 c2 s ∧ SttFine s := by
  obtain ⟨cs, rfl, hsz⟩ := okWide_struct Tryd.underlying36 hv
  obtain ⟨c0, c1, c2, rfl⟩ : ∃ c0 c1 c2, cs = #[c0, c1, c2] := by
    obtain ⟨l⟩ := cs
    match l, hsz.trans c_state with
    | [c0, c1, c2], _ => exact ⟨c0, c1, c2, rfl⟩
  obtain ⟨fuel, hf⟩ := h
  obtain ⟨xs, n, -, hd, -, hlen, hel⟩ := DataW.trod_struct Tryd.underlying36 hf
  match xs, hlen with
  | [y0, y1, y2], _ =>
    have hw : ∀ j t e, [23, 34, 22][j]? = some t → [y0.1, y1.1, y2.1][j]? = some e → Wok t e := fun j t e h1 h2 q hq => hN q (by
      rw [(Prod.mk.inj hd).1]
      simp only [DataW.weights, Tryd.underlying36]
      exact weach_mem (j := j) h1 h2 hq)
    have h0 : DataW.trod enc Tryd.prog W base sp held n 23 (([c0, c1, c2].drop 0).take (Tryd.prog.cellsOf 23)) = _ := hel 0 _ rfl
    have h1 : DataW.trod enc Tryd.prog W base sp held n 34 (([c0, c1, c2].drop 1).take (Tryd.prog.cellsOf 34)) = _ := hel 1 _ rfl
    have h2 : DataW.trod enc Tryd.prog W base sp held n 22 (([c0, c1, c2].drop 2).take (Tryd.prog.cellsOf 22)) = _ := hel 2 _ rfl
    rw [c_vals] at h0
    rw [c_wws] at h1
    rw [c_wds] at h2
    obtain ⟨A0, l0, q0, e0, k0, f0⟩ := vals_szf (hw 0 _ _ rfl rfl) (show DataW.trod enc Tryd.prog W base sp held n 23 [c0] = some y0 from h0)
    obtain ⟨A1, l1, q1, e1, k1, f1⟩ := wws_szf (hw 1 _ _ rfl rfl) (show DataW.trod enc Tryd.prog W base sp held n 34 [c1] = some y1 from h1)
    obtain ⟨A2, l2, q2, e2, k2, f2⟩ := wds_szf (hw 2 _ _ rfl rfl) (show DataW.trod enc Tryd.prog W base sp held n 22 [c2] = some y2 from h2)
    simp at e0 e1 e2
    subst e0 e1 e2
    exact ⟨A0, A1, A2, q0, q1, q2, ⟨l0, l1, l2⟩, rfl, ⟨k0, k1, k2⟩, f0, f1, f2⟩
end
end Go.Proofs.YtcaikkfcjeojiaaDoor
