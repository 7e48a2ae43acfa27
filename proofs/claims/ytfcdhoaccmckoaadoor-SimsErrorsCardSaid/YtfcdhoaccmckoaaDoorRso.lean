/- Further arguments of layer 6's laws: values; a pattern. -/
import Derived.Test.YtfcdhoaccmckoaaDoorRs
import Derived.Test.YtfcdhoaccmckoaaDoorPsz
namespace Go.Proofs.YtfcdhoaccmckoaaDoor
open Go.ChangeShapes Go.WideShapes Go.ChangeAt Go.RowKit

theorem c_val : Tryd.prog.cellsOf 40 = 1 := by kernel_rfl
theorem b_str : Tryd.prog.bytesOf 9 = 16 := by kernel_rfl
theorem b_val : Tryd.prog.bytesOf 40 = 1 := by kernel_rfl
theorem c_vals : Tryd.prog.cellsOf 28 = 1 := by kernel_rfl
theorem c_pat : Tryd.prog.cellsOf 30 = 2 := by kernel_rfl
section
variable {H : Type} {enc : TypeId × Value → H} {W : World} {base : Nat} {sp : Nat → Bool} {held : Bool}
theorem v8_of {fuel : Nat} {cs : List Value} {x : DataW H × List MemPlace} (h : DataW.trod enc Tryd.prog W base sp held fuel 40 cs = some x) : ∃ a : Int, cs = [.int .u8 a] ∧ U8 a := by
  obtain ⟨a, e, -, w⟩ := DataW.trod_int Tryd.underlying40 h
  exact ⟨a, e, bounds_u8 w⟩
theorem vs_of {fuel : Nat} {cs : List Value} {x : DataW H × List MemPlace} (h : DataW.trod enc Tryd.prog W base sp held fuel 28 cs = some x) : ∃ v l, cs = [v] ∧ Arr 0 1 (fun w B b p g => U8At w B b p g ∧ U8 g) W W.heap.size v l :=
  arr_of Tryd.underlying28 c_val (by decide) (fun b p cs' y n h3 hc ht => by
    obtain ⟨a, rfl, wa⟩ := v8_of ht
    exact ⟨a, by have := hc 0 (by decide); simpa [U8At] using this, wa⟩) h
theorem strs_sz {fuel : Nat} {v : Value} {l : List ByteArray} {x : DataW H × List MemPlace} (hz : Wok 23 x.1) (h : DataW.trod enc Tryd.prog W base sp held fuel 23 [v] = some x) (hi : Ss W W.heap.size v l) : l.length ≤ 17592186044416 := by
  obtain ⟨A, b, o, c, rfl, -⟩ := hi
  rcases Go.Deep.open_slice Tryd.underlying23 h with ⟨e, -⟩ | ⟨a, len, cap, m, n, D, Pl, e, -, -, -, -, rfl, -⟩
  · simp only [List.cons.injEq, Value.slice.injEq, and_true] at e
    omega
  · simp only [List.cons.injEq, Value.slice.injEq, and_true] at e
    have h1 := hz ((((List.range len).map D).length + ((List.range (m - len)).map fun j => D (len + j)).length) * 16) (by simp only [DataW.weights, Tryd.underlying23, b_str]; exact List.mem_cons_self)
    simp only [List.length_map, List.length_range, reachBytes] at h1
    omega
theorem vals_sz {fuel : Nat} {v : Value} {A : Option Addr} {n c : Nat} {x : DataW H × List MemPlace} (hz : Wok 28 x.1) (h : DataW.trod enc Tryd.prog W base sp held fuel 28 [v] = some x) (hv : v = .slice A n c) : n ≤ 140737488355328 := by
  subst hv
  rcases Go.Deep.open_slice Tryd.underlying28 h with ⟨e, -⟩ | ⟨a, len, cap, m, k, D, Pl, e, -, -, -, -, rfl, -⟩
  · simp only [List.cons.injEq, Value.slice.injEq, and_true] at e
    omega
  · simp only [List.cons.injEq, Value.slice.injEq, and_true] at e
    have h1 := hz ((((List.range len).map D).length + ((List.range (m - len)).map fun j => D (len + j)).length) * 1) (by simp only [DataW.weights, Tryd.underlying28, b_val]; exact List.mem_cons_self)
    simp only [List.length_map, List.length_range, reachBytes] at h1
    omega
set_option maxRecDepth 100000 in
/-- AN ARGUMENT of values. -/
theorem open_vs {b0 : Nat} {r : Reach} {v : Value} {d : DataW H} {p : List MemPlace} (hv : Value.okWide Tryd.prog W r b0 28 v) (h : DataW.Trod enc Tryd.prog W base sp held 28 v d p) :
    ∃ (A : Option Addr) (n c : Nat) (l : List Int), v = .slice A n c ∧ Ks W W.heap.size (.slice A n c) l ∧ (∀ y ∈ l, 0 ≤ y ∧ y ≤ 255) := by
  obtain ⟨A, len, cap, rfl⟩ := okWide_slice Tryd.underlying28 hv
  obtain ⟨fuel, hf⟩ := h
  obtain ⟨s0, l0, e0, g0⟩ := vs_of hf
  obtain rfl : s0 = Value.slice A len cap := by simpa [Value.cells] using e0.symm
  obtain ⟨k0, v0⟩ := ks_of g0
  exact ⟨A, len, cap, l0, rfl, k0, v0⟩
/-- What the laws' few asks of memory. -/
structure Bearz (c : Ck) : Prop where
  b : Bear c
  n : c.names.length ≤ 17592186044416
  o : c.outs.length ≤ 17592186044416
set_option maxRecDepth 100000 in
/-- AN ARGUMENT that is a circuit, all of whose slices have their bytes in memory. -/
theorem open_circuit_szz {b0 : Nat} {r : Reach} {v : Value} {d : DataW H} {p : List MemPlace} (hN : Wok 27 d) (hv : Value.okWide Tryd.prog W r b0 27 v) (h : DataW.Trod enc Tryd.prog W base sp held 27 v d p) :
    ∃ c : Ck, Cir W W.heap.size v c ∧ Bearz c := by
  obtain ⟨v0, v1, v2, v3, y0, y1, y2, y3, n, rfl, hd, -, h0, h1, h2, h3⟩ := Joins.open_agg4 Tryd.underlying27 (by kernel_rfl) c_ct hv h
  have hw : ∀ j t e, [22, 23, 24, 25][j]? = some t → [y0.1, y1.1, y2.1, y3.1][j]? = some e → Wok t e := fun j t e h1 h2 q hq => hN q (by
    rw [hd]
    simp only [DataW.weights, Tryd.underlying27]
    exact weach_mem (j := j) h1 h2 hq)
  obtain ⟨_, l0, e0, k0, hk⟩ := nodes_sz (hw 0 _ _ rfl rfl) h0
  obtain ⟨_, l1, e1, k1⟩ := strs_of h1
  obtain ⟨_, l2, e2, k2, hm⟩ := mems_sz (hw 2 _ _ rfl rfl) h2
  obtain ⟨_, l3, e3, k3⟩ := ints_of h3
  simp at e0 e1 e2 e3
  subst e0 e1 e2 e3
  exact ⟨⟨l0, l1, l2, l3⟩, ⟨_, _, _, _, rfl, k0, k1, k2, k3⟩, ⟨⟨hk, hm⟩, strs_sz (hw 1 _ _ rfl rfl) h1 k1, ints_sz (hw 3 _ _ rfl rfl) h3 k3⟩⟩
set_option maxRecDepth 100000 in
/-- AN ARGUMENT that is a pattern. -/
theorem open_pat {b0 : Nat} {r : Reach} {v : Value} {d : DataW H} {p : List MemPlace} (hN : Wok 30 d) (hv : Value.okWide Tryd.prog W r b0 30 v) (h : DataW.Trod enc Tryd.prog W base sp held 30 v d p) :
    ∃ (A B : Option Addr) (n m c e : Nat) (l k : List Int), v = .agg #[.slice A n c, .slice B m e] ∧ Ks W W.heap.size (.slice A n c) l ∧ Ks W W.heap.size (.slice B m e) k ∧ (∀ y ∈ l, 0 ≤ y ∧ y ≤ 255) ∧ (∀ y ∈ k, 0 ≤ y ∧ y ≤ 255) ∧ n ≤ 140737488355328 ∧ m ≤ 140737488355328 := by
  obtain ⟨cs, rfl, hsz⟩ := okWide_struct Tryd.underlying30 hv
  obtain ⟨c0, c1, rfl⟩ : ∃ c0 c1, cs = #[c0, c1] := by
    obtain ⟨l⟩ := cs
    match l, hsz.trans c_pat with
    | [c0, c1], _ => exact ⟨c0, c1, rfl⟩
  obtain ⟨fuel, hf⟩ := h
  obtain ⟨xs, n, -, hd, -, hlen, hel⟩ := DataW.trod_struct Tryd.underlying30 hf
  match xs, hlen with
  | [y0, y1], _ =>
    have hw : ∀ j t e, [28, 28][j]? = some t → [y0.1, y1.1][j]? = some e → Wok t e := fun j t e h1 h2 q hq => hN q (by
      rw [(Prod.mk.inj hd).1]
      simp only [DataW.weights, Tryd.underlying30]
      exact weach_mem (j := j) h1 h2 hq)
    have h0 : DataW.trod enc Tryd.prog W base sp held n 28 (([c0, c1].drop 0).take (Tryd.prog.cellsOf 28)) = _ := hel 0 _ rfl
    have h1 : DataW.trod enc Tryd.prog W base sp held n 28 (([c0, c1].drop 1).take (Tryd.prog.cellsOf 28)) = _ := hel 1 _ rfl
    rw [c_vals] at h0 h1
    have h0' : DataW.trod enc Tryd.prog W base sp held n 28 [c0] = some y0 := h0
    have h1' : DataW.trod enc Tryd.prog W base sp held n 28 [c1] = some y1 := h1
    obtain ⟨s0, l0, e0, g0⟩ := vs_of h0'
    obtain ⟨s1, l1, e1, g1⟩ := vs_of h1'
    simp at e0 e1
    subst e0 e1
    obtain ⟨k0, v0⟩ := ks_of g0
    obtain ⟨k1, v1⟩ := ks_of g1
    obtain ⟨A, n0, cA, rfl⟩ := ks_slice k0
    obtain ⟨B, n1, cB, rfl⟩ := ks_slice k1
    exact ⟨A, B, n0, n1, cA, cB, l0, l1, rfl, k0, k1, v0, v1, vals_sz (hw 0 _ _ rfl rfl) h0' rfl, vals_sz (hw 1 _ _ rfl rfl) h1' rfl⟩
end
end Go.Proofs.YtfcdhoaccmckoaaDoor
