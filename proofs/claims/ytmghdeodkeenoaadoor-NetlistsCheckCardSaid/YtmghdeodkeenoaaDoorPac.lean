/- Arguments opened: a circuit. -/
import Derived.Test.YtmghdeodkeenoaaDoorPan
import Derived.Deep.Strs
import Derived.Lib.SmallJoins
namespace Go.Proofs.YtmghdeodkeenoaaDoor
open Go.ChangeShapes Go.WideShapes Go.ChangeAt Go.RowKit

theorem c_nd : Tryd.prog.cellsOf 49 = 4 := by kernel_rfl
theorem c_mm : Tryd.prog.cellsOf 70 = 3 := by kernel_rfl
theorem c_ct : Tryd.prog.cellsOf 27 = 4 := by kernel_rfl
theorem c_kd : Tryd.prog.cellsOf 36 = 1 := by kernel_rfl
theorem c_is : Tryd.prog.cellsOf 25 = 1 := by kernel_rfl

section
variable {H : Type} {enc : TypeId × Value → H} {W : World} {base : Nat} {sp : Nat → Bool} {held : Bool}

/-- A slice opened, whatever its elements are. -/
theorem arr_of {α : Type} [Inhabited α] {d : α} {sz : Nat} {R : World → Nat → Nat → Nat → α → Prop} {t e : TypeId} {fuel : Nat} {cs : List Value} {x : DataW H × List MemPlace} (ht : Tryd.prog.underlying t = some (.slice e)) (hsz : Tryd.prog.cellsOf e = sz) (hpos : 0 < sz)
    (hel : ∀ b p cs' y n, cs'.length = sz → (∀ j, j < sz → W.cell? ⟨b, p + j, none⟩ = cs'[j]?) → DataW.trod enc Tryd.prog W base sp held n e cs' = some y → ∃ a : α, R W W.heap.size b p a)
    (h : DataW.trod enc Tryd.prog W base sp held fuel t cs = some x) : ∃ v l, cs = [v] ∧ Arr d sz R W W.heap.size v l := by
  rcases Go.Deep.open_slice ht h with ⟨rfl, -⟩ | ⟨a, len, cap, m, n, D, Pl, rfl, -, hl, hm, hmm, -, hx⟩
  · exact ⟨_, [], rfl, Arr.nil _ _ _ _ _⟩
  · have hlm : len ≤ m := by rw [hmm]; split <;> omega
    rw [hsz] at hx
    by_cases h0 : 0 < len
    · have hsp : a.spot = none := by
        obtain ⟨cs', h1, -⟩ := hx 0 (by omega)
        obtain ⟨-, h3, h4⟩ := World.cells?_some h1
        have := h4 0 hpos
        rw [List.getElem?_eq_getElem (by omega)] at this
        simpa [Addr.add] using World.cell?_spot this
      obtain ⟨b, o, spot⟩ := a
      obtain rfl : spot = none := hsp
      have hk : ∀ i, i < len → ∃ q : α, b < W.heap.size ∧ R W W.heap.size b (o + i * sz) q := fun i hi => by
        obtain ⟨cs', h1, h2⟩ := hx i (by omega)
        obtain ⟨-, h3, h4⟩ := World.cells?_some h1
        have hc : ∀ j, j < sz → W.cell? ⟨b, o + i * sz + j, none⟩ = cs'[j]? := fun j hj => by
          have := h4 j hj
          rw [Go.WideShapes.add_plain, Go.WideShapes.add_plain] at this
          exact this
        obtain ⟨q, hq⟩ := hel b (o + i * sz) cs' _ _ h3 hc h2
        refine ⟨q, ?_, hq⟩
        have := hc 0 hpos
        rw [List.getElem?_eq_getElem (by omega)] at this
        exact cell_lt this
      obtain ⟨f, hf⟩ := Go.Deep.choose_lt hk
      refine ⟨_, (List.range len).map f, rfl, some ⟨b, o, none⟩, b, o, cap, by simp, fun _ => rfl, by simpa using hl, by simp; omega, fun k hk' => ?_⟩
      have hkl : k < len := by simpa using hk'
      have e : ((List.range len).map f).getD k d = f k := by simp [hkl, List.getD_eq_getElem?_getD]
      rw [e]
      exact hf k hkl
    · obtain rfl : len = 0 := by omega
      exact ⟨_, [], rfl, some a, 0, 0, cap, rfl, fun h => absurd h (by simp), by simp, by simp, fun k hk => absurd hk (by simp)⟩

theorem one_of {α : Type} {cs : List α} (h : cs.length = 1) : ∃ v, cs = [v] := by
  match cs, h with
  | [v], _ => exact ⟨v, rfl⟩
theorem ints_of {fuel : Nat} {cs : List Value} {x : DataW H × List MemPlace} (h : DataW.trod enc Tryd.prog W base sp held fuel 25 cs = some x) : ∃ v l, cs = [v] ∧ Is W W.heap.size v l :=
  arr_of Tryd.underlying25 c_int (by decide) (fun b p cs' y n h3 hc ht => by
    obtain ⟨z, rfl, -, -⟩ := DataW.trod_int Tryd.underlying3 ht
    exact ⟨z, by have := hc 0 (by decide); simpa [IntAt] using this⟩) h
theorem strs_of {fuel : Nat} {cs : List Value} {x : DataW H × List MemPlace} (h : DataW.trod enc Tryd.prog W base sp held fuel 23 cs = some x) : ∃ v l, cs = [v] ∧ Ss W W.heap.size v l :=
  arr_of Tryd.underlying23 c_str (by decide) (fun b p cs' y n h3 hc ht => by
    obtain ⟨s, rfl, -, hw⟩ := DataW.trod_string Tryd.underlying9 ht
    exact ⟨s, by have := hc 0 (by decide); simpa using this, hw⟩) h
set_option maxRecDepth 100000 in
theorem nodes_of {fuel : Nat} {cs : List Value} {x : DataW H × List MemPlace} (h : DataW.trod enc Tryd.prog W base sp held fuel 22 cs = some x) : ∃ v l, cs = [v] ∧ Ns W W.heap.size v l :=
  arr_of Tryd.underlying22 c_nd (by decide) (fun b p cs' y n h3 hc ht => by
    obtain ⟨y0, y1, y2, y3, n', -, -, h0, h1, h2, h3'⟩ := Joins.trod_struct4 Tryd.underlying49 ht
    match cs', h3 with
    | [u0, u1, u2, u3], _ =>
      rw [c_kd] at h0
      rw [c_is] at h1
      rw [c_int] at h2 h3'
      obtain ⟨k, e0, -, wk⟩ := DataW.trod_int Tryd.underlying36 h0
      obtain ⟨s, l, e1, hi⟩ := ints_of h1
      obtain ⟨m, e2, -, -⟩ := DataW.trod_int Tryd.underlying3 h2
      obtain ⟨t, e3, -, -⟩ := DataW.trod_int Tryd.underlying3 h3'
      simp at e0 e1 e2 e3
      subst e0 e1 e2 e3
      have q0 := hc 0 (by decide)
      have q1 := hc 1 (by decide)
      have q2 := hc 2 (by decide)
      have q3 := hc 3 (by decide)
      exact ⟨⟨k, l, m, t⟩, u1, q0, q1, q2, q3, hi, (bounds_u8 wk).1, (bounds_u8 wk).2⟩) h
set_option maxRecDepth 100000 in
theorem mems_of {fuel : Nat} {cs : List Value} {x : DataW H × List MemPlace} (h : DataW.trod enc Tryd.prog W base sp held fuel 24 cs = some x) : ∃ v l, cs = [v] ∧ Ms W W.heap.size v l :=
  arr_of Tryd.underlying24 c_mm (by decide) (fun b p cs' y n h3 hc ht => by
    obtain ⟨y0, y1, y2, n', -, -, h0, h1, h2⟩ := Go.Deep.trod_struct3 Tryd.underlying70 ht
    match cs', h3 with
    | [u0, u1, u2], _ =>
      rw [c_is] at h0 h1
      rw [c_int] at h2
      obtain ⟨s, l, e0, hi⟩ := ints_of h0
      obtain ⟨s', l', e1, hi'⟩ := ints_of h1
      obtain ⟨m, e2, -, -⟩ := DataW.trod_int Tryd.underlying3 h2
      simp at e0 e1 e2
      subst e0 e1 e2
      have q0 := hc 0 (by decide)
      have q1 := hc 1 (by decide)
      have q2 := hc 2 (by decide)
      exact ⟨⟨l, l', m⟩, u0, u1, q0, q1, q2, hi, hi'⟩) h
set_option maxRecDepth 100000 in
/-- AN ARGUMENT that is a circuit. -/
theorem open_circuit {b0 : Nat} {r : Reach} {v : Value} {d : DataW H} {p : List MemPlace} (hv : Value.okWide Tryd.prog W r b0 27 v) (h : DataW.Trod enc Tryd.prog W base sp held 27 v d p) : ∃ c : Ck, Cir W W.heap.size v c := by
  obtain ⟨v0, v1, v2, v3, y0, y1, y2, y3, n, rfl, -, -, h0, h1, h2, h3⟩ := Joins.open_agg4 Tryd.underlying27 (by kernel_rfl) c_ct hv h
  obtain ⟨_, l0, e0, k0⟩ := nodes_of h0
  obtain ⟨_, l1, e1, k1⟩ := strs_of h1
  obtain ⟨_, l2, e2, k2⟩ := mems_of h2
  obtain ⟨_, l3, e3, k3⟩ := ints_of h3
  simp at e0 e1 e2 e3
  subst e0 e1 e2 e3
  exact ⟨⟨l0, l1, l2, l3⟩, _, _, _, _, rfl, k0, k1, k2, k3⟩
end

end Go.Proofs.YtmghdeodkeenoaaDoor
