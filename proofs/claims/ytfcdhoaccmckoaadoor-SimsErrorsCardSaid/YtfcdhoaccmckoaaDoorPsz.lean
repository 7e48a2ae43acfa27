/- Arguments opened: a circuit whose slices have their bytes in memory. -/
import Derived.Test.YtfcdhoaccmckoaaDoorRs
import Derived.Test.YtfcdhoaccmckoaaDoorOwn
import Derived.SizedLaws
namespace Go.Proofs.YtfcdhoaccmckoaaDoor
open Go.ChangeShapes Go.WideShapes Go.ChangeAt Go.RowKit

/-- What a datum holds fits in memory, slice by slice. -/
def Wok {H : Type} (t : TypeId) (d : DataW H) : Prop := ∀ n ∈ DataW.weights Tryd.prog t d, n ≤ reachBytes
theorem wall_mem {H : Type} {P : Program} {e : TypeId} {d : DataW H} {n : Nat} : ∀ {l : List (DataW H)}, d ∈ l → n ∈ DataW.weights P e d → n ∈ DataW.weightsAll P e l
  | x :: l, h, hn => by
    rw [DataW.weightsAll]
    rcases List.mem_cons.1 h with rfl | h
    · exact List.mem_append_left _ hn
    · exact List.mem_append_right _ (wall_mem h hn)
theorem weach_mem {H : Type} {P : Program} {t : TypeId} {d : DataW H} {n : Nat} : ∀ {ts : List TypeId} {ds : List (DataW H)} {j : Nat}, ts[j]? = some t → ds[j]? = some d → n ∈ DataW.weights P t d → n ∈ DataW.weightsEach P ts ds
  | t' :: ts, d' :: ds, 0, ht, hd, hn => by
    simp at ht hd
    subst ht hd
    rw [DataW.weightsEach]
    exact List.mem_append_left _ hn
  | t' :: ts, d' :: ds, j + 1, ht, hd, hn => by
    rw [DataW.weightsEach]
    exact List.mem_append_right _ (weach_mem (j := j) (by simpa using ht) (by simpa using hd) hn)
theorem b_int : Tryd.prog.bytesOf 3 = 8 := by kernel_rfl

section
variable {H : Type} {enc : TypeId × Value → H} {W : World} {base : Nat} {sp : Nat → Bool} {held : Bool}
theorem ints_sz {fuel : Nat} {v : Value} {l : List Int} {x : DataW H × List MemPlace} (hz : Wok 25 x.1) (h : DataW.trod enc Tryd.prog W base sp held fuel 25 [v] = some x) (hi : Is W W.heap.size v l) : l.length ≤ 17592186044416 := by
  obtain ⟨A, b, o, c, rfl, -⟩ := hi
  rcases Go.Deep.open_slice Tryd.underlying25 h with ⟨e, -⟩ | ⟨a, len, cap, m, n, D, Pl, e, -, -, -, -, rfl, -⟩
  · simp only [List.cons.injEq, Value.slice.injEq, and_true] at e
    omega
  · simp only [List.cons.injEq, Value.slice.injEq, and_true] at e
    have h1 := hz ((((List.range len).map D).length + ((List.range (m - len)).map fun j => D (len + j)).length) * 8) (by simp only [DataW.weights, Tryd.underlying25, b_int]; exact List.mem_cons_self)
    simp only [List.length_map, List.length_range, reachBytes] at h1
    omega

/-- A slice opened, whose elements fit. -/
theorem arr_sz {α : Type} [Inhabited α] {d : α} {sz : Nat} {R : World → Nat → Nat → Nat → α → Prop} {t e : TypeId} {fuel : Nat} {cs : List Value} {x : DataW H × List MemPlace} (ht : Tryd.prog.underlying t = some (.slice e)) (hsz : Tryd.prog.cellsOf e = sz) (hpos : 0 < sz)
    (hel : ∀ b p cs' y n, cs'.length = sz → (∀ j, j < sz → W.cell? ⟨b, p + j, none⟩ = cs'[j]?) → DataW.trod enc Tryd.prog W base sp held n e cs' = some y → Wok e y.1 → ∃ a : α, R W W.heap.size b p a)
    (hN : Wok t x.1)
    (h : DataW.trod enc Tryd.prog W base sp held fuel t cs = some x) : ∃ v l, cs = [v] ∧ Arr d sz R W W.heap.size v l := by
  rcases Go.Deep.open_slice ht h with ⟨rfl, -⟩ | ⟨a, len, cap, m, n, D, Pl, rfl, -, hl, hm, hmm, rfl, hx⟩
  · exact ⟨_, [], rfl, Arr.nil _ _ _ _ _⟩
  · have hlm : len ≤ m := by rw [hmm]; split <;> omega
    have hD : ∀ i, i < len → Wok e (D i) := fun i hi q hq => hN q (by
      simp only [DataW.weights, ht]
      exact List.mem_cons_of_mem _ (List.mem_append_left _ (wall_mem (l := (List.range len).map D) (List.mem_map.2 ⟨i, List.mem_range.2 hi, rfl⟩) hq)))
    rw [hsz] at hx
    by_cases h0 : 0 < len
    · have hsp : a.spot = none := by
        obtain ⟨cs', h1, -⟩ := hx 0 (by omega)
        obtain ⟨-, h3, h4⟩ := World.cells?_some h1
        have := h4 0 hpos
        rw [List.getElem?_eq_getElem (by omega)] at this
        simpa [Addr.add] using World.cell?_spot this
      obtain ⟨b, o, spot⟩ := a
      obtain rfl : spot = none := hsp
      have hk : ∀ i, i < len → ∃ q : α, b < W.heap.size ∧ R W W.heap.size b (o + i * sz) q := fun i hi => by
        obtain ⟨cs', h1, h2⟩ := hx i (by omega)
        obtain ⟨-, h3, h4⟩ := World.cells?_some h1
        have hc : ∀ j, j < sz → W.cell? ⟨b, o + i * sz + j, none⟩ = cs'[j]? := fun j hj => by
          have := h4 j hj
          rw [Go.WideShapes.add_plain, Go.WideShapes.add_plain] at this
          exact this
        obtain ⟨q, hq⟩ := hel b (o + i * sz) cs' _ _ h3 hc h2 (hD i hi)
        refine ⟨q, ?_, hq⟩
        have := hc 0 hpos
        rw [List.getElem?_eq_getElem (by omega)] at this
        exact cell_lt this
      obtain ⟨f, hf⟩ := Go.Deep.choose_lt hk
      refine ⟨_, (List.range len).map f, rfl, some ⟨b, o, none⟩, b, o, cap, by simp, fun _ => rfl, by simpa using hl, by simp; omega, fun k hk' => ?_⟩
      have hkl : k < len := by simpa using hk'
      have e : ((List.range len).map f).getD k d = f k := by simp [hkl, List.getD_eq_getElem?_getD]
      rw [e]
      exact hf k hkl
    · obtain rfl : len = 0 := by omega
      exact ⟨_, [], rfl, some a, 0, 0, cap, rfl, fun h => absurd h (by simp), by simp, by simp, fun k hk => absurd hk (by simp)⟩

set_option maxRecDepth 100000 in
theorem nodes_sz {fuel : Nat} {cs : List Value} {x : DataW H × List MemPlace} (hN : Wok 22 x.1) (h : DataW.trod enc Tryd.prog W base sp held fuel 22 cs = some x) : ∃ v l, cs = [v] ∧ Ns W W.heap.size v l ∧ ∀ k, k < l.length → (l.getD k default).ins.length ≤ 17592186044416 := by
  obtain ⟨v, l, rfl, ha⟩ := arr_sz (α := Nd) (d := default) (R := fun w B b p q => NdAt w B b p q ∧ q.ins.length ≤ 17592186044416) Tryd.underlying22 c_nd (by decide) (fun b p cs' y n h3 hc ht hb => by
    obtain ⟨y0, y1, y2, y3, n', hy, -, h0, h1, h2, h3'⟩ := Joins.trod_struct4 Tryd.underlying62 ht
    match cs', h3 with
    | [u0, u1, u2, u3], _ =>
      rw [c_kd] at h0
      rw [c_is] at h1
      rw [c_int] at h2 h3'
      obtain ⟨k, e0, -, wk⟩ := DataW.trod_int Tryd.underlying43 h0
      obtain ⟨s, l, e1, hi⟩ := ints_of h1
      obtain ⟨m, e2, -, -⟩ := DataW.trod_int Tryd.underlying3 h2
      obtain ⟨t, e3, -, -⟩ := DataW.trod_int Tryd.underlying3 h3'
      simp at e0 e1 e2 e3
      subst e0 e1 e2 e3
      have hw : Wok 25 y1.1 := fun q hq => hb q (by
        rw [hy]
        show q ∈ DataW.weights _ _ (.agg [y0.1, y1.1, y2.1, y3.1])
        simp only [DataW.weights, Tryd.underlying62]
        exact weach_mem (j := 1) rfl rfl hq)
      have hl : l.length ≤ 17592186044416 := ints_sz (v := u1) hw (by simpa using h1) hi
      have q0 := hc 0 (by decide)
      have q1 := hc 1 (by decide)
      have q2 := hc 2 (by decide)
      have q3 := hc 3 (by decide)
      exact ⟨⟨k, l, m, t⟩, ⟨u1, q0, q1, q2, q3, hi, (bounds_u8 wk).1, (bounds_u8 wk).2⟩, hl⟩) hN h
  refine ⟨v, l, rfl, ?_, ?_⟩
  · obtain ⟨A, b, o, c, h1, h2, h3, h4, h5⟩ := ha
    exact ⟨A, b, o, c, h1, h2, h3, h4, fun k hk => ⟨(h5 k hk).1, (h5 k hk).2.1⟩⟩
  · obtain ⟨A, b, o, c, h1, h2, h3, h4, h5⟩ := ha
    exact fun k hk => (h5 k hk).2.2
set_option maxRecDepth 100000 in
theorem mems_sz {fuel : Nat} {cs : List Value} {x : DataW H × List MemPlace} (hN : Wok 24 x.1) (h : DataW.trod enc Tryd.prog W base sp held fuel 24 cs = some x) : ∃ v l, cs = [v] ∧ Ms W W.heap.size v l ∧ ∀ k, k < l.length → (l.getD k default).addr.length ≤ 17592186044416 ∧ (l.getD k default).data.length ≤ 17592186044416 := by
  obtain ⟨v, l, rfl, ha⟩ := arr_sz (α := Mm) (d := default) (R := fun w B b p q => MmAt w B b p q ∧ q.addr.length ≤ 17592186044416 ∧ q.data.length ≤ 17592186044416) Tryd.underlying24 c_mm (by decide) (fun b p cs' y n h3 hc ht hb => by
    obtain ⟨y0, y1, y2, n', hy, -, h0, h1, h2⟩ := Go.Deep.trod_struct3 Tryd.underlying92 ht
    match cs', h3 with
    | [u0, u1, u2], _ =>
      rw [c_is] at h0 h1
      rw [c_int] at h2
      obtain ⟨s, l, e0, hi⟩ := ints_of h0
      obtain ⟨s', l', e1, hi'⟩ := ints_of h1
      obtain ⟨m, e2, -, -⟩ := DataW.trod_int Tryd.underlying3 h2
      simp at e0 e1 e2
      subst e0 e1 e2
      have hw : ∀ j t d, [25, 25, 3][j]? = some t → [y0.1, y1.1, y2.1][j]? = some d → Wok t d := fun j t d h1 h2 q hq => hb q (by
        rw [hy]
        show q ∈ DataW.weights _ _ (.agg [y0.1, y1.1, y2.1])
        simp only [DataW.weights, Tryd.underlying92]
        exact weach_mem (j := j) h1 h2 hq)
      have hl : l.length ≤ 17592186044416 := ints_sz (v := u0) (hw 0 _ _ rfl rfl) (by simpa using h0) hi
      have hl' : l'.length ≤ 17592186044416 := ints_sz (v := u1) (hw 1 _ _ rfl rfl) (by simpa using h1) hi'
      have q0 := hc 0 (by decide)
      have q1 := hc 1 (by decide)
      have q2 := hc 2 (by decide)
      exact ⟨⟨l, l', m⟩, ⟨u0, u1, q0, q1, q2, hi, hi'⟩, hl, hl'⟩) hN h
  refine ⟨v, l, rfl, ?_, ?_⟩
  · obtain ⟨A, b, o, c, h1, h2, h3, h4, h5⟩ := ha
    exact ⟨A, b, o, c, h1, h2, h3, h4, fun k hk => ⟨(h5 k hk).1, (h5 k hk).2.1⟩⟩
  · obtain ⟨A, b, o, c, h1, h2, h3, h4, h5⟩ := ha
    exact fun k hk => (h5 k hk).2.2

/-- What a copy can bear, slice by slice. -/
structure Bear (c : Ck) : Prop where
  i : ∀ k, k < c.nodes.length → (c.nodes.getD k default).ins.length ≤ 17592186044416
  m : ∀ k, k < c.mems.length → (c.mems.getD k default).addr.length ≤ 17592186044416 ∧ (c.mems.getD k default).data.length ≤ 17592186044416
set_option maxRecDepth 100000 in
/-- AN ARGUMENT that is a circuit, whose slices have their bytes in memory. -/
theorem open_circuit_sz {b0 : Nat} {r : Reach} {v : Value} {d : DataW H} {p : List MemPlace} (hN : Wok 27 d) (hv : Value.okWide Tryd.prog W r b0 27 v) (h : DataW.Trod enc Tryd.prog W base sp held 27 v d p) :
    ∃ c : Ck, Cir W W.heap.size v c ∧ Bear c := by
  obtain ⟨v0, v1, v2, v3, y0, y1, y2, y3, n, rfl, hd, -, h0, h1, h2, h3⟩ := Joins.open_agg4 Tryd.underlying27 (by kernel_rfl) c_ct hv h
  have hw : ∀ j t e, [22, 23, 24, 25][j]? = some t → [y0.1, y1.1, y2.1, y3.1][j]? = some e → Wok t e := fun j t e h1 h2 q hq => hN q (by
    rw [hd]
    simp only [DataW.weights, Tryd.underlying27]
    exact weach_mem (j := j) h1 h2 hq)
  obtain ⟨_, l0, e0, k0, hk⟩ := nodes_sz (hw 0 _ _ rfl rfl) h0
  obtain ⟨_, l1, e1, k1⟩ := strs_of h1
  obtain ⟨_, l2, e2, k2, hm⟩ := mems_sz (hw 2 _ _ rfl rfl) h2
  obtain ⟨_, l3, e3, k3⟩ := ints_of h3
  simp at e0 e1 e2 e3
  subst e0 e1 e2 e3
  exact ⟨⟨l0, l1, l2, l3⟩, ⟨_, _, _, _, rfl, k0, k1, k2, k3⟩, ⟨hk, hm⟩⟩
end
theorem Bear.szok {c : Ck} (h : Bear c) (h1 : c.nodes.length ≤ 24) (h2 : c.names.length ≤ 24) (h3 : c.mems.length ≤ 18) (h4 : c.outs.length ≤ 24) : SzOk c :=
  ⟨by omega, by omega, by omega, by omega, h.i, fun k hk => (h.m k hk).1, fun k hk => (h.m k hk).2⟩

end Go.Proofs.YtfcdhoaccmckoaaDoor

