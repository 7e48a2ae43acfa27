/- The texts Psz Rso. -/
import Derived.Test.YtcaikkfcjeojiaaDoorM04
import Derived.Test.YtcaikkfcjeojiaaDoorM07
import Derived.SizedLaws
import Derived.Test.YtcaikkfcjeojiaaDoorM11
namespace Go.Proofs.YtcaikkfcjeojiaaDoor
open Go.ChangeShapes Go.WideShapes Go.ChangeAt Go.RowKit

/-- What a datum holds fits in memory, slice by slice. -/
def Wok {H : Type} (t : TypeId) (d : DataW H) : Prop := ∀ n ∈ DataW.weights Tryd.prog t d, n ≤ reachBytes
theorem wall_mem {H : Type} {P : Program} {e : TypeId} {d : DataW H} {n : Nat} : ∀ {l : List (DataW H)}, d ∈ l → n ∈ DataW.weights P e d → n ∈ DataW.weightsAll P e l
  | x :: l, h, hn => by
    rw [DataW.weightsAll]
    rcases List.mem_cons.1 h with rfl | h
    · exact List.mem_append_left _ hn
    · exact List.mem_append_right _ (wall_mem h hn)
theorem weach_mem {H : Type} {P : Program} {t : TypeId} {d : DataW H} {n : Nat} : ∀ {ts : List TypeId} {ds : List (DataW H)} {j : Nat}, ts[j]? = some t → ds[j]? = some d → n ∈ DataW.weights P t d → n ∈ DataW.weightsEach P ts ds
  | t' :: ts, d' :: ds, 0, ht, hd, hn => by
    simp at ht hd
    subst ht hd
    rw [DataW.weightsEach]
    exact List.mem_append_left _ hn
  | t' :: ts, d' :: ds, j + 1, ht, hd, hn => by
    rw [DataW.weightsEach]
    exact List.mem_append_right _ (weach_mem (j := j) (by simpa using ht) (by simpa using hd) hn)
section
variable {H : Type} {enc : TypeId × Value → H} {W : World} {base : Nat} {sp : Nat → Bool} {held : Bool}
/-- A slice opened, whose elements fit. -/
theorem arr_sz {α : Type} [Inhabited α] {d : α} {sz : Nat} {R : World → Nat → Nat → Nat → α → Prop} {t e : TypeId} {fuel : Nat} {cs : List Value} {x : DataW H × List MemPlace} (ht : Tryd.prog.underlying t = some (.slice e)) (hsz : Tryd.prog.cellsOf e = sz) (hpos : 0 < sz)
    (hel : ∀ b p cs' y n, cs'.length = sz → (∀ j, j < sz → W.cell? ⟨b, p + j, none⟩ = cs'[j]?) → DataW.trod enc Tryd.prog W base sp held n e cs' = some y → Wok e y.1 → ∃ a : α, R W W.heap.size b p a)
    (hN : Wok t x.1)
    (h : DataW.trod enc Tryd.prog W base sp held fuel t cs = some x) : ∃ v l, cs = [v] ∧ Arr d sz R W W.heap.size v l := by
  rcases Go.Deep.open_slice ht h with ⟨rfl, -⟩ | ⟨a, len, cap, m, n, D, Pl, rfl, -, hl, hm, hmm, rfl, hx⟩
  · exact ⟨_, [], rfl, Arr.nil _ _ _ _ _⟩
  · have hlm : len ≤ m := by rw [hmm]; split <;> omega
    have hD : ∀ i, i < len → Wok e (D i) := fun i hi q hq => hN q (by
      simp only [DataW.weights, ht]
      exact List.mem_cons_of_mem _ (List.mem_append_left _ (wall_mem (l := (List.range len).map D) (List.mem_map.2 ⟨i, List.mem_range.2 hi, rfl⟩) hq)))
    rw [hsz] at hx
    by_cases h0 : 0 < len
    · have hsp : a.spot = none := by
        obtain ⟨cs', h1, -⟩ := hx 0 (by omega)
        obtain ⟨-, h3, h4⟩ := World.cells?_some h1
        have := h4 0 hpos
        rw [List.getElem?_eq_getElem (by omega)] at this
        simpa [Addr.add] using World.cell?_spot this
      obtain ⟨b, o, spot⟩ := a
      obtain rfl : spot = none := hsp
      have hk : ∀ i, i < len → ∃ q : α, b < W.heap.size ∧ R W W.heap.size b (o + i * sz) q := fun i hi => by
        obtain ⟨cs', h1, h2⟩ := hx i (by omega)
        obtain ⟨-, h3, h4⟩ := World.cells?_some h1
        have hc : ∀ j, j < sz → W.cell? ⟨b, o + i * sz + j, none⟩ = cs'[j]? := fun j hj => by
          have := h4 j hj
          rw [Go.WideShapes.add_plain, Go.WideShapes.add_plain] at this
          exact this
        obtain ⟨q, hq⟩ := hel b (o + i * sz) cs' _ _ h3 hc h2 (hD i hi)
        refine ⟨q, ?_, hq⟩
        have := hc 0 hpos
        rw [List.getElem?_eq_getElem (by omega)] at this
        exact cell_lt this
      obtain ⟨f, hf⟩ := Go.Deep.choose_lt hk
      refine ⟨_, (List.range len).map f, rfl, some ⟨b, o, none⟩, b, o, cap, by simp, fun _ => rfl, by simpa using hl, by simp; omega, fun k hk' => ?_⟩
      have hkl : k < len := by simpa using hk'
      have e : ((List.range len).map f).getD k d = f k := by simp [hkl, List.getD_eq_getElem?_getD]
      rw [e]
      exact hf k hkl
    · obtain rfl : len = 0 := by omega
      exact ⟨_, [], rfl, some a, 0, 0, cap, rfl, fun h => absurd h (by simp), by simp, by simp, fun k hk => absurd hk (by simp)⟩

/-- What a copy can bear, slice by slice. -/
structure Bear (c : Ck) : Prop where
  i : ∀ k, k < c.nodes.length → (c.nodes.getD k default).ins.length ≤ 17592186044416
  m : ∀ k, k < c.mems.length → (c.mems.getD k default).addr.length ≤ 17592186044416 ∧ (c.mems.getD k default).data.length ≤ 17592186044416
end
end Go.Proofs.YtcaikkfcjeojiaaDoor

namespace Go.Proofs.YtcaikkfcjeojiaaDoor
open Go.ChangeShapes Go.WideShapes Go.ChangeAt Go.RowKit

theorem c_val : Tryd.prog.cellsOf 24 = 1 := by kernel_rfl
theorem b_val : Tryd.prog.bytesOf 24 = 1 := by kernel_rfl
theorem c_vals : Tryd.prog.cellsOf 23 = 1 := by kernel_rfl
section
variable {H : Type} {enc : TypeId × Value → H} {W : World} {base : Nat} {sp : Nat → Bool} {held : Bool}
theorem v8_of {fuel : Nat} {cs : List Value} {x : DataW H × List MemPlace} (h : DataW.trod enc Tryd.prog W base sp held fuel 24 cs = some x) : ∃ a : Int, cs = [.int .u8 a] ∧ U8 a := by
  obtain ⟨a, e, -, w⟩ := DataW.trod_int Tryd.underlying24 h
  exact ⟨a, e, bounds_u8 w⟩
theorem vs_of {fuel : Nat} {cs : List Value} {x : DataW H × List MemPlace} (h : DataW.trod enc Tryd.prog W base sp held fuel 23 cs = some x) : ∃ v l, cs = [v] ∧ Arr 0 1 (fun w B b p g => U8At w B b p g ∧ U8 g) W W.heap.size v l :=
  arr_of Tryd.underlying23 c_val (by decide) (fun b p cs' y n h3 hc ht => by
    obtain ⟨a, rfl, wa⟩ := v8_of ht
    exact ⟨a, by have := hc 0 (by decide); simpa [U8At] using this, wa⟩) h
theorem vals_sz {fuel : Nat} {v : Value} {A : Option Addr} {n c : Nat} {x : DataW H × List MemPlace} (hz : Wok 23 x.1) (h : DataW.trod enc Tryd.prog W base sp held fuel 23 [v] = some x) (hv : v = .slice A n c) : n ≤ 140737488355328 := by
  subst hv
  rcases Go.Deep.open_slice Tryd.underlying23 h with ⟨e, -⟩ | ⟨a, len, cap, m, k, D, Pl, e, -, -, -, -, rfl, -⟩
  · simp only [List.cons.injEq, Value.slice.injEq, and_true] at e
    omega
  · simp only [List.cons.injEq, Value.slice.injEq, and_true] at e
    have h1 := hz ((((List.range len).map D).length + ((List.range (m - len)).map fun j => D (len + j)).length) * 1) (by simp only [DataW.weights, Tryd.underlying23, b_val]; exact List.mem_cons_self)
    simp only [List.length_map, List.length_range, reachBytes] at h1
    omega
/-- What the laws' few asks of memory. -/
structure Bearz (c : Ck) : Prop where
  b : Bear c
  n : c.names.length ≤ 17592186044416
  o : c.outs.length ≤ 17592186044416
end
end Go.Proofs.YtcaikkfcjeojiaaDoor
