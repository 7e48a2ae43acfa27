/- The texts Rw7. -/
import Derived.Test.YtemogllidmgbfaaDoorM45
import Derived.Test.YtemogllidmgbfaaDoorM21
import Derived.Test.YtemogllidmgbfaaDoorM23
namespace Go.Proofs.YtemogllidmgbfaaDoor
open Go.ChangeShapes Go.WideShapes Go.ChangeAt Go.RowKit

theorem g_full : Tryd.prog.globalNamed "probecard/words.full" = some 0 := by kernel_rfl
theorem t_full : (Tryd.prog.globals[0]?).map (·.type) = some 61 := by kernel_rfl
theorem c_word : Tryd.prog.cellsOf 25 = 2 := by kernel_rfl
theorem c_u64 : Tryd.prog.cellsOf 23 = 1 := by kernel_rfl
section
variable {H : Type} {enc : TypeId × Value → H}
def fullD (i : Nat) : DataW H := .agg [.lit (.int .u64 (fullL.getD (2 * i) 0)), .lit (.int .u64 (fullL.getD (2 * i + 1) 0))]
theorem full_cells {W : World} {base fuel : Nat} {sp : Nat → Bool} {held : Bool} {cs : List Value} {p : List MemPlace}
    (h : DataW.trod enc Tryd.prog W base sp held fuel 61 cs = some (Rows.laid_probecard_words_full, p)) (k : Nat) (hk : k < 8) : cs[k]? = some (.int .u64 (fullL.getD k 0)) := by
  obtain ⟨xs, m, -, hx, hlen, hn, hel⟩ := DataW.trod_array Tryd.underlying61 h
  simp only [Prod.mk.injEq] at hx
  have hxs : xs.map (·.1) = (List.range 4).map (fullD (H := H)) := by
    have e : (Rows.laid_probecard_words_full : DataW H) = .agg ((List.range 4).map fullD) := rfl
    have := hx.1.symm.trans e
    injection this
  have hi : k / 2 < 4 := by omega
  have hxi := congrArg (·[k / 2]?) hxs
  simp only [List.getElem?_map, List.getElem?_range hi, Option.map_some] at hxi
  obtain ⟨y, hy, hyd⟩ := Option.map_eq_some_iff.1 hxi
  have ht := (hel (k / 2) hi).trans hy
  rw [c_word] at ht
  obtain ⟨y0, y1, n, hyx, -, h0, h1⟩ := trod_struct2 Tryd.underlying25 ht
  obtain ⟨a, ea, ha, -⟩ := DataW.trod_int Tryd.underlying23 h0
  obtain ⟨b, eb, hb, -⟩ := DataW.trod_int Tryd.underlying23 h1
  rw [hyx] at hyd
  simp only [fullD, DataW.agg.injEq, List.cons.injEq, and_true] at hyd
  rw [ha, hb] at hyd
  simp only [DataW.lit.injEq, Lit.int.injEq, true_and] at hyd
  obtain ⟨rfl, rfl⟩ := hyd
  rw [c_u64] at ea eb
  have e0 : cs[k / 2 * 2]? = some (.int .u64 (fullL.getD (2 * (k / 2)) 0)) := by
    have := congrArg (·[0]?) ea
    simpa [List.getElem?_take, List.getElem?_drop] using this
  have e1 : cs[k / 2 * 2 + 1]? = some (.int .u64 (fullL.getD (2 * (k / 2) + 1) 0)) := by
    have := congrArg (·[0]?) eb
    simpa [List.getElem?_take, List.getElem?_drop] using this
  rcases Nat.mod_two_eq_zero_or_one k with h2 | h2
  · have e : k / 2 * 2 = k := by omega
    have e' : 2 * (k / 2) = k := by omega
    rw [e, e'] at e0; exact e0
  · have e : k / 2 * 2 + 1 = k := by omega
    have e' : 2 * (k / 2) + 1 = k := by omega
    rw [e, e'] at e1; exact e1
end
/-- WHAT THE LISTED VARIABLES GIVE THE WALKS. -/
theorem tabs7_of {W : World} (h : laidMetH Tryd.prog [("probecard/logic.spans", Rows.laid_probecard_logic_spans), ("probecard/logic.characters", Rows.laid_probecard_logic_characters), ("probecard/words.full", Rows.laid_probecard_words_full)] W) : Lg.Tabs W ∧ Ft W := by
  rw [MakeChecks.laidMetH_plain _ _ _ (by kernel_rfl)] at h
  obtain ⟨ps, ⟨g0, t0, cs0, f0, p0, q0, hg0, ht0, hv0, hd0, ⟨g1, t1, cs1, f1, p1, q1, hg1, ht1, hv1, hd1, ⟨g2, t2, cs2, f2, p2, q2, hg2, ht2, hv2, hd2, -, -⟩, -⟩, -⟩, -, -⟩ := h
  obtain rfl := Option.some.inj (g_spans.symm.trans hg0)
  obtain rfl := Option.some.inj (g_chars.symm.trans hg1)
  obtain rfl := Option.some.inj (g_full.symm.trans hg2)
  obtain rfl := Option.some.inj (t_spans.symm.trans ht0)
  obtain rfl := Option.some.inj (t_chars.symm.trans ht1)
  obtain rfl := Option.some.inj (t_full.symm.trans ht2)
  have hs : ∀ k, k < 32 → W.cell? ⟨2, k, none⟩ = some (.int .i64 (spansL.getD k 0)) := fun k hk => by
    rw [World.var?_cell g_spans hv0 k]
    simpa using spans_cells hd0 k hk
  have hc : cs1.toList = charsL.map fun z => Value.int .u8 z := Lib.cells_of_tab (zs := charsL) Tryd.underlying67 Tryd.underlying5 c_byte c_chars hd1
  have hch : ∀ k, k < 4 → W.cell? ⟨1, k, none⟩ = some (.int .u8 (charsL.getD k 0)) := fun k hk => by
    rw [World.var?_cell g_chars hv1 k, ← Array.getElem?_toList, hc, List.getElem?_map, List.getD_eq_getElem?_getD, List.getElem?_eq_getElem (show k < charsL.length from hk)]
    rfl
  have hfu : Ft W := fun k hk => by
    rw [World.var?_cell g_full hv2 k]
    simpa using full_cells hd2 k hk
  refine ⟨⟨?_, hs, hch⟩, hfu⟩
  have l0 := cell_lt (hs 0 (by decide))
  have l1 := cell_lt (hch 0 (by decide))
  have l2 := cell_lt (hfu 0 (by decide))
  omega

/-- A START: the settled world, the three tables as their initialisers lay them. -/
noncomputable def tabWorld7 (os : Os) : World :=
  { World.holding Tryd.prog os ⟨#[], #[], []⟩ with heap := (((World.holding Tryd.prog os ⟨#[], #[], []⟩).heap.modify 2 (relay (spansL.map (Value.int .i64)).toArray)).modify 1 (relay (charsL.map (Value.int .u8)).toArray)).modify 0 (relay (fullL.map (Value.int .u64)).toArray) }

section
variable {H : Type} {enc : TypeId × Value → H} {W : World} {base : Nat} {sp : Nat → Bool} {held : Bool}
theorem u64_of {fuel : Nat} {cs : List Value} {x : DataW H × List MemPlace} (h : DataW.trod enc Tryd.prog W base sp held fuel 23 cs = some x) : ∃ a : Nat, cs = [.int .u64 (a : Int)] ∧ W64 a := by
  obtain ⟨a, e, -, w⟩ := DataW.trod_int Tryd.underlying23 h
  obtain ⟨h0, h1⟩ := bounds_u64 w
  obtain ⟨n, rfl⟩ := Int.eq_ofNat_of_zero_le h0
  exact ⟨n, e, by unfold W64; omega⟩
theorem word_of {fuel : Nat} {u0 u1 : Value} {x : DataW H × List MemPlace} (h : DataW.trod enc Tryd.prog W base sp held fuel 25 [u0, u1] = some x) : ∃ a b : Nat, u0 = .int .u64 (a : Int) ∧ u1 = .int .u64 (b : Int) ∧ W64 a ∧ W64 b := by
  obtain ⟨y0, y1, n, hyx, -, h0, h1⟩ := trod_struct2 Tryd.underlying25 h
  rw [c_u64] at h0 h1
  obtain ⟨a, e0, wa⟩ := u64_of h0
  obtain ⟨b, e1, wb⟩ := u64_of h1
  simp at e0 e1
  exact ⟨a, b, e0, e1, wa, wb⟩
set_option maxRecDepth 100000 in
/-- AN ARGUMENT that is a word. -/
theorem open_word {b0 : Nat} {r : Reach} {v : Value} {d : DataW H} {p : List MemPlace} (hv : Value.okWide Tryd.prog W r b0 25 v) (h : DataW.Trod enc Tryd.prog W base sp held 25 v d p) :
    ∃ a b : Nat, v = wv a b ∧ W64 a ∧ W64 b := by
  obtain ⟨cs, rfl, hsz⟩ := okWide_struct Tryd.underlying25 hv
  obtain ⟨c0, c1, rfl⟩ : ∃ c0 c1, cs = #[c0, c1] := by
    obtain ⟨l⟩ := cs
    match l, hsz.trans c_word with
    | [c0, c1], _ => exact ⟨c0, c1, rfl⟩
  obtain ⟨fuel, hf⟩ := h
  obtain ⟨a, b, rfl, rfl, h1, h2⟩ := word_of (show DataW.trod _ _ _ _ _ _ _ _ [c0, c1] = some _ from hf)
  exact ⟨a, b, rfl, h1, h2⟩
set_option maxRecDepth 100000 in
/-- AN ARGUMENT that is a slice of words. -/
theorem open_ws {b0 : Nat} {r : Reach} {v : Value} {d : DataW H} {p : List MemPlace} (hv : Value.okWide Tryd.prog W r b0 37 v) (h : DataW.Trod enc Tryd.prog W base sp held 37 v d p) :
    ∃ (A : Option Addr) (n c : Nat) (l : List (Nat × Nat)), v = .slice A n c ∧ Wd W W.heap.size (.slice A n c) l := by
  obtain ⟨A, len, cap, rfl⟩ := okWide_slice Tryd.underlying37 hv
  obtain ⟨fuel, hf⟩ := h
  obtain ⟨s0, l0, e0, g0⟩ := arr_of (α := Nat × Nat) (d := (0, 0)) (sz := 2) (R := WordAt) Tryd.underlying37 c_word (by decide) (fun b p cs' y n h3 hc ht => by
    match cs', h3 with
    | [u0, u1], _ =>
      obtain ⟨a, b', rfl, rfl, wa, wb⟩ := word_of ht
      exact ⟨(a, b'), by have := hc 0 (by decide); simpa using this, by have := hc 1 (by decide); simpa using this, wa, wb⟩) hf
  obtain rfl : s0 = Value.slice A len cap := by simpa [Value.cells] using e0.symm
  exact ⟨A, len, cap, l0, rfl, g0⟩
theorem u8_nat {k : Int} (h : (Lit.int .u8 k).wf = true) : ∃ n : Nat, k = (n : Int) ∧ n < 256 := by
  obtain ⟨h0, h1⟩ := bounds_u8 h
  obtain ⟨n, rfl⟩ := Int.eq_ofNat_of_zero_le h0
  exact ⟨n, rfl, by omega⟩
theorem c_i2 : Tryd.prog.cellsOf 26 = 2 := by kernel_rfl
set_option maxRecDepth 100000 in
/-- AN ARGUMENT that is an array of two ints. -/
theorem open_i2 {b0 : Nat} {r : Reach} {v : Value} {d : DataW H} {p : List MemPlace} (hv : Value.okWide Tryd.prog W r b0 26 v) (h : DataW.Trod enc Tryd.prog W base sp held 26 v d p) :
    ∃ a b : Int, v = .agg #[.int .i64 a, .int .i64 b] ∧ (-9223372036854775808 ≤ a ∧ a ≤ 9223372036854775807) ∧ (-9223372036854775808 ≤ b ∧ b ≤ 9223372036854775807) := by
  simp only [Value.okWide, Tryd.underlying26] at hv
  obtain ⟨cs, rfl, hsz, -⟩ := hv
  obtain ⟨c0, c1, rfl⟩ : ∃ c0 c1, cs = #[c0, c1] := by
    obtain ⟨l⟩ := cs
    match l, hsz.trans c_i2 with
    | [c0, c1], _ => exact ⟨c0, c1, rfl⟩
  obtain ⟨fuel, hf⟩ := h
  have hf2 : DataW.trod enc Tryd.prog W base sp held fuel 26 [c0, c1] = some _ := hf
  obtain ⟨xs, m, -, -, hlen, hn, hel⟩ := DataW.trod_array Tryd.underlying26 hf2
  have h0 := hel 0 (by decide)
  have h1 := hel 1 (by decide)
  rw [c_int] at h0 h1
  simp only [List.drop_zero, List.take_succ_cons, List.take_zero, Nat.zero_mul, Nat.one_mul, List.drop_succ_cons] at h0 h1
  obtain ⟨y0, hy0⟩ : ∃ y, xs[0]? = some y := ⟨xs[0]'(by omega), List.getElem?_eq_getElem (by omega)⟩
  obtain ⟨y1, hy1⟩ : ∃ y, xs[1]? = some y := ⟨xs[1]'(by omega), List.getElem?_eq_getElem (by omega)⟩
  rw [hy0] at h0
  rw [hy1] at h1
  obtain ⟨a, ea, -, wa⟩ := DataW.trod_int Tryd.underlying3 h0
  obtain ⟨b, eb, -, wb⟩ := DataW.trod_int Tryd.underlying3 h1
  simp at ea eb
  subst ea eb
  exact ⟨a, b, rfl, bounds_i64 wa, bounds_i64 wb⟩
end
end Go.Proofs.YtemogllidmgbfaaDoor
