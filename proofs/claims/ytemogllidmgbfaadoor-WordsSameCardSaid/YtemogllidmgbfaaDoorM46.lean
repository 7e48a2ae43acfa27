/- The texts Rw7. -/
import Derived.Test.YtemogllidmgbfaaDoorM45
import Derived.Test.YtemogllidmgbfaaDoorM21
namespace Go.Proofs.YtemogllidmgbfaaDoor
open Go.ChangeShapes Go.WideShapes Go.ChangeAt Go.RowKit

theorem g_full : Tryd.prog.globalNamed "probecard/words.full" = some 0 := by kernel_rfl
theorem t_full : (Tryd.prog.globals[0]?).map (·.type) = some 61 := by kernel_rfl
theorem c_word : Tryd.prog.cellsOf 25 = 2 := by kernel_rfl
theorem c_u64 : Tryd.prog.cellsOf 23 = 1 := by kernel_rfl
section
variable {H : Type} {enc : TypeId × Value → H}
def fullD (i : Nat) : DataW H := .agg [.lit (.int .u64 (fullL.getD (2 * i) 0)), .lit (.int .u64 (fullL.getD (2 * i + 1) 0))]
theorem full_cells {W : World} {base fuel : Nat} {sp : Nat → Bool} {held : Bool} {cs : List Value} {p : List MemPlace}
    (h : DataW.trod enc Tryd.prog W base sp held fuel 61 cs = some (Rows.laid_probecard_words_full, p)) (k : Nat) (hk : k < 8) : cs[k]? = some (.int .u64 (fullL.getD k 0)) := by
  obtain ⟨xs, m, -, hx, hlen, hn, hel⟩ := DataW.trod_array Tryd.underlying61 h
  simp only [Prod.mk.injEq] at hx
  have hxs : xs.map (·.1) = (List.range 4).map (fullD (H := H)) := by
    have e : (Rows.laid_probecard_words_full : DataW H) = .agg ((List.range 4).map fullD) := rfl
    have := hx.1.symm.trans e
    injection this
  have hi : k / 2 < 4 := by omega
  have hxi := congrArg (·[k / 2]?) hxs
  simp only [List.getElem?_map, List.getElem?_range hi, Option.map_some] at hxi
  obtain ⟨y, hy, hyd⟩ := Option.map_eq_some_iff.1 hxi
  have ht := (hel (k / 2) hi).trans hy
  rw [c_word] at ht
  obtain ⟨y0, y1, n, hyx, -, h0, h1⟩ := trod_struct2 Tryd.underlying25 ht
  obtain ⟨a, ea, ha, -⟩ := DataW.trod_int Tryd.underlying23 h0
  obtain ⟨b, eb, hb, -⟩ := DataW.trod_int Tryd.underlying23 h1
  rw [hyx] at hyd
  simp only [fullD, DataW.agg.injEq, List.cons.injEq, and_true] at hyd
  rw [ha, hb] at hyd
  simp only [DataW.lit.injEq, Lit.int.injEq, true_and] at hyd
  obtain ⟨rfl, rfl⟩ := hyd
  rw [c_u64] at ea eb
  have e0 : cs[k / 2 * 2]? = some (.int .u64 (fullL.getD (2 * (k / 2)) 0)) := by
    have := congrArg (·[0]?) ea
    simpa [List.getElem?_take, List.getElem?_drop] using this
  have e1 : cs[k / 2 * 2 + 1]? = some (.int .u64 (fullL.getD (2 * (k / 2) + 1) 0)) := by
    have := congrArg (·[0]?) eb
    simpa [List.getElem?_take, List.getElem?_drop] using this
  rcases Nat.mod_two_eq_zero_or_one k with h2 | h2
  · have e : k / 2 * 2 = k := by omega
    have e' : 2 * (k / 2) = k := by omega
    rw [e, e'] at e0; exact e0
  · have e : k / 2 * 2 + 1 = k := by omega
    have e' : 2 * (k / 2) + 1 = k := by omega
    rw [e, e'] at e1; exact e1
end
/-- WHAT THE LISTED VARIABLES GIVE THE WALKS. -/
theorem tabs7_of {W : World} (h : laidMetH Tryd.prog [("probecard/logic.spans", Rows.laid_probecard_logic_spans), ("probecard/logic.characters", Rows.laid_probecard_logic_characters), ("probecard/words.full", Rows.laid_probecard_words_full)] W) : Lg.Tabs W ∧ Ft W := by
  rw [MakeChecks.laidMetH_plain _ _ _ (by kernel_rfl)] at h
  obtain ⟨ps, ⟨g0, t0, cs0, f0, p0, q0, hg0, ht0, hv0, hd0, ⟨g1, t1, cs1, f1, p1, q1, hg1, ht1, hv1, hd1, ⟨g2, t2, cs2, f2, p2, q2, hg2, ht2, hv2, hd2, -, -⟩, -⟩, -⟩, -, -⟩ := h
  obtain rfl := Option.some.inj (g_spans.symm.trans hg0)
  obtain rfl := Option.some.inj (g_chars.symm.trans hg1)
  obtain rfl := Option.some.inj (g_full.symm.trans hg2)
  obtain rfl := Option.some.inj (t_spans.symm.trans ht0)
  obtain rfl := Option.some.inj (t_chars.symm.trans ht1)
  obtain rfl := Option.some.inj (t_full.symm.trans ht2)
  have hs : ∀ k, k < 32 → W.cell? ⟨2, k, none⟩ = some (.int .i64 (spansL.getD k 0)) := fun k hk => by
    rw [World.var?_cell g_spans hv0 k]
    simpa using spans_cells hd0 k hk
  have hc : cs1.toList = charsL.map fun z => Value.int .u8 z := Lib.cells_of_tab (zs := charsL) Tryd.underlying67 Tryd.underlying5 c_byte c_chars hd1
  have hch : ∀ k, k < 4 → W.cell? ⟨1, k, none⟩ = some (.int .u8 (charsL.getD k 0)) := fun k hk => by
    rw [World.var?_cell g_chars hv1 k, ← Array.getElem?_toList, hc, List.getElem?_map, List.getD_eq_getElem?_getD, List.getElem?_eq_getElem (show k < charsL.length from hk)]
    rfl
  have hfu : Ft W := fun k hk => by
    rw [World.var?_cell g_full hv2 k]
    simpa using full_cells hd2 k hk
  refine ⟨⟨?_, hs, hch⟩, hfu⟩
  have l0 := cell_lt (hs 0 (by decide))
  have l1 := cell_lt (hch 0 (by decide))
  have l2 := cell_lt (hfu 0 (by decide))
  omega

/-- A START: the settled world, the three tables as their initialisers lay them. -/
noncomputable def tabWorld7 (os : Os) : World :=
  { World.holding Tryd.prog os ⟨#[], #[], []⟩ with heap := (((World.holding Tryd.prog os ⟨#[], #[], []⟩).heap.modify 2 (relay (spansL.map (Value.int .i64)).toArray)).modify 1 (relay (charsL.map (Value.int .u8)).toArray)).modify 0 (relay (fullL.map (Value.int .u64)).toArray) }

section
variable {H : Type} {enc : TypeId × Value → H} {W : World} {base : Nat} {sp : Nat → Bool} {held : Bool}
theorem u64_of {fuel : Nat} {cs : List Value} {x : DataW H × List MemPlace} (h : DataW.trod enc Tryd.prog W base sp held fuel 23 cs = some x) : ∃ a : Nat, cs = [.int .u64 (a : Int)] ∧ W64 a := by
  obtain ⟨a, e, -, w⟩ := DataW.trod_int Tryd.underlying23 h
  obtain ⟨h0, h1⟩ := bounds_u64 w
  obtain ⟨n, rfl⟩ := Int.eq_ofNat_of_zero_le h0
  exact ⟨n, e, by unfold W64; omega⟩
theorem word_of {fuel : Nat} {u0 u1 : Value} {x : DataW H × List MemPlace} (h : DataW.trod enc Tryd.prog W base sp held fuel 25 [u0, u1] = some x) : ∃ a b : Nat, u0 = .int .u64 (a : Int) ∧ u1 = .int .u64 (b : Int) ∧ W64 a ∧ W64 b := by
  obtain ⟨y0, y1, n, hyx, -, h0, h1⟩ := trod_struct2 Tryd.underlying25 h
  rw [c_u64] at h0 h1
  obtain ⟨a, e0, wa⟩ := u64_of h0
  obtain ⟨b, e1, wb⟩ := u64_of h1
  simp at e0 e1
  exact ⟨a, b, e0, e1, wa, wb⟩
set_option maxRecDepth 100000 in
/-- AN ARGUMENT that is a word. -/
theorem open_word {b0 : Nat} {r : Reach} {v : Value} {d : DataW H} {p : List MemPlace} (hv : Value.okWide Tryd.prog W r b0 25 v) (h : DataW.Trod enc Tryd.prog W base sp held 25 v d p) :
    ∃ a b : Nat, v = wv a b ∧ W64 a ∧ W64 b := by
  obtain ⟨cs, rfl, hsz⟩ := okWide_struct Tryd.underlying25 hv
  obtain ⟨c0, c1, rfl⟩ : ∃ c0 c1, cs = #[c0, c1] := by
    obtain ⟨l⟩ := cs
    match l, hsz.trans c_word with
    | [c0, c1], _ => exact ⟨c0, c1, rfl⟩
  obtain ⟨fuel, hf⟩ := h
  obtain ⟨a, b, rfl, rfl, h1, h2⟩ := word_of (show DataW.trod _ _ _ _ _ _ _ _ [c0, c1] = some _ from hf)
  exact ⟨a, b, rfl, h1, h2⟩
end
end Go.Proofs.YtemogllidmgbfaaDoor
