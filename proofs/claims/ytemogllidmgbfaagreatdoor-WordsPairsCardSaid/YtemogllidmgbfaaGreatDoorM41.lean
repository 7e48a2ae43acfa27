/- The texts Pan Pac Pcx Rs Psz Rso Rw7. -/
import Derived.Test.YtemogllidmgbfaaGreatDoorM01
import Derived.Deep.Slices
import Derived.Deep.Fields
import Derived.SliceStrings
import Derived.ChangeSame
import Derived.Test.YtemogllidmgbfaaGreatDoorCards
import Derived.Test.YtemogllidmgbfaaGreatDoorTie
import Derived.ProofKit
import Derived.OpenShut
import Derived.Deep.DeepHandedRow
import Derived.Lib.LaidTab
import Derived.Lib.SmallJoins
import Derived.MakeChecks
import Derived.Deep.Strs
import Derived.Test.YtemogllidmgbfaaGreatDoorM35
import Derived.Test.YtemogllidmgbfaaGreatDoorM13
import Derived.Test.YtemogllidmgbfaaGreatDoorM16
import Derived.SizedLaws
import Derived.Test.YtemogllidmgbfaaGreatDoorM20
import Derived.Test.YtemogllidmgbfaaGreatDoorM21
namespace Go.Proofs.YtemogllidmgbfaaGreatDoor
open Go.ChangeShapes Go.WideShapes Go.ChangeAt Go.RowKit

open Go.ChangeShapes Go.WideShapes Go.ChangeAt Go.RowKit

theorem rw_own : ownKnob Tryz.prog.godebug = none := by kernel_rfl
theorem rw_laidOut : laidOutB Tryz.prog = true := by kernel_rfl
theorem g_spans : Tryz.prog.globalNamed "probecard/logic.spans" = some 2 := by kernel_rfl
theorem t_spans : (Tryz.prog.globals[2]?).map (·.type) = some 124 := by kernel_rfl
theorem c_span : Tryz.prog.cellsOf 123 = 2 := by kernel_rfl
theorem c_int : Tryz.prog.cellsOf 3 = 1 := by kernel_rfl

section
variable {H : Type} {enc : TypeId × Value → H}

/-- One row of the table of spans, as data. -/
def spanD (i : Nat) : DataW H := .agg [.lit (.int .i64 (spansL.getD (2 * i) 0)), .lit (.int .i64 (spansL.getD (2 * i + 1) 0))]

theorem spans_cells {W : World} {base fuel : Nat} {sp : Nat → Bool} {held : Bool} {cs : List Value} {p : List MemPlace}
    (h : DataW.trod enc Tryz.prog W base sp held fuel 124 cs = some (Rows.laid_probecard_logic_spans, p)) (k : Nat) (hk : k < 32) : cs[k]? = some (.int .i64 (spansL.getD k 0)) := by
  obtain ⟨xs, m, -, hx, hlen, hn, hel⟩ := DataW.trod_array Tryz.underlying124 h
  simp only [Prod.mk.injEq] at hx
  have hxs : xs.map (·.1) = (List.range 16).map (spanD (H := H)) := by
    have e : (Rows.laid_probecard_logic_spans : DataW H) = .agg ((List.range 16).map spanD) := rfl
    have := hx.1.symm.trans e
    injection this
  have hi : k / 2 < 16 := by omega
  have hxi := congrArg (·[k / 2]?) hxs
  simp only [List.getElem?_map, List.getElem?_range hi, Option.map_some] at hxi
  obtain ⟨y, hy, hyd⟩ := Option.map_eq_some_iff.1 hxi
  have ht := (hel (k / 2) hi).trans hy
  rw [c_span] at ht
  obtain ⟨y0, y1, n, hyx, -, h0, h1⟩ := trod_struct2 Tryz.underlying123 ht
  obtain ⟨a, ea, ha, -⟩ := DataW.trod_int Tryz.underlying3 h0
  obtain ⟨b, eb, hb, -⟩ := DataW.trod_int Tryz.underlying3 h1
  rw [hyx] at hyd
  simp only [spanD, DataW.agg.injEq, List.cons.injEq, and_true] at hyd
  rw [ha, hb] at hyd
  simp only [DataW.lit.injEq, Lit.int.injEq, true_and] at hyd
  obtain ⟨rfl, rfl⟩ := hyd
  rw [c_int] at ea eb
  have e0 : cs[k / 2 * 2]? = some (.int .i64 (spansL.getD (2 * (k / 2)) 0)) := by
    have := congrArg (·[0]?) ea
    simpa [List.getElem?_take, List.getElem?_drop] using this
  have e1 : cs[k / 2 * 2 + 1]? = some (.int .i64 (spansL.getD (2 * (k / 2) + 1) 0)) := by
    have := congrArg (·[0]?) eb
    simpa [List.getElem?_take, List.getElem?_drop] using this
  rcases Nat.mod_two_eq_zero_or_one k with h2 | h2
  · have e : k / 2 * 2 = k := by omega
    have e' : 2 * (k / 2) = k := by omega
    rw [e, e'] at e0; exact e0
  · have e : k / 2 * 2 + 1 = k := by omega
    have e' : 2 * (k / 2) + 1 = k := by omega
    rw [e, e'] at e1; exact e1
end

section
variable {H : Type} {enc : TypeId × Value → H} {P : Program}

theorem all_below (hl : laidOutB P = true) {W W' : World} (hb : Below W.heap.size W W') : ∀ {ts : List TypeId} {vs : List Value} {ds : List (DataW H)} {p : List MemPlace},
    (∀ t ∈ ts, P.readableRec t = true ∧ t < P.types.size) → DataW.TrodAll enc P W 0 (fun _ => true) true ts vs ds p → (∀ x ∈ p, x.block < W.heap.size) →
    DataW.TrodAll enc P W' 0 (fun b => decide (b < W.heap.size)) true ts vs ds p
  | [], vs, ds, p, _, h, _ => by
    obtain ⟨rfl, rfl, rfl⟩ := trodAll_nil h
    exact trodAll_mk0
  | t :: ts, vs, ds, p, hr, h, hp => by
    obtain ⟨v, vs', d, ds', p1, p2, rfl, rfl, rfl, h1, h2⟩ := trodAll_cons h
    have hr1 := hr t List.mem_cons_self
    exact trodAll_cons_mk (Below.trod hl hr1.1 hr1.2 h1 hb fun x hx => hp x (List.mem_append_left _ hx))
      (all_below hl hb (fun u hu => hr u (List.mem_cons_of_mem _ hu)) h2 fun x hx => hp x (List.mem_append_right _ hx))

/-- THE LAST STEP of a law: it returned true, and what was there is as it was. -/
theorem law_post (hl : laidOutB P = true) {f : Func} {s : ChangeSpec} {W W' : World} {args : Array Value} {ds : List (DataW H)} {before : List MemPlace} {tb : TypeId}
    (hv : s.vars = []) (hW : DataW.Whole enc P f.params.toList s.vars false W args.toList ds [] before) (hr : ∀ t ∈ f.params.toList, P.readableRec t = true ∧ t < P.types.size)
    (hres : f.resultTypes = #[tb]) (htb : P.underlying tb = some .bool) (hfn : s.fn H (ds ++ []) = { results := [.lit (.bool true)], args := ds }) (hb : Below W.heap.size W W') :
    s.post enc P f false true false false W args (.bool true) W' := by
  have hlt := hW.lt
  obtain ⟨p, q, hA, hV, he, hz, hn⟩ := id hW
  rw [hv] at hV
  obtain ⟨-, rfl⟩ := trodVars_none hV
  rw [List.append_nil] at he
  subst he
  refine ⟨ds, [], before, [], before, [], hW, ?_, ?_, ?_, hb.frame _, fun h => by cases h⟩
  · rw [hfn, hres]
    exact trodAll_cons_mk (shut_bool htb true) trodAll_mk0
  · rw [hfn]
    exact all_below hl hb hr hA fun x hx => hlt x hx
  · rw [hfn, hv]
    rfl
end

def relay (cs : Array Value) : Obj → Obj
  | .cells _ t fr => .cells cs t fr
  | o => o

end Go.Proofs.YtemogllidmgbfaaGreatDoor

namespace Go.Proofs.YtemogllidmgbfaaGreatDoor
open Go.ChangeShapes Go.WideShapes Go.ChangeAt Go.RowKit

section
variable {H : Type} {enc : TypeId × Value → H} {W : World} {base : Nat} {sp : Nat → Bool} {held : Bool}

/-- A slice opened, whatever its elements are. -/
theorem arr_of {α : Type} [Inhabited α] {d : α} {sz : Nat} {R : World → Nat → Nat → Nat → α → Prop} {t e : TypeId} {fuel : Nat} {cs : List Value} {x : DataW H × List MemPlace} (ht : Tryz.prog.underlying t = some (.slice e)) (hsz : Tryz.prog.cellsOf e = sz) (hpos : 0 < sz)
    (hel : ∀ b p cs' y n, cs'.length = sz → (∀ j, j < sz → W.cell? ⟨b, p + j, none⟩ = cs'[j]?) → DataW.trod enc Tryz.prog W base sp held n e cs' = some y → ∃ a : α, R W W.heap.size b p a)
    (h : DataW.trod enc Tryz.prog W base sp held fuel t cs = some x) : ∃ v l, cs = [v] ∧ Arr d sz R W W.heap.size v l := by
  rcases Go.Deep.open_slice ht h with ⟨rfl, -⟩ | ⟨a, len, cap, m, n, D, Pl, rfl, -, hl, hm, hmm, -, hx⟩
  · exact ⟨_, [], rfl, Arr.nil _ _ _ _ _⟩
  · have hlm : len ≤ m := by rw [hmm]; split <;> omega
    rw [hsz] at hx
    by_cases h0 : 0 < len
    · have hsp : a.spot = none := by
        obtain ⟨cs', h1, -⟩ := hx 0 (by omega)
        obtain ⟨-, h3, h4⟩ := World.cells?_some h1
        have := h4 0 hpos
        rw [List.getElem?_eq_getElem (by omega)] at this
        simpa [Addr.add] using World.cell?_spot this
      obtain ⟨b, o, spot⟩ := a
      obtain rfl : spot = none := hsp
      have hk : ∀ i, i < len → ∃ q : α, b < W.heap.size ∧ R W W.heap.size b (o + i * sz) q := fun i hi => by
        obtain ⟨cs', h1, h2⟩ := hx i (by omega)
        obtain ⟨-, h3, h4⟩ := World.cells?_some h1
        have hc : ∀ j, j < sz → W.cell? ⟨b, o + i * sz + j, none⟩ = cs'[j]? := fun j hj => by
          have := h4 j hj
          rw [Go.WideShapes.add_plain, Go.WideShapes.add_plain] at this
          exact this
        obtain ⟨q, hq⟩ := hel b (o + i * sz) cs' _ _ h3 hc h2
        refine ⟨q, ?_, hq⟩
        have := hc 0 hpos
        rw [List.getElem?_eq_getElem (by omega)] at this
        exact cell_lt this
      obtain ⟨f, hf⟩ := Go.Deep.choose_lt hk
      refine ⟨_, (List.range len).map f, rfl, some ⟨b, o, none⟩, b, o, cap, by simp, fun _ => rfl, by simpa using hl, by simp; omega, fun k hk' => ?_⟩
      have hkl : k < len := by simpa using hk'
      have e : ((List.range len).map f).getD k d = f k := by simp [hkl, List.getD_eq_getElem?_getD]
      rw [e]
      exact hf k hkl
    · obtain rfl : len = 0 := by omega
      exact ⟨_, [], rfl, some a, 0, 0, cap, rfl, fun h => absurd h (by simp), by simp, by simp, fun k hk => absurd hk (by simp)⟩

end

end Go.Proofs.YtemogllidmgbfaaGreatDoor

namespace Go.Proofs.YtemogllidmgbfaaGreatDoor
open Go.ChangeShapes Go.WideShapes Go.ChangeAt Go.RowKit

theorem Arr.two {α : Type} {d : α} {sz : Nat} {R : World → Nat → Nat → Nat → α → Prop} {Q : α → Prop} {w : World} {B : Nat} {v : Value} {l : List α} (h : Arr d sz (fun w B b p a => R w B b p a ∧ Q a) w B v l) :
    Arr d sz R w B v l ∧ ∀ k, k < l.length → Q (l.getD k d) := by
  obtain ⟨A, b, o, c, h1, h2, h3, h4, h5⟩ := h
  exact ⟨⟨A, b, o, c, h1, h2, h3, h4, fun k hk => ⟨(h5 k hk).1, (h5 k hk).2.1⟩⟩, fun k hk => (h5 k hk).2.2⟩

section
variable {H : Type} {enc : TypeId × Value → H} {W : World} {base : Nat} {sp : Nat → Bool} {held : Bool}
end

end Go.Proofs.YtemogllidmgbfaaGreatDoor

namespace Go.Proofs.YtemogllidmgbfaaGreatDoor
open Go.ChangeShapes Go.WideShapes Go.ChangeAt Go.RowKit

theorem g_chars : Tryz.prog.globalNamed "probecard/logic.characters" = some 1 := by kernel_rfl
theorem t_chars : (Tryz.prog.globals[1]?).map (·.type) = some 35 := by kernel_rfl
theorem c_chars : Tryz.prog.cellsOf 35 = 4 := by kernel_rfl
theorem c_byte : Tryz.prog.cellsOf 5 = 1 := by kernel_rfl
section
variable {H : Type} {enc : TypeId × Value → H} {W : World} {base : Nat} {sp : Nat → Bool} {held : Bool}
end
end Go.Proofs.YtemogllidmgbfaaGreatDoor

namespace Go.Proofs.YtemogllidmgbfaaGreatDoor
open Go.ChangeShapes Go.WideShapes Go.ChangeAt Go.RowKit

section
variable {H : Type} {enc : TypeId × Value → H} {W : World} {base : Nat} {sp : Nat → Bool} {held : Bool}
/-- What a copy can bear, slice by slice. -/
structure Bear (c : Ck) : Prop where
  i : ∀ k, k < c.nodes.length → (c.nodes.getD k default).ins.length ≤ 17592186044416
  m : ∀ k, k < c.mems.length → (c.mems.getD k default).addr.length ≤ 17592186044416 ∧ (c.mems.getD k default).data.length ≤ 17592186044416
end
end Go.Proofs.YtemogllidmgbfaaGreatDoor

namespace Go.Proofs.YtemogllidmgbfaaGreatDoor
open Go.ChangeShapes Go.WideShapes Go.ChangeAt Go.RowKit

theorem c_val : Tryz.prog.cellsOf 30 = 1 := by kernel_rfl
section
variable {H : Type} {enc : TypeId × Value → H} {W : World} {base : Nat} {sp : Nat → Bool} {held : Bool}
theorem v8_of {fuel : Nat} {cs : List Value} {x : DataW H × List MemPlace} (h : DataW.trod enc Tryz.prog W base sp held fuel 30 cs = some x) : ∃ a : Int, cs = [.int .u8 a] ∧ U8 a := by
  obtain ⟨a, e, -, w⟩ := DataW.trod_int Tryz.underlying30 h
  exact ⟨a, e, bounds_u8 w⟩
/-- What the laws' few asks of memory. -/
structure Bearz (c : Ck) : Prop where
  b : Bear c
  n : c.names.length ≤ 17592186044416
  o : c.outs.length ≤ 17592186044416
end
end Go.Proofs.YtemogllidmgbfaaGreatDoor

namespace Go.Proofs.YtemogllidmgbfaaGreatDoor
open Go.ChangeShapes Go.WideShapes Go.ChangeAt Go.RowKit

theorem g_full : Tryz.prog.globalNamed "probecard/words.full" = some 0 := by kernel_rfl
theorem t_full : (Tryz.prog.globals[0]?).map (·.type) = some 121 := by kernel_rfl
theorem c_word : Tryz.prog.cellsOf 27 = 2 := by kernel_rfl
theorem c_u64 : Tryz.prog.cellsOf 25 = 1 := by kernel_rfl
section
variable {H : Type} {enc : TypeId × Value → H}
def fullD (i : Nat) : DataW H := .agg [.lit (.int .u64 (fullL.getD (2 * i) 0)), .lit (.int .u64 (fullL.getD (2 * i + 1) 0))]
theorem full_cells {W : World} {base fuel : Nat} {sp : Nat → Bool} {held : Bool} {cs : List Value} {p : List MemPlace}
    (h : DataW.trod enc Tryz.prog W base sp held fuel 121 cs = some (Rows.laid_probecard_words_full, p)) (k : Nat) (hk : k < 8) : cs[k]? = some (.int .u64 (fullL.getD k 0)) := by
  obtain ⟨xs, m, -, hx, hlen, hn, hel⟩ := DataW.trod_array Tryz.underlying121 h
  simp only [Prod.mk.injEq] at hx
  have hxs : xs.map (·.1) = (List.range 4).map (fullD (H := H)) := by
    have e : (Rows.laid_probecard_words_full : DataW H) = .agg ((List.range 4).map fullD) := rfl
    have := hx.1.symm.trans e
    injection this
  have hi : k / 2 < 4 := by omega
  have hxi := congrArg (·[k / 2]?) hxs
  simp only [List.getElem?_map, List.getElem?_range hi, Option.map_some] at hxi
  obtain ⟨y, hy, hyd⟩ := Option.map_eq_some_iff.1 hxi
  have ht := (hel (k / 2) hi).trans hy
  rw [c_word] at ht
  obtain ⟨y0, y1, n, hyx, -, h0, h1⟩ := trod_struct2 Tryz.underlying27 ht
  obtain ⟨a, ea, ha, -⟩ := DataW.trod_int Tryz.underlying25 h0
  obtain ⟨b, eb, hb, -⟩ := DataW.trod_int Tryz.underlying25 h1
  rw [hyx] at hyd
  simp only [fullD, DataW.agg.injEq, List.cons.injEq, and_true] at hyd
  rw [ha, hb] at hyd
  simp only [DataW.lit.injEq, Lit.int.injEq, true_and] at hyd
  obtain ⟨rfl, rfl⟩ := hyd
  rw [c_u64] at ea eb
  have e0 : cs[k / 2 * 2]? = some (.int .u64 (fullL.getD (2 * (k / 2)) 0)) := by
    have := congrArg (·[0]?) ea
    simpa [List.getElem?_take, List.getElem?_drop] using this
  have e1 : cs[k / 2 * 2 + 1]? = some (.int .u64 (fullL.getD (2 * (k / 2) + 1) 0)) := by
    have := congrArg (·[0]?) eb
    simpa [List.getElem?_take, List.getElem?_drop] using this
  rcases Nat.mod_two_eq_zero_or_one k with h2 | h2
  · have e : k / 2 * 2 = k := by omega
    have e' : 2 * (k / 2) = k := by omega
    rw [e, e'] at e0; exact e0
  · have e : k / 2 * 2 + 1 = k := by omega
    have e' : 2 * (k / 2) + 1 = k := by omega
    rw [e, e'] at e1; exact e1
end
/-- WHAT THE LISTED VARIABLES GIVE THE WALKS. -/
theorem tabs7_of {W : World} (h : laidMetH Tryz.prog [("probecard/logic.spans", Rows.laid_probecard_logic_spans), ("probecard/logic.characters", Rows.laid_probecard_logic_characters), ("probecard/words.full", Rows.laid_probecard_words_full)] W) : Lg.Tabs W ∧ Ft W := by
  rw [MakeChecks.laidMetH_plain _ _ _ (by kernel_rfl)] at h
  obtain ⟨ps, ⟨g0, t0, cs0, f0, p0, q0, hg0, ht0, hv0, hd0, ⟨g1, t1, cs1, f1, p1, q1, hg1, ht1, hv1, hd1, ⟨g2, t2, cs2, f2, p2, q2, hg2, ht2, hv2, hd2, -, -⟩, -⟩, -⟩, -, -⟩ := h
  obtain rfl := Option.some.inj (g_spans.symm.trans hg0)
  obtain rfl := Option.some.inj (g_chars.symm.trans hg1)
  obtain rfl := Option.some.inj (g_full.symm.trans hg2)
  obtain rfl := Option.some.inj (t_spans.symm.trans ht0)
  obtain rfl := Option.some.inj (t_chars.symm.trans ht1)
  obtain rfl := Option.some.inj (t_full.symm.trans ht2)
  have hs : ∀ k, k < 32 → W.cell? ⟨2, k, none⟩ = some (.int .i64 (spansL.getD k 0)) := fun k hk => by
    rw [World.var?_cell g_spans hv0 k]
    simpa using spans_cells hd0 k hk
  have hc : cs1.toList = charsL.map fun z => Value.int .u8 z := Lib.cells_of_tab (zs := charsL) Tryz.underlying35 Tryz.underlying5 c_byte c_chars hd1
  have hch : ∀ k, k < 4 → W.cell? ⟨1, k, none⟩ = some (.int .u8 (charsL.getD k 0)) := fun k hk => by
    rw [World.var?_cell g_chars hv1 k, ← Array.getElem?_toList, hc, List.getElem?_map, List.getD_eq_getElem?_getD, List.getElem?_eq_getElem (show k < charsL.length from hk)]
    rfl
  have hfu : Ft W := fun k hk => by
    rw [World.var?_cell g_full hv2 k]
    simpa using full_cells hd2 k hk
  refine ⟨⟨?_, hs, hch⟩, hfu⟩
  have l0 := cell_lt (hs 0 (by decide))
  have l1 := cell_lt (hch 0 (by decide))
  have l2 := cell_lt (hfu 0 (by decide))
  omega

/-- A START: the settled world, the three tables as their initialisers lay them. -/
noncomputable def tabWorld7 (os : Os) : World :=
  { World.holding Tryz.prog os ⟨#[], #[], []⟩ with heap := (((World.holding Tryz.prog os ⟨#[], #[], []⟩).heap.modify 2 (relay (spansL.map (Value.int .i64)).toArray)).modify 1 (relay (charsL.map (Value.int .u8)).toArray)).modify 0 (relay (fullL.map (Value.int .u64)).toArray) }

section
variable {H : Type} {enc : TypeId × Value → H} {W : World} {base : Nat} {sp : Nat → Bool} {held : Bool}
theorem u64_of {fuel : Nat} {cs : List Value} {x : DataW H × List MemPlace} (h : DataW.trod enc Tryz.prog W base sp held fuel 25 cs = some x) : ∃ a : Nat, cs = [.int .u64 (a : Int)] ∧ W64 a := by
  obtain ⟨a, e, -, w⟩ := DataW.trod_int Tryz.underlying25 h
  obtain ⟨h0, h1⟩ := bounds_u64 w
  obtain ⟨n, rfl⟩ := Int.eq_ofNat_of_zero_le h0
  exact ⟨n, e, by unfold W64; omega⟩
theorem word_of {fuel : Nat} {u0 u1 : Value} {x : DataW H × List MemPlace} (h : DataW.trod enc Tryz.prog W base sp held fuel 27 [u0, u1] = some x) : ∃ a b : Nat, u0 = .int .u64 (a : Int) ∧ u1 = .int .u64 (b : Int) ∧ W64 a ∧ W64 b := by
  obtain ⟨y0, y1, n, hyx, -, h0, h1⟩ := trod_struct2 Tryz.underlying27 h
  rw [c_u64] at h0 h1
  obtain ⟨a, e0, wa⟩ := u64_of h0
  obtain ⟨b, e1, wb⟩ := u64_of h1
  simp at e0 e1
  exact ⟨a, b, e0, e1, wa, wb⟩
set_option maxRecDepth 100000 in
/-- AN ARGUMENT that is a slice of words. -/
theorem open_ws {b0 : Nat} {r : Reach} {v : Value} {d : DataW H} {p : List MemPlace} (hv : Value.okWide Tryz.prog W r b0 23 v) (h : DataW.Trod enc Tryz.prog W base sp held 23 v d p) :
    ∃ (A : Option Addr) (n c : Nat) (l : List (Nat × Nat)), v = .slice A n c ∧ Wd W W.heap.size (.slice A n c) l := by
  obtain ⟨A, len, cap, rfl⟩ := okWide_slice Tryz.underlying23 hv
  obtain ⟨fuel, hf⟩ := h
  obtain ⟨s0, l0, e0, g0⟩ := arr_of (α := Nat × Nat) (d := (0, 0)) (sz := 2) (R := WordAt) Tryz.underlying23 c_word (by decide) (fun b p cs' y n h3 hc ht => by
    match cs', h3 with
    | [u0, u1], _ =>
      obtain ⟨a, b', rfl, rfl, wa, wb⟩ := word_of ht
      exact ⟨(a, b'), by have := hc 0 (by decide); simpa using this, by have := hc 1 (by decide); simpa using this, wa, wb⟩) hf
  obtain rfl : s0 = Value.slice A len cap := by simpa [Value.cells] using e0.symm
  exact ⟨A, len, cap, l0, rfl, g0⟩
end
end Go.Proofs.YtemogllidmgbfaaGreatDoor
