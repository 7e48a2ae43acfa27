/- The texts Pan Pac Pcx Rs Psz Rso. -/
import Derived.Test.YtemogllidmgbfaaDoorM02
import Derived.Deep.Slices
import Derived.Deep.Fields
import Derived.SliceStrings
import Derived.ChangeSame
import Derived.Test.YtemogllidmgbfaaDoorCards
import Derived.Test.YtemogllidmgbfaaDoorTie
import Derived.Test.YtemogllidmgbfaaDoorM01
import Derived.ProofKit
import Derived.OpenShut
import Derived.Deep.DeepHandedRow
import Derived.Lib.LaidTab
import Derived.Lib.SmallJoins
import Derived.MakeChecks
import Derived.Deep.Strs
import Derived.Test.YtemogllidmgbfaaDoorM33
import Derived.Test.YtemogllidmgbfaaDoorM14
import Derived.Test.YtemogllidmgbfaaDoorM17
import Derived.SizedLaws
namespace Go.Proofs.YtemogllidmgbfaaDoor
open Go.ChangeShapes Go.WideShapes Go.ChangeAt Go.RowKit

open Go.ChangeShapes Go.WideShapes Go.ChangeAt Go.RowKit

theorem rw_own : ownKnob Tryd.prog.godebug = none := by kernel_rfl
theorem rw_laidOut : laidOutB Tryd.prog = true := by kernel_rfl
theorem g_spans : Tryd.prog.globalNamed "probecard/logic.spans" = some 2 := by kernel_rfl
theorem t_spans : (Tryd.prog.globals[2]?).map (·.type) = some 76 := by kernel_rfl
theorem c_spans : Tryd.prog.cellsOf 76 = 32 := by kernel_rfl
theorem c_span : Tryd.prog.cellsOf 75 = 2 := by kernel_rfl
theorem c_int : Tryd.prog.cellsOf 3 = 1 := by kernel_rfl

section
variable {H : Type} {enc : TypeId × Value → H}

/-- One row of the table of spans, as data. -/
def spanD (i : Nat) : DataW H := .agg [.lit (.int .i64 (spansL.getD (2 * i) 0)), .lit (.int .i64 (spansL.getD (2 * i + 1) 0))]

theorem spans_cells {W : World} {base fuel : Nat} {sp : Nat → Bool} {held : Bool} {cs : List Value} {p : List MemPlace}
    (h : DataW.trod enc Tryd.prog W base sp held fuel 76 cs = some (Rows.laid_probecard_logic_spans, p)) (k : Nat) (hk : k < 32) : cs[k]? = some (.int .i64 (spansL.getD k 0)) := by
  obtain ⟨xs, m, -, hx, hlen, hn, hel⟩ := DataW.trod_array Tryd.underlying76 h
  simp only [Prod.mk.injEq] at hx
  have hxs : xs.map (·.1) = (List.range 16).map (spanD (H := H)) := by
    have e : (Rows.laid_probecard_logic_spans : DataW H) = .agg ((List.range 16).map spanD) := rfl
    have := hx.1.symm.trans e
    injection this
  have hi : k / 2 < 16 := by omega
  have hxi := congrArg (·[k / 2]?) hxs
  simp only [List.getElem?_map, List.getElem?_range hi, Option.map_some] at hxi
  obtain ⟨y, hy, hyd⟩ := Option.map_eq_some_iff.1 hxi
  have ht := (hel (k / 2) hi).trans hy
  rw [c_span] at ht
  obtain ⟨y0, y1, n, hyx, -, h0, h1⟩ := trod_struct2 Tryd.underlying75 ht
  obtain ⟨a, ea, ha, -⟩ := DataW.trod_int Tryd.underlying3 h0
  obtain ⟨b, eb, hb, -⟩ := DataW.trod_int Tryd.underlying3 h1
  rw [hyx] at hyd
  simp only [spanD, DataW.agg.injEq, List.cons.injEq, and_true] at hyd
  rw [ha, hb] at hyd
  simp only [DataW.lit.injEq, Lit.int.injEq, true_and] at hyd
  obtain ⟨rfl, rfl⟩ := hyd
  rw [c_int] at ea eb
  have e0 : cs[k / 2 * 2]? = some (.int .i64 (spansL.getD (2 * (k / 2)) 0)) := by
    have := congrArg (·[0]?) ea
    simpa [List.getElem?_take, List.getElem?_drop] using this
  have e1 : cs[k / 2 * 2 + 1]? = some (.int .i64 (spansL.getD (2 * (k / 2) + 1) 0)) := by
    have := congrArg (·[0]?) eb
    simpa [List.getElem?_take, List.getElem?_drop] using this
  rcases Nat.mod_two_eq_zero_or_one k with h2 | h2
  · have e : k / 2 * 2 = k := by omega
    have e' : 2 * (k / 2) = k := by omega
    rw [e, e'] at e0; exact e0
  · have e : k / 2 * 2 + 1 = k := by omega
    have e' : 2 * (k / 2) + 1 = k := by omega
    rw [e, e'] at e1; exact e1
end

/-- WHAT THE LISTED VARIABLES GIVE THE WALKS. -/
theorem tabs_of {W : World} (h : laidMetH Tryd.prog [("probecard/logic.spans", Rows.laid_probecard_logic_spans)] W) : Tabs W := by
  rw [MakeChecks.laidMetH_plain _ _ _ (by kernel_rfl)] at h
  obtain ⟨ps, ⟨g0, t0, cs0, f0, p0, q0, hg0, ht0, hv0, hd0, -, -⟩, -, -⟩ := h
  obtain rfl := Option.some.inj (g_spans.symm.trans hg0)
  obtain rfl := Option.some.inj (t_spans.symm.trans ht0)
  have hs : ∀ k, k < 32 → W.cell? ⟨2, k, none⟩ = some (.int .i64 (spansL.getD k 0)) := fun k hk => by
    rw [World.var?_cell g_spans hv0 k]
    simpa using spans_cells hd0 k hk
  refine ⟨?_, hs⟩
  have h0 := hs 0 (by decide)
  have lt : ∀ {g : Nat} {v : Value}, W.cell? ⟨g, 0, none⟩ = some v → g < W.heap.size := fun {g v} h => by
    rcases Nat.lt_or_ge g W.heap.size with hl | hl
    · exact hl
    · simp [World.cell?, Array.getElem?_eq_none hl] at h
  have l0 := lt h0
  omega

section
variable {H : Type} {enc : TypeId × Value → H} {P : Program}

theorem all_below (hl : laidOutB P = true) {W W' : World} (hb : Below W.heap.size W W') : ∀ {ts : List TypeId} {vs : List Value} {ds : List (DataW H)} {p : List MemPlace},
    (∀ t ∈ ts, P.readableRec t = true ∧ t < P.types.size) → DataW.TrodAll enc P W 0 (fun _ => true) true ts vs ds p → (∀ x ∈ p, x.block < W.heap.size) →
    DataW.TrodAll enc P W' 0 (fun b => decide (b < W.heap.size)) true ts vs ds p
  | [], vs, ds, p, _, h, _ => by
    obtain ⟨rfl, rfl, rfl⟩ := trodAll_nil h
    exact trodAll_mk0
  | t :: ts, vs, ds, p, hr, h, hp => by
    obtain ⟨v, vs', d, ds', p1, p2, rfl, rfl, rfl, h1, h2⟩ := trodAll_cons h
    have hr1 := hr t List.mem_cons_self
    exact trodAll_cons_mk (Below.trod hl hr1.1 hr1.2 h1 hb fun x hx => hp x (List.mem_append_left _ hx))
      (all_below hl hb (fun u hu => hr u (List.mem_cons_of_mem _ hu)) h2 fun x hx => hp x (List.mem_append_right _ hx))

/-- THE LAST STEP of a law: it returned true, and what was there is as it was. -/
theorem law_post (hl : laidOutB P = true) {f : Func} {s : ChangeSpec} {W W' : World} {args : Array Value} {ds : List (DataW H)} {before : List MemPlace} {tb : TypeId}
    (hv : s.vars = []) (hW : DataW.Whole enc P f.params.toList s.vars false W args.toList ds [] before) (hr : ∀ t ∈ f.params.toList, P.readableRec t = true ∧ t < P.types.size)
    (hres : f.resultTypes = #[tb]) (htb : P.underlying tb = some .bool) (hfn : s.fn H (ds ++ []) = { results := [.lit (.bool true)], args := ds }) (hb : Below W.heap.size W W') :
    s.post enc P f false true false false W args (.bool true) W' := by
  have hlt := hW.lt
  obtain ⟨p, q, hA, hV, he, hz, hn⟩ := id hW
  rw [hv] at hV
  obtain ⟨-, rfl⟩ := trodVars_none hV
  rw [List.append_nil] at he
  subst he
  refine ⟨ds, [], before, [], before, [], hW, ?_, ?_, ?_, hb.frame _, fun h => by cases h⟩
  · rw [hfn, hres]
    exact trodAll_cons_mk (shut_bool htb true) trodAll_mk0
  · rw [hfn]
    exact all_below hl hb hr hA fun x hx => hlt x hx
  · rw [hfn, hv]
    rfl
end

def relay (cs : Array Value) : Obj → Obj
  | .cells _ t fr => .cells cs t fr
  | o => o

/-- A START: the settled world, the table as its initialiser lays it. -/
noncomputable def tabWorld (os : Os) : World :=
  { World.holding Tryd.prog os ⟨#[], #[], []⟩ with heap := (World.holding Tryd.prog os ⟨#[], #[], []⟩).heap.modify 2 (relay (spansL.map (Value.int .i64)).toArray) }


theorem c_str : Tryd.prog.cellsOf 9 = 1 := by kernel_rfl
set_option maxRecDepth 100000 in
theorem open_texts {H : Type} {enc : TypeId × Value → H} {W : World} {base b0 : Nat} {sp : Nat → Bool} {held : Bool} {r : Reach} {v : Value} {d : DataW H} {p : List MemPlace}
    (hv : Value.okWide Tryd.prog W r b0 52 v) (h : DataW.Trod enc Tryd.prog W base sp held 52 v d p) : ∃ l : List ByteArray, Ss W W.heap.size v l := by
  obtain ⟨A, len, cap, rfl⟩ := okWide_slice Tryd.underlying52 hv
  obtain ⟨fuel, hf⟩ := h
  rcases open_strings Tryd.underlying52 Tryd.underlying9 c_str hf with ⟨hcs, -⟩ | ⟨a, len', cap', ss, hcs, -, hl, hm, hmm, -, hcell, hsz⟩
  · simp only [Value.cells, List.cons.injEq, Value.slice.injEq, and_true] at hcs
    obtain ⟨rfl, rfl, rfl⟩ := hcs
    exact ⟨[], Arr.nil _ _ _ _ _⟩
  · simp only [Value.cells, List.cons.injEq, Value.slice.injEq, and_true] at hcs
    obtain ⟨rfl, rfl, rfl⟩ := hcs
    have hlm : len ≤ ss.length := by rw [hmm]; split <;> omega
    have hll : (ss.take len).length = len := by simp; omega
    by_cases h0 : 0 < len
    · have hsp : a.spot = none := by simpa [Addr.add] using World.cell?_spot (hcell 0 (by omega))
      obtain ⟨b, o, spot⟩ := a
      obtain rfl : spot = none := hsp
      refine ⟨ss.take len, some ⟨b, o, none⟩, b, o, cap, by rw [hll], fun _ => rfl, by rw [hll]; exact hl, by rw [hll]; omega, fun k hk => ?_⟩
      rw [hll] at hk
      have hc := hcell k (by omega)
      rw [Go.WideShapes.add_plain] at hc
      have hg : (ss.take len).getD k ByteArray.empty = ss.getD k ByteArray.empty := by
        rw [List.getD_eq_getElem?_getD, List.getD_eq_getElem?_getD, List.getElem?_take, if_pos hk]
      refine ⟨cell_lt hc, ?_, ?_⟩
      · rw [hg, Nat.mul_one]; exact hc
      · rw [hg]
        refine hsz _ ?_
        rw [List.getD_eq_getElem?_getD, List.getElem?_eq_getElem (by omega)]
        exact List.getElem_mem _
    · obtain rfl : len = 0 := by omega
      exact ⟨[], some a, 0, 0, cap, rfl, fun h => absurd h (by simp), by simp, by simp, fun k hk => absurd hk (by simp)⟩
end Go.Proofs.YtemogllidmgbfaaDoor

namespace Go.Proofs.YtemogllidmgbfaaDoor
open Go.ChangeShapes Go.WideShapes Go.ChangeAt Go.RowKit

theorem c_nd : Tryd.prog.cellsOf 73 = 4 := by kernel_rfl
theorem c_mm : Tryd.prog.cellsOf 120 = 3 := by kernel_rfl
theorem c_ct : Tryd.prog.cellsOf 56 = 4 := by kernel_rfl
theorem c_kd : Tryd.prog.cellsOf 36 = 1 := by kernel_rfl
theorem c_is : Tryd.prog.cellsOf 54 = 1 := by kernel_rfl

section
variable {H : Type} {enc : TypeId × Value → H} {W : World} {base : Nat} {sp : Nat → Bool} {held : Bool}

/-- A slice opened, whatever its elements are. -/
theorem arr_of {α : Type} [Inhabited α] {d : α} {sz : Nat} {R : World → Nat → Nat → Nat → α → Prop} {t e : TypeId} {fuel : Nat} {cs : List Value} {x : DataW H × List MemPlace} (ht : Tryd.prog.underlying t = some (.slice e)) (hsz : Tryd.prog.cellsOf e = sz) (hpos : 0 < sz)
    (hel : ∀ b p cs' y n, cs'.length = sz → (∀ j, j < sz → W.cell? ⟨b, p + j, none⟩ = cs'[j]?) → DataW.trod enc Tryd.prog W base sp held n e cs' = some y → ∃ a : α, R W W.heap.size b p a)
    (h : DataW.trod enc Tryd.prog W base sp held fuel t cs = some x) : ∃ v l, cs = [v] ∧ Arr d sz R W W.heap.size v l := by
  rcases Go.Deep.open_slice ht h with ⟨rfl, -⟩ | ⟨a, len, cap, m, n, D, Pl, rfl, -, hl, hm, hmm, -, hx⟩
  · exact ⟨_, [], rfl, Arr.nil _ _ _ _ _⟩
  · have hlm : len ≤ m := by rw [hmm]; split <;> omega
    rw [hsz] at hx
    by_cases h0 : 0 < len
    · have hsp : a.spot = none := by
        obtain ⟨cs', h1, -⟩ := hx 0 (by omega)
        obtain ⟨-, h3, h4⟩ := World.cells?_some h1
        have := h4 0 hpos
        rw [List.getElem?_eq_getElem (by omega)] at this
        simpa [Addr.add] using World.cell?_spot this
      obtain ⟨b, o, spot⟩ := a
      obtain rfl : spot = none := hsp
      have hk : ∀ i, i < len → ∃ q : α, b < W.heap.size ∧ R W W.heap.size b (o + i * sz) q := fun i hi => by
        obtain ⟨cs', h1, h2⟩ := hx i (by omega)
        obtain ⟨-, h3, h4⟩ := World.cells?_some h1
        have hc : ∀ j, j < sz → W.cell? ⟨b, o + i * sz + j, none⟩ = cs'[j]? := fun j hj => by
          have := h4 j hj
          rw [Go.WideShapes.add_plain, Go.WideShapes.add_plain] at this
          exact this
        obtain ⟨q, hq⟩ := hel b (o + i * sz) cs' _ _ h3 hc h2
        refine ⟨q, ?_, hq⟩
        have := hc 0 hpos
        rw [List.getElem?_eq_getElem (by omega)] at this
        exact cell_lt this
      obtain ⟨f, hf⟩ := Go.Deep.choose_lt hk
      refine ⟨_, (List.range len).map f, rfl, some ⟨b, o, none⟩, b, o, cap, by simp, fun _ => rfl, by simpa using hl, by simp; omega, fun k hk' => ?_⟩
      have hkl : k < len := by simpa using hk'
      have e : ((List.range len).map f).getD k d = f k := by simp [hkl, List.getD_eq_getElem?_getD]
      rw [e]
      exact hf k hkl
    · obtain rfl : len = 0 := by omega
      exact ⟨_, [], rfl, some a, 0, 0, cap, rfl, fun h => absurd h (by simp), by simp, by simp, fun k hk => absurd hk (by simp)⟩

theorem one_of {α : Type} {cs : List α} (h : cs.length = 1) : ∃ v, cs = [v] := by
  match cs, h with
  | [v], _ => exact ⟨v, rfl⟩
theorem ints_of {fuel : Nat} {cs : List Value} {x : DataW H × List MemPlace} (h : DataW.trod enc Tryd.prog W base sp held fuel 54 cs = some x) : ∃ v l, cs = [v] ∧ Is W W.heap.size v l :=
  arr_of Tryd.underlying54 c_int (by decide) (fun b p cs' y n h3 hc ht => by
    obtain ⟨z, rfl, -, -⟩ := DataW.trod_int Tryd.underlying3 ht
    exact ⟨z, by have := hc 0 (by decide); simpa [IntAt] using this⟩) h
theorem strs_of {fuel : Nat} {cs : List Value} {x : DataW H × List MemPlace} (h : DataW.trod enc Tryd.prog W base sp held fuel 52 cs = some x) : ∃ v l, cs = [v] ∧ Ss W W.heap.size v l :=
  arr_of Tryd.underlying52 c_str (by decide) (fun b p cs' y n h3 hc ht => by
    obtain ⟨s, rfl, -, hw⟩ := DataW.trod_string Tryd.underlying9 ht
    exact ⟨s, by have := hc 0 (by decide); simpa using this, hw⟩) h
set_option maxRecDepth 100000 in
theorem nodes_of {fuel : Nat} {cs : List Value} {x : DataW H × List MemPlace} (h : DataW.trod enc Tryd.prog W base sp held fuel 51 cs = some x) : ∃ v l, cs = [v] ∧ Ns W W.heap.size v l :=
  arr_of Tryd.underlying51 c_nd (by decide) (fun b p cs' y n h3 hc ht => by
    obtain ⟨y0, y1, y2, y3, n', -, -, h0, h1, h2, h3'⟩ := Joins.trod_struct4 Tryd.underlying73 ht
    match cs', h3 with
    | [u0, u1, u2, u3], _ =>
      rw [c_kd] at h0
      rw [c_is] at h1
      rw [c_int] at h2 h3'
      obtain ⟨k, e0, -, wk⟩ := DataW.trod_int Tryd.underlying36 h0
      obtain ⟨s, l, e1, hi⟩ := ints_of h1
      obtain ⟨m, e2, -, -⟩ := DataW.trod_int Tryd.underlying3 h2
      obtain ⟨t, e3, -, -⟩ := DataW.trod_int Tryd.underlying3 h3'
      simp at e0 e1 e2 e3
      subst e0 e1 e2 e3
      have q0 := hc 0 (by decide)
      have q1 := hc 1 (by decide)
      have q2 := hc 2 (by decide)
      have q3 := hc 3 (by decide)
      exact ⟨⟨k, l, m, t⟩, u1, q0, q1, q2, q3, hi, (bounds_u8 wk).1, (bounds_u8 wk).2⟩) h
set_option maxRecDepth 100000 in
theorem mems_of {fuel : Nat} {cs : List Value} {x : DataW H × List MemPlace} (h : DataW.trod enc Tryd.prog W base sp held fuel 53 cs = some x) : ∃ v l, cs = [v] ∧ Ms W W.heap.size v l :=
  arr_of Tryd.underlying53 c_mm (by decide) (fun b p cs' y n h3 hc ht => by
    obtain ⟨y0, y1, y2, n', -, -, h0, h1, h2⟩ := Go.Deep.trod_struct3 Tryd.underlying120 ht
    match cs', h3 with
    | [u0, u1, u2], _ =>
      rw [c_is] at h0 h1
      rw [c_int] at h2
      obtain ⟨s, l, e0, hi⟩ := ints_of h0
      obtain ⟨s', l', e1, hi'⟩ := ints_of h1
      obtain ⟨m, e2, -, -⟩ := DataW.trod_int Tryd.underlying3 h2
      simp at e0 e1 e2
      subst e0 e1 e2
      have q0 := hc 0 (by decide)
      have q1 := hc 1 (by decide)
      have q2 := hc 2 (by decide)
      exact ⟨⟨l, l', m⟩, u0, u1, q0, q1, q2, hi, hi'⟩) h
set_option maxRecDepth 100000 in
/-- AN ARGUMENT that is a circuit. -/
theorem open_circuit {b0 : Nat} {r : Reach} {v : Value} {d : DataW H} {p : List MemPlace} (hv : Value.okWide Tryd.prog W r b0 56 v) (h : DataW.Trod enc Tryd.prog W base sp held 56 v d p) : ∃ c : Ck, Cir W W.heap.size v c := by
  obtain ⟨v0, v1, v2, v3, y0, y1, y2, y3, n, rfl, -, -, h0, h1, h2, h3⟩ := Joins.open_agg4 Tryd.underlying56 (by kernel_rfl) c_ct hv h
  obtain ⟨_, l0, e0, k0⟩ := nodes_of h0
  obtain ⟨_, l1, e1, k1⟩ := strs_of h1
  obtain ⟨_, l2, e2, k2⟩ := mems_of h2
  obtain ⟨_, l3, e3, k3⟩ := ints_of h3
  simp at e0 e1 e2 e3
  subst e0 e1 e2 e3
  exact ⟨⟨l0, l1, l2, l3⟩, _, _, _, _, rfl, k0, k1, k2, k3⟩
end

end Go.Proofs.YtemogllidmgbfaaDoor

namespace Go.Proofs.YtemogllidmgbfaaDoor
open Go.ChangeShapes Go.WideShapes Go.ChangeAt Go.RowKit

theorem c_u8 : Tryd.prog.cellsOf 5 = 1 := by kernel_rfl
theorem c_bl : Tryd.prog.cellsOf 4 = 1 := by kernel_rfl
theorem c_a4 : Tryd.prog.cellsOf 67 = 4 := by kernel_rfl
theorem c_us : Tryd.prog.cellsOf 66 = 1 := by kernel_rfl

theorem array12 {α : Type} {cs : Array α} (h : cs.size = 12) : ∃ c0 c1 c2 c3 c4 c5 c6 c7 c8 c9 c10 c11, cs = #[c0, c1, c2, c3, c4, c5, c6, c7, c8, c9, c10, c11] := by
  obtain ⟨l⟩ := cs
  match l, h with
  | [c0, c1, c2, c3, c4, c5, c6, c7, c8, c9, c10, c11], _ => exact ⟨c0, c1, c2, c3, c4, c5, c6, c7, c8, c9, c10, c11, rfl⟩

theorem Arr.two {α : Type} {d : α} {sz : Nat} {R : World → Nat → Nat → Nat → α → Prop} {Q : α → Prop} {w : World} {B : Nat} {v : Value} {l : List α} (h : Arr d sz (fun w B b p a => R w B b p a ∧ Q a) w B v l) :
    Arr d sz R w B v l ∧ ∀ k, k < l.length → Q (l.getD k d) := by
  obtain ⟨A, b, o, c, h1, h2, h3, h4, h5⟩ := h
  exact ⟨⟨A, b, o, c, h1, h2, h3, h4, fun k hk => ⟨(h5 k hk).1, (h5 k hk).2.1⟩⟩, fun k hk => (h5 k hk).2.2⟩

section
variable {H : Type} {enc : TypeId × Value → H} {W : World} {base : Nat} {sp : Nat → Bool} {held : Bool}
theorem u8_of {fuel : Nat} {cs : List Value} {x : DataW H × List MemPlace} (h : DataW.trod enc Tryd.prog W base sp held fuel 5 cs = some x) : ∃ a : Int, cs = [.int .u8 a] ∧ U8 a := by
  obtain ⟨a, e, -, w⟩ := DataW.trod_int Tryd.underlying5 h
  exact ⟨a, e, bounds_u8 w⟩
set_option maxRecDepth 100000 in
theorem four_of {fuel : Nat} {c0 c1 c2 c3 : Value} {x : DataW H × List MemPlace} (h : DataW.trod enc Tryd.prog W base sp held fuel 67 [c0, c1, c2, c3] = some x) : ∃ a b c d : Int, c0 = .int .u8 a ∧ c1 = .int .u8 b ∧ c2 = .int .u8 c ∧ c3 = .int .u8 d ∧ U8 a ∧ U8 b ∧ U8 c ∧ U8 d := by
  obtain ⟨xs, m, -, -, -, hn, hel⟩ := DataW.trod_array Tryd.underlying67 h
  match xs, hn with
  | [x0, x1, x2, x3], _ =>
    have e0 := hel 0 (by decide)
    have e1 := hel 1 (by decide)
    have e2 := hel 2 (by decide)
    have e3 := hel 3 (by decide)
    rw [c_u8] at e0 e1 e2 e3
    obtain ⟨a, ea, wa⟩ := u8_of (show DataW.trod _ _ _ _ _ _ _ _ [c0] = some x0 from e0)
    obtain ⟨b, eb, wb⟩ := u8_of (show DataW.trod _ _ _ _ _ _ _ _ [c1] = some x1 from e1)
    obtain ⟨c, ec, wc⟩ := u8_of (show DataW.trod _ _ _ _ _ _ _ _ [c2] = some x2 from e2)
    obtain ⟨d, ed, wd⟩ := u8_of (show DataW.trod _ _ _ _ _ _ _ _ [c3] = some x3 from e3)
    simp at ea eb ec ed
    exact ⟨a, b, c, d, ea, eb, ec, ed, wa, wb, wc, wd⟩
theorem us_of {fuel : Nat} {cs : List Value} {x : DataW H × List MemPlace} (h : DataW.trod enc Tryd.prog W base sp held fuel 66 cs = some x) : ∃ v l, cs = [v] ∧ Arr 0 1 (fun w B b p g => U8At w B b p g ∧ U8 g) W W.heap.size v l :=
  arr_of Tryd.underlying66 c_u8 (by decide) (fun b p cs' y n h3 hc ht => by
    obtain ⟨a, rfl, wa⟩ := u8_of ht
    exact ⟨a, by have := hc 0 (by decide); simpa [U8At] using this, wa⟩) h
set_option linter.constructorNameAsVariable false in
theorem array3' {α : Type} {cs : Array α} (h : cs.size = 3) : ∃ c0 c1 c2, cs = #[c0, c1, c2] := by
  obtain ⟨l⟩ := cs
  match l, h with
  | [c0, c1, c2], _ => exact ⟨c0, c1, c2, rfl⟩
theorem array16 {α : Type} {cs : Array α} (h : cs.size = 16) : ∃ c0 c1 c2 c3 c4 c5 c6 c7 c8 c9 c10 c11 c12 c13 c14 c15, cs = #[c0, c1, c2, c3, c4, c5, c6, c7, c8, c9, c10, c11, c12, c13, c14, c15] := by
  obtain ⟨l⟩ := cs
  match l, h with
  | [c0, c1, c2, c3, c4, c5, c6, c7, c8, c9, c10, c11, c12, c13, c14, c15], _ => exact ⟨c0, c1, c2, c3, c4, c5, c6, c7, c8, c9, c10, c11, c12, c13, c14, c15, rfl⟩
end

end Go.Proofs.YtemogllidmgbfaaDoor

namespace Go.Proofs.YtemogllidmgbfaaDoor
open Go.ChangeShapes Go.WideShapes Go.ChangeAt Go.RowKit

theorem g_chars : Tryd.prog.globalNamed "probecard/logic.characters" = some 1 := by kernel_rfl
theorem t_chars : (Tryd.prog.globals[1]?).map (·.type) = some 67 := by kernel_rfl
theorem c_chars : Tryd.prog.cellsOf 67 = 4 := by kernel_rfl
theorem c_byte : Tryd.prog.cellsOf 5 = 1 := by kernel_rfl
/-- WHAT THE LISTED VARIABLES GIVE THE WALKS. -/
theorem Lg.tabs_of {W : World} (h : laidMetH Tryd.prog [("probecard/logic.spans", Rows.laid_probecard_logic_spans), ("probecard/logic.characters", Rows.laid_probecard_logic_characters)] W) : Lg.Tabs W := by
  rw [MakeChecks.laidMetH_plain _ _ _ (by kernel_rfl)] at h
  obtain ⟨ps, ⟨g0, t0, cs0, f0, p0, q0, hg0, ht0, hv0, hd0, ⟨g1, t1, cs1, f1, p1, q1, hg1, ht1, hv1, hd1, -, -⟩, -⟩, -, -⟩ := h
  obtain rfl := Option.some.inj (g_spans.symm.trans hg0)
  obtain rfl := Option.some.inj (g_chars.symm.trans hg1)
  obtain rfl := Option.some.inj (t_spans.symm.trans ht0)
  obtain rfl := Option.some.inj (t_chars.symm.trans ht1)
  have hs : ∀ k, k < 32 → W.cell? ⟨2, k, none⟩ = some (.int .i64 (spansL.getD k 0)) := fun k hk => by
    rw [World.var?_cell g_spans hv0 k]
    simpa using spans_cells hd0 k hk
  have hc : cs1.toList = charsL.map fun z => Value.int .u8 z := Lib.cells_of_tab (zs := charsL) Tryd.underlying67 Tryd.underlying5 c_byte c_chars hd1
  have hch : ∀ k, k < 4 → W.cell? ⟨1, k, none⟩ = some (.int .u8 (charsL.getD k 0)) := fun k hk => by
    rw [World.var?_cell g_chars hv1 k, ← Array.getElem?_toList, hc, List.getElem?_map, List.getD_eq_getElem?_getD, List.getElem?_eq_getElem (show k < charsL.length from hk)]
    rfl
  refine ⟨?_, hs, hch⟩
  have h0 := hs 0 (by decide)
  have h1 := hch 0 (by decide)
  have lt : ∀ {g : Nat} {v : Value}, W.cell? ⟨g, 0, none⟩ = some v → g < W.heap.size := fun {g v} h => by
    rcases Nat.lt_or_ge g W.heap.size with hl | hl
    · exact hl
    · simp [World.cell?, Array.getElem?_eq_none hl] at h
  have l0 := lt h0
  have l1 := lt h1
  omega

/-- A START: the settled world, the two tables as their initialisers lay them. -/
noncomputable def Lg.tabWorld (os : Os) : World :=
  { World.holding Tryd.prog os ⟨#[], #[], []⟩ with heap := ((World.holding Tryd.prog os ⟨#[], #[], []⟩).heap.modify 2 (relay (spansL.map (Value.int .i64)).toArray)).modify 1 (relay (charsL.map (Value.int .u8)).toArray) }

section
variable {H : Type} {enc : TypeId × Value → H} {W : World} {base : Nat} {sp : Nat → Bool} {held : Bool}
theorem ks_slice {w : World} {B : Nat} {v : Value} {l : List Int} (h : Ks w B v l) : ∃ A n c, v = .slice A n c := by
  obtain ⟨A, _, _, c, e, -⟩ := h
  exact ⟨A, _, c, e⟩
theorem ks_of {v : Value} {l : List Int} (h : Arr 0 1 (fun w B b p g => U8At w B b p g ∧ U8 g) W W.heap.size v l) : Ks W W.heap.size v l ∧ ∀ y ∈ l, 0 ≤ y ∧ y ≤ 255 := by
  obtain ⟨h1, h2⟩ := Arr.two h
  refine ⟨h1, fun y hy => ?_⟩
  obtain ⟨k, hk, rfl⟩ := List.mem_iff_getElem.1 hy
  have := h2 k hk
  rw [List.getD_eq_getElem?_getD, List.getElem?_eq_getElem hk] at this
  exact this
end
end Go.Proofs.YtemogllidmgbfaaDoor

namespace Go.Proofs.YtemogllidmgbfaaDoor
open Go.ChangeShapes Go.WideShapes Go.ChangeAt Go.RowKit

/-- What a datum holds fits in memory, slice by slice. -/
def Wok {H : Type} (t : TypeId) (d : DataW H) : Prop := ∀ n ∈ DataW.weights Tryd.prog t d, n ≤ reachBytes
theorem wall_mem {H : Type} {P : Program} {e : TypeId} {d : DataW H} {n : Nat} : ∀ {l : List (DataW H)}, d ∈ l → n ∈ DataW.weights P e d → n ∈ DataW.weightsAll P e l
  | x :: l, h, hn => by
    rw [DataW.weightsAll]
    rcases List.mem_cons.1 h with rfl | h
    · exact List.mem_append_left _ hn
    · exact List.mem_append_right _ (wall_mem h hn)
theorem weach_mem {H : Type} {P : Program} {t : TypeId} {d : DataW H} {n : Nat} : ∀ {ts : List TypeId} {ds : List (DataW H)} {j : Nat}, ts[j]? = some t → ds[j]? = some d → n ∈ DataW.weights P t d → n ∈ DataW.weightsEach P ts ds
  | t' :: ts, d' :: ds, 0, ht, hd, hn => by
    simp at ht hd
    subst ht hd
    rw [DataW.weightsEach]
    exact List.mem_append_left _ hn
  | t' :: ts, d' :: ds, j + 1, ht, hd, hn => by
    rw [DataW.weightsEach]
    exact List.mem_append_right _ (weach_mem (j := j) (by simpa using ht) (by simpa using hd) hn)
theorem b_int : Tryd.prog.bytesOf 3 = 8 := by kernel_rfl

section
variable {H : Type} {enc : TypeId × Value → H} {W : World} {base : Nat} {sp : Nat → Bool} {held : Bool}
theorem ints_sz {fuel : Nat} {v : Value} {l : List Int} {x : DataW H × List MemPlace} (hz : Wok 54 x.1) (h : DataW.trod enc Tryd.prog W base sp held fuel 54 [v] = some x) (hi : Is W W.heap.size v l) : l.length ≤ 17592186044416 := by
  obtain ⟨A, b, o, c, rfl, -⟩ := hi
  rcases Go.Deep.open_slice Tryd.underlying54 h with ⟨e, -⟩ | ⟨a, len, cap, m, n, D, Pl, e, -, -, -, -, rfl, -⟩
  · simp only [List.cons.injEq, Value.slice.injEq, and_true] at e
    omega
  · simp only [List.cons.injEq, Value.slice.injEq, and_true] at e
    have h1 := hz ((((List.range len).map D).length + ((List.range (m - len)).map fun j => D (len + j)).length) * 8) (by simp only [DataW.weights, Tryd.underlying54, b_int]; exact List.mem_cons_self)
    simp only [List.length_map, List.length_range, reachBytes] at h1
    omega

/-- A slice opened, whose elements fit. -/
theorem arr_sz {α : Type} [Inhabited α] {d : α} {sz : Nat} {R : World → Nat → Nat → Nat → α → Prop} {t e : TypeId} {fuel : Nat} {cs : List Value} {x : DataW H × List MemPlace} (ht : Tryd.prog.underlying t = some (.slice e)) (hsz : Tryd.prog.cellsOf e = sz) (hpos : 0 < sz)
    (hel : ∀ b p cs' y n, cs'.length = sz → (∀ j, j < sz → W.cell? ⟨b, p + j, none⟩ = cs'[j]?) → DataW.trod enc Tryd.prog W base sp held n e cs' = some y → Wok e y.1 → ∃ a : α, R W W.heap.size b p a)
    (hN : Wok t x.1)
    (h : DataW.trod enc Tryd.prog W base sp held fuel t cs = some x) : ∃ v l, cs = [v] ∧ Arr d sz R W W.heap.size v l := by
  rcases Go.Deep.open_slice ht h with ⟨rfl, -⟩ | ⟨a, len, cap, m, n, D, Pl, rfl, -, hl, hm, hmm, rfl, hx⟩
  · exact ⟨_, [], rfl, Arr.nil _ _ _ _ _⟩
  · have hlm : len ≤ m := by rw [hmm]; split <;> omega
    have hD : ∀ i, i < len → Wok e (D i) := fun i hi q hq => hN q (by
      simp only [DataW.weights, ht]
      exact List.mem_cons_of_mem _ (List.mem_append_left _ (wall_mem (l := (List.range len).map D) (List.mem_map.2 ⟨i, List.mem_range.2 hi, rfl⟩) hq)))
    rw [hsz] at hx
    by_cases h0 : 0 < len
    · have hsp : a.spot = none := by
        obtain ⟨cs', h1, -⟩ := hx 0 (by omega)
        obtain ⟨-, h3, h4⟩ := World.cells?_some h1
        have := h4 0 hpos
        rw [List.getElem?_eq_getElem (by omega)] at this
        simpa [Addr.add] using World.cell?_spot this
      obtain ⟨b, o, spot⟩ := a
      obtain rfl : spot = none := hsp
      have hk : ∀ i, i < len → ∃ q : α, b < W.heap.size ∧ R W W.heap.size b (o + i * sz) q := fun i hi => by
        obtain ⟨cs', h1, h2⟩ := hx i (by omega)
        obtain ⟨-, h3, h4⟩ := World.cells?_some h1
        have hc : ∀ j, j < sz → W.cell? ⟨b, o + i * sz + j, none⟩ = cs'[j]? := fun j hj => by
          have := h4 j hj
          rw [Go.WideShapes.add_plain, Go.WideShapes.add_plain] at this
          exact this
        obtain ⟨q, hq⟩ := hel b (o + i * sz) cs' _ _ h3 hc h2 (hD i hi)
        refine ⟨q, ?_, hq⟩
        have := hc 0 hpos
        rw [List.getElem?_eq_getElem (by omega)] at this
        exact cell_lt this
      obtain ⟨f, hf⟩ := Go.Deep.choose_lt hk
      refine ⟨_, (List.range len).map f, rfl, some ⟨b, o, none⟩, b, o, cap, by simp, fun _ => rfl, by simpa using hl, by simp; omega, fun k hk' => ?_⟩
      have hkl : k < len := by simpa using hk'
      have e : ((List.range len).map f).getD k d = f k := by simp [hkl, List.getD_eq_getElem?_getD]
      rw [e]
      exact hf k hkl
    · obtain rfl : len = 0 := by omega
      exact ⟨_, [], rfl, some a, 0, 0, cap, rfl, fun h => absurd h (by simp), by simp, by simp, fun k hk => absurd hk (by simp)⟩

set_option maxRecDepth 100000 in
theorem nodes_sz {fuel : Nat} {cs : List Value} {x : DataW H × List MemPlace} (hN : Wok 51 x.1) (h : DataW.trod enc Tryd.prog W base sp held fuel 51 cs = some x) : ∃ v l, cs = [v] ∧ Ns W W.heap.size v l ∧ ∀ k, k < l.length → (l.getD k default).ins.length ≤ 17592186044416 := by
  obtain ⟨v, l, rfl, ha⟩ := arr_sz (α := Nd) (d := default) (R := fun w B b p q => NdAt w B b p q ∧ q.ins.length ≤ 17592186044416) Tryd.underlying51 c_nd (by decide) (fun b p cs' y n h3 hc ht hb => by
    obtain ⟨y0, y1, y2, y3, n', hy, -, h0, h1, h2, h3'⟩ := Joins.trod_struct4 Tryd.underlying73 ht
    match cs', h3 with
    | [u0, u1, u2, u3], _ =>
      rw [c_kd] at h0
      rw [c_is] at h1
      rw [c_int] at h2 h3'
      obtain ⟨k, e0, -, wk⟩ := DataW.trod_int Tryd.underlying36 h0
      obtain ⟨s, l, e1, hi⟩ := ints_of h1
      obtain ⟨m, e2, -, -⟩ := DataW.trod_int Tryd.underlying3 h2
      obtain ⟨t, e3, -, -⟩ := DataW.trod_int Tryd.underlying3 h3'
      simp at e0 e1 e2 e3
      subst e0 e1 e2 e3
      have hw : Wok 54 y1.1 := fun q hq => hb q (by
        rw [hy]
        show q ∈ DataW.weights _ _ (.agg [y0.1, y1.1, y2.1, y3.1])
        simp only [DataW.weights, Tryd.underlying73]
        exact weach_mem (j := 1) rfl rfl hq)
      have hl : l.length ≤ 17592186044416 := ints_sz (v := u1) hw (by simpa using h1) hi
      have q0 := hc 0 (by decide)
      have q1 := hc 1 (by decide)
      have q2 := hc 2 (by decide)
      have q3 := hc 3 (by decide)
      exact ⟨⟨k, l, m, t⟩, ⟨u1, q0, q1, q2, q3, hi, (bounds_u8 wk).1, (bounds_u8 wk).2⟩, hl⟩) hN h
  refine ⟨v, l, rfl, ?_, ?_⟩
  · obtain ⟨A, b, o, c, h1, h2, h3, h4, h5⟩ := ha
    exact ⟨A, b, o, c, h1, h2, h3, h4, fun k hk => ⟨(h5 k hk).1, (h5 k hk).2.1⟩⟩
  · obtain ⟨A, b, o, c, h1, h2, h3, h4, h5⟩ := ha
    exact fun k hk => (h5 k hk).2.2
set_option maxRecDepth 100000 in
theorem mems_sz {fuel : Nat} {cs : List Value} {x : DataW H × List MemPlace} (hN : Wok 53 x.1) (h : DataW.trod enc Tryd.prog W base sp held fuel 53 cs = some x) : ∃ v l, cs = [v] ∧ Ms W W.heap.size v l ∧ ∀ k, k < l.length → (l.getD k default).addr.length ≤ 17592186044416 ∧ (l.getD k default).data.length ≤ 17592186044416 := by
  obtain ⟨v, l, rfl, ha⟩ := arr_sz (α := Mm) (d := default) (R := fun w B b p q => MmAt w B b p q ∧ q.addr.length ≤ 17592186044416 ∧ q.data.length ≤ 17592186044416) Tryd.underlying53 c_mm (by decide) (fun b p cs' y n h3 hc ht hb => by
    obtain ⟨y0, y1, y2, n', hy, -, h0, h1, h2⟩ := Go.Deep.trod_struct3 Tryd.underlying120 ht
    match cs', h3 with
    | [u0, u1, u2], _ =>
      rw [c_is] at h0 h1
      rw [c_int] at h2
      obtain ⟨s, l, e0, hi⟩ := ints_of h0
      obtain ⟨s', l', e1, hi'⟩ := ints_of h1
      obtain ⟨m, e2, -, -⟩ := DataW.trod_int Tryd.underlying3 h2
      simp at e0 e1 e2
      subst e0 e1 e2
      have hw : ∀ j t d, [54, 54, 3][j]? = some t → [y0.1, y1.1, y2.1][j]? = some d → Wok t d := fun j t d h1 h2 q hq => hb q (by
        rw [hy]
        show q ∈ DataW.weights _ _ (.agg [y0.1, y1.1, y2.1])
        simp only [DataW.weights, Tryd.underlying120]
        exact weach_mem (j := j) h1 h2 hq)
      have hl : l.length ≤ 17592186044416 := ints_sz (v := u0) (hw 0 _ _ rfl rfl) (by simpa using h0) hi
      have hl' : l'.length ≤ 17592186044416 := ints_sz (v := u1) (hw 1 _ _ rfl rfl) (by simpa using h1) hi'
      have q0 := hc 0 (by decide)
      have q1 := hc 1 (by decide)
      have q2 := hc 2 (by decide)
      exact ⟨⟨l, l', m⟩, ⟨u0, u1, q0, q1, q2, hi, hi'⟩, hl, hl'⟩) hN h
  refine ⟨v, l, rfl, ?_, ?_⟩
  · obtain ⟨A, b, o, c, h1, h2, h3, h4, h5⟩ := ha
    exact ⟨A, b, o, c, h1, h2, h3, h4, fun k hk => ⟨(h5 k hk).1, (h5 k hk).2.1⟩⟩
  · obtain ⟨A, b, o, c, h1, h2, h3, h4, h5⟩ := ha
    exact fun k hk => (h5 k hk).2.2

/-- What a copy can bear, slice by slice. -/
structure Bear (c : Ck) : Prop where
  i : ∀ k, k < c.nodes.length → (c.nodes.getD k default).ins.length ≤ 17592186044416
  m : ∀ k, k < c.mems.length → (c.mems.getD k default).addr.length ≤ 17592186044416 ∧ (c.mems.getD k default).data.length ≤ 17592186044416
set_option maxRecDepth 100000 in
/-- AN ARGUMENT that is a circuit, whose slices have their bytes in memory. -/
theorem open_circuit_sz {b0 : Nat} {r : Reach} {v : Value} {d : DataW H} {p : List MemPlace} (hN : Wok 56 d) (hv : Value.okWide Tryd.prog W r b0 56 v) (h : DataW.Trod enc Tryd.prog W base sp held 56 v d p) :
    ∃ c : Ck, Cir W W.heap.size v c ∧ Bear c := by
  obtain ⟨v0, v1, v2, v3, y0, y1, y2, y3, n, rfl, hd, -, h0, h1, h2, h3⟩ := Joins.open_agg4 Tryd.underlying56 (by kernel_rfl) c_ct hv h
  have hw : ∀ j t e, [51, 52, 53, 54][j]? = some t → [y0.1, y1.1, y2.1, y3.1][j]? = some e → Wok t e := fun j t e h1 h2 q hq => hN q (by
    rw [hd]
    simp only [DataW.weights, Tryd.underlying56]
    exact weach_mem (j := j) h1 h2 hq)
  obtain ⟨_, l0, e0, k0, hk⟩ := nodes_sz (hw 0 _ _ rfl rfl) h0
  obtain ⟨_, l1, e1, k1⟩ := strs_of h1
  obtain ⟨_, l2, e2, k2, hm⟩ := mems_sz (hw 2 _ _ rfl rfl) h2
  obtain ⟨_, l3, e3, k3⟩ := ints_of h3
  simp at e0 e1 e2 e3
  subst e0 e1 e2 e3
  exact ⟨⟨l0, l1, l2, l3⟩, ⟨_, _, _, _, rfl, k0, k1, k2, k3⟩, ⟨hk, hm⟩⟩
end
theorem Bear.szok {c : Ck} (h : Bear c) (h1 : c.nodes.length ≤ 24) (h2 : c.names.length ≤ 24) (h3 : c.mems.length ≤ 18) (h4 : c.outs.length ≤ 24) : SzOk c :=
  ⟨by omega, by omega, by omega, by omega, h.i, fun k hk => (h.m k hk).1, fun k hk => (h.m k hk).2⟩

end Go.Proofs.YtemogllidmgbfaaDoor

namespace Go.Proofs.YtemogllidmgbfaaDoor
open Go.ChangeShapes Go.WideShapes Go.ChangeAt Go.RowKit

theorem c_val : Tryd.prog.cellsOf 29 = 1 := by kernel_rfl
theorem b_str : Tryd.prog.bytesOf 9 = 16 := by kernel_rfl
theorem b_val : Tryd.prog.bytesOf 29 = 1 := by kernel_rfl
theorem c_vals : Tryd.prog.cellsOf 22 = 1 := by kernel_rfl
theorem c_pat : Tryd.prog.cellsOf 45 = 2 := by kernel_rfl
section
variable {H : Type} {enc : TypeId × Value → H} {W : World} {base : Nat} {sp : Nat → Bool} {held : Bool}
theorem v8_of {fuel : Nat} {cs : List Value} {x : DataW H × List MemPlace} (h : DataW.trod enc Tryd.prog W base sp held fuel 29 cs = some x) : ∃ a : Int, cs = [.int .u8 a] ∧ U8 a := by
  obtain ⟨a, e, -, w⟩ := DataW.trod_int Tryd.underlying29 h
  exact ⟨a, e, bounds_u8 w⟩
theorem vs_of {fuel : Nat} {cs : List Value} {x : DataW H × List MemPlace} (h : DataW.trod enc Tryd.prog W base sp held fuel 22 cs = some x) : ∃ v l, cs = [v] ∧ Arr 0 1 (fun w B b p g => U8At w B b p g ∧ U8 g) W W.heap.size v l :=
  arr_of Tryd.underlying22 c_val (by decide) (fun b p cs' y n h3 hc ht => by
    obtain ⟨a, rfl, wa⟩ := v8_of ht
    exact ⟨a, by have := hc 0 (by decide); simpa [U8At] using this, wa⟩) h
theorem strs_sz {fuel : Nat} {v : Value} {l : List ByteArray} {x : DataW H × List MemPlace} (hz : Wok 52 x.1) (h : DataW.trod enc Tryd.prog W base sp held fuel 52 [v] = some x) (hi : Ss W W.heap.size v l) : l.length ≤ 17592186044416 := by
  obtain ⟨A, b, o, c, rfl, -⟩ := hi
  rcases Go.Deep.open_slice Tryd.underlying52 h with ⟨e, -⟩ | ⟨a, len, cap, m, n, D, Pl, e, -, -, -, -, rfl, -⟩
  · simp only [List.cons.injEq, Value.slice.injEq, and_true] at e
    omega
  · simp only [List.cons.injEq, Value.slice.injEq, and_true] at e
    have h1 := hz ((((List.range len).map D).length + ((List.range (m - len)).map fun j => D (len + j)).length) * 16) (by simp only [DataW.weights, Tryd.underlying52, b_str]; exact List.mem_cons_self)
    simp only [List.length_map, List.length_range, reachBytes] at h1
    omega
theorem vals_sz {fuel : Nat} {v : Value} {A : Option Addr} {n c : Nat} {x : DataW H × List MemPlace} (hz : Wok 22 x.1) (h : DataW.trod enc Tryd.prog W base sp held fuel 22 [v] = some x) (hv : v = .slice A n c) : n ≤ 140737488355328 := by
  subst hv
  rcases Go.Deep.open_slice Tryd.underlying22 h with ⟨e, -⟩ | ⟨a, len, cap, m, k, D, Pl, e, -, -, -, -, rfl, -⟩
  · simp only [List.cons.injEq, Value.slice.injEq, and_true] at e
    omega
  · simp only [List.cons.injEq, Value.slice.injEq, and_true] at e
    have h1 := hz ((((List.range len).map D).length + ((List.range (m - len)).map fun j => D (len + j)).length) * 1) (by simp only [DataW.weights, Tryd.underlying22, b_val]; exact List.mem_cons_self)
    simp only [List.length_map, List.length_range, reachBytes] at h1
    omega
set_option maxRecDepth 100000 in
/-- AN ARGUMENT of values. -/
theorem open_vs {b0 : Nat} {r : Reach} {v : Value} {d : DataW H} {p : List MemPlace} (hv : Value.okWide Tryd.prog W r b0 22 v) (h : DataW.Trod enc Tryd.prog W base sp held 22 v d p) :
    ∃ (A : Option Addr) (n c : Nat) (l : List Int), v = .slice A n c ∧ Ks W W.heap.size (.slice A n c) l ∧ (∀ y ∈ l, 0 ≤ y ∧ y ≤ 255) := by
  obtain ⟨A, len, cap, rfl⟩ := okWide_slice Tryd.underlying22 hv
  obtain ⟨fuel, hf⟩ := h
  obtain ⟨s0, l0, e0, g0⟩ := vs_of hf
  obtain rfl : s0 = Value.slice A len cap := by simpa [Value.cells] using e0.symm
  obtain ⟨k0, v0⟩ := ks_of g0
  exact ⟨A, len, cap, l0, rfl, k0, v0⟩
/-- What the laws' few asks of memory. -/
structure Bearz (c : Ck) : Prop where
  b : Bear c
  n : c.names.length ≤ 17592186044416
  o : c.outs.length ≤ 17592186044416
set_option maxRecDepth 100000 in
/-- AN ARGUMENT that is a circuit, all of whose slices have their bytes in memory. -/
theorem open_circuit_szz {b0 : Nat} {r : Reach} {v : Value} {d : DataW H} {p : List MemPlace} (hN : Wok 56 d) (hv : Value.okWide Tryd.prog W r b0 56 v) (h : DataW.Trod enc Tryd.prog W base sp held 56 v d p) :
    ∃ c : Ck, Cir W W.heap.size v c ∧ Bearz c := by
  obtain ⟨v0, v1, v2, v3, y0, y1, y2, y3, n, rfl, hd, -, h0, h1, h2, h3⟩ := Joins.open_agg4 Tryd.underlying56 (by kernel_rfl) c_ct hv h
  have hw : ∀ j t e, [51, 52, 53, 54][j]? = some t → [y0.1, y1.1, y2.1, y3.1][j]? = some e → Wok t e := fun j t e h1 h2 q hq => hN q (by
    rw [hd]
    simp only [DataW.weights, Tryd.underlying56]
    exact weach_mem (j := j) h1 h2 hq)
  obtain ⟨_, l0, e0, k0, hk⟩ := nodes_sz (hw 0 _ _ rfl rfl) h0
  obtain ⟨_, l1, e1, k1⟩ := strs_of h1
  obtain ⟨_, l2, e2, k2, hm⟩ := mems_sz (hw 2 _ _ rfl rfl) h2
  obtain ⟨_, l3, e3, k3⟩ := ints_of h3
  simp at e0 e1 e2 e3
  subst e0 e1 e2 e3
  exact ⟨⟨l0, l1, l2, l3⟩, ⟨_, _, _, _, rfl, k0, k1, k2, k3⟩, ⟨⟨hk, hm⟩, strs_sz (hw 1 _ _ rfl rfl) h1 k1, ints_sz (hw 3 _ _ rfl rfl) h3 k3⟩⟩
set_option maxRecDepth 100000 in
/-- AN ARGUMENT that is a pattern. -/
theorem open_pat {b0 : Nat} {r : Reach} {v : Value} {d : DataW H} {p : List MemPlace} (hN : Wok 45 d) (hv : Value.okWide Tryd.prog W r b0 45 v) (h : DataW.Trod enc Tryd.prog W base sp held 45 v d p) :
    ∃ (A B : Option Addr) (n m c e : Nat) (l k : List Int), v = .agg #[.slice A n c, .slice B m e] ∧ Ks W W.heap.size (.slice A n c) l ∧ Ks W W.heap.size (.slice B m e) k ∧ (∀ y ∈ l, 0 ≤ y ∧ y ≤ 255) ∧ (∀ y ∈ k, 0 ≤ y ∧ y ≤ 255) ∧ n ≤ 140737488355328 ∧ m ≤ 140737488355328 := by
  obtain ⟨cs, rfl, hsz⟩ := okWide_struct Tryd.underlying45 hv
  obtain ⟨c0, c1, rfl⟩ : ∃ c0 c1, cs = #[c0, c1] := by
    obtain ⟨l⟩ := cs
    match l, hsz.trans c_pat with
    | [c0, c1], _ => exact ⟨c0, c1, rfl⟩
  obtain ⟨fuel, hf⟩ := h
  obtain ⟨xs, n, -, hd, -, hlen, hel⟩ := DataW.trod_struct Tryd.underlying45 hf
  match xs, hlen with
  | [y0, y1], _ =>
    have hw : ∀ j t e, [22, 22][j]? = some t → [y0.1, y1.1][j]? = some e → Wok t e := fun j t e h1 h2 q hq => hN q (by
      rw [(Prod.mk.inj hd).1]
      simp only [DataW.weights, Tryd.underlying45]
      exact weach_mem (j := j) h1 h2 hq)
    have h0 : DataW.trod enc Tryd.prog W base sp held n 22 (([c0, c1].drop 0).take (Tryd.prog.cellsOf 22)) = _ := hel 0 _ rfl
    have h1 : DataW.trod enc Tryd.prog W base sp held n 22 (([c0, c1].drop 1).take (Tryd.prog.cellsOf 22)) = _ := hel 1 _ rfl
    rw [c_vals] at h0 h1
    have h0' : DataW.trod enc Tryd.prog W base sp held n 22 [c0] = some y0 := h0
    have h1' : DataW.trod enc Tryd.prog W base sp held n 22 [c1] = some y1 := h1
    obtain ⟨s0, l0, e0, g0⟩ := vs_of h0'
    obtain ⟨s1, l1, e1, g1⟩ := vs_of h1'
    simp at e0 e1
    subst e0 e1
    obtain ⟨k0, v0⟩ := ks_of g0
    obtain ⟨k1, v1⟩ := ks_of g1
    obtain ⟨A, n0, cA, rfl⟩ := ks_slice k0
    obtain ⟨B, n1, cB, rfl⟩ := ks_slice k1
    exact ⟨A, B, n0, n1, cA, cB, l0, l1, rfl, k0, k1, v0, v1, vals_sz (hw 0 _ _ rfl rfl) h0' rfl, vals_sz (hw 1 _ _ rfl rfl) h1' rfl⟩
end
end Go.Proofs.YtemogllidmgbfaaDoor
