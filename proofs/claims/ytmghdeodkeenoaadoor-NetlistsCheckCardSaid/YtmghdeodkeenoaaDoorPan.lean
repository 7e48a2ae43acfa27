/- Arguments opened: a slice of texts. -/
import Derived.Test.YtmghdeodkeenoaaDoorSli
import Derived.Deep.Slices
import Derived.Deep.Fields
import Derived.SliceStrings
import Derived.ChangeSame
import Derived.Test.YtmghdeodkeenoaaDoorCards
import Derived.Test.YtmghdeodkeenoaaDoorTie
import Derived.Test.YtmghdeodkeenoaaDoorBas
import Derived.ProofKit
import Derived.OpenShut
import Derived.Deep.DeepHandedRow
import Derived.Lib.LaidTab
import Derived.Lib.SmallJoins
import Derived.MakeChecks
namespace Go.Proofs.YtmghdeodkeenoaaDoor
open Go.ChangeShapes Go.WideShapes Go.ChangeAt Go.RowKit

open Go.ChangeShapes Go.WideShapes Go.ChangeAt Go.RowKit

theorem rw_own : ownKnob Tryd.prog.godebug = none := by kernel_rfl
theorem rw_laidOut : laidOutB Tryd.prog = true := by kernel_rfl
theorem g_spans : Tryd.prog.globalNamed "probecard/logic.spans" = some 0 := by kernel_rfl
theorem t_spans : (Tryd.prog.globals[0]?).map (·.type) = some 122 := by kernel_rfl
theorem c_spans : Tryd.prog.cellsOf 122 = 32 := by kernel_rfl
theorem c_span : Tryd.prog.cellsOf 121 = 2 := by kernel_rfl
theorem c_int : Tryd.prog.cellsOf 3 = 1 := by kernel_rfl

section
variable {H : Type} {enc : TypeId × Value → H}

/-- One row of the table of spans, as data. -/
def spanD (i : Nat) : DataW H := .agg [.lit (.int .i64 (spansL.getD (2 * i) 0)), .lit (.int .i64 (spansL.getD (2 * i + 1) 0))]

theorem spans_cells {W : World} {base fuel : Nat} {sp : Nat → Bool} {held : Bool} {cs : List Value} {p : List MemPlace}
    (h : DataW.trod enc Tryd.prog W base sp held fuel 122 cs = some (Rows.laid_probecard_logic_spans, p)) (k : Nat) (hk : k < 32) : cs[k]? = some (.int .i64 (spansL.getD k 0)) := by
  obtain ⟨xs, m, -, hx, hlen, hn, hel⟩ := DataW.trod_array Tryd.underlying122 h
  simp only [Prod.mk.injEq] at hx
  have hxs : xs.map (·.1) = (List.range 16).map (spanD (H := H)) := by
    have e : (Rows.laid_probecard_logic_spans : DataW H) = .agg ((List.range 16).map spanD) := rfl
    have := hx.1.symm.trans e
    injection this
  have hi : k / 2 < 16 := by omega
  have hxi := congrArg (·[k / 2]?) hxs
  simp only [List.getElem?_map, List.getElem?_range hi, Option.map_some] at hxi
  obtain ⟨y, hy, hyd⟩ := Option.map_eq_some_iff.1 hxi
  have ht := (hel (k / 2) hi).trans hy
  rw [c_span] at ht
  obtain ⟨y0, y1, n, hyx, -, h0, h1⟩ := trod_struct2 Tryd.underlying121 ht
  obtain ⟨a, ea, ha, -⟩ := DataW.trod_int Tryd.underlying3 h0
  obtain ⟨b, eb, hb, -⟩ := DataW.trod_int Tryd.underlying3 h1
  rw [hyx] at hyd
  simp only [spanD, DataW.agg.injEq, List.cons.injEq, and_true] at hyd
  rw [ha, hb] at hyd
  simp only [DataW.lit.injEq, Lit.int.injEq, true_and] at hyd
  obtain ⟨rfl, rfl⟩ := hyd
  rw [c_int] at ea eb
  have e0 : cs[k / 2 * 2]? = some (.int .i64 (spansL.getD (2 * (k / 2)) 0)) := by
    have := congrArg (·[0]?) ea
    simpa [List.getElem?_take, List.getElem?_drop] using this
  have e1 : cs[k / 2 * 2 + 1]? = some (.int .i64 (spansL.getD (2 * (k / 2) + 1) 0)) := by
    have := congrArg (·[0]?) eb
    simpa [List.getElem?_take, List.getElem?_drop] using this
  rcases Nat.mod_two_eq_zero_or_one k with h2 | h2
  · have e : k / 2 * 2 = k := by omega
    have e' : 2 * (k / 2) = k := by omega
    rw [e, e'] at e0; exact e0
  · have e : k / 2 * 2 + 1 = k := by omega
    have e' : 2 * (k / 2) + 1 = k := by omega
    rw [e, e'] at e1; exact e1
end

/-- WHAT THE LISTED VARIABLES GIVE THE WALKS. -/
theorem tabs_of {W : World} (h : laidMetH Tryd.prog [("probecard/logic.spans", Rows.laid_probecard_logic_spans)] W) : Tabs W := by
  rw [MakeChecks.laidMetH_plain _ _ _ (by kernel_rfl)] at h
  obtain ⟨ps, ⟨g0, t0, cs0, f0, p0, q0, hg0, ht0, hv0, hd0, -, -⟩, -, -⟩ := h
  obtain rfl := Option.some.inj (g_spans.symm.trans hg0)
  obtain rfl := Option.some.inj (t_spans.symm.trans ht0)
  have hs : ∀ k, k < 32 → W.cell? ⟨0, k, none⟩ = some (.int .i64 (spansL.getD k 0)) := fun k hk => by
    rw [World.var?_cell g_spans hv0 k]
    simpa using spans_cells hd0 k hk
  refine ⟨?_, hs⟩
  have h0 := hs 0 (by decide)
  have lt : ∀ {g : Nat} {v : Value}, W.cell? ⟨g, 0, none⟩ = some v → g < W.heap.size := fun {g v} h => by
    rcases Nat.lt_or_ge g W.heap.size with hl | hl
    · exact hl
    · simp [World.cell?, Array.getElem?_eq_none hl] at h
  have l0 := lt h0
  omega

section
variable {H : Type} {enc : TypeId × Value → H} {P : Program}

theorem all_below (hl : laidOutB P = true) {W W' : World} (hb : Below W.heap.size W W') : ∀ {ts : List TypeId} {vs : List Value} {ds : List (DataW H)} {p : List MemPlace},
    (∀ t ∈ ts, P.readableRec t = true ∧ t < P.types.size) → DataW.TrodAll enc P W 0 (fun _ => true) true ts vs ds p → (∀ x ∈ p, x.block < W.heap.size) →
    DataW.TrodAll enc P W' 0 (fun b => decide (b < W.heap.size)) true ts vs ds p
  | [], vs, ds, p, _, h, _ => by
    obtain ⟨rfl, rfl, rfl⟩ := trodAll_nil h
    exact trodAll_mk0
  | t :: ts, vs, ds, p, hr, h, hp => by
    obtain ⟨v, vs', d, ds', p1, p2, rfl, rfl, rfl, h1, h2⟩ := trodAll_cons h
    have hr1 := hr t List.mem_cons_self
    exact trodAll_cons_mk (Below.trod hl hr1.1 hr1.2 h1 hb fun x hx => hp x (List.mem_append_left _ hx))
      (all_below hl hb (fun u hu => hr u (List.mem_cons_of_mem _ hu)) h2 fun x hx => hp x (List.mem_append_right _ hx))

/-- THE LAST STEP of a law: it returned true, and what was there is as it was. -/
theorem law_post (hl : laidOutB P = true) {f : Func} {s : ChangeSpec} {W W' : World} {args : Array Value} {ds : List (DataW H)} {before : List MemPlace} {tb : TypeId}
    (hv : s.vars = []) (hW : DataW.Whole enc P f.params.toList s.vars false W args.toList ds [] before) (hr : ∀ t ∈ f.params.toList, P.readableRec t = true ∧ t < P.types.size)
    (hres : f.resultTypes = #[tb]) (htb : P.underlying tb = some .bool) (hfn : s.fn H (ds ++ []) = { results := [.lit (.bool true)], args := ds }) (hb : Below W.heap.size W W') :
    s.post enc P f false true false false W args (.bool true) W' := by
  have hlt := hW.lt
  obtain ⟨p, q, hA, hV, he, hz, hn⟩ := id hW
  rw [hv] at hV
  obtain ⟨-, rfl⟩ := trodVars_none hV
  rw [List.append_nil] at he
  subst he
  refine ⟨ds, [], before, [], before, [], hW, ?_, ?_, ?_, hb.frame _, fun h => by cases h⟩
  · rw [hfn, hres]
    exact trodAll_cons_mk (shut_bool htb true) trodAll_mk0
  · rw [hfn]
    exact all_below hl hb hr hA fun x hx => hlt x hx
  · rw [hfn, hv]
    rfl
end

def relay (cs : Array Value) : Obj → Obj
  | .cells _ t fr => .cells cs t fr
  | o => o

/-- A START: the settled world, the table as its initialiser lays it. -/
noncomputable def tabWorld (os : Os) : World :=
  { World.holding Tryd.prog os ⟨#[], #[], []⟩ with heap := (World.holding Tryd.prog os ⟨#[], #[], []⟩).heap.modify 0 (relay (spansL.map (Value.int .i64)).toArray) }


theorem c_str : Tryd.prog.cellsOf 9 = 1 := by kernel_rfl
set_option maxRecDepth 100000 in
theorem open_texts {H : Type} {enc : TypeId × Value → H} {W : World} {base b0 : Nat} {sp : Nat → Bool} {held : Bool} {r : Reach} {v : Value} {d : DataW H} {p : List MemPlace}
    (hv : Value.okWide Tryd.prog W r b0 23 v) (h : DataW.Trod enc Tryd.prog W base sp held 23 v d p) : ∃ l : List ByteArray, Ss W W.heap.size v l := by
  obtain ⟨A, len, cap, rfl⟩ := okWide_slice Tryd.underlying23 hv
  obtain ⟨fuel, hf⟩ := h
  rcases open_strings Tryd.underlying23 Tryd.underlying9 c_str hf with ⟨hcs, -⟩ | ⟨a, len', cap', ss, hcs, -, hl, hm, hmm, -, hcell, hsz⟩
  · simp only [Value.cells, List.cons.injEq, Value.slice.injEq, and_true] at hcs
    obtain ⟨rfl, rfl, rfl⟩ := hcs
    exact ⟨[], Arr.nil _ _ _ _ _⟩
  · simp only [Value.cells, List.cons.injEq, Value.slice.injEq, and_true] at hcs
    obtain ⟨rfl, rfl, rfl⟩ := hcs
    have hlm : len ≤ ss.length := by rw [hmm]; split <;> omega
    have hll : (ss.take len).length = len := by simp; omega
    by_cases h0 : 0 < len
    · have hsp : a.spot = none := by simpa [Addr.add] using World.cell?_spot (hcell 0 (by omega))
      obtain ⟨b, o, spot⟩ := a
      obtain rfl : spot = none := hsp
      refine ⟨ss.take len, some ⟨b, o, none⟩, b, o, cap, by rw [hll], fun _ => rfl, by rw [hll]; exact hl, by rw [hll]; omega, fun k hk => ?_⟩
      rw [hll] at hk
      have hc := hcell k (by omega)
      rw [Go.WideShapes.add_plain] at hc
      have hg : (ss.take len).getD k ByteArray.empty = ss.getD k ByteArray.empty := by
        rw [List.getD_eq_getElem?_getD, List.getD_eq_getElem?_getD, List.getElem?_take, if_pos hk]
      refine ⟨cell_lt hc, ?_, ?_⟩
      · rw [hg, Nat.mul_one]; exact hc
      · rw [hg]
        refine hsz _ ?_
        rw [List.getD_eq_getElem?_getD, List.getElem?_eq_getElem (by omega)]
        exact List.getElem_mem _
    · obtain rfl : len = 0 := by omega
      exact ⟨[], some a, 0, 0, cap, rfl, fun h => absurd h (by simp), by simp, by simp, fun k hk => absurd hk (by simp)⟩
end Go.Proofs.YtmghdeodkeenoaaDoor
