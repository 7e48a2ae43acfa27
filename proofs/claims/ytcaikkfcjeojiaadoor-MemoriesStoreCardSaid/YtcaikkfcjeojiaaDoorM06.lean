/- The texts Lev Ofk Ofp. -/
import Derived.Test.YtcaikkfcjeojiaaDoorM05
import Derived.OwnWalk
import Derived.Maps.AppendAt
namespace Go.Proofs.YtcaikkfcjeojiaaDoor
open Go.RowKit

/-- A row of n cells, the first k of which are filled. -/
def fillL (f : Nat → Value) (z : Value) (n k : Nat) : List Value := (List.range n).map fun j => if j < k then f j else z
theorem fillL_len (f : Nat → Value) (z : Value) (n k : Nat) : (fillL f z n k).length = n := by simp [fillL]
theorem fillL_get (f : Nat → Value) (z : Value) (n k j : Nat) (h : j < n) : (fillL f z n k)[j]? = some (if j < k then f j else z) := by
  simp [fillL, List.getElem?_map, List.getElem?_range h]
theorem fillL_set (f : Nat → Value) (z : Value) (n k : Nat) : (fillL f z n k).set k (f k) = fillL f z n (k + 1) := by
  apply List.ext_getElem?
  intro j
  by_cases hj : j < n
  · rw [List.getElem?_set, fillL_get _ _ _ _ _ hj, fillL_get _ _ _ _ _ hj, fillL_len]
    by_cases hk : k = j
    · subst hk; simp [hj]
    · rw [if_neg hk]
      by_cases h1 : j < k
      · rw [if_pos h1, if_pos (by omega)]
      · rw [if_neg h1, if_neg (by omega)]
  · rw [List.getElem?_eq_none (by simp [fillL_len]; omega), List.getElem?_eq_none (by simp [fillL_len]; omega)]
theorem fillL_start (f : Nat → Value) (z : Value) (n : Nat) : (madeCells #[z] n).toList = fillL f z n 0 := by
  apply List.ext_getElem?
  intro j
  by_cases hj : j < n
  · rw [fillL_get _ _ _ _ _ hj]; simp [madeCells, hj, Nat.mod_one]
  · rw [List.getElem?_eq_none (by simp [madeCells]; omega), List.getElem?_eq_none (by simp [fillL_len]; omega)]
theorem info_int : (Tryd.prog.info? 3).map (fun i => (i.zero, i.size, i.bytes)) = some (some (.int .i64 0), 1, 8) := by kernel_rfl

/-- A row of numbers of the call's own, in block g. -/
def Row (w : World) (g : Nat) (l : List Int) : Prop := w.ownsRow g 3 1 (.slice (some ⟨g, 0, none⟩) l.length l.length) l.length (l.map (Value.int .i64))
theorem Row.cell {w : World} {g : Nat} {l : List Int} (h : Row w g l) {j : Nat} (hj : j < l.length) : w.cell? ⟨g, j, none⟩ = some (.int .i64 (lat l j)) := by
  have := World.ownsRow.cellAt h j (by omega)
  rw [this, List.getElem?_map, List.getElem?_eq_getElem hj]
  simp [lat, List.getD_eq_getElem?_getD, List.getElem?_eq_getElem hj]
theorem Row.frozen {w : World} {g : Nat} {l : List Int} (h : Row w g l) (j : Nat) : w.frozen? ⟨g, j, none⟩ = false := World.ownsRow.frozenAt h j
theorem Row.set {w : World} {g : Nat} {l : List Int} (h : Row w g l) (j : Nat) (x : Int) : Row (w.setCell ⟨g, j, none⟩ (.int .i64 x)) g (l.set j x) := by
  have := (World.ownsRow.stored h j (.int .i64 x)).1
  unfold Row
  rw [List.length_set, List.map_set]
  exact this
theorem Row.lt {w : World} {g : Nat} {l : List Int} (h : Row w g l) : g < w.heap.size := (World.ownsRow.lt h g rfl).2
theorem Row.kept {w w' : World} {g : Nat} {l : List Int} {row : Option Nat} (h : Row w g l) (hg : w.grownBy w' row) (hne : some g ≠ row) : Row w' g l := World.ownsRow.kept h hg (.inr hne)
theorem Row.below {w w' : World} {g : Nat} {l : List Int} (h : Row w g l) (hb : Below w.heap.size w w') : Row w' g l :=
  h.kept (row := none) ⟨hb.os, hb.tape, hb.output, hb.size, fun i hi _ => hb.block i hi⟩ (by simp)

/-- The stack: a row of numbers of the call's own, in a block from base on, whose room may be greater. -/
def Stk (w : World) (base : Nat) (v : Value) (l : List Int) : Prop := w.ownsRow base 3 1 v l.length (l.map (Value.int .i64))
theorem Stk.nil (w : World) (base : Nat) : Stk w base (.slice none 0 0) [] := World.ownsRow_nil w base _ _
theorem Stk.kept {w w' : World} {base : Nat} {v : Value} {l : List Int} {row : Option Nat} (h : Stk w base v l) (hg : w.grownBy w' row) (hne : ∀ q, row = some q → q < base) : Stk w' base v l := by
  refine World.ownsRow.kept h hg ?_
  rcases ho : v.ownBlock with _ | q
  · exact .inl rfl
  · refine .inr fun e => ?_
    have := (World.ownsRow.lt h q ho).1
    have := hne q e.symm
    omega
theorem Stk.below {w w' : World} {base : Nat} {v : Value} {l : List Int} (h : Stk w base v l) (hb : Below w.heap.size w w') : Stk w' base v l :=
  h.kept (row := none) ⟨hb.os, hb.tape, hb.output, hb.size, fun i hi _ => hb.block i hi⟩ (by simp)
/-- What the stack's value looks like. -/
theorem Stk.form {w : World} {base : Nat} {v : Value} {l : List Int} (h : Stk w base v l) : ∃ A c, v = .slice A l.length c ∧ l.length ≤ c ∧ c ≤ maxLen ∧ (0 < l.length → ∃ q, A = some ⟨q, 0, none⟩ ∧ base ≤ q ∧ q < w.heap.size) := by
  have hlt := World.ownsRow.lt h
  rcases h.2 with ⟨rfl, hn⟩ | ⟨g, cap, cur, rfl, hb, hg, hle, hm, -⟩
  · exact ⟨none, 0, by rw [hn], by omega, by simp, fun h => by omega⟩
  · exact ⟨_, cap, rfl, hle, hm, fun _ => ⟨g, rfl, hb, (hlt g rfl).2⟩⟩
theorem Stk.cell {w : World} {base q c : Nat} {l : List Int} (h : Stk w base (.slice (some ⟨q, 0, none⟩) l.length c) l) {j : Nat} (hj : j < l.length) : w.cell? ⟨q, j, none⟩ = some (.int .i64 (l.getD j 0)) := by
  rw [World.ownsRow.cellAt h j (by omega), List.getElem?_map, List.getElem?_eq_getElem hj]
  simp [List.getD_eq_getElem?_getD, List.getElem?_eq_getElem hj]
theorem one_new (w : World) (u : Value) (t : TypeId) : ∀ (j : Nat) (v : Value), [u][j]? = some v → (w.alloc (.cells #[u] t)).cell? ((⟨w.heap.size, 0, none⟩ : Addr).add j) = some v := by
  intro j v h
  match j, h with
  | 0, h =>
    obtain rfl : u = v := by simpa using h
    rw [show (⟨w.heap.size, 0, none⟩ : Addr).add 0 = ⟨w.heap.size, 0, none⟩ from rfl, World.cell?_alloc_at _ _ _ _ rfl]
    rfl
end Go.Proofs.YtcaikkfcjeojiaaDoor

namespace Go.Proofs.YtcaikkfcjeojiaaDoor
open Go.RowKit

def U8At (w : World) (_B b p : Nat) (x : Int) : Prop := w.cell? ⟨b, p, none⟩ = some (.int .u8 x)
theorem stays_u8 : Stays U8At := fun w w' B B' b p x hb hB h hk => (hk ⟨b, p, none⟩ hb).trans h
def Ks (w : World) (B : Nat) (v : Value) (l : List Int) : Prop := Arr 0 1 U8At w B v l
theorem Ks.below {w w' : World} {B : Nat} {v : Value} {l : List Int} (h : Ks w B v l) (hb : Below B w w') : Ks w' B v l := Arr.keep stays_u8 h (Nat.le_refl _) fun _ hp => hb.cell hp
theorem Ks.opens {w : World} {B : Nat} {v : Value} {l : List Int} (h : Ks w B v l) : ∃ A b o c, v = .slice A l.length c ∧ (0 < l.length → A = some ⟨b, o, none⟩) ∧ l.length ≤ c ∧ l.length ≤ maxLen ∧ ∀ k, k < l.length → b < B ∧ w.cell? ⟨b, o + k, none⟩ = some (.int .u8 (l.getD k 0)) := by
  obtain ⟨A, b, o, c, h1, h2, h3, h4, h5⟩ := h
  exact ⟨A, b, o, c, h1, h2, h3, h4, fun k hk => ⟨(h5 k hk).1, by have := (h5 k hk).2; rw [Nat.mul_one] at this; exact this⟩⟩
def isK (kl : List Int) (x : Int) : Bool := anyP (fun y => x == y) kl

/-- The nodes of the given kinds among the first k. -/
def ofTo (nodes : List Nd) (kl : List Int) (k : Nat) : List Int := List.map (fun i : Nat => (i : Int)) (List.filter (fun i => isK kl (nodes.getD i default).kind) (List.range k))
/-- A stack reads as its list. -/
theorem Stk.reads {w : World} {g c : Nat} {A : Option Addr} {l : List Int} (h : Stk w g (.slice A l.length c) l) (k : Nat) (hk : l.length ≤ k) (hkm : l.length ≤ maxLen) : Is w w.heap.size (.slice A l.length k) l := by
  obtain ⟨A', c', e, -, -, hq⟩ := h.form
  simp only [Value.slice.injEq, true_and] at e
  obtain ⟨rfl, rfl⟩ := e
  by_cases h0 : 0 < l.length
  · obtain ⟨q, rfl, -, hlt⟩ := hq h0
    refine ⟨_, q, 0, k, rfl, fun _ => rfl, hk, hkm, fun j hj => ⟨hlt, ?_⟩⟩
    show World.cell? _ _ = _
    rw [Nat.zero_add, Nat.mul_one]
    exact h.cell hj
  · exact ⟨A, 0, 0, k, rfl, fun h => absurd h h0, hk, hkm, fun j hj => absurd hj (by omega)⟩
def OfPost (l : List Int) (w : World) (e : Ending) (w' : World) : Prop := ∃ A, e = .returned (.slice A l.length l.length) ∧ Is w' w'.heap.size (.slice A l.length l.length) l ∧ Below w.heap.size w w'

theorem OfPost.from {l : List Int} {w0 w : World} {P : Program} {f : FuncId} {args : Array Value} (h : Calls P f args w (OfPost l w)) (hb : Below w0.heap.size w0 w) : Calls P f args w (OfPost l w0) :=
  h.mono fun _ _ ⟨A, he, hi, h'⟩ => ⟨A, he, hi, joinB hb h'⟩

end Go.Proofs.YtcaikkfcjeojiaaDoor

namespace Go.Proofs.YtcaikkfcjeojiaaDoor
open Go.RowKit

structure Gx where
  kind : Int
  i0 : Int
  i1 : Int
  i2 : Int
instance gxInh : Inhabited Gx := ⟨⟨0, 0, 0, 0⟩⟩
structure Cx where
  inN : Int
  dffs : Int
  d0 : Int
  d1 : Int
  bus : Bool
  mem : Bool
  p0 : Int
  p1 : Int
  p2 : Int
  p3 : Int
  gates : List Gx
  outs : List Int
def U8 (x : Int) : Prop := 0 ≤ x ∧ x ≤ 255
section
variable {bus : Bool} {k i0 i1 i2 : Int} {nodes : List Nd} {n : Nat} {a b d : Int}
end

end Go.Proofs.YtcaikkfcjeojiaaDoor
