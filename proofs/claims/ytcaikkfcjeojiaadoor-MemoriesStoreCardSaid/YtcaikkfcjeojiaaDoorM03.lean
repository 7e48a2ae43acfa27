/- The texts Cka Bas. -/
import Derived.Below
import Derived.Test.YtcaikkfcjeojiaaDoorRows
import Derived.Test.YtcaikkfcjeojiaaDoorM01
import Derived.WalkKit
import Derived.WalkSpells
import Derived.WalkLawsBesides
import Derived.Lib.Hide
import Derived.BigQuiet
import Derived.Deep.Draws
import Derived.WalkSmall
import Derived.StillTailTactics
import Derived.Laws.StructEq
import Derived.Deep.RegionWith
namespace Go.Proofs.YtcaikkfcjeojiaaDoor

structure Nd where
  kind : Int
  ins : List Int
  mem : Int
  bit : Int
instance ndInh : Inhabited Nd := ⟨⟨0, [], 0, 0⟩⟩
structure Mm where
  addr : List Int
  data : List Int
  write : Int
instance mmInh : Inhabited Mm := ⟨⟨[], [], 0⟩⟩
structure Ck where
  nodes : List Nd
  names : List ByteArray
  mems : List Mm
  outs : List Int

def cmb (k : Int) : Bool := decide (1 ≤ k) && decide (k ≤ 13)
def depsOf (x : Nd) : List Int := if cmb x.kind = true then x.ins else []
/-- The k-th element of a list of levels. -/
def lat (lv : List Int) (x : Int) : Int := lv.getD x.toNat 0
def levf (lv : List Int) (l : List Int) : Int := l.foldl (fun a x => max a (lat lv x + 1)) 0
def dep (nodes : List Nd) (x : Int) : List Int := depsOf (nodes.getD x.toNat default)

theorem foldl_max_ge (lv : List Int) : ∀ (l : List Int) (a : Int), a ≤ l.foldl (fun a x => max a (lat lv x + 1)) a
  | [], a => Int.le_refl a
  | x :: l, a => Int.le_trans (Int.le_max_left a _) (foldl_max_ge lv l _)
theorem foldl_max_mem (lv : List Int) : ∀ (l : List Int) (a : Int) (x : Int), x ∈ l → lat lv x + 1 ≤ l.foldl (fun a x => max a (lat lv x + 1)) a
  | [], _, _, h => by cases h
  | y :: l, a, x, h => by
    rcases List.mem_cons.1 h with rfl | h
    · exact Int.le_trans (Int.le_max_right a _) (foldl_max_ge lv l _)
    · exact foldl_max_mem lv l _ x h
theorem foldl_max_is (lv : List Int) : ∀ (l : List Int) (a : Int), l.foldl (fun a x => max a (lat lv x + 1)) a = a ∨ ∃ x ∈ l, l.foldl (fun a x => max a (lat lv x + 1)) a = lat lv x + 1
  | [], a => .inl rfl
  | y :: l, a => by
    rcases foldl_max_is lv l (max a (lat lv y + 1)) with h | ⟨x, hx, h⟩
    · rw [List.foldl_cons, h]
      rcases Int.le_total a (lat lv y + 1) with h' | h'
      · exact .inr ⟨y, List.mem_cons_self, Int.max_eq_right h'⟩
      · exact .inl (Int.max_eq_left h')
    · exact .inr ⟨x, List.mem_cons_of_mem _ hx, h⟩
theorem levf_nonneg (lv l : List Int) : 0 ≤ levf lv l := foldl_max_ge lv l 0
theorem levf_mem {lv l : List Int} {x : Int} (h : x ∈ l) : lat lv x + 1 ≤ levf lv l := foldl_max_mem lv l 0 x h
theorem levf_is (lv l : List Int) : levf lv l = 0 ∨ ∃ x ∈ l, levf lv l = lat lv x + 1 := foldl_max_is lv l 0
theorem levf_congr {lv lv' l : List Int} (h : ∀ x ∈ l, lat lv x = lat lv' x) : levf lv l = levf lv' l := by
  have key : ∀ (l : List Int) (a : Int), (∀ x ∈ l, lat lv x = lat lv' x) → l.foldl (fun a x => max a (lat lv x + 1)) a = l.foldl (fun a x => max a (lat lv' x + 1)) a := by
    intro l
    induction l with
    | nil => intro a _; rfl
    | cons y l ih =>
      intro a h
      rw [List.foldl_cons, List.foldl_cons, h y List.mem_cons_self]
      exact ih _ fun x hx => h x (List.mem_cons_of_mem _ hx)
  exact key l 0 h

/-- All pins name nodes. -/
def Wf (nodes : List Nd) : Prop := ∀ i, i < nodes.length → ∀ x ∈ (nodes.getD i default).ins, 0 ≤ x ∧ x < (nodes.length : Int)
theorem Wf.dep {nodes : List Nd} (h : Wf nodes) {i : Int} (hi : i.toNat < nodes.length) {x : Int} (hx : x ∈ dep nodes i) : 0 ≤ x ∧ x < (nodes.length : Int) := by
  unfold Proofs.YtcaikkfcjeojiaaDoor.dep depsOf at hx
  split at hx
  · exact h _ hi x hx
  · cases hx

/-- L is the list of the levels. -/
def Lvl (nodes : List Nd) (L : List Int) : Prop := L.length = nodes.length ∧ ∀ i : Nat, i < nodes.length → lat L i = levf L (dep nodes i)
theorem Lvl.lt {nodes : List Nd} {L : List Int} (h : Lvl nodes L) {i x : Int} (h0 : 0 ≤ i) (hi : i < nodes.length) (hx : x ∈ dep nodes i) : lat L x < lat L i := by
  have := h.2 i.toNat (by omega)
  rw [Int.toNat_of_nonneg h0] at this
  have := levf_mem (lv := L) hx
  omega
theorem Lvl.nonneg {nodes : List Nd} {L : List Int} (h : Lvl nodes L) {i : Nat} (hi : i < nodes.length) : 0 ≤ lat L i := by
  rw [h.2 i hi]; exact levf_nonneg _ _
theorem ext_lat {L L' : List Int} (hl : L.length = L'.length) (h : ∀ i : Nat, i < L.length → lat L i = lat L' i) : L = L' := by
  apply List.ext_getElem hl
  intro i h1 h2
  have := h i h1
  simpa [lat, List.getD_eq_getElem?_getD, List.getElem?_eq_getElem h1, List.getElem?_eq_getElem h2] using this
/-- How many are not done. -/
def neg (lv : List Int) : Nat := lv.countP fun x => decide (x < 0)
theorem lat_set {lv : List Int} {i : Nat} (v : Int) {x : Int} (h0 : 0 ≤ x) : lat (lv.set i v) x = if x = i ∧ i < lv.length then v else lat lv x := by
  unfold lat
  rw [List.getD_eq_getElem?_getD, List.getD_eq_getElem?_getD, List.getElem?_set]
  by_cases h : i = x.toNat
  · subst h
    by_cases hl : x.toNat < lv.length
    · rw [if_pos rfl, if_pos hl, if_pos ⟨by omega, hl⟩]; rfl
    · rw [if_pos rfl, if_neg hl, if_neg (fun h => hl h.2), List.getElem?_eq_none (by omega)]
  · rw [if_neg h, if_neg (fun h' => h (by omega))]
/-- Each element depends on the one before it. -/
def Pth (nodes : List Nd) : List Int → Prop
  | [] => True
  | [_] => True
  | a :: b :: l => b ∈ dep nodes a ∧ Pth nodes (b :: l)
theorem Pth.le {nodes : List Nd} {L : List Int} (hL : Lvl nodes L) {t : Int} : ∀ {r : List Int}, (∀ y ∈ r ++ [t], 0 ≤ y ∧ y < (nodes.length : Int)) → Pth nodes (r ++ [t]) → ∀ x ∈ r ++ [t], lat L t ≤ lat L x
  | [], _, _, x, hx => by
    obtain rfl : x = t := by simpa using hx
    exact Int.le_refl _
  | [a], hr, h, x, hx => by
    have ha := hr a (by simp)
    have := hL.lt ha.1 ha.2 h.1
    rcases List.mem_cons.1 hx with rfl | hx
    · omega
    · obtain rfl : x = t := by simpa using hx
      exact Int.le_refl _
  | a :: b :: r, hr, h, x, hx => by
    have ih := Pth.le hL (r := b :: r) (fun y hy => hr y (List.mem_cons_of_mem _ hy)) h.2
    rcases List.mem_cons.1 hx with rfl | hx
    · have ha := hr x (by simp)
      have h1 := hL.lt ha.1 ha.2 h.1
      have h2 := ih b (by simp)
      omega
    · exact ih x hx

/-- What the search keeps: levels (-1 fresh, -2 waiting), the stack below its top, the top. -/
structure Dfs (nodes : List Nd) (lv st : List Int) : Prop where
  len : lv.length = nodes.length
  vals : ∀ i : Nat, i < nodes.length → -2 ≤ lat lv i
  done : ∀ i : Nat, i < nodes.length → 0 ≤ lat lv i → (∀ x ∈ dep nodes i, 0 ≤ lat lv x) ∧ lat lv i = levf lv (dep nodes i) ∧ lat lv i + neg lv < (nodes.length : Int)
  nodup : st.Nodup
  mem : ∀ x ∈ st, 0 ≤ x ∧ x < (nodes.length : Int) ∧ lat lv x < 0
  wait : ∀ i : Nat, i < nodes.length → lat lv i = -2 → (i : Int) ∈ st
  path : Pth nodes st
  low : ∀ r t, st = r ++ [t] → ∀ x ∈ r, lat lv x = -2

/-- A waiting net: there are no levels. -/
theorem Dfs.fail {nodes : List Nd} {lv r : List Int} {t x : Int} (hw : Wf nodes) (h : Dfs nodes lv (r ++ [t])) (hx : x ∈ dep nodes t) (hf : lat lv x = -2) : ¬ ∃ L, Lvl nodes L := by
  rintro ⟨L, hL⟩
  obtain ⟨t0, t1, t2⟩ := h.mem t (by simp)
  have hb := hw.dep (i := t) (by omega) hx
  have hm := h.wait x.toNat (by omega) (by rw [Int.toNat_of_nonneg hb.1]; exact hf)
  rw [Int.toNat_of_nonneg hb.1] at hm
  have h1 := Pth.le hL (fun y hy => ⟨(h.mem y hy).1, (h.mem y hy).2.1⟩) h.path x hm
  have h2 := hL.lt t0 t1 hx
  omega

end Go.Proofs.YtcaikkfcjeojiaaDoor

namespace Go.Proofs.YtcaikkfcjeojiaaDoor
open Go.RowKit

theorem ret_int {k : IntKind} {a b : Int} (h : a = b) : Ending.returned (.int k a) = .returned (.int k b) := by rw [h]
theorem ret_bool {a b : Bool} (h : a = b) : Ending.returned (.bool a) = .returned (.bool b) := by rw [h]
/-- A result under a name, its equation hidden from the walk. -/
theorem named {α : Type} (x : α) : ∃ y, Hid (y = x) := ⟨x, Lib.hid rfl⟩
/-- A contract in which what was there stays, met in a world behind w0. -/
theorem rel {P : Program} {f : FuncId} {args : Array Value} {w0 w : World} {v : Value} (h : Calls P f args w fun e w' => e = .returned v ∧ Below w.heap.size w w') (hb : Below w0.heap.size w0 w) :
    Calls P f args w fun e w' => e = .returned v ∧ Below w0.heap.size w0 w' := h.mono fun _ _ ⟨he, h'⟩ => ⟨he, hb.trans (h'.mono hb.size)⟩
theorem joinB {w0 w1 w2 : World} (hb : Below w0.heap.size w0 w1) (hp : Below w1.heap.size w1 w2) : Below w0.heap.size w0 w2 := hb.trans (hp.mono hb.size)
theorem below_new {w0 w : World} (hb : Below w0.heap.size w0 w) (o : Obj) : Below w0.heap.size w0 (w.alloc o) := hb.alloc hb.size o
/-- A world in which what was there in w is as it was. -/
structure Beh (w : World) where
  x : World
  below : Below w.heap.size w x
instance behNonempty (w : World) : Nonempty (Beh w) := ⟨⟨w, Below.refl _ _⟩⟩
theorem cell_lt {W : World} {g i : Nat} {v : Value} (h : W.cell? ⟨g, i, none⟩ = some v) : g < W.heap.size := by
  rcases Nat.lt_or_ge g W.heap.size with hl | hl
  · exact hl
  · simp [World.cell?, Array.getElem?_eq_none hl] at h

end Go.Proofs.YtcaikkfcjeojiaaDoor
