/- What the walks of the layers above logic share: a region that draws its order, walked once for the class of all worlds in which what was there is as it was; contracts carried to an earlier world; slices of values that the call made. -/
import Derived.Test.YtnddgkcgedkabaaDoorEvalw
import Derived.Test.YtnddgkcgedkabaaDoorTx
import Derived.StillTailTactics
import Derived.Laws.StructEq
namespace Go.Proofs.YtnddgkcgedkabaaDoor
open Go.RowKit

theorem ret_str {a b : ByteArray} (h : a = b) : Ending.returned (.string a) = .returned (.string b) := by rw [h]

/-- A new row of cells reads as its list. -/
theorem Vs.made (w : World) (l : List Int) (t : TypeId) (hl : l.length ≤ maxLen) :
    Vs (w.alloc (.cells (l.map (Value.int .u8)).toArray t)) (w.alloc (.cells (l.map (Value.int .u8)).toArray t)).heap.size (.slice (some ⟨w.heap.size, 0, none⟩) l.length l.length) l := by
  refine ⟨w.heap.size, 0, l.length, .inl rfl, hl, fun k hk => ⟨by simp, ?_⟩⟩
  rw [World.cell?_alloc_at _ _ _ _ rfl]
  simp [List.getElem?_map, List.getElem?_eq_getElem hk]

/-- A row of the call's own reads as its list. -/
theorem Vs.of_own {w : World} {base : Nat} {v : Value} {n : Nat} {l : List Int} (h : w.ownsRow base 26 1 v n (l.map (Value.int .u8))) : Vs w w.heap.size v l ∧ l.length = n := by
  have hl : l.length = n := by simpa using h.1
  refine ⟨?_, hl⟩
  subst hl
  rcases h.2 with ⟨rfl, hn⟩ | ⟨g, cap, cur, rfl, -, hg, hle, hm, hsz, htake⟩
  · obtain rfl : l = [] := List.eq_nil_of_length_eq_zero hn
    exact Vs.nil _ _ _ _
  · have hlt : g < w.heap.size := by
      rcases Nat.lt_or_ge g w.heap.size with h | h
      · exact h
      · rw [Array.getElem?_eq_none h] at hg; cases hg
    refine ⟨g, 0, cap, .inl rfl, by omega, fun k hk => ⟨hlt, ?_⟩⟩
    rw [Nat.zero_add, h.cellAt k (by omega), List.getElem?_map, List.getElem?_eq_getElem hk, List.getD_eq_getElem?_getD, List.getElem?_eq_getElem hk]
    rfl

theorem from_new {w0 w : World} {o : Obj} {P : Program} {f : FuncId} {args : Array Value} {v : Value} (h : Calls P f args (w.alloc o) fun e w' => e = .returned v ∧ Below (w.alloc o).heap.size (w.alloc o) w') (hb : Below w0.heap.size w0 w) :
    Calls P f args (w.alloc o) fun e w' => e = .returned v ∧ Below w0.heap.size w0 w' :=
  h.mono fun _ _ ⟨he, h'⟩ => ⟨he, (hb.alloc hb.size o).trans (h'.mono (by have := hb.size; simp; omega))⟩

theorem joinB {w0 w1 w2 : World} (hb : Below w0.heap.size w0 w1) (hp : Below w1.heap.size w1 w2) : Below w0.heap.size w0 w2 := hb.trans (hp.mono hb.size)

/-- What was there is as it was, cell by cell: for the walk. -/
theorem bcell {W w1 : World} (hb : Below W.heap.size W w1) : (∀ b o, b < W.heap.size → w1.cell? ⟨b, o, none⟩ = W.cell? ⟨b, o, none⟩) ∧ (∀ b o, b < W.heap.size → w1.frozen? ⟨b, o, none⟩ = W.frozen? ⟨b, o, none⟩) :=
  ⟨fun b o h => hb.cell (p := ⟨b, o, none⟩) h, fun b o h => hb.frozen (p := ⟨b, o, none⟩) h⟩

/-- A world in which what was there in w is as it was. -/
structure Beh (w : World) where
  x : World
  below : Below w.heap.size w x
instance behNonempty (w : World) : Nonempty (Beh w) := ⟨⟨w, Below.refl _ _⟩⟩

theorem region_class {P : Program} {id : Nat} {Q : Exit → Act → World → Prop} {a : Act} {w0 w : World} {l : List Oper} (hb : Below w0.heap.size w0 w) (hm : P.follows .mixedOrders = true) (hB : Region.lexB .any l.toArray = true)
    (h : wpQuiet P l.toArray (fun w' => ∃ x : Beh w0, w' = x.x) (fun a' => ∀ w', (∃ x : Beh w0, w' = x.x) → Q .normal a' w') l a) : (Code.region id l.toArray true).wp P Q a w :=
  wp_region_quiet (C := fun w' => ∃ x : Beh w0, w' = x.x) hm hB ⟨⟨w.drew, hb.drew⟩, rfl⟩ (by simpa using h)

theorem beh_of {P : Program} {f : FuncId} {args : Array Value} {w0 w1 : World} {v : Value} (h : Calls P f args w1 fun e w' => e = .returned v ∧ Below w0.heap.size w0 w') :
    Calls P f args w1 fun e w' => e = .returned v ∧ ∃ y : Beh w0, w' = y.x := h.mono fun _ w' ⟨he, hb⟩ => ⟨he, ⟨w', hb⟩, rfl⟩
theorem beh_same {P : Program} {f : FuncId} {args : Array Value} {w0 : World} {x : Beh w0} {v : Value} (h : Calls P f args x.x fun e w' => e = .returned v ∧ x.x = w') :
    Calls P f args x.x fun e w' => e = .returned v ∧ ∃ y : Beh w0, w' = y.x := h.mono fun _ _ ⟨he, hw⟩ => ⟨he, x, hw.symm⟩
/-- A cell that was there, in any such world. -/
theorem beh_cell {w : World} {p : Addr} {v : Value} (hp : p.block < w.heap.size) (h : w.cell? p = some v) (x : Beh w) : x.x.cell? p = some v := by rw [x.below.cell hp]; exact h

/-- Block n is a row whose first two cells are x0 and x1. -/
def Box (n : Nat) (x0 x1 : Value) (w : World) : Prop :=
  n < w.heap.size ∧ w.cell? ⟨n, 0, none⟩ = some x0 ∧ w.cell? ⟨n, 1, none⟩ = some x1 ∧ w.frozen? ⟨n, 0, none⟩ = false ∧ w.frozen? ⟨n, 1, none⟩ = false
section
variable {n m : Nat} {x0 x1 y0 y1 : Value} {w w' : World}
theorem Box.new (w : World) (x0 x1 : Value) (t : TypeId) : Box w.heap.size x0 x1 (w.alloc (.cells #[x0, x1] t)) :=
  ⟨by simp, by rw [World.cell?_alloc_at _ _ _ _ rfl]; rfl, by rw [World.cell?_alloc_at _ _ _ _ rfl]; rfl, by simp [go_sem], by simp [go_sem]⟩
theorem Box.below (h : Box n x0 x1 w) (hb : Below w.heap.size w w') : Box n x0 x1 w' := by
  obtain ⟨h1, h2, h3, h4, h5⟩ := h
  exact ⟨Nat.lt_of_lt_of_le h1 hb.size, (hb.cell (p := ⟨n, 0, none⟩) h1).trans h2, (hb.cell (p := ⟨n, 1, none⟩) h1).trans h3, (hb.frozen (p := ⟨n, 0, none⟩) h1).trans h4, (hb.frozen (p := ⟨n, 1, none⟩) h1).trans h5⟩
theorem Box.alloc (h : Box n x0 x1 w) (o : Obj) : Box n x0 x1 (w.alloc o) := h.below ((Below.refl _ _).alloc (Nat.le_refl _) o)
theorem Box.put (h : Box n x0 x1 w) (y0 y1 : Value) : Box n y0 y1 ((w.setCell ⟨n, 0, none⟩ y0).setCell ⟨n, 1, none⟩ y1) := by
  obtain ⟨h1, h2, h3, h4, h5⟩ := h
  refine ⟨by simpa [World.setCell] using h1, ?_, ?_, by simpa using h4, by simpa using h5⟩
  · rw [World.cell?_setCell_other _ _ _ _ (by simp)]
    exact World.cell?_setCell_same' _ _ _ (by rw [h2]; rfl)
  · exact World.cell?_setCell_same' _ _ _ (by rw [World.cell?_setCell_other _ _ _ _ (by simp), h3]; rfl)
theorem Box.far (h : Box n x0 x1 w) (hm : m ≠ n) (y0 y1 : Value) : Box n x0 x1 ((w.setCell ⟨m, 0, none⟩ y0).setCell ⟨m, 1, none⟩ y1) := by
  obtain ⟨h1, h2, h3, h4, h5⟩ := h
  refine ⟨by simpa [World.setCell] using h1, ?_, ?_, by simpa using h4, by simpa using h5⟩
  · rw [World.cell?_setCell_other _ _ _ _ (by simp [hm]), World.cell?_setCell_other _ _ _ _ (by simp [hm])]; exact h2
  · rw [World.cell?_setCell_other _ _ _ _ (by simp [hm]), World.cell?_setCell_other _ _ _ _ (by simp [hm])]; exact h3
end
/-- What a call of this call's own reaches: nothing that was there before has changed. -/
theorem below_put {B n : Nat} {w w' : World} (h : Below B w w') (hn : B ≤ n) (y0 y1 : Value) : Below B w ((w'.setCell ⟨n, 0, none⟩ y0).setCell ⟨n, 1, none⟩ y1) :=
  (h.setCell hn _).setCell hn _

end Go.Proofs.YtnddgkcgedkabaaDoor
