/- A region that draws its order, all of whose operations yield one value in every world in which what was there is as it was: one walk of the text's order. -/
import Derived.Test.YtdanmepbdjfpfaaDoorMonow
namespace Go.Proofs.YtdanmepbdjfpfaaDoor
open Go.RowKit

/-- A world in which what was there in w is as it was. -/
structure Beh (w : World) where
  x : World
  below : Below w.heap.size w x
instance behNonempty (w : World) : Nonempty (Beh w) := ⟨⟨w, Below.refl _ _⟩⟩

theorem region_class {P : Program} {id : Nat} {Q : Exit → Act → World → Prop} {a : Act} {w0 w : World} {l : List Oper} (hb : Below w0.heap.size w0 w) (hm : P.follows .mixedOrders = true) (hB : Region.lexB .any l.toArray = true)
    (h : wpQuiet P l.toArray (fun w' => ∃ x : Beh w0, w' = x.x) (fun a' => ∀ w', (∃ x : Beh w0, w' = x.x) → Q .normal a' w') l a) : (Code.region id l.toArray true).wp P Q a w :=
  wp_region_quiet (C := fun w' => ∃ x : Beh w0, w' = x.x) hm hB ⟨⟨w.drew, hb.drew⟩, rfl⟩ (by simpa using h)

theorem beh_of {P : Program} {f : FuncId} {args : Array Value} {w0 w1 : World} {v : Value} (h : Calls P f args w1 fun e w' => e = .returned v ∧ Below w0.heap.size w0 w') :
    Calls P f args w1 fun e w' => e = .returned v ∧ ∃ y : Beh w0, w' = y.x := h.mono fun _ w' ⟨he, hb⟩ => ⟨he, ⟨w', hb⟩, rfl⟩
theorem beh_same {P : Program} {f : FuncId} {args : Array Value} {w0 : World} {x : Beh w0} {v : Value} (h : Calls P f args x.x fun e w' => e = .returned v ∧ x.x = w') :
    Calls P f args x.x fun e w' => e = .returned v ∧ ∃ y : Beh w0, w' = y.x := h.mono fun _ _ ⟨he, hw⟩ => ⟨he, x, hw.symm⟩

end Go.Proofs.YtdanmepbdjfpfaaDoor
