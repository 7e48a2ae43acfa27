/- The texts Pcx Rs. -/
import Derived.Test.YtcaikkfcjeojiaaDoorM04
import Derived.Test.YtcaikkfcjeojiaaDoorM10
import Derived.Test.YtcaikkfcjeojiaaDoorCards
import Derived.Test.YtcaikkfcjeojiaaDoorTie
import Derived.Test.YtcaikkfcjeojiaaDoorM02
import Derived.ProofKit
import Derived.OpenShut
import Derived.Deep.DeepHandedRow
import Derived.Lib.LaidTab
import Derived.Lib.SmallJoins
import Derived.MakeChecks
namespace Go.Proofs.YtcaikkfcjeojiaaDoor
open Go.ChangeShapes Go.WideShapes Go.ChangeAt Go.RowKit

theorem Arr.two {α : Type} {d : α} {sz : Nat} {R : World → Nat → Nat → Nat → α → Prop} {Q : α → Prop} {w : World} {B : Nat} {v : Value} {l : List α} (h : Arr d sz (fun w B b p a => R w B b p a ∧ Q a) w B v l) :
    Arr d sz R w B v l ∧ ∀ k, k < l.length → Q (l.getD k d) := by
  obtain ⟨A, b, o, c, h1, h2, h3, h4, h5⟩ := h
  exact ⟨⟨A, b, o, c, h1, h2, h3, h4, fun k hk => ⟨(h5 k hk).1, (h5 k hk).2.1⟩⟩, fun k hk => (h5 k hk).2.2⟩

section
variable {H : Type} {enc : TypeId × Value → H} {W : World} {base : Nat} {sp : Nat → Bool} {held : Bool}
end

end Go.Proofs.YtcaikkfcjeojiaaDoor

namespace Go.Proofs.YtcaikkfcjeojiaaDoor
open Go.ChangeShapes Go.WideShapes Go.ChangeAt Go.RowKit

section
variable {H : Type} {enc : TypeId × Value → H} {W : World} {base : Nat} {sp : Nat → Bool} {held : Bool}
theorem ks_of {v : Value} {l : List Int} (h : Arr 0 1 (fun w B b p g => U8At w B b p g ∧ U8 g) W W.heap.size v l) : Ks W W.heap.size v l ∧ ∀ y ∈ l, 0 ≤ y ∧ y ≤ 255 := by
  obtain ⟨h1, h2⟩ := Arr.two h
  refine ⟨h1, fun y hy => ?_⟩
  obtain ⟨k, hk, rfl⟩ := List.mem_iff_getElem.1 hy
  have := h2 k hk
  rw [List.getD_eq_getElem?_getD, List.getElem?_eq_getElem hk] at this
  exact this
end
end Go.Proofs.YtcaikkfcjeojiaaDoor
