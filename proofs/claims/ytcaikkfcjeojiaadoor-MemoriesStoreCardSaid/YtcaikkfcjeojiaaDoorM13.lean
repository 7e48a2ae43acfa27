/- The texts Own Liv. -/
import Derived.Test.YtcaikkfcjeojiaaDoorM07
import Derived.Test.YtcaikkfcjeojiaaDoorM09
import Derived.Test.YtcaikkfcjeojiaaDoorM08
import Derived.Deep.LoopGhost
import Derived.Test.YtcaikkfcjeojiaaDoorM04
namespace Go.Proofs.YtcaikkfcjeojiaaDoor
open Go.RowKit

/-- What fits in the slices. -/
structure Fit (x : Ck) : Prop where
  n : x.nodes.length ≤ maxLen
  s : x.names.length ≤ maxLen
  m : x.mems.length ≤ maxLen
  o : x.outs.length ≤ maxLen
  k : ∀ i, i < x.nodes.length → 0 ≤ (x.nodes.getD i default).kind ∧ (x.nodes.getD i default).kind ≤ 255 ∧ (x.nodes.getD i default).ins.length ≤ maxLen
  t : ∀ i, i < x.names.length → (x.names.getD i ByteArray.empty).size ≤ maxLen
  a : ∀ i, i < x.mems.length → (x.mems.getD i default).addr.length ≤ maxLen ∧ (x.mems.getD i default).data.length ≤ maxLen
theorem Arr.len {α : Type} {d : α} {sz : Nat} {R : World → Nat → Nat → Nat → α → Prop} {w : World} {B : Nat} {v : Value} {l : List α} (h : Arr d sz R w B v l) : l.length ≤ maxLen := by
  obtain ⟨_, _, _, _, -, -, -, h4, -⟩ := h
  exact h4
section
variable {x : Ck} {G g0 g1 g2 g3 : Nat} {h ha hd : Nat → Nat} {w w' : World}
theorem getD_set {α : Type} (l : List α) (k i : Nat) (a d : α) (hk : k < l.length) : (l.set k a).getD i d = if i = k then a else l.getD i d := by
  rw [List.getD_eq_getElem?_getD, List.getD_eq_getElem?_getD, List.getElem?_set]
  by_cases e : k = i
  · subst e; simp [hk]
  · rw [if_neg e, if_neg (fun q => e q.symm)]
end

end Go.Proofs.YtcaikkfcjeojiaaDoor

namespace Go.Proofs.YtcaikkfcjeojiaaDoor
open Go.RowKit

theorem Is.on {w w' : World} {v : Value} {l : List Int} (h : Is w w.heap.size v l) (hb : Below w.heap.size w w') : Is w' w'.heap.size v l := (h.below hb).more hb.size
theorem Fos.on {w w' : World} {v : Value} {l : List (List (Int × Int))} (h : Fos w w.heap.size v l) (hb : Below w.heap.size w w') : Fos w' w'.heap.size v l := h.keep hb.size fun _ hp => hb.cell hp
section
variable {w w1 W : World} {q : Nat} {A0 A1 A2 A3 : Option Addr} {c0 c1 c2 c3 : Nat}
end

end Go.Proofs.YtcaikkfcjeojiaaDoor
