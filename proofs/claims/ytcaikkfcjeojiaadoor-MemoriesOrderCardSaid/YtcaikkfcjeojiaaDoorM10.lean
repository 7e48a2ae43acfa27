/- The texts Own Liv Nms. -/
import Derived.Test.YtcaikkfcjeojiaaDoorM05
import Derived.Test.YtcaikkfcjeojiaaDoorM07
import Derived.Test.YtcaikkfcjeojiaaDoorM06
import Derived.Deep.LoopGhost
import Derived.Test.YtcaikkfcjeojiaaDoorM03
namespace Go.Proofs.YtcaikkfcjeojiaaDoor
open Go.RowKit

/-- What fits in the slices. -/
structure Fit (x : Ck) : Prop where
  n : x.nodes.length ≤ maxLen
  s : x.names.length ≤ maxLen
  m : x.mems.length ≤ maxLen
  o : x.outs.length ≤ maxLen
  k : ∀ i, i < x.nodes.length → 0 ≤ (x.nodes.getD i default).kind ∧ (x.nodes.getD i default).kind ≤ 255 ∧ (x.nodes.getD i default).ins.length ≤ maxLen
  t : ∀ i, i < x.names.length → (x.names.getD i ByteArray.empty).size ≤ maxLen
  a : ∀ i, i < x.mems.length → (x.mems.getD i default).addr.length ≤ maxLen ∧ (x.mems.getD i default).data.length ≤ maxLen
theorem Arr.len {α : Type} {d : α} {sz : Nat} {R : World → Nat → Nat → Nat → α → Prop} {w : World} {B : Nat} {v : Value} {l : List α} (h : Arr d sz R w B v l) : l.length ≤ maxLen := by
  obtain ⟨_, _, _, _, -, -, -, h4, -⟩ := h
  exact h4
theorem Cir.fit {w : World} {B : Nat} {v : Value} {x : Ck} (h : Cir w B v x) : Fit x := by
  obtain ⟨v0, v1, v2, v3, -, h1, h2, h3, h4⟩ := h
  refine ⟨Arr.len h1, Arr.len h2, Arr.len h3, Arr.len h4, fun i hi => ?_, fun i hi => ?_, fun i hi => ?_⟩
  · obtain ⟨A, b, o, c, -, -, -, -, hc⟩ := h1
    obtain ⟨-, s, -, -, -, -, hi', hk⟩ := hc i hi
    exact ⟨hk.1, hk.2, Arr.len hi'⟩
  · obtain ⟨A, b, o, c, -, -, -, -, hc⟩ := h2
    exact (hc i hi).2.2
  · obtain ⟨A, b, o, c, -, -, -, -, hc⟩ := h3
    obtain ⟨-, s, t, -, -, -, ha, hd⟩ := hc i hi
    exact ⟨Arr.len ha, Arr.len hd⟩
section
variable {x : Ck} {G g0 g1 g2 g3 : Nat} {h ha hd : Nat → Nat} {w w' : World}
theorem getD_set {α : Type} (l : List α) (k i : Nat) (a d : α) (hk : k < l.length) : (l.set k a).getD i d = if i = k then a else l.getD i d := by
  rw [List.getD_eq_getElem?_getD, List.getD_eq_getElem?_getD, List.getElem?_set]
  by_cases e : k = i
  · subst e; simp [hk]
  · rw [if_neg e, if_neg (fun q => e q.symm)]
end

end Go.Proofs.YtcaikkfcjeojiaaDoor

namespace Go.Proofs.YtcaikkfcjeojiaaDoor
open Go.RowKit

theorem Is.on {w w' : World} {v : Value} {l : List Int} (h : Is w w.heap.size v l) (hb : Below w.heap.size w w') : Is w' w'.heap.size v l := (h.below hb).more hb.size
theorem Fos.on {w w' : World} {v : Value} {l : List (List (Int × Int))} (h : Fos w w.heap.size v l) (hb : Below w.heap.size w w') : Fos w' w'.heap.size v l := h.keep hb.size fun _ hp => hb.cell hp
section
variable {w w1 W : World} {q : Nat} {A0 A1 A2 A3 : Option Addr} {c0 c1 c2 c3 : Nat}
end

end Go.Proofs.YtcaikkfcjeojiaaDoor

namespace Go.Proofs.YtcaikkfcjeojiaaDoor
open Go.RowKit

/-- r is where s stands first, or -1. -/
def First (l : List ByteArray) (s : ByteArray) (r : Int) : Prop :=
  (r = -1 ∧ ∀ j : Nat, j < l.length → (s.toList == (l.getD j ByteArray.empty).toList) = false) ∨ ∃ k : Nat, k < l.length ∧ r = (k : Int) ∧ (s.toList == (l.getD k ByteArray.empty).toList) = true ∧ ∀ j : Nat, j < k → (s.toList == (l.getD j ByteArray.empty).toList) = false
/-- What the search from behind keeps: r is where s stands first from k on, or -1. -/
def From (l : List ByteArray) (s : ByteArray) (k : Nat) (r : Int) : Prop :=
  (r = -1 ∧ ∀ j : Nat, k ≤ j → j < l.length → (s.toList == (l.getD j ByteArray.empty).toList) = false) ∨ ∃ m : Nat, k ≤ m ∧ m < l.length ∧ r = (m : Int) ∧ (s.toList == (l.getD m ByteArray.empty).toList) = true ∧ ∀ j : Nat, k ≤ j → j < m → (s.toList == (l.getD j ByteArray.empty).toList) = false
theorem From.first {l : List ByteArray} {s : ByteArray} {r : Int} (h : From l s 0 r) : First l s r := by
  rcases h with ⟨h1, h2⟩ | ⟨m, _, h1, h2, h3, h4⟩
  · exact .inl ⟨h1, fun j hj => h2 j (Nat.zero_le _) hj⟩
  · exact .inr ⟨m, h1, h2, h3, fun j hj => h4 j (Nat.zero_le _) hj⟩
end Go.Proofs.YtcaikkfcjeojiaaDoor
