/- The texts Fan Rfl Int Liv Nms. -/
import Derived.Test.YtemogllidmgbfaaGreatDoorM17
import Derived.Deep.LoopGhost
import Derived.Test.YtemogllidmgbfaaGreatDoorM01
import Derived.Test.YtemogllidmgbfaaGreatDoorM18
import Derived.Test.YtemogllidmgbfaaGreatDoorM15
namespace Go.Proofs.YtemogllidmgbfaaGreatDoor
open Go.RowKit

theorem own_form {w : World} {base : Nat} {e : TypeId} {size : Nat} {v : Value} {n : Nat} {xs : List Value} (h : w.ownsRow base e size v n xs) : ∃ A c, v = .slice A n c := by
  rcases h.2 with ⟨rfl, hn⟩ | ⟨g, cap, cur, rfl, -⟩
  · exact ⟨none, 0, by rw [hn]⟩
  · exact ⟨_, cap, rfl⟩
end Go.Proofs.YtemogllidmgbfaaGreatDoor

namespace Go.Proofs.YtemogllidmgbfaaGreatDoor
open Go.RowKit

theorem isK_one (x k : Int) : isK [k] x = (x == k) := by simp [isK, anyP]
theorem Stk.all {w : World} {g : Nat} {v : Value} {l : List Int} (h : Stk w g v l) (hm : l.length ≤ maxLen) : Is w w.heap.size v l := by
  obtain ⟨A, c, rfl, hle, -, -⟩ := h.form
  exact h.reads c hle hm

end Go.Proofs.YtemogllidmgbfaaGreatDoor

namespace Go.Proofs.YtemogllidmgbfaaGreatDoor
open Go.RowKit

theorem list_eq_of {l l' : List Int} (hl : l.length = l'.length) (h : ∀ j, j < l.length → l.getD j 0 = l'.getD j 0) : l = l' := by
  apply List.ext_getElem hl
  intro j h1 h2
  have := h j h1
  simpa [List.getD_eq_getElem?_getD, List.getElem?_eq_getElem h1, List.getElem?_eq_getElem h2] using this

end Go.Proofs.YtemogllidmgbfaaGreatDoor

namespace Go.Proofs.YtemogllidmgbfaaGreatDoor
open Go.RowKit

theorem Is.on {w w' : World} {v : Value} {l : List Int} (h : Is w w.heap.size v l) (hb : Below w.heap.size w w') : Is w' w'.heap.size v l := (h.below hb).more hb.size
theorem Fos.on {w w' : World} {v : Value} {l : List (List (Int × Int))} (h : Fos w w.heap.size v l) (hb : Below w.heap.size w w') : Fos w' w'.heap.size v l := h.keep hb.size fun _ hp => hb.cell hp
/-- What stands all the while: the example in the variable at q. -/
structure LW (w : World) (q : Nat) (A0 A1 A2 A3 : Option Addr) (c0 c1 c2 c3 : Nat) (wr : World) : Prop where
  bel : Below w.heap.size w wr
  low : w.heap.size ≤ q
  tabs : Tabs wr
  cir : Cir wr q (.agg #[.slice A0 4 c0, .slice A1 4 c1, .slice A2 0 c2, .slice A3 1 c3]) Ex
  box : Fr wr q 46 [.slice A0 4 c0, .slice A1 4 c1, .slice A2 0 c2, .slice A3 1 c3]
section
variable {w w1 W : World} {q : Nat} {A0 A1 A2 A3 : Option Addr} {c0 c1 c2 c3 : Nat}
theorem LW.next (h : LW w q A0 A1 A2 A3 c0 c1 c2 c3 w1) (hb : Below w1.heap.size w1 W) : LW w q A0 A1 A2 A3 c0 c1 c2 c3 W :=
  ⟨joinB h.bel hb, h.low, h.tabs.below hb, h.cir.below (hb.mono (Nat.le_of_lt h.box.lt)), h.box.below hb⟩
theorem LW.cells (h : LW w q A0 A1 A2 A3 c0 c1 c2 c3 w1) : w1.cell? ⟨q, 0, none⟩ = some (.slice A0 4 c0) ∧ w1.cell? ⟨q, 1, none⟩ = some (.slice A1 4 c1) ∧ w1.cell? ⟨q, 2, none⟩ = some (.slice A2 0 c2) ∧ w1.cell? ⟨q, 3, none⟩ = some (.slice A3 1 c3) :=
  ⟨h.box.cell 0, h.box.cell 1, h.box.cell 2, h.box.cell 3⟩
theorem LW.all (h : LW w q A0 A1 A2 A3 c0 c1 c2 c3 w1) : Cir w1 w1.heap.size (.agg #[.slice A0 4 c0, .slice A1 4 c1, .slice A2 0 c2, .slice A3 1 c3]) Ex := h.cir.more (Nat.le_of_lt h.box.lt)
end

end Go.Proofs.YtemogllidmgbfaaGreatDoor

namespace Go.Proofs.YtemogllidmgbfaaGreatDoor
open Go.RowKit

/-- r is where s stands first, or -1. -/
def First (l : List ByteArray) (s : ByteArray) (r : Int) : Prop :=
  (r = -1 ∧ ∀ j : Nat, j < l.length → (s.toList == (l.getD j ByteArray.empty).toList) = false) ∨ ∃ k : Nat, k < l.length ∧ r = (k : Int) ∧ (s.toList == (l.getD k ByteArray.empty).toList) = true ∧ ∀ j : Nat, j < k → (s.toList == (l.getD j ByteArray.empty).toList) = false
/-- What the search from behind keeps: r is where s stands first from k on, or -1. -/
def From (l : List ByteArray) (s : ByteArray) (k : Nat) (r : Int) : Prop :=
  (r = -1 ∧ ∀ j : Nat, k ≤ j → j < l.length → (s.toList == (l.getD j ByteArray.empty).toList) = false) ∨ ∃ m : Nat, k ≤ m ∧ m < l.length ∧ r = (m : Int) ∧ (s.toList == (l.getD m ByteArray.empty).toList) = true ∧ ∀ j : Nat, k ≤ j → j < m → (s.toList == (l.getD j ByteArray.empty).toList) = false
theorem From.first {l : List ByteArray} {s : ByteArray} {r : Int} (h : From l s 0 r) : First l s r := by
  rcases h with ⟨h1, h2⟩ | ⟨m, _, h1, h2, h3, h4⟩
  · exact .inl ⟨h1, fun j hj => h2 j (Nat.zero_le _) hj⟩
  · exact .inr ⟨m, h1, h2, h3, fun j hj => h4 j (Nat.zero_le _) hj⟩
theorem From.no {l : List ByteArray} {s : ByteArray} {r : Int} {k : Nat} (h : From l s (k + 1) r) (hk : (s.toList == (l.getD k ByteArray.empty).toList) = false) : From l s k r := by
  rcases h with ⟨h1, h2⟩ | ⟨m, h0, h1, h2, h3, h4⟩
  · refine .inl ⟨h1, fun j hj hl => ?_⟩
    by_cases e : j = k
    · rw [e]; exact hk
    · exact h2 j (by omega) hl
  · refine .inr ⟨m, by omega, h1, h2, h3, fun j hj hm => ?_⟩
    by_cases e : j = k
    · rw [e]; exact hk
    · exact h4 j (by omega) hm
end Go.Proofs.YtemogllidmgbfaaGreatDoor
