/- The walk of lives: what stands, and the calls on the example. -/
import Derived.Test.YtfcdhoaccmckoaaGreatDoorSli
import Derived.Test.YtfcdhoaccmckoaaGreatDoorExp
import Derived.Test.YtfcdhoaccmckoaaGreatDoorRfl
import Derived.Test.YtfcdhoaccmckoaaGreatDoorOwn
namespace Go.Proofs.YtfcdhoaccmckoaaGreatDoor
open Go.RowKit

def intsR (l l' : List Int) (c : Nat) : Int := if l = l' ∧ c ≤ l.length then 0 else 1
theorem list_eq_of {l l' : List Int} (hl : l.length = l'.length) (h : ∀ j, j < l.length → l.getD j 0 = l'.getD j 0) : l = l' := by
  apply List.ext_getElem hl
  intro j h1 h2
  have := h j h1
  simpa [List.getD_eq_getElem?_getD, List.getElem?_eq_getElem h1, List.getElem?_eq_getElem h2] using this

end Go.Proofs.YtfcdhoaccmckoaaGreatDoor

namespace Go.Proofs.YtfcdhoaccmckoaaGreatDoor
open Go.RowKit

def Small (c : Ck) : Prop := c.nodes.length ≤ 24 ∧ c.names.length ≤ 24 ∧ c.mems.length ≤ 18 ∧ c.outs.length ≤ 24

def GrtPost (S : Prop) (w : World) (e : Ending) (w' : World) : Prop := (∃ b, e = .returned (.bool b) ∧ (b = false → S)) ∧ Below w.heap.size w w'
end Go.Proofs.YtfcdhoaccmckoaaGreatDoor

namespace Go.Proofs.YtfcdhoaccmckoaaGreatDoor
open Go.RowKit

theorem Is.on {w w' : World} {v : Value} {l : List Int} (h : Is w w.heap.size v l) (hb : Below w.heap.size w w') : Is w' w'.heap.size v l := (h.below hb).more hb.size
theorem Fos.on {w w' : World} {v : Value} {l : List (List (Int × Int))} (h : Fos w w.heap.size v l) (hb : Below w.heap.size w w') : Fos w' w'.heap.size v l := h.keep hb.size fun _ hp => hb.cell hp
/-- What stands all the while: the example in the variable at q. -/
structure LW (w : World) (q : Nat) (A0 A1 A2 A3 : Option Addr) (c0 c1 c2 c3 : Nat) (wr : World) : Prop where
  bel : Below w.heap.size w wr
  low : w.heap.size ≤ q
  tabs : Tabs wr
  cir : Cir wr q (.agg #[.slice A0 4 c0, .slice A1 4 c1, .slice A2 0 c2, .slice A3 1 c3]) Ex
  box : Fr wr q 35 [.slice A0 4 c0, .slice A1 4 c1, .slice A2 0 c2, .slice A3 1 c3]
section
variable {w w1 W : World} {q : Nat} {A0 A1 A2 A3 : Option Addr} {c0 c1 c2 c3 : Nat}
theorem LW.next (h : LW w q A0 A1 A2 A3 c0 c1 c2 c3 w1) (hb : Below w1.heap.size w1 W) : LW w q A0 A1 A2 A3 c0 c1 c2 c3 W :=
  ⟨joinB h.bel hb, h.low, h.tabs.below hb, h.cir.below (hb.mono (Nat.le_of_lt h.box.lt)), h.box.below hb⟩
theorem LW.cells (h : LW w q A0 A1 A2 A3 c0 c1 c2 c3 w1) : w1.cell? ⟨q, 0, none⟩ = some (.slice A0 4 c0) ∧ w1.cell? ⟨q, 1, none⟩ = some (.slice A1 4 c1) ∧ w1.cell? ⟨q, 2, none⟩ = some (.slice A2 0 c2) ∧ w1.cell? ⟨q, 3, none⟩ = some (.slice A3 1 c3) :=
  ⟨h.box.cell 0, h.box.cell 1, h.box.cell 2, h.box.cell 3⟩
theorem LW.all (h : LW w q A0 A1 A2 A3 c0 c1 c2 c3 w1) : Cir w1 w1.heap.size (.agg #[.slice A0 4 c0, .slice A1 4 c1, .slice A2 0 c2, .slice A3 1 c3]) Ex := h.cir.more (Nat.le_of_lt h.box.lt)
theorem lvl_ex (h : LW w q A0 A1 A2 A3 c0 c1 c2 c3 w1) (hb : Below w1.heap.size w1 W) : Calls Tryz.prog 40 #[.agg #[.slice A0 4 c0, .slice A1 4 c1, .slice A2 0 c2, .slice A3 1 c3]] W
    fun e w' => (∃ g, e = .returned (.tuple #[.slice (some ⟨g, 0, none⟩) 4 4, .int .i64 0]) ∧ Is w' w'.heap.size (.slice (some ⟨g, 0, none⟩) 4 4) [0, 0, 1, 2]) ∧ Below w1.heap.size w1 w' ∧ LW w q A0 A1 A2 A3 c0 c1 c2 c3 w' := by
  have hn := h.next hb
  refine (levels_any Ex _ W W.heap.size (Nat.le_refl _) hn.tabs hn.all).mono fun e w' ⟨h1, h2⟩ => ?_
  rcases h2 with ⟨-, -, L, g, hl, -, -, rfl, hr⟩ | ⟨hne, -⟩
  · obtain rfl := ex_lvl hl
    exact ⟨⟨g, rfl, hr.is (by simp [maxLen])⟩, joinB hb h1, hn.next h1⟩
  · exact absurd ex_ok hne
theorem ord_ex (h : LW w q A0 A1 A2 A3 c0 c1 c2 c3 w1) (hb : Below w1.heap.size w1 W) : Calls Tryz.prog 17 #[.agg #[.slice A0 4 c0, .slice A1 4 c1, .slice A2 0 c2, .slice A3 1 c3]] W
    fun e w' => (∃ g, e = .returned (.tuple #[.slice (some ⟨g, 0, none⟩) 4 4, .int .i64 0]) ∧ Is w' w'.heap.size (.slice (some ⟨g, 0, none⟩) 4 4) [0, 1, 2, 3]) ∧ Below w1.heap.size w1 w' ∧ LW w q A0 A1 A2 A3 c0 c1 c2 c3 w' := by
  have hn := h.next hb
  refine (order_any Ex _ W W.heap.size (Nat.le_refl _) hn.tabs hn.all (by decide)).mono fun e w' ⟨h1, h2⟩ => ?_
  rcases h2 with ⟨-, -, L, R, g, hl, -, hs, -, rfl, hr⟩ | ⟨hne, -⟩
  · obtain rfl := ex_lvl hl
    obtain rfl := ex_ord hs
    exact ⟨⟨g, rfl, hr.is (by simp [maxLen])⟩, joinB hb h1, hn.next h1⟩
  · exact absurd ex_ok hne
theorem ins_ex (h : LW w q A0 A1 A2 A3 c0 c1 c2 c3 w1) (hb : Below w1.heap.size w1 W) : Calls Tryz.prog 20 #[.agg #[.slice A0 4 c0, .slice A1 4 c1, .slice A2 0 c2, .slice A3 1 c3]] W
    fun e w' => (∃ A, e = .returned (.slice A 1 1) ∧ Is w' w'.heap.size (.slice A 1 1) [0]) ∧ Below w1.heap.size w1 w' ∧ LW w q A0 A1 A2 A3 c0 c1 c2 c3 w' := by
  have hn := h.next hb
  refine (inputs_any Ex _ W W.heap.size (Nat.le_refl _) hn.all (by decide)).mono fun e w' ⟨A, h1, h2, h3⟩ => ?_
  have e2 : ofTo Ex.nodes [0] Ex.nodes.length = [0] := ex_ins
  rw [e2] at h1 h2
  exact ⟨⟨A, h1, h2⟩, joinB hb h3, hn.next h3⟩
theorem sts_ex (h : LW w q A0 A1 A2 A3 c0 c1 c2 c3 w1) (hb : Below w1.heap.size w1 W) : Calls Tryz.prog 21 #[.agg #[.slice A0 4 c0, .slice A1 4 c1, .slice A2 0 c2, .slice A3 1 c3]] W
    fun e w' => (∃ A, e = .returned (.slice A 1 1) ∧ Is w' w'.heap.size (.slice A 1 1) [1]) ∧ Below w1.heap.size w1 w' ∧ LW w q A0 A1 A2 A3 c0 c1 c2 c3 w' := by
  have hn := h.next hb
  refine (states_any Ex _ W W.heap.size (Nat.le_refl _) hn.all (by decide)).mono fun e w' ⟨A, h1, h2, h3⟩ => ?_
  have e2 : ofTo Ex.nodes [14] Ex.nodes.length = [1] := ex_sts
  rw [e2] at h1 h2
  exact ⟨⟨A, h1, h2⟩, joinB hb h3, hn.next h3⟩
end

end Go.Proofs.YtfcdhoaccmckoaaGreatDoor
