/- The walk of lives: what stands, and the calls on the example. -/
import Derived.Test.YtfcdhoaccmckoaaDoorExp
import Derived.Test.YtfcdhoaccmckoaaDoorRfl
import Derived.Test.YtfcdhoaccmckoaaDoorOwn
import Derived.Test.YtfcdhoaccmckoaaDoorInt
namespace Go.Proofs.YtfcdhoaccmckoaaDoor
open Go.RowKit

theorem Is.on {w w' : World} {v : Value} {l : List Int} (h : Is w w.heap.size v l) (hb : Below w.heap.size w w') : Is w' w'.heap.size v l := (h.below hb).more hb.size
theorem Fos.on {w w' : World} {v : Value} {l : List (List (Int × Int))} (h : Fos w w.heap.size v l) (hb : Below w.heap.size w w') : Fos w' w'.heap.size v l := h.keep hb.size fun _ hp => hb.cell hp
/-- What stands all the while: the example in the variable at q. -/
structure LW (w : World) (q : Nat) (A0 A1 A2 A3 : Option Addr) (c0 c1 c2 c3 : Nat) (wr : World) : Prop where
  bel : Below w.heap.size w wr
  low : w.heap.size ≤ q
  tabs : Tabs wr
  cir : Cir wr q (.agg #[.slice A0 4 c0, .slice A1 4 c1, .slice A2 0 c2, .slice A3 1 c3]) Ex
  box : Fr wr q 27 [.slice A0 4 c0, .slice A1 4 c1, .slice A2 0 c2, .slice A3 1 c3]
section
variable {w w1 W : World} {q : Nat} {A0 A1 A2 A3 : Option Addr} {c0 c1 c2 c3 : Nat}
theorem LW.next (h : LW w q A0 A1 A2 A3 c0 c1 c2 c3 w1) (hb : Below w1.heap.size w1 W) : LW w q A0 A1 A2 A3 c0 c1 c2 c3 W :=
  ⟨joinB h.bel hb, h.low, h.tabs.below hb, h.cir.below (hb.mono (Nat.le_of_lt h.box.lt)), h.box.below hb⟩
theorem LW.cells (h : LW w q A0 A1 A2 A3 c0 c1 c2 c3 w1) : w1.cell? ⟨q, 0, none⟩ = some (.slice A0 4 c0) ∧ w1.cell? ⟨q, 1, none⟩ = some (.slice A1 4 c1) ∧ w1.cell? ⟨q, 2, none⟩ = some (.slice A2 0 c2) ∧ w1.cell? ⟨q, 3, none⟩ = some (.slice A3 1 c3) :=
  ⟨h.box.cell 0, h.box.cell 1, h.box.cell 2, h.box.cell 3⟩
theorem LW.all (h : LW w q A0 A1 A2 A3 c0 c1 c2 c3 w1) : Cir w1 w1.heap.size (.agg #[.slice A0 4 c0, .slice A1 4 c1, .slice A2 0 c2, .slice A3 1 c3]) Ex := h.cir.more (Nat.le_of_lt h.box.lt)
theorem lvl_ex (h : LW w q A0 A1 A2 A3 c0 c1 c2 c3 w1) (hb : Below w1.heap.size w1 W) : Calls Tryd.prog 55 #[.agg #[.slice A0 4 c0, .slice A1 4 c1, .slice A2 0 c2, .slice A3 1 c3]] W
    fun e w' => (∃ g, e = .returned (.tuple #[.slice (some ⟨g, 0, none⟩) 4 4, .int .i64 0]) ∧ Is w' w'.heap.size (.slice (some ⟨g, 0, none⟩) 4 4) [0, 0, 1, 2]) ∧ Below w1.heap.size w1 w' ∧ LW w q A0 A1 A2 A3 c0 c1 c2 c3 w' := by
  have hn := h.next hb
  refine (levels_any Ex _ W W.heap.size (Nat.le_refl _) hn.tabs hn.all).mono fun e w' ⟨h1, h2⟩ => ?_
  rcases h2 with ⟨-, -, L, g, hl, -, -, rfl, hr⟩ | ⟨hne, -⟩
  · obtain rfl := ex_lvl hl
    exact ⟨⟨g, rfl, hr.is (by simp [maxLen])⟩, joinB hb h1, hn.next h1⟩
  · exact absurd ex_ok hne
theorem ord_ex (h : LW w q A0 A1 A2 A3 c0 c1 c2 c3 w1) (hb : Below w1.heap.size w1 W) : Calls Tryd.prog 31 #[.agg #[.slice A0 4 c0, .slice A1 4 c1, .slice A2 0 c2, .slice A3 1 c3]] W
    fun e w' => (∃ g, e = .returned (.tuple #[.slice (some ⟨g, 0, none⟩) 4 4, .int .i64 0]) ∧ Is w' w'.heap.size (.slice (some ⟨g, 0, none⟩) 4 4) [0, 1, 2, 3]) ∧ Below w1.heap.size w1 w' ∧ LW w q A0 A1 A2 A3 c0 c1 c2 c3 w' := by
  have hn := h.next hb
  refine (order_any Ex _ W W.heap.size (Nat.le_refl _) hn.tabs hn.all (by decide)).mono fun e w' ⟨h1, h2⟩ => ?_
  rcases h2 with ⟨-, -, L, R, g, hl, -, hs, -, rfl, hr⟩ | ⟨hne, -⟩
  · obtain rfl := ex_lvl hl
    obtain rfl := ex_ord hs
    exact ⟨⟨g, rfl, hr.is (by simp [maxLen])⟩, joinB hb h1, hn.next h1⟩
  · exact absurd ex_ok hne
theorem chk_ex (h : LW w q A0 A1 A2 A3 c0 c1 c2 c3 w1) (hb : Below w1.heap.size w1 W) : Calls Tryd.prog 43 #[.agg #[.slice A0 4 c0, .slice A1 4 c1, .slice A2 0 c2, .slice A3 1 c3]] W
    fun e w' => e = .returned (.int .i64 0) ∧ Below w1.heap.size w1 w' ∧ LW w q A0 A1 A2 A3 c0 c1 c2 c3 w' := by
  have hn := h.next hb
  refine (check_any Ex _ W W.heap.size (Nat.le_refl _) hn.tabs hn.all).mono fun e w' ⟨h1, h2⟩ => ?_
  rw [ex_ok] at h1
  exact ⟨h1, joinB hb h2, hn.next h2⟩
theorem ins_ex (h : LW w q A0 A1 A2 A3 c0 c1 c2 c3 w1) (hb : Below w1.heap.size w1 W) : Calls Tryd.prog 29 #[.agg #[.slice A0 4 c0, .slice A1 4 c1, .slice A2 0 c2, .slice A3 1 c3]] W
    fun e w' => (∃ A, e = .returned (.slice A 1 1) ∧ Is w' w'.heap.size (.slice A 1 1) [0]) ∧ Below w1.heap.size w1 w' ∧ LW w q A0 A1 A2 A3 c0 c1 c2 c3 w' := by
  have hn := h.next hb
  refine (inputs_any Ex _ W W.heap.size (Nat.le_refl _) hn.all (by decide)).mono fun e w' ⟨A, h1, h2, h3⟩ => ?_
  have e2 : ofTo Ex.nodes [0] Ex.nodes.length = [0] := ex_ins
  rw [e2] at h1 h2
  exact ⟨⟨A, h1, h2⟩, joinB hb h3, hn.next h3⟩
theorem sts_ex (h : LW w q A0 A1 A2 A3 c0 c1 c2 c3 w1) (hb : Below w1.heap.size w1 W) : Calls Tryd.prog 30 #[.agg #[.slice A0 4 c0, .slice A1 4 c1, .slice A2 0 c2, .slice A3 1 c3]] W
    fun e w' => (∃ A, e = .returned (.slice A 1 1) ∧ Is w' w'.heap.size (.slice A 1 1) [1]) ∧ Below w1.heap.size w1 w' ∧ LW w q A0 A1 A2 A3 c0 c1 c2 c3 w' := by
  have hn := h.next hb
  refine (states_any Ex _ W W.heap.size (Nat.le_refl _) hn.all (by decide)).mono fun e w' ⟨A, h1, h2, h3⟩ => ?_
  have e2 : ofTo Ex.nodes [14] Ex.nodes.length = [1] := ex_sts
  rw [e2] at h1 h2
  exact ⟨⟨A, h1, h2⟩, joinB hb h3, hn.next h3⟩
/-- Ints of a slice and a literal that read alike. -/
theorem int_ex (h : LW w q A0 A1 A2 A3 c0 c1 c2 c3 w1) {A : Option Addr} {n c : Nat} {l : List Int} (hl : l.length = n) (hc : c = n) (hi : Is w1 w1.heap.size (.slice A n c) l) (b : Nat) (hbz : b = w1.heap.size) (t : TypeId) (cs : Array Value) (hcs : cs = (l.map (Value.int .i64)).toArray) :
    Calls Tryd.prog 27 #[.slice A n c, .slice (some ⟨b, 0, none⟩) n n] (w1.alloc (.cells cs t))
    fun e w' => e = .returned (.int .i64 0) ∧ Below w1.heap.size w1 w' ∧ LW w q A0 A1 A2 A3 c0 c1 c2 c3 w' := by
  subst hl hc hbz hcs
  have hal : Below w1.heap.size w1 (w1.alloc (.cells (l.map (Value.int .i64)).toArray t)) := below_new (Below.refl _ _) _
  have hi2 := hi.on hal
  have hlit : Is (w1.alloc (.cells (l.map (Value.int .i64)).toArray t)) (w1.alloc (.cells (l.map (Value.int .i64)).toArray t)).heap.size (.slice (some ⟨w1.heap.size, 0, none⟩) l.length l.length) l :=
    is_of t (heap_alloc_new _ _) (Arr.len hi) (by simp)
  refine (ints_any l l A l.length _ _ _ _ hi2 hlit).mono fun e w' ⟨h1, k, h2⟩ => ?_
  subst h2
  have hb := below_drewN hal k
  exact ⟨by rw [h1]; simp [intsR], hb, h.next hb⟩
end

end Go.Proofs.YtfcdhoaccmckoaaDoor

