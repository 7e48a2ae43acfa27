/- The texts Liv Nms. -/
import Derived.Test.YtemogllidmgbfaaGreatDoorM15
import Derived.Test.YtemogllidmgbfaaGreatDoorM21
import Derived.Test.YtemogllidmgbfaaGreatDoorM14
import Derived.Test.YtemogllidmgbfaaGreatDoorM01
namespace Go.Proofs.YtemogllidmgbfaaGreatDoor
open Go.RowKit

theorem Is.on {w w' : World} {v : Value} {l : List Int} (h : Is w w.heap.size v l) (hb : Below w.heap.size w w') : Is w' w'.heap.size v l := (h.below hb).more hb.size
theorem Fos.on {w w' : World} {v : Value} {l : List (List (Int × Int))} (h : Fos w w.heap.size v l) (hb : Below w.heap.size w w') : Fos w' w'.heap.size v l := h.keep hb.size fun _ hp => hb.cell hp
/-- What stands all the while: the example in the variable at q. -/
structure LW (w : World) (q : Nat) (A0 A1 A2 A3 : Option Addr) (c0 c1 c2 c3 : Nat) (wr : World) : Prop where
  bel : Below w.heap.size w wr
  low : w.heap.size ≤ q
  tabs : Tabs wr
  cir : Cir wr q (.agg #[.slice A0 4 c0, .slice A1 4 c1, .slice A2 0 c2, .slice A3 1 c3]) Ex
  box : Fr wr q 46 [.slice A0 4 c0, .slice A1 4 c1, .slice A2 0 c2, .slice A3 1 c3]
section
variable {w w1 W : World} {q : Nat} {A0 A1 A2 A3 : Option Addr} {c0 c1 c2 c3 : Nat}
theorem LW.next (h : LW w q A0 A1 A2 A3 c0 c1 c2 c3 w1) (hb : Below w1.heap.size w1 W) : LW w q A0 A1 A2 A3 c0 c1 c2 c3 W :=
  ⟨joinB h.bel hb, h.low, h.tabs.below hb, h.cir.below (hb.mono (Nat.le_of_lt h.box.lt)), h.box.below hb⟩
theorem LW.cells (h : LW w q A0 A1 A2 A3 c0 c1 c2 c3 w1) : w1.cell? ⟨q, 0, none⟩ = some (.slice A0 4 c0) ∧ w1.cell? ⟨q, 1, none⟩ = some (.slice A1 4 c1) ∧ w1.cell? ⟨q, 2, none⟩ = some (.slice A2 0 c2) ∧ w1.cell? ⟨q, 3, none⟩ = some (.slice A3 1 c3) :=
  ⟨h.box.cell 0, h.box.cell 1, h.box.cell 2, h.box.cell 3⟩
theorem LW.all (h : LW w q A0 A1 A2 A3 c0 c1 c2 c3 w1) : Cir w1 w1.heap.size (.agg #[.slice A0 4 c0, .slice A1 4 c1, .slice A2 0 c2, .slice A3 1 c3]) Ex := h.cir.more (Nat.le_of_lt h.box.lt)
end

end Go.Proofs.YtemogllidmgbfaaGreatDoor

namespace Go.Proofs.YtemogllidmgbfaaGreatDoor
open Go.RowKit

/-- r is where s stands first, or -1. -/
def First (l : List ByteArray) (s : ByteArray) (r : Int) : Prop :=
  (r = -1 ∧ ∀ j : Nat, j < l.length → (s.toList == (l.getD j ByteArray.empty).toList) = false) ∨ ∃ k : Nat, k < l.length ∧ r = (k : Int) ∧ (s.toList == (l.getD k ByteArray.empty).toList) = true ∧ ∀ j : Nat, j < k → (s.toList == (l.getD j ByteArray.empty).toList) = false
theorem refComb_any (k : Int) (w : World) : Calls Tryz.prog 112 #[.int .u8 k] w fun e w' => e = .returned (.bool (cmb k)) ∧ w = w' := by
  obtain ⟨y, HY⟩ := named (cmb k)
  rw [← HY.out]
  by_cases h1 : 1 ≤ k
  all_goals
    go_enter Tryz.func112, Tryz.ntmps112
    go_wp2
    go_ret
    exact ⟨ret_bool (by rw [HY.out]; first | (simp [cmb, h1]; done) | (simp [cmb, h1]; omega)), rfl⟩

theorem nmb_cases (z : Int) : (nmb z = false ∧ (decide (z ≤ 32) = true ∨ (decide (z ≤ 32) = false ∧ decide (126 < z) = true) ∨ (decide (z ≤ 32) = false ∧ decide (126 < z) = false ∧ (z == 40) = true) ∨ (decide (z ≤ 32) = false ∧ decide (126 < z) = false ∧ (z == 40) = false ∧ (z == 41) = true) ∨
      (decide (z ≤ 32) = false ∧ decide (126 < z) = false ∧ (z == 40) = false ∧ (z == 41) = false ∧ (z == 61) = true) ∨ (decide (z ≤ 32) = false ∧ decide (126 < z) = false ∧ (z == 40) = false ∧ (z == 41) = false ∧ (z == 61) = false ∧ (z == 44) = true) ∨
      (decide (z ≤ 32) = false ∧ decide (126 < z) = false ∧ (z == 40) = false ∧ (z == 41) = false ∧ (z == 61) = false ∧ (z == 44) = false ∧ (z == 35) = true))) ∨
    (nmb z = true ∧ decide (z ≤ 32) = false ∧ decide (126 < z) = false ∧ (z == 40) = false ∧ (z == 41) = false ∧ (z == 61) = false ∧ (z == 44) = false ∧ (z == 35) = false) := by
  by_cases h1 : z ≤ 32
  · refine .inl ⟨?_, .inl (by simp [h1])⟩
    simp [nmb]; omega
  · by_cases h2 : 126 < z
    · refine .inl ⟨?_, .inr (.inl ⟨by simp [h1], by simp [h2]⟩)⟩
      simp [nmb]; omega
    · by_cases h3 : z = 40
      · subst h3; simp [nmb]
      · by_cases h4 : z = 41
        · subst h4; simp [nmb]
        · by_cases h5 : z = 61
          · subst h5; simp [nmb]
          · by_cases h6 : z = 44
            · subst h6; simp [nmb]
            · by_cases h7 : z = 35
              · subst h7; simp [nmb]
              · refine .inr ⟨?_, by simp [h1], by simp [h2], by simp [h3], by simp [h4], by simp [h5], by simp [h6], by simp [h7]⟩
                simp [nmb, h3, h4, h5, h6, h7]; omega

/-- What the search from behind keeps: r is where s stands first from k on, or -1. -/
def From (l : List ByteArray) (s : ByteArray) (k : Nat) (r : Int) : Prop :=
  (r = -1 ∧ ∀ j : Nat, k ≤ j → j < l.length → (s.toList == (l.getD j ByteArray.empty).toList) = false) ∨ ∃ m : Nat, k ≤ m ∧ m < l.length ∧ r = (m : Int) ∧ (s.toList == (l.getD m ByteArray.empty).toList) = true ∧ ∀ j : Nat, k ≤ j → j < m → (s.toList == (l.getD j ByteArray.empty).toList) = false
theorem From.first {l : List ByteArray} {s : ByteArray} {r : Int} (h : From l s 0 r) : First l s r := by
  rcases h with ⟨h1, h2⟩ | ⟨m, _, h1, h2, h3, h4⟩
  · exact .inl ⟨h1, fun j hj => h2 j (Nat.zero_le _) hj⟩
  · exact .inr ⟨m, h1, h2, h3, fun j hj => h4 j (Nat.zero_le _) hj⟩
end Go.Proofs.YtemogllidmgbfaaGreatDoor
