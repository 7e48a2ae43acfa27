/- The texts Fan Rfl Rsa Rsn Int Liv Nms Rsh Rlv Rck Hel. -/
import Derived.Test.YtemogllidmgbfaaDoorM19
import Derived.Deep.LoopGhost
import Derived.Test.YtemogllidmgbfaaDoorM04
import Derived.Test.YtemogllidmgbfaaDoorM17
import Derived.Deep.DeepCutAuto
import Derived.Deep.CutBlock
import Derived.Test.YtemogllidmgbfaaDoorM18
import Derived.Test.YtemogllidmgbfaaDoorM02
import Derived.Test.YtemogllidmgbfaaDoorM08
import Derived.Test.YtemogllidmgbfaaDoorM15
import Derived.OrdersHeld
import Derived.Deep.RegionHeld
namespace Go.Proofs.YtemogllidmgbfaaDoor
open Go.RowKit

theorem two_new (w : World) (u v : Value) (t : TypeId) : ∀ (j : Nat) (x : Value), [u, v][j]? = some x → (w.alloc (.cells #[u, v] t)).cell? ((⟨w.heap.size, 0, none⟩ : Addr).add j) = some x := by
  intro j x hj
  match j, hj with
  | 0, hj =>
    rw [show (⟨w.heap.size, 0, none⟩ : Addr).add 0 = ⟨w.heap.size, 0, none⟩ from rfl, World.cell?_alloc_at _ _ _ _ rfl]
    simpa using hj
  | 1, hj =>
    rw [show (⟨w.heap.size, 0, none⟩ : Addr).add 1 = ⟨w.heap.size, 1, none⟩ from rfl, World.cell?_alloc_at _ _ _ _ rfl]
    simpa using hj
  | j + 2, hj => simp at hj
theorem own_form {w : World} {base : Nat} {e : TypeId} {size : Nat} {v : Value} {n : Nat} {xs : List Value} (h : w.ownsRow base e size v n xs) : ∃ A c, v = .slice A n c := by
  rcases h.2 with ⟨rfl, hn⟩ | ⟨g, cap, cur, rfl, -⟩
  · exact ⟨none, 0, by rw [hn]⟩
  · exact ⟨_, cap, rfl⟩
def FanPost (nodes : List Nd) (w : World) (e : Ending) (w' : World) : Prop :=
  ∃ g, e = .returned (.slice (some ⟨g, 0, none⟩) nodes.length nodes.length) ∧ w.heap.size ≤ g ∧ Fos w' w'.heap.size (.slice (some ⟨g, 0, none⟩) nodes.length nodes.length) (fanL nodes) ∧ Below w.heap.size w w'

end Go.Proofs.YtemogllidmgbfaaDoor

namespace Go.Proofs.YtemogllidmgbfaaDoor
open Go.RowKit

theorem isK_one (x k : Int) : isK [k] x = (x == k) := by simp [isK, anyP]
theorem Stk.all {w : World} {g : Nat} {v : Value} {l : List Int} (h : Stk w g v l) (hm : l.length ≤ maxLen) : Is w w.heap.size v l := by
  obtain ⟨A, c, rfl, hle, -, -⟩ := h.form
  exact h.reads c hle hm

end Go.Proofs.YtemogllidmgbfaaDoor

namespace Go.Proofs.YtemogllidmgbfaaDoor
open Go.RowKit

def alw (k n : Int) : Bool := if k = 1 ∨ k = 2 then n == 0 else if k = 3 ∨ k = 4 then n == 1 else if k = 11 then n == 3 else if k = 12 then n == 2 else if k = 13 then decide (1 ≤ n) && decide (n ≤ 16) else decide (5 ≤ k) && decide (k ≤ 10) && decide (2 ≤ n) && decide (n ≤ 16)
def rinp (k n : Int) : Bool := if k = 0 ∨ k = 15 then n == 0 else (k == 14 && n == 1) || alw k n
theorem rinp_iff {k n : Int} (h0 : 0 ≤ k) (h1 : ¬ 15 < k) (hn : 0 ≤ n) : rinp k n = true ↔ lo k ≤ n ∧ n ≤ hi k := by
  rcases kinds h0 h1 with rfl | rfl | rfl | rfl | rfl | rfl | rfl | rfl | rfl | rfl | rfl | rfl | rfl | rfl | rfl | rfl <;> simp [rinp, alw, lo, hi, spansL] <;> omega

end Go.Proofs.YtemogllidmgbfaaDoor

namespace Go.Proofs.YtemogllidmgbfaaDoor
open Go.RowKit

theorem mem_getD0 {l : List Int} {k : Nat} (h : k < l.length) : l.getD k 0 ∈ l := by
  rw [List.getD_eq_getElem?_getD, List.getElem?_eq_getElem h]; exact List.getElem_mem h
end Go.Proofs.YtemogllidmgbfaaDoor

namespace Go.Proofs.YtemogllidmgbfaaDoor
open Go.RowKit

def intsR (l l' : List Int) (c : Nat) : Int := if l = l' ∧ c ≤ l.length then 0 else 1
theorem list_eq_of {l l' : List Int} (hl : l.length = l'.length) (h : ∀ j, j < l.length → l.getD j 0 = l'.getD j 0) : l = l' := by
  apply List.ext_getElem hl
  intro j h1 h2
  have := h j h1
  simpa [List.getD_eq_getElem?_getD, List.getElem?_eq_getElem h1, List.getElem?_eq_getElem h2] using this

end Go.Proofs.YtemogllidmgbfaaDoor

namespace Go.Proofs.YtemogllidmgbfaaDoor
open Go.RowKit

theorem Is.on {w w' : World} {v : Value} {l : List Int} (h : Is w w.heap.size v l) (hb : Below w.heap.size w w') : Is w' w'.heap.size v l := (h.below hb).more hb.size
theorem Fos.on {w w' : World} {v : Value} {l : List (List (Int × Int))} (h : Fos w w.heap.size v l) (hb : Below w.heap.size w w') : Fos w' w'.heap.size v l := h.keep hb.size fun _ hp => hb.cell hp
/-- What stands all the while: the example in the variable at q. -/
structure LW (w : World) (q : Nat) (A0 A1 A2 A3 : Option Addr) (c0 c1 c2 c3 : Nat) (wr : World) : Prop where
  bel : Below w.heap.size w wr
  low : w.heap.size ≤ q
  tabs : Tabs wr
  cir : Cir wr q (.agg #[.slice A0 4 c0, .slice A1 4 c1, .slice A2 0 c2, .slice A3 1 c3]) Ex
  box : Fr wr q 56 [.slice A0 4 c0, .slice A1 4 c1, .slice A2 0 c2, .slice A3 1 c3]
section
variable {w w1 W : World} {q : Nat} {A0 A1 A2 A3 : Option Addr} {c0 c1 c2 c3 : Nat}
theorem LW.next (h : LW w q A0 A1 A2 A3 c0 c1 c2 c3 w1) (hb : Below w1.heap.size w1 W) : LW w q A0 A1 A2 A3 c0 c1 c2 c3 W :=
  ⟨joinB h.bel hb, h.low, h.tabs.below hb, h.cir.below (hb.mono (Nat.le_of_lt h.box.lt)), h.box.below hb⟩
theorem LW.cells (h : LW w q A0 A1 A2 A3 c0 c1 c2 c3 w1) : w1.cell? ⟨q, 0, none⟩ = some (.slice A0 4 c0) ∧ w1.cell? ⟨q, 1, none⟩ = some (.slice A1 4 c1) ∧ w1.cell? ⟨q, 2, none⟩ = some (.slice A2 0 c2) ∧ w1.cell? ⟨q, 3, none⟩ = some (.slice A3 1 c3) :=
  ⟨h.box.cell 0, h.box.cell 1, h.box.cell 2, h.box.cell 3⟩
theorem LW.all (h : LW w q A0 A1 A2 A3 c0 c1 c2 c3 w1) : Cir w1 w1.heap.size (.agg #[.slice A0 4 c0, .slice A1 4 c1, .slice A2 0 c2, .slice A3 1 c3]) Ex := h.cir.more (Nat.le_of_lt h.box.lt)
theorem lvl_ex (h : LW w q A0 A1 A2 A3 c0 c1 c2 c3 w1) (hb : Below w1.heap.size w1 W) : Calls Tryd.prog 55 #[.agg #[.slice A0 4 c0, .slice A1 4 c1, .slice A2 0 c2, .slice A3 1 c3]] W
    fun e w' => (∃ g, e = .returned (.tuple #[.slice (some ⟨g, 0, none⟩) 4 4, .int .i64 0]) ∧ Is w' w'.heap.size (.slice (some ⟨g, 0, none⟩) 4 4) [0, 0, 1, 2]) ∧ Below w1.heap.size w1 w' ∧ LW w q A0 A1 A2 A3 c0 c1 c2 c3 w' := by
  have hn := h.next hb
  refine (levels_any Ex _ W W.heap.size (Nat.le_refl _) hn.tabs hn.all).mono fun e w' ⟨h1, h2⟩ => ?_
  rcases h2 with ⟨-, -, L, g, hl, -, -, rfl, hr⟩ | ⟨hne, -⟩
  · obtain rfl := ex_lvl hl
    exact ⟨⟨g, rfl, hr.is (by simp [maxLen])⟩, joinB hb h1, hn.next h1⟩
  · exact absurd ex_ok hne
theorem ord_ex (h : LW w q A0 A1 A2 A3 c0 c1 c2 c3 w1) (hb : Below w1.heap.size w1 W) : Calls Tryd.prog 43 #[.agg #[.slice A0 4 c0, .slice A1 4 c1, .slice A2 0 c2, .slice A3 1 c3]] W
    fun e w' => (∃ g, e = .returned (.tuple #[.slice (some ⟨g, 0, none⟩) 4 4, .int .i64 0]) ∧ Is w' w'.heap.size (.slice (some ⟨g, 0, none⟩) 4 4) [0, 1, 2, 3]) ∧ Below w1.heap.size w1 w' ∧ LW w q A0 A1 A2 A3 c0 c1 c2 c3 w' := by
  have hn := h.next hb
  refine (order_any Ex _ W W.heap.size (Nat.le_refl _) hn.tabs hn.all (by decide)).mono fun e w' ⟨h1, h2⟩ => ?_
  rcases h2 with ⟨-, -, L, R, g, hl, -, hs, -, rfl, hr⟩ | ⟨hne, -⟩
  · obtain rfl := ex_lvl hl
    obtain rfl := ex_ord hs
    exact ⟨⟨g, rfl, hr.is (by simp [maxLen])⟩, joinB hb h1, hn.next h1⟩
  · exact absurd ex_ok hne
theorem chk_ex (h : LW w q A0 A1 A2 A3 c0 c1 c2 c3 w1) (hb : Below w1.heap.size w1 W) : Calls Tryd.prog 50 #[.agg #[.slice A0 4 c0, .slice A1 4 c1, .slice A2 0 c2, .slice A3 1 c3]] W
    fun e w' => e = .returned (.int .i64 0) ∧ Below w1.heap.size w1 w' ∧ LW w q A0 A1 A2 A3 c0 c1 c2 c3 w' := by
  have hn := h.next hb
  refine (check_any Ex _ W W.heap.size (Nat.le_refl _) hn.tabs hn.all).mono fun e w' ⟨h1, h2⟩ => ?_
  rw [ex_ok] at h1
  exact ⟨h1, joinB hb h2, hn.next h2⟩
theorem ins_ex (h : LW w q A0 A1 A2 A3 c0 c1 c2 c3 w1) (hb : Below w1.heap.size w1 W) : Calls Tryd.prog 38 #[.agg #[.slice A0 4 c0, .slice A1 4 c1, .slice A2 0 c2, .slice A3 1 c3]] W
    fun e w' => (∃ A, e = .returned (.slice A 1 1) ∧ Is w' w'.heap.size (.slice A 1 1) [0]) ∧ Below w1.heap.size w1 w' ∧ LW w q A0 A1 A2 A3 c0 c1 c2 c3 w' := by
  have hn := h.next hb
  refine (inputs_any Ex _ W W.heap.size (Nat.le_refl _) hn.all (by decide)).mono fun e w' ⟨A, h1, h2, h3⟩ => ?_
  have e2 : ofTo Ex.nodes [0] Ex.nodes.length = [0] := ex_ins
  rw [e2] at h1 h2
  exact ⟨⟨A, h1, h2⟩, joinB hb h3, hn.next h3⟩
theorem sts_ex (h : LW w q A0 A1 A2 A3 c0 c1 c2 c3 w1) (hb : Below w1.heap.size w1 W) : Calls Tryd.prog 41 #[.agg #[.slice A0 4 c0, .slice A1 4 c1, .slice A2 0 c2, .slice A3 1 c3]] W
    fun e w' => (∃ A, e = .returned (.slice A 1 1) ∧ Is w' w'.heap.size (.slice A 1 1) [1]) ∧ Below w1.heap.size w1 w' ∧ LW w q A0 A1 A2 A3 c0 c1 c2 c3 w' := by
  have hn := h.next hb
  refine (states_any Ex _ W W.heap.size (Nat.le_refl _) hn.all (by decide)).mono fun e w' ⟨A, h1, h2, h3⟩ => ?_
  have e2 : ofTo Ex.nodes [14] Ex.nodes.length = [1] := ex_sts
  rw [e2] at h1 h2
  exact ⟨⟨A, h1, h2⟩, joinB hb h3, hn.next h3⟩
end

end Go.Proofs.YtemogllidmgbfaaDoor

namespace Go.Proofs.YtemogllidmgbfaaDoor
open Go.RowKit

/-- r is where s stands first, or -1. -/
def First (l : List ByteArray) (s : ByteArray) (r : Int) : Prop :=
  (r = -1 ∧ ∀ j : Nat, j < l.length → (s.toList == (l.getD j ByteArray.empty).toList) = false) ∨ ∃ k : Nat, k < l.length ∧ r = (k : Int) ∧ (s.toList == (l.getD k ByteArray.empty).toList) = true ∧ ∀ j : Nat, j < k → (s.toList == (l.getD j ByteArray.empty).toList) = false
theorem First.uniq {l : List ByteArray} {s : ByteArray} {r r' : Int} (h : First l s r) (h' : First l s r') : r = r' := by
  rcases h with ⟨rfl, h1⟩ | ⟨k, hk, rfl, h1, h2⟩ <;> rcases h' with ⟨rfl, h1'⟩ | ⟨k', hk', rfl, h1', h2'⟩
  · rfl
  · rw [h1 k' hk'] at h1'; cases h1'
  · rw [h1' k hk] at h1; cases h1
  · rcases Nat.lt_trichotomy k k' with h | h | h
    · rw [h2' k h] at h1; cases h1
    · rw [h]
    · rw [h2 k' h] at h1'; cases h1'
theorem First.ge {l : List ByteArray} {s : ByteArray} {r : Int} (h : First l s r) : -1 ≤ r ∧ r < l.length := by
  rcases h with ⟨rfl, _⟩ | ⟨k, hk, rfl, _⟩ <;> omega

theorem nmb_cases (z : Int) : (nmb z = false ∧ (decide (z ≤ 32) = true ∨ (decide (z ≤ 32) = false ∧ decide (126 < z) = true) ∨ (decide (z ≤ 32) = false ∧ decide (126 < z) = false ∧ (z == 40) = true) ∨ (decide (z ≤ 32) = false ∧ decide (126 < z) = false ∧ (z == 40) = false ∧ (z == 41) = true) ∨
      (decide (z ≤ 32) = false ∧ decide (126 < z) = false ∧ (z == 40) = false ∧ (z == 41) = false ∧ (z == 61) = true) ∨ (decide (z ≤ 32) = false ∧ decide (126 < z) = false ∧ (z == 40) = false ∧ (z == 41) = false ∧ (z == 61) = false ∧ (z == 44) = true) ∨
      (decide (z ≤ 32) = false ∧ decide (126 < z) = false ∧ (z == 40) = false ∧ (z == 41) = false ∧ (z == 61) = false ∧ (z == 44) = false ∧ (z == 35) = true))) ∨
    (nmb z = true ∧ decide (z ≤ 32) = false ∧ decide (126 < z) = false ∧ (z == 40) = false ∧ (z == 41) = false ∧ (z == 61) = false ∧ (z == 44) = false ∧ (z == 35) = false) := by
  by_cases h1 : z ≤ 32
  · refine .inl ⟨?_, .inl (by simp [h1])⟩
    simp [nmb]; omega
  · by_cases h2 : 126 < z
    · refine .inl ⟨?_, .inr (.inl ⟨by simp [h1], by simp [h2]⟩)⟩
      simp [nmb]; omega
    · by_cases h3 : z = 40
      · subst h3; simp [nmb]
      · by_cases h4 : z = 41
        · subst h4; simp [nmb]
        · by_cases h5 : z = 61
          · subst h5; simp [nmb]
          · by_cases h6 : z = 44
            · subst h6; simp [nmb]
            · by_cases h7 : z = 35
              · subst h7; simp [nmb]
              · refine .inr ⟨?_, by simp [h1], by simp [h2], by simp [h3], by simp [h4], by simp [h5], by simp [h6], by simp [h7]⟩
                simp [nmb, h3, h4, h5, h6, h7]; omega

/-- What the search from behind keeps: r is where s stands first from k on, or -1. -/
def From (l : List ByteArray) (s : ByteArray) (k : Nat) (r : Int) : Prop :=
  (r = -1 ∧ ∀ j : Nat, k ≤ j → j < l.length → (s.toList == (l.getD j ByteArray.empty).toList) = false) ∨ ∃ m : Nat, k ≤ m ∧ m < l.length ∧ r = (m : Int) ∧ (s.toList == (l.getD m ByteArray.empty).toList) = true ∧ ∀ j : Nat, k ≤ j → j < m → (s.toList == (l.getD j ByteArray.empty).toList) = false
theorem From.first {l : List ByteArray} {s : ByteArray} {r : Int} (h : From l s 0 r) : First l s r := by
  rcases h with ⟨h1, h2⟩ | ⟨m, _, h1, h2, h3, h4⟩
  · exact .inl ⟨h1, fun j hj => h2 j (Nat.zero_le _) hj⟩
  · exact .inr ⟨m, h1, h2, h3, fun j hj => h4 j (Nat.zero_le _) hj⟩
theorem From.no {l : List ByteArray} {s : ByteArray} {r : Int} {k : Nat} (h : From l s (k + 1) r) (hk : (s.toList == (l.getD k ByteArray.empty).toList) = false) : From l s k r := by
  rcases h with ⟨h1, h2⟩ | ⟨m, h0, h1, h2, h3, h4⟩
  · refine .inl ⟨h1, fun j hj hl => ?_⟩
    by_cases e : j = k
    · rw [e]; exact hk
    · exact h2 j (by omega) hl
  · refine .inr ⟨m, by omega, h1, h2, h3, fun j hj hm => ?_⟩
    by_cases e : j = k
    · rw [e]; exact hk
    · exact h4 j (by omega) hm
theorem From.yes {l : List ByteArray} {s : ByteArray} {k : Nat} (hl : k < l.length) (hk : (s.toList == (l.getD k ByteArray.empty).toList) = true) : From l s k (k : Int) :=
  .inr ⟨k, Nat.le_refl _, hl, rfl, hk, fun j h1 h2 => by omega⟩

end Go.Proofs.YtemogllidmgbfaaDoor

namespace Go.Proofs.YtemogllidmgbfaaDoor
open Go.RowKit

end Go.Proofs.YtemogllidmgbfaaDoor

namespace Go.Proofs.YtemogllidmgbfaaDoor
open Go.RowKit

/-- What stands while the reference's Levels runs. -/
structure RW (w : World) (vs : List Value) (wr : World) (out : List Int) : Prop where
  bel : Below w.heap.size w wr
  box : Fr wr w.heap.size 56 vs
  row : Row wr (w.heap.size + 1) out
section
variable {w wr w1 : World} {vs : List Value} {out : List Int}
theorem RW.next (h : RW w vs wr out) (hb : Below wr.heap.size wr w1) : RW w vs w1 out := ⟨joinB h.bel hb, h.box.below hb, h.row.below hb⟩
theorem RW.set (h : RW w vs wr out) (j : Nat) (x : Int) : RW w vs (wr.setCell ⟨w.heap.size + 1, j, none⟩ (.int .i64 x)) (out.set j x) :=
  ⟨h.bel.setCell (Nat.le_succ _) _, h.box.other (by show w.heap.size + 1 ≠ w.heap.size; omega) _, h.row.set j x⟩
theorem RW.drewN (h : RW w vs wr out) (n : Nat) : RW w vs (wr.drewN n) out := h.next (below_drewN (Below.refl _ _) n)
end
/-- Bounded by b. -/
def Bd (l : List Int) (b : Nat) : Prop := ∀ i : Nat, lat l i ≤ (b : Int)
theorem Bd.zero (n : Nat) : Bd (List.replicate n 0) 0 := fun i => by
  unfold lat; rw [List.getD_eq_getElem?_getD, List.getElem?_replicate]; split <;> exact Int.le_refl _
theorem Bd.pin {s : List Int × Bool} {b k : Nat} (h : Bd s.1 b) {x : Int} (hx : 0 ≤ x) : Bd (rpin k s x).1 (b + 1) := fun i => by
  have h1 := h i
  have h2 := h x.toNat
  rw [lat_nat _ hx] at h2
  unfold rpin
  split
  · show lat (s.1.set k _) i ≤ _
    rw [lat_set _ (by omega)]
    split <;> omega
  · omega
theorem Bd.le {l : List Int} {b b' : Nat} (h : Bd l b) (hb : b ≤ b') : Bd l b' := fun i => by have := h i; omega
theorem getD_in {l : List Int} {k : Nat} (h : k < l.length) : l.getD k 0 ∈ l := by
  rw [List.getD_eq_getElem?_getD, List.getElem?_eq_getElem h]; exact List.getElem_mem h
def RLev (c : Ck) (w : World) (e : Ending) (w' : World) : Prop :=
  Below w.heap.size w w' ∧ ((∃ L, Lvl c.nodes L ∧ e = .returned (.tuple #[.slice (some ⟨w.heap.size + 1, 0, none⟩) c.nodes.length c.nodes.length, .bool true]) ∧ Row w' (w.heap.size + 1) L)
    ∨ ((¬ ∃ L, Lvl c.nodes L) ∧ e = .returned (.tuple #[.slice none 0 0, .bool false])))

theorem made_zero (n : Nat) : (madeCells #[Value.int .i64 0] n).toList = (List.replicate n 0).map (Value.int .i64) := by
  rw [fillL_start (fun _ => .int .i64 0), ← fillL_end 0 (.int .i64 0) n]
  unfold fillL
  simp
end Go.Proofs.YtemogllidmgbfaaDoor

namespace Go.Proofs.YtemogllidmgbfaaDoor
open Go.RowKit

theorem hi_16 (k : Int) (h0 : 0 ≤ k) : hi k ≤ 16 := by
  by_cases h : 15 < k
  · unfold hi; rw [if_pos h]; decide
  · rcases kinds h0 h with rfl | rfl | rfl | rfl | rfl | rfl | rfl | rfl | rfl | rfl | rfl | rfl | rfl | rfl | rfl | rfl <;> decide
theorem pins_few {w : World} {B : Nat} {v : Value} {c : Ck} (hc : Cir w B v c) (h : shapeErr c = 0) : ∀ k, k < c.nodes.length → (c.nodes.getD k default).ins.length ≤ 100 := fun k hk => by
  have h1 := nodeErr_zero ((shape_zero h).2.2.2.2.1 _ (getD_mem_nd hk))
  have h2 := hi_16 (c.nodes.getD k default).kind (hc.fit.k k hk).1
  have := h1.2.2.1
  omega

end Go.Proofs.YtemogllidmgbfaaDoor

namespace Go.Proofs.YtemogllidmgbfaaDoor

section
variable {P : Program} {ops : Array Oper} {Q : Exit → Act → World → Prop} {md : Region.Mode} {S : World → Prop} {t : Nat}

/-- Whatever comes up next: S holds behind it, if it is not number t. -/
def AnyX (P : Program) (md : Region.Mode) (ops : Array Oper) (Q : Exit → Act → World → Prop) (S : World → Prop) (t : Nat) : Nat → Array Bool → Act → World → Prop
  | 0, listed, a, w => Region.ready md ops listed = [] ∧ Q .normal a w
  | f + 1, listed, a, w => (Region.ready md ops listed = [] → Q .normal a w) ∧ ∀ i ∈ Region.ready md ops listed, wpOp P ops Q i (fun a' w' => (i ≠ t → S w') ∧ AnyX P md ops Q S t f (listed.setIfInBounds i true) a' w') a w
theorem AnyX.any : ∀ {f : Nat} {listed : Array Bool} {a : Act} {w : World}, AnyX P md ops Q S t f listed a w → wpAny P md ops Q f listed a w
  | 0, _, _, _, h => h
  | _ + 1, _, _, _, h => ⟨h.1, fun i hi => wpOp_mono (fun _ _ h' => AnyX.any h'.2) (h.2 i hi)⟩
theorem AnyX.start {id : Nat} {a : Act} {w : World} (hm : P.follows .mixedOrders = true) (h : AnyX P .any ops Q S t ops.size (Array.replicate ops.size false) a w.drew) : (Code.region id ops true).wp P Q a w :=
  wp_region_any hm h.any

/-- Number t waits for number i. -/
theorem not_ready {ot : Oper} {i : Nat} {l : Array Bool} (ho : ops[t]? = some ot) (hw : ot.after.any (fun e => e.on == i && Region.binds md e) = true) (hl : l.getD i true = false) : t ∉ Region.ready md ops l := fun hr => by
  obtain ⟨-, o', ho', hall⟩ := mem_ready.1 hr
  obtain rfl := Option.some.inj (ho.symm.trans ho')
  obtain ⟨e, he, hb⟩ := Array.any_eq_true'.1 hw
  rw [Bool.and_eq_true, beq_iff_eq] at hb
  have h1 := hall e he hb.2
  rw [hb.1] at h1
  rcases Nat.lt_or_ge i l.size with h | h
  · simp [Array.getD, h] at hl h1
    rw [hl] at h1; cases h1
  · simp [Array.getD, Nat.not_lt.2 h] at hl

theorem AnyX.first {i : Nat} {oi : Oper} {v : Value} (hi : ops[i]? = some oi) (hsel : ∀ (j : Nat) (o : Oper) cs b, ops[j]? = some o → o.op ≠ .select cs b) (hQ : ∀ c a w, Q (.panic c) (a.put oi.dst v) w → Q (.panic c) a w)
    (ht : ∀ l : Array Bool, l.getD i true = false → t ∉ Region.ready md ops l) : ∀ (f : Nat) (listed : Array Bool) (a : Act) (w : World),
      (∀ j oj, ops[j]? = some oj → j ≠ i → listed.getD j true = false → (∀ e ∈ oj.after, Region.binds md e = true → e.on ≠ i) → oi.apart ops oj = true) →
      i ∈ Region.ready md ops listed → YieldsIf P ops S oi v a → S w → AnyX P md ops Q S t f (listed.setIfInBounds i true) (a.put oi.dst v) w → AnyX P md ops Q S t (f + 1) listed a w := by
  intro f
  induction f with
  | zero =>
    intro listed a w _ hr hy hS H
    refine ⟨fun h => absurd (h ▸ hr) (by simp), fun j hj => ?_⟩
    by_cases e : j = i
    · subst e; exact hy.wpOp hi hS ⟨fun _ => hS, H⟩
    · exact absurd (H.1 ▸ ready_mono hj e) (by simp)
  | succ f ih =>
    intro listed a w hfree hr hy hS H
    refine ⟨fun h => absurd (h ▸ hr) (by simp), fun j hj => ?_⟩
    by_cases e : j = i
    · subst e; exact hy.wpOp hi hS ⟨fun _ => hS, H⟩
    · obtain ⟨hju, oj, hoj, hall⟩ := mem_ready.1 hj
      have hiu := (mem_ready.1 hr).1
      have hjt : j ≠ t := fun h => ht listed hiu (h ▸ hj)
      have hno : ∀ x ∈ oj.after, Region.binds md x = true → x.on ≠ i := fun x hx hb he => by
        have h1 := hall x hx hb
        rw [he] at h1
        rcases Nat.lt_or_ge i listed.size with h' | h'
        · simp [h'] at hiu h1; rw [hiu] at h1; cases h1
        · simp [Array.getElem?_eq_none h'] at h1
      have step := wpOp_putIf hoj (hfree j oj hoj e hju hno) (fun cs b => hsel i oi cs b hi) (fun cs b => hsel j oj cs b hoj) hQ hy (H.2 j (ready_mono hj e))
      refine wpOp_mono (fun a' w' hh => ⟨fun _ => hh.2.1 hjt, ih _ a' w' (fun k ok hk hki hun hn => hfree k ok hk hki ?_ hn) (ready_mono hr (Ne.symm e)) hh.1 (hh.2.1 hjt) ?_⟩) step
      · by_cases hjk : j = k
        · subst hjk; exact hju
        · rw [getD_set_ne true hjk] at hun; exact hun
      · rw [Array.setIfInBounds_comm _ _ e]
        exact hh.2.2
/-- Number i is taken first. -/
theorem AnyX.take {i : Nat} {oi ot : Oper} {v : Value} {f : Nat} {listed : Array Bool} {a : Act} {w : World} (hi : ops[i]? = some oi) (ho : ops[t]? = some ot) (hw : ot.after.any (fun e => e.on == i && Region.binds md e) = true)
    (hs : Region.noSelect ops = true) (hf : Region.free md ops listed i = true) (hr : (Region.ready md ops listed).contains i = true)
    (hQ : ∀ c a w, Q (.panic c) (a.put oi.dst v) w → Q (.panic c) a w) (hy : YieldsIf P ops S oi v a) (hS : S w)
    (h : AnyX P md ops Q S t f (listed.setIfInBounds i true) (a.put oi.dst v) w) : AnyX P md ops Q S t (f + 1) listed a w :=
  AnyX.first hi (Region.noSelect_spec hs) hQ (fun _ hl => not_ready ho hw hl) f listed a w (Region.free_spec hi hf) (by simpa using hr) hy hS h
/-- One alone may come up. -/
theorem AnyX.one {i : Nat} {o : Oper} {f : Nat} {listed : Array Bool} {a : Act} {w : World} (hr : Region.ready md ops listed = [i]) (ho : ops[i]? = some o)
    (h : ∀ K' : Act → World → Prop, (∀ a' w', (i ≠ t → S w') → AnyX P md ops Q S t f (listed.setIfInBounds i true) a' w' → K' a' w') → if Region.wanted o (yielded ops a.tmps) = true then Oper.wp P o a w K' Q else K' (a.put o.dst undef) w) : AnyX P md ops Q S t (f + 1) listed a w := by
  refine ⟨fun h0 => absurd (hr.symm.trans h0) (by simp), fun j hj => ?_⟩
  rw [hr] at hj
  obtain rfl := List.mem_singleton.1 hj
  exact wpOp_step ho (fun K' hK => h K' fun a' w' h1 h2 => hK a' w' ⟨h1, h2⟩)
theorem AnyX.done {listed : Array Bool} {a : Act} {w : World} (hr : Region.ready md ops listed = []) (h : Q .normal a w) : ∀ f, AnyX P md ops Q S t f listed a w
  | 0 => ⟨hr, h⟩
  | _ + 1 => ⟨fun _ => h, by rw [hr]; simp⟩
end

end Go.Proofs.YtemogllidmgbfaaDoor
