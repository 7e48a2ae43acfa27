/- The texts Rfl Exp Liv Lsc Nms. -/
import Derived.Test.YtkaedfgmhfefjaaGreatDoorM15
import Derived.Test.YtkaedfgmhfefjaaGreatDoorM08
import Derived.Test.YtkaedfgmhfefjaaGreatDoorM13
import Derived.Test.YtkaedfgmhfefjaaGreatDoorM01
namespace Go.Proofs.YtkaedfgmhfefjaaGreatDoor
open Go.RowKit
theorem isK_one (x k : Int) : isK [k] x = (x == k) := by simp [isK, anyP]
theorem Stk.all {w : World} {g : Nat} {v : Value} {l : List Int} (h : Stk w g v l) (hm : l.length ≤ maxLen) : Is w w.heap.size v l := by
  obtain ⟨A, c, rfl, hle, -, -⟩ := h.form
  exact h.reads c hle hm
set_option maxHeartbeats 4000000 in
theorem refOf_any (c : Ck) (kd0 : Int) (v : Value) (w : World) (B : Nat) (hB : B ≤ w.heap.size) (hc : Cir w B v c) (hsz : c.nodes.length ≤ 1000000) :
    Calls Tryz.prog 43 #[v, .int .u8 kd0] w fun e w' => (∃ s, e = .returned s ∧ Is w' w'.heap.size s (ofTo c.nodes [kd0] c.nodes.length)) ∧ Below w.heap.size w w' := by
  obtain ⟨v0, v1, v2, v3, rfl, hns, hss, hms, hos⟩ := hc
  obtain ⟨A0, b, o, c0, rfl, hA, -, -, hcell⟩ := id hns
  obtain ⟨A1, b1, o1, c1, rfl, -⟩ := id hss
  obtain ⟨A2, b2, o2, c2, rfl, -⟩ := id hms
  obtain ⟨A3, b3, o3, c3, rfl, -⟩ := id hos
  have hbW : Below w.heap.size w (w.alloc (.cells #[.slice A0 c.nodes.length c0, .slice A1 c.names.length c1, .slice A2 c.mems.length c2, .slice A3 c.outs.length c3] 39)) := (Below.refl _ _).alloc (Nat.le_refl _) _
  have hbx : (w.alloc (.cells #[.slice A0 c.nodes.length c0, .slice A1 c.names.length c1, .slice A2 c.mems.length c2, .slice A3 c.outs.length c3] 39)).cell? ⟨w.heap.size, 0, none⟩ = some (.slice A0 c.nodes.length c0) := by
    rw [World.cell?_alloc_at _ _ _ _ rfl]; rfl
  have HCE := Lib.hid hcell
  have HAA := Lib.hid hA
  clear hns hss hms hos hcell hA
  generalize c.names.length = n1 at hbW hbx ⊢
  generalize c.mems.length = n2 at hbW hbx ⊢
  generalize c.outs.length = n3 at hbW hbx ⊢
  obtain ⟨n, HN⟩ := named c.nodes.length
  rw [← HN.out] at hbW hsz hbx
  rw [← HN.out]
  obtain ⟨W, HW⟩ := named (w.alloc (.cells #[.slice A0 n c0, .slice A1 n1 c1, .slice A2 n2 c2, .slice A3 n3 c3] 39))
  have hzW : W.heap.size = w.heap.size + 1 := by rw [HW.out]; simp
  rw [← HW.out] at hbW hbx
  have HBW := Lib.hid hbW
  have HZW := Lib.hid hzW
  have HBX := Lib.hid hbx
  clear hbW hzW hbx
  go_enter Tryz.func43, Tryz.ntmps43
  go_wp2
  go_loopw [6, 5] (fun i sv wr => ∃ k : Nat, k ≤ n ∧ i = .int .i64 k ∧ Below (w.heap.size + 1) W wr ∧ Stk wr (w.heap.size + 1) sv (ofTo c.nodes [kd0] k)) (fun i _ _ => n - (intOf i).toNat)
  case atStart => exact ⟨0, Nat.zero_le _, rfl, by rw [← HW.out]; exact Below.refl _ _, Stk.nil _ _⟩
  case round =>
    obtain ⟨k, hk, rfl, hb, hst⟩ := hrel
    have hgz : w.heap.size + 1 ≤ wr.heap.size := by have := hb.size; have := HZW.out; omega
    obtain ⟨A6, c6, rfl, hle6, hc6, hsh⟩ := hst.shape
    have hbox : wr.cell? ⟨w.heap.size, 0, none⟩ = some (.slice A0 n c0) := (hb.cell (p := ⟨w.heap.size, 0, none⟩) (by show w.heap.size < w.heap.size + 1; omega)).trans HBX.out
    have hol := ofTo_len c.nodes [kd0] k
    by_cases hlt : k < n
    · obtain rfl := HAA.out (by rw [← HN.out]; omega)
      obtain ⟨hlb, s, h0, -⟩ := HCE.out k (by rw [← HN.out]; exact hlt)
      have hsu := ofTo_succ c.nodes [kd0] k
      have hlb' : b < w.heap.size := by omega
      have e0 : wr.cell? ⟨b, o + k * 4, none⟩ = _ := (hb.cell (p := ⟨b, o + k * 4, none⟩) (by show b < w.heap.size + 1; omega)).trans ((HBW.out.cell (p := ⟨b, o + k * 4, none⟩) hlb').trans h0)
      obtain ⟨kd, HKD⟩ := named (c.nodes.getD k default).kind
      rw [← HKD.out] at e0 hsu
      rw [isK_one] at hsu
      have HST := Lib.hid hst
      have HB := Lib.hid hb
      have HOL := Lib.hid hol
      clear hst hb h0 hol
      obtain ⟨L, HL⟩ := named (ofTo c.nodes [kd0] k)
      rw [← HL.out] at hsu HST HOL hle6 hsh
      rw [← HL.out]
      cases hv : kd == kd0
      · rw [hv] at hsu
        rw [if_neg (by decide), List.append_nil] at hsu
        have HSU := Lib.hid hsu
        clear hsu hsh
        go_wp2
        go_roundw
        case rel =>
          refine ⟨k + 1, by omega, by go_num, HB.out, ?_⟩
          rw [HSU.out]; exact HST.out
        case measure => simp [intOf]; omega
      · rw [hv] at hsu
        rw [if_pos rfl] at hsu
        have HSU := Lib.hid hsu
        clear hsu hsh
        obtain ⟨i1, hi1, hz0, hz1, hz2⟩ := info_parts info_int
        have HI := Lib.hid (And.intro hi1 (And.intro hz0 (And.intro hz1 hz2)))
        clear hi1 hz0 hz1 hz2
        go_wp2_with (at_builtin; refine wpList_append_own_at _ rfl _ _ 37 rfl (w.heap.size + 1) 3 i1 (.int .i64 0) 1 8 Tryz.underlying37 HI.out.1 HI.out.2.1 HI.out.2.2.1 HI.out.2.2.2 rfl (by decide) _ _ _ rfl (World.ownsRow.alloc HST.out _) ⟨wr.heap.size, 0, none⟩ 1 1 [.int .i64 (k : Int)] rfl rfl (one_new _ _ _) (ints_oneCell .i64 [(k : Int)]) (by unfold maxLen; have := HOL.out; omega) (by have := HOL.out; omega) (by simp; omega) ?_; intro v' w2 hown' hgrow hnil hloc; have HF := Lib.hid (push_own hgz HB.out HST.out hown' hgrow); clear hown' hgrow hnil hloc)
        go_roundw
        case rel =>
          refine ⟨k + 1, by omega, by go_num, HF.out.1, ?_⟩
          rw [HSU.out]; exact HF.out.2
        case measure => simp [intOf]; omega
    · obtain rfl : n = k := by omega
      have hr := hst.all (by unfold maxLen; omega)
      have HR := Lib.hid hr
      have HB := Lib.hid (HBW.out.trans (hb.mono (Nat.le_succ _)))
      clear hr hb hst hsh hle6
      generalize (ofTo c.nodes [kd0] n).length = m at HR ⊢
      go_wp2
      go_ret
      exact ⟨⟨_, rfl, HR.out⟩, HB.out⟩
end Go.Proofs.YtkaedfgmhfefjaaGreatDoor

namespace Go.Proofs.YtkaedfgmhfefjaaGreatDoor
open Go.RowKit
def exN (k2 : Int) (i2 : List Int) : List Nd := [⟨0, [], 0, 0⟩, ⟨14, [3], 0, 0⟩, ⟨k2, i2, 0, 0⟩, ⟨5, [1, 2], 0, 0⟩]
def exS (b : UInt8) : List ByteArray := [⟨#[97]⟩, ⟨#[113]⟩, ⟨#[b]⟩, ⟨#[103]⟩]
def Ex : Ck := ⟨exN 4 [0], exS 110, [], [3]⟩
theorem is_of {w : World} {g : Nat} {l : List Int} (t : TypeId) (hg : w.heap[g]? = some (.cells (l.map (Value.int .i64)).toArray t (0, 0))) (hm : l.length ≤ maxLen) (hB : g < w.heap.size) : Is w w.heap.size (.slice (some ⟨g, 0, none⟩) l.length l.length) l :=
  ⟨_, g, 0, _, rfl, fun _ => rfl, Nat.le_refl _, hm, fun k hk => ⟨hB, by
    unfold IntAt
    rw [cell_of_row w g _ _ t _ hg]
    simp [hk, List.getD_eq_getElem?_getD]⟩⟩
end Go.Proofs.YtkaedfgmhfefjaaGreatDoor

namespace Go.Proofs.YtkaedfgmhfefjaaGreatDoor
open Go.RowKit
structure LW (w : World) (q : Nat) (A0 A1 A2 A3 : Option Addr) (c0 c1 c2 c3 : Nat) (wr : World) : Prop where
  bel : Below w.heap.size w wr
  low : w.heap.size ≤ q
  tabs : Tabs wr
  cir : Cir wr q (.agg #[.slice A0 4 c0, .slice A1 4 c1, .slice A2 0 c2, .slice A3 1 c3]) Ex
  box : Fr wr q 39 [.slice A0 4 c0, .slice A1 4 c1, .slice A2 0 c2, .slice A3 1 c3]
section
variable {w w1 W : World} {q : Nat} {A0 A1 A2 A3 : Option Addr} {c0 c1 c2 c3 : Nat}
end
end Go.Proofs.YtkaedfgmhfefjaaGreatDoor

namespace Go.Proofs.YtkaedfgmhfefjaaGreatDoor
open Go.RowKit
structure LC (c : Ck) (w : World) (q : Nat) (A0 A1 A2 A3 : Option Addr) (n0 n1 n2 n3 c0 c1 c2 c3 : Nat) (wr : World) : Prop where
  bel : Below w.heap.size w wr
  low : w.heap.size ≤ q
  tabs : Tabs wr
  cir : Cir wr q (.agg #[.slice A0 n0 c0, .slice A1 n1 c1, .slice A2 n2 c2, .slice A3 n3 c3]) c
  box : Fr wr q 39 [.slice A0 n0 c0, .slice A1 n1 c1, .slice A2 n2 c2, .slice A3 n3 c3]
section
variable {c : Ck} {w w1 W : World} {q : Nat} {A0 A1 A2 A3 : Option Addr} {n0 n1 n2 n3 c0 c1 c2 c3 : Nat}
end
end Go.Proofs.YtkaedfgmhfefjaaGreatDoor

namespace Go.Proofs.YtkaedfgmhfefjaaGreatDoor
open Go.RowKit
def First (l : List ByteArray) (s : ByteArray) (r : Int) : Prop :=
  (r = -1 ∧ ∀ j : Nat, j < l.length → (s.toList == (l.getD j ByteArray.empty).toList) = false) ∨ ∃ k : Nat, k < l.length ∧ r = (k : Int) ∧ (s.toList == (l.getD k ByteArray.empty).toList) = true ∧ ∀ j : Nat, j < k → (s.toList == (l.getD j ByteArray.empty).toList) = false
def From (l : List ByteArray) (s : ByteArray) (k : Nat) (r : Int) : Prop :=
  (r = -1 ∧ ∀ j : Nat, k ≤ j → j < l.length → (s.toList == (l.getD j ByteArray.empty).toList) = false) ∨ ∃ m : Nat, k ≤ m ∧ m < l.length ∧ r = (m : Int) ∧ (s.toList == (l.getD m ByteArray.empty).toList) = true ∧ ∀ j : Nat, k ≤ j → j < m → (s.toList == (l.getD j ByteArray.empty).toList) = false
end Go.Proofs.YtkaedfgmhfefjaaGreatDoor
