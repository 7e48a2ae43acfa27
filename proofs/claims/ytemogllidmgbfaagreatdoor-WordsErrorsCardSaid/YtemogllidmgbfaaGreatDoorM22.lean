/- The texts Rfl Rsa. -/
import Derived.Test.YtemogllidmgbfaaGreatDoorM21
import Derived.Test.YtemogllidmgbfaaGreatDoorM03
import Derived.Test.YtemogllidmgbfaaGreatDoorM13
import Derived.Deep.DeepCutAuto
import Derived.Deep.CutBlock
namespace Go.Proofs.YtemogllidmgbfaaGreatDoor
open Go.RowKit

theorem isK_one (x k : Int) : isK [k] x = (x == k) := by simp [isK, anyP]
theorem Stk.all {w : World} {g : Nat} {v : Value} {l : List Int} (h : Stk w g v l) (hm : l.length ≤ maxLen) : Is w w.heap.size v l := by
  obtain ⟨A, c, rfl, hle, -, -⟩ := h.form
  exact h.reads c hle hm

set_option maxHeartbeats 4000000 in
theorem refOf_any (c : Ck) (kd0 : Int) (v : Value) (w : World) (B : Nat) (hB : B ≤ w.heap.size) (hc : Cir w B v c) (hsz : c.nodes.length ≤ 1000000) :
    Calls Tryz.prog 62 #[v, .int .u8 kd0] w fun e w' => (∃ s, e = .returned s ∧ Is w' w'.heap.size s (ofTo c.nodes [kd0] c.nodes.length)) ∧ Below w.heap.size w w' := by
  obtain ⟨v0, v1, v2, v3, rfl, hns, hss, hms, hos⟩ := hc
  obtain ⟨A0, b, o, c0, rfl, hA, -, -, hcell⟩ := id hns
  obtain ⟨A1, b1, o1, c1, rfl, -⟩ := id hss
  obtain ⟨A2, b2, o2, c2, rfl, -⟩ := id hms
  obtain ⟨A3, b3, o3, c3, rfl, -⟩ := id hos
  have hbW : Below w.heap.size w (w.alloc (.cells #[.slice A0 c.nodes.length c0, .slice A1 c.names.length c1, .slice A2 c.mems.length c2, .slice A3 c.outs.length c3] 46)) := (Below.refl _ _).alloc (Nat.le_refl _) _
  have hbx : (w.alloc (.cells #[.slice A0 c.nodes.length c0, .slice A1 c.names.length c1, .slice A2 c.mems.length c2, .slice A3 c.outs.length c3] 46)).cell? ⟨w.heap.size, 0, none⟩ = some (.slice A0 c.nodes.length c0) := by
    rw [World.cell?_alloc_at _ _ _ _ rfl]; rfl
  have HCE := Lib.hid hcell
  have HAA := Lib.hid hA
  clear hns hss hms hos hcell hA
  generalize c.names.length = n1 at hbW hbx ⊢
  generalize c.mems.length = n2 at hbW hbx ⊢
  generalize c.outs.length = n3 at hbW hbx ⊢
  obtain ⟨n, HN⟩ := named c.nodes.length
  rw [← HN.out] at hbW hsz hbx
  rw [← HN.out]
  obtain ⟨W, HW⟩ := named (w.alloc (.cells #[.slice A0 n c0, .slice A1 n1 c1, .slice A2 n2 c2, .slice A3 n3 c3] 46))
  have hzW : W.heap.size = w.heap.size + 1 := by rw [HW.out]; simp
  rw [← HW.out] at hbW hbx
  have HBW := Lib.hid hbW
  have HZW := Lib.hid hzW
  have HBX := Lib.hid hbx
  clear hbW hzW hbx
  go_enter Tryz.func62, Tryz.ntmps62
  go_wp2
  go_loopw [6, 5] (fun i sv wr => ∃ k : Nat, k ≤ n ∧ i = .int .i64 k ∧ Below (w.heap.size + 1) W wr ∧ Stk wr (w.heap.size + 1) sv (ofTo c.nodes [kd0] k)) (fun i _ _ => n - (intOf i).toNat)
  case atStart => exact ⟨0, Nat.zero_le _, rfl, by rw [← HW.out]; exact Below.refl _ _, Stk.nil _ _⟩
  case round =>
    obtain ⟨k, hk, rfl, hb, hst⟩ := hrel
    have hgz : w.heap.size + 1 ≤ wr.heap.size := by have := hb.size; have := HZW.out; omega
    obtain ⟨A6, c6, rfl, hle6, hc6, hsh⟩ := hst.shape
    have hbox : wr.cell? ⟨w.heap.size, 0, none⟩ = some (.slice A0 n c0) := (hb.cell (p := ⟨w.heap.size, 0, none⟩) (by show w.heap.size < w.heap.size + 1; omega)).trans HBX.out
    have hol := ofTo_len c.nodes [kd0] k
    by_cases hlt : k < n
    · obtain rfl := HAA.out (by rw [← HN.out]; omega)
      obtain ⟨hlb, s, h0, -⟩ := HCE.out k (by rw [← HN.out]; exact hlt)
      have hsu := ofTo_succ c.nodes [kd0] k
      have hlb' : b < w.heap.size := by omega
      have e0 : wr.cell? ⟨b, o + k * 4, none⟩ = _ := (hb.cell (p := ⟨b, o + k * 4, none⟩) (by show b < w.heap.size + 1; omega)).trans ((HBW.out.cell (p := ⟨b, o + k * 4, none⟩) hlb').trans h0)
      obtain ⟨kd, HKD⟩ := named (c.nodes.getD k default).kind
      rw [← HKD.out] at e0 hsu
      rw [isK_one] at hsu
      have HST := Lib.hid hst
      have HB := Lib.hid hb
      have HOL := Lib.hid hol
      clear hst hb h0 hol
      obtain ⟨L, HL⟩ := named (ofTo c.nodes [kd0] k)
      rw [← HL.out] at hsu HST HOL hle6 hsh
      rw [← HL.out]
      cases hv : kd == kd0
      · rw [hv] at hsu
        rw [if_neg (by decide), List.append_nil] at hsu
        have HSU := Lib.hid hsu
        clear hsu hsh
        go_wp2
        go_roundw
        case rel =>
          refine ⟨k + 1, by omega, by go_num, HB.out, ?_⟩
          rw [HSU.out]; exact HST.out
        case measure => simp [intOf]; omega
      · rw [hv] at hsu
        rw [if_pos rfl] at hsu
        have HSU := Lib.hid hsu
        clear hsu hsh
        obtain ⟨i1, hi1, hz0, hz1, hz2⟩ := info_parts info_int
        have HI := Lib.hid (And.intro hi1 (And.intro hz0 (And.intro hz1 hz2)))
        clear hi1 hz0 hz1 hz2
        go_wp2_with (at_builtin; refine wpList_append_own_at _ rfl _ _ 44 rfl (w.heap.size + 1) 3 i1 (.int .i64 0) 1 8 Tryz.underlying44 HI.out.1 HI.out.2.1 HI.out.2.2.1 HI.out.2.2.2 rfl (by decide) _ _ _ rfl (World.ownsRow.alloc HST.out _) ⟨wr.heap.size, 0, none⟩ 1 1 [.int .i64 (k : Int)] rfl rfl (one_new _ _ _) (ints_oneCell .i64 [(k : Int)]) (by unfold maxLen; have := HOL.out; omega) (by have := HOL.out; omega) (by simp; omega) ?_; intro v' w2 hown' hgrow hnil hloc; have HF := Lib.hid (push_own hgz HB.out HST.out hown' hgrow); clear hown' hgrow hnil hloc)
        go_roundw
        case rel =>
          refine ⟨k + 1, by omega, by go_num, HF.out.1, ?_⟩
          rw [HSU.out]; exact HF.out.2
        case measure => simp [intOf]; omega
    · obtain rfl : n = k := by omega
      have hr := hst.all (by unfold maxLen; omega)
      have HR := Lib.hid hr
      have HB := Lib.hid (HBW.out.trans (hb.mono (Nat.le_succ _)))
      clear hr hb hst hsh hle6
      generalize (ofTo c.nodes [kd0] n).length = m at HR ⊢
      go_wp2
      go_ret
      exact ⟨⟨_, rfl, HR.out⟩, HB.out⟩

set_option maxHeartbeats 1000000 in
theorem refIs_any (c : Ck) (x : Int) (v : Value) (w : World) (B : Nat) (hc : Cir w B v c) :
    Calls Tryz.prog 111 #[v, .int .i64 x] w fun e w' => e = .returned (.bool (isIdx c.nodes.length x)) ∧ Below w.heap.size w w' := by
  obtain ⟨v0, v1, v2, v3, rfl, hns, hss, hms, hos⟩ := hc
  obtain ⟨A0, b, o, c0, rfl, -⟩ := id hns
  obtain ⟨A1, b1, o1, c1, rfl, -⟩ := id hss
  obtain ⟨A2, b2, o2, c2, rfl, -⟩ := id hms
  obtain ⟨A3, b3, o3, c3, rfl, -⟩ := id hos
  have hbW : Below w.heap.size w (w.alloc (.cells #[.slice A0 c.nodes.length c0, .slice A1 c.names.length c1, .slice A2 c.mems.length c2, .slice A3 c.outs.length c3] 46)) := (Below.refl _ _).alloc (Nat.le_refl _) _
  have HBW := Lib.hid hbW
  clear hbW hns hss hms hos
  generalize c.names.length = n1 at HBW ⊢
  generalize c.mems.length = n2 at HBW ⊢
  generalize c.outs.length = n3 at HBW ⊢
  generalize c.nodes.length = n at HBW ⊢
  obtain ⟨y, HY⟩ := named (isIdx n x)
  rw [← HY.out]
  by_cases h0 : 0 ≤ x
  · by_cases h1 : x < (n : Int)
    · have hy : y = true := by rw [HY.out]; simp [isIdx, h0, h1]
      subst hy
      clear HY
      go_enter Tryz.func111, Tryz.ntmps111
      go_wp2
      go_ret
      exact ⟨ret_bool (by first | (simp; done) | (simp; omega)), HBW.out⟩
    · have hy : y = false := by rw [HY.out]; simp [isIdx, h0]; omega
      subst hy
      clear HY
      go_enter Tryz.func111, Tryz.ntmps111
      go_wp2
      go_ret
      exact ⟨ret_bool (by first | (simp; done) | (simp; omega)), HBW.out⟩
  · have hy : y = false := by rw [HY.out]; simp [isIdx]; omega
    subst hy
    clear HY
    go_enter Tryz.func111, Tryz.ntmps111
    go_wp2
    go_ret
    exact ⟨ret_bool (by first | (simp; done) | (simp; omega)), HBW.out⟩

end Go.Proofs.YtemogllidmgbfaaGreatDoor

namespace Go.Proofs.YtemogllidmgbfaaGreatDoor
open Go.RowKit

def alw (k n : Int) : Bool := if k = 1 ∨ k = 2 then n == 0 else if k = 3 ∨ k = 4 then n == 1 else if k = 11 then n == 3 else if k = 12 then n == 2 else if k = 13 then decide (1 ≤ n) && decide (n ≤ 16) else decide (5 ≤ k) && decide (k ≤ 10) && decide (2 ≤ n) && decide (n ≤ 16)
def rinp (k n : Int) : Bool := if k = 0 ∨ k = 15 then n == 0 else (k == 14 && n == 1) || alw k n
theorem rinp_iff {k n : Int} (h0 : 0 ≤ k) (h1 : ¬ 15 < k) (hn : 0 ≤ n) : rinp k n = true ↔ lo k ≤ n ∧ n ≤ hi k := by
  rcases kinds h0 h1 with rfl | rfl | rfl | rfl | rfl | rfl | rfl | rfl | rfl | rfl | rfl | rfl | rfl | rfl | rfl | rfl <;> simp [rinp, alw, lo, hi, spansL] <;> omega

set_option maxHeartbeats 4000000 in
theorem allowed_any (k : Int) (n : Nat) (h0 : 0 ≤ k) (h1 : k ≤ 15) (hn : n ≤ 9223372036854775807) (w : World) :
    Calls Tryz.prog 135 #[.int .u8 k, .int .i64 n] w fun e w' => e = .returned (.bool (alw k n)) ∧ w = w' := by
  rcases kinds h0 (by omega) with rfl | rfl | rfl | rfl | rfl | rfl | rfl | rfl | rfl | rfl | rfl | rfl | rfl | rfl | rfl | rfl
  · skip
    go_enter Tryz.func135, Tryz.ntmps135
    go_wp2
    go_ret
    exact ⟨ret_bool (by simp [alw]), rfl⟩
  · skip
    go_enter Tryz.func135, Tryz.ntmps135
    go_wp2
    go_ret
    exact ⟨ret_bool (by simp [alw]), rfl⟩
  · skip
    go_enter Tryz.func135, Tryz.ntmps135
    go_wp2
    go_ret
    exact ⟨ret_bool (by simp [alw]), rfl⟩
  · skip
    go_enter Tryz.func135, Tryz.ntmps135
    go_wp2
    go_ret
    exact ⟨ret_bool (by simp [alw]), rfl⟩
  · skip
    go_enter Tryz.func135, Tryz.ntmps135
    go_wp2
    go_ret
    exact ⟨ret_bool (by simp [alw]), rfl⟩
  · skip
    by_cases q1 : 2 ≤ n
    · by_cases q2 : n ≤ 16
      · skip
        go_enter Tryz.func135, Tryz.ntmps135
        go_wp2
        go_ret
        exact ⟨ret_bool (by simp [alw] <;> omega), rfl⟩
      · skip
        go_enter Tryz.func135, Tryz.ntmps135
        go_wp2
        go_ret
        exact ⟨ret_bool (by simp [alw] <;> omega), rfl⟩
    · skip
      go_enter Tryz.func135, Tryz.ntmps135
      go_wp2
      go_ret
      exact ⟨ret_bool (by simp [alw] <;> omega), rfl⟩
  · skip
    by_cases q1 : 2 ≤ n
    · by_cases q2 : n ≤ 16
      · skip
        go_enter Tryz.func135, Tryz.ntmps135
        go_wp2
        go_ret
        exact ⟨ret_bool (by simp [alw] <;> omega), rfl⟩
      · skip
        go_enter Tryz.func135, Tryz.ntmps135
        go_wp2
        go_ret
        exact ⟨ret_bool (by simp [alw] <;> omega), rfl⟩
    · skip
      go_enter Tryz.func135, Tryz.ntmps135
      go_wp2
      go_ret
      exact ⟨ret_bool (by simp [alw] <;> omega), rfl⟩
  · skip
    by_cases q1 : 2 ≤ n
    · by_cases q2 : n ≤ 16
      · skip
        go_enter Tryz.func135, Tryz.ntmps135
        go_wp2
        go_ret
        exact ⟨ret_bool (by simp [alw] <;> omega), rfl⟩
      · skip
        go_enter Tryz.func135, Tryz.ntmps135
        go_wp2
        go_ret
        exact ⟨ret_bool (by simp [alw] <;> omega), rfl⟩
    · skip
      go_enter Tryz.func135, Tryz.ntmps135
      go_wp2
      go_ret
      exact ⟨ret_bool (by simp [alw] <;> omega), rfl⟩
  · skip
    by_cases q1 : 2 ≤ n
    · by_cases q2 : n ≤ 16
      · skip
        go_enter Tryz.func135, Tryz.ntmps135
        go_wp2
        go_ret
        exact ⟨ret_bool (by simp [alw] <;> omega), rfl⟩
      · skip
        go_enter Tryz.func135, Tryz.ntmps135
        go_wp2
        go_ret
        exact ⟨ret_bool (by simp [alw] <;> omega), rfl⟩
    · skip
      go_enter Tryz.func135, Tryz.ntmps135
      go_wp2
      go_ret
      exact ⟨ret_bool (by simp [alw] <;> omega), rfl⟩
  · skip
    by_cases q1 : 2 ≤ n
    · by_cases q2 : n ≤ 16
      · skip
        go_enter Tryz.func135, Tryz.ntmps135
        go_wp2
        go_ret
        exact ⟨ret_bool (by simp [alw] <;> omega), rfl⟩
      · skip
        go_enter Tryz.func135, Tryz.ntmps135
        go_wp2
        go_ret
        exact ⟨ret_bool (by simp [alw] <;> omega), rfl⟩
    · skip
      go_enter Tryz.func135, Tryz.ntmps135
      go_wp2
      go_ret
      exact ⟨ret_bool (by simp [alw] <;> omega), rfl⟩
  · skip
    by_cases q1 : 2 ≤ n
    · by_cases q2 : n ≤ 16
      · skip
        go_enter Tryz.func135, Tryz.ntmps135
        go_wp2
        go_ret
        exact ⟨ret_bool (by simp [alw] <;> omega), rfl⟩
      · skip
        go_enter Tryz.func135, Tryz.ntmps135
        go_wp2
        go_ret
        exact ⟨ret_bool (by simp [alw] <;> omega), rfl⟩
    · skip
      go_enter Tryz.func135, Tryz.ntmps135
      go_wp2
      go_ret
      exact ⟨ret_bool (by simp [alw] <;> omega), rfl⟩
  · skip
    go_enter Tryz.func135, Tryz.ntmps135
    go_wp2
    go_ret
    exact ⟨ret_bool (by simp [alw]), rfl⟩
  · skip
    go_enter Tryz.func135, Tryz.ntmps135
    go_wp2
    go_ret
    exact ⟨ret_bool (by simp [alw]), rfl⟩
  · skip
    by_cases q1 : 1 ≤ n
    · by_cases q2 : n ≤ 16
      · skip
        go_enter Tryz.func135, Tryz.ntmps135
        go_wp2
        go_ret
        exact ⟨ret_bool (by simp [alw] <;> omega), rfl⟩
      · skip
        go_enter Tryz.func135, Tryz.ntmps135
        go_wp2
        go_ret
        exact ⟨ret_bool (by simp [alw] <;> omega), rfl⟩
    · skip
      go_enter Tryz.func135, Tryz.ntmps135
      go_wp2
      go_ret
      exact ⟨ret_bool (by simp [alw] <;> omega), rfl⟩
  · skip
    go_enter Tryz.func135, Tryz.ntmps135
    go_wp2
    go_ret
    exact ⟨ret_bool (by simp [alw]), rfl⟩
  · skip
    go_enter Tryz.func135, Tryz.ntmps135
    go_wp2
    go_ret
    exact ⟨ret_bool (by simp [alw]), rfl⟩

set_option maxHeartbeats 4000000 in
theorem inputs_r (k : Int) (n : Nat) (h0 : 0 ≤ k) (h1 : k ≤ 15) (hn : n ≤ 9223372036854775807) (w : World) :
    Calls Tryz.prog 125 #[.int .u8 k, .int .i64 n] w fun e w' => e = .returned (.bool (rinp k n)) ∧ w = w' := by
  obtain ⟨y, HY⟩ := named (rinp k n)
  rw [← HY.out]
  have HA := Lib.hid (fun w => allowed_any k n h0 h1 hn w)
  by_cases e0 : k = 0
  · subst e0
    have hy : y = ((n : Int) == 0) := by rw [HY.out]; simp [rinp]
    have HYY := Lib.hid hy
    clear hy
    go_enter Tryz.func125, Tryz.ntmps125
    go_wp2
    go_ret
    exact ⟨ret_bool HYY.out.symm, rfl⟩
  by_cases e1 : k = 15
  · subst e1
    have hy : y = ((n : Int) == 0) := by rw [HY.out]; simp [rinp]
    have HYY := Lib.hid hy
    clear hy
    go_enter Tryz.func125, Tryz.ntmps125
    go_wp2
    go_ret
    exact ⟨ret_bool HYY.out.symm, rfl⟩
  by_cases e2 : k = 14
  · subst e2
    by_cases e3 : n = 1
    · subst e3
      have hy : y = true := by rw [HY.out]; simp [rinp]
      have HYY := Lib.hid hy
      clear hy
      go_enter Tryz.func125, Tryz.ntmps125
      go_wp2
      go_ret
      exact ⟨ret_bool HYY.out.symm, rfl⟩
    · have t1 : ((n : Int) == 1) = false := by rw [beq_eq_false_iff_ne]; omega
      have hy : y = alw 14 n := by rw [HY.out]; simp [rinp, t1]
      have HYY := Lib.hid hy
      clear hy
      obtain ⟨z, HZ⟩ := named (alw 14 (n : Int))
      rw [← HZ.out] at HA HYY
      go_enter Tryz.func125, Tryz.ntmps125
      go_wp2_with (go_at_call 135; (with_reducible refine (HA.out _).mono ?_); rintro e w' ⟨rfl, rfl⟩)
      go_ret
      exact ⟨ret_bool HYY.out.symm, rfl⟩
  · have t0 : (k == 0) = false := by rw [beq_eq_false_iff_ne]; exact e0
    have t1 : (k == 15) = false := by rw [beq_eq_false_iff_ne]; exact e1
    have t2 : (k == 14) = false := by rw [beq_eq_false_iff_ne]; exact e2
    have hy : y = alw k n := by rw [HY.out]; simp [rinp, e0, e1, t2]
    have HYY := Lib.hid hy
    clear hy
    obtain ⟨z, HZ⟩ := named (alw k (n : Int))
    rw [← HZ.out] at HA HYY
    go_enter Tryz.func125, Tryz.ntmps125
    go_wp2_with (go_at_call 135; (with_reducible refine (HA.out _).mono ?_); rintro e w' ⟨rfl, rfl⟩)
    go_ret
    exact ⟨ret_bool HYY.out.symm, rfl⟩

set_option maxHeartbeats 2000000 in
theorem rall_any (c : Ck) (l : List Int) (v s : Value) (w : World) (B B' : Nat) (hB : B ≤ w.heap.size) (hB' : B' ≤ w.heap.size) (hc : Cir w B v c) (hs : Is w B' s l) :
    Calls Tryz.prog 110 #[v, s] w fun e w' => e = .returned (.bool (areIdx c.nodes.length l)) ∧ Below w.heap.size w w' := by
  obtain ⟨y, HY⟩ := named (areIdx c.nodes.length l)
  rw [← HY.out]
  have HIS := Lib.hid (fun (x : Int) (w1 : World) (hb : Below w.heap.size w w1) => refIs_any c x v w1 B (hc.below (hb.mono hB)))
  obtain ⟨v0, v1, v2, v3, rfl, hns, hss, hms, hos⟩ := hc
  obtain ⟨A0, b0, o0, c0, rfl, -⟩ := hns
  obtain ⟨A1, b1, o1, c1, rfl, -⟩ := hss
  obtain ⟨A2, b2, o2, c2, rfl, -⟩ := hms
  obtain ⟨A3, b3, o3, c3, rfl, -⟩ := hos
  obtain ⟨A4, b4, o4, c4, rfl, hA4, -, hm4, hc4⟩ := hs.opens
  have HA4 := Lib.hid hA4
  have HC4 := Lib.hid hc4
  unfold maxLen at hm4
  clear hA4 hc4 hs
  obtain ⟨n, HN⟩ := named c.nodes.length
  rw [← HN.out] at HIS HY
  rw [← HN.out]
  generalize c.names.length = n1 at HIS ⊢
  generalize c.mems.length = n2 at HIS ⊢
  generalize c.outs.length = n3 at HIS ⊢
  obtain ⟨m, HM⟩ := named l.length
  rw [← HM.out] at HA4 HC4 hm4
  rw [← HM.out]
  obtain ⟨W1, HW1⟩ := named (w.alloc (.cells #[.slice A0 n c0, .slice A1 n1 c1, .slice A2 n2 c2, .slice A3 n3 c3] 46))
  have hb1 : Below w.heap.size w W1 := by rw [HW1.out]; exact below_new (Below.refl _ _) _
  have hfa : Fr W1 w.heap.size 46 [.slice A0 n c0, .slice A1 n1 c1, .slice A2 n2 c2, .slice A3 n3 c3] := by rw [HW1.out]; exact Fr.made _ _ _ rfl
  have HFA := Lib.hid hfa
  have HB1 := Lib.hid hb1
  clear hfa hb1
  go_enter Tryz.func110, Tryz.ntmps110
  go_wp2
  rw [← HW1.out]
  go_loopw [5] (fun i wr => Below W1.heap.size W1 wr ∧ ∃ k : Nat, k ≤ m ∧ i = .int .i64 k ∧ ∀ j, j < k → isIdx n (l.getD j 0) = true) (fun i _ => m - (intOf i).toNat)
  case atStart => exact ⟨Below.refl _ _, 0, Nat.zero_le _, rfl, fun j hj => absurd hj (by omega)⟩
  case round =>
    obtain ⟨hbr, k, hk, rfl, hno⟩ := hrel
    have HNO := Lib.hid hno
    have HBR := Lib.hid hbr
    clear hno
    by_cases hlt : k < m
    · obtain rfl := HA4.out (by omega)
      obtain ⟨hlb, hx⟩ := HC4.out k hlt
      obtain ⟨xv, HXV⟩ := named (l.getD k 0)
      rw [← HXV.out] at hx
      have ca0 : ∀ xx : Beh wr, xx.x.cell? ⟨w.heap.size, 0, none⟩ = some (.slice A0 n c0) := fun xx => (HFA.out.below (joinB HBR.out xx.below)).cell 0
      have ca1 : ∀ xx : Beh wr, xx.x.cell? ⟨w.heap.size, 1, none⟩ = some (.slice A1 n1 c1) := fun xx => (HFA.out.below (joinB HBR.out xx.below)).cell 1
      have ca2 : ∀ xx : Beh wr, xx.x.cell? ⟨w.heap.size, 2, none⟩ = some (.slice A2 n2 c2) := fun xx => (HFA.out.below (joinB HBR.out xx.below)).cell 2
      have ca3 : ∀ xx : Beh wr, xx.x.cell? ⟨w.heap.size, 3, none⟩ = some (.slice A3 n3 c3) := fun xx => (HFA.out.below (joinB HBR.out xx.below)).cell 3
      have cx : ∀ xx : Beh wr, xx.x.cell? ⟨b4, o4 + k, none⟩ = some (.int .i64 xv) := fun xx => ((joinB HB1.out (joinB HBR.out xx.below)).cell (p := ⟨b4, o4 + k, none⟩) (by show b4 < w.heap.size; omega)).trans hx
      have HCL : Hid (∀ xx : Beh wr, Calls Tryz.prog 111 #[.agg #[.slice A0 n c0, .slice A1 n1 c1, .slice A2 n2 c2, .slice A3 n3 c3], .int .i64 xv] xx.x fun e w' => e = .returned (.bool (isIdx n xv)) ∧ Below wr.heap.size wr w') := Lib.hid fun xx => rel (HIS.out xv xx.x (joinB HB1.out (joinB HBR.out xx.below))) xx.below
      clear hx hbr
      cases hv : isIdx n xv
      · have hy : y = false := by
          rw [HY.out]
          unfold areIdx
          rw [anyP_yes k (by rw [← HM.out]; exact hlt) (by rw [← HXV.out, hv]; rfl)]
          rfl
        have HYF := Lib.hid hy
        rw [hv] at HCL
        clear hy
        go_upto_region 4 with (fail)
        refine region_class (w0 := wr) (Below.refl _ _) (by kernel_rfl) (by kernel_rfl) ?_
        repeat (first
          | go_big_quiet_skip
          | (go_big_quiet_want; go_big_quiet_op; first
            | go_big_quiet_on
            | (apply Exists.intro
               refine ⟨fun xx => ?_, ?_⟩
               focus first
                | (go_at_call 111; with_reducible exact beh_of (HCL.out xx))
               go_big_quiet_on)))
        refine wpQuiet_nil ?_
        rintro w9 ⟨⟨wz, hz⟩, rfl⟩
        go_wp2
        go_ret
        exact ⟨ret_bool (by rw [HYF.out]), joinB HB1.out (joinB HBR.out hz)⟩
      · rw [hv] at HCL
        have HV := Lib.hid hv
        go_upto_region 4 with (fail)
        refine region_class (w0 := wr) (Below.refl _ _) (by kernel_rfl) (by kernel_rfl) ?_
        repeat (first
          | go_big_quiet_skip
          | (go_big_quiet_want; go_big_quiet_op; first
            | go_big_quiet_on
            | (apply Exists.intro
               refine ⟨fun xx => ?_, ?_⟩
               focus first
                | (go_at_call 111; with_reducible exact beh_of (HCL.out xx))
               go_big_quiet_on)))
        refine wpQuiet_nil ?_
        rintro w9 ⟨⟨wz, hz⟩, rfl⟩
        have HBZ := Lib.hid (joinB HBR.out hz)
        clear hz ca0 ca1 ca2 ca3 cx hv
        go_wp2
        go_roundw
        case rel =>
          refine ⟨HBZ.out, k + 1, by omega, by go_num, fun j hj => ?_⟩
          by_cases hjk : j = k
          · rw [hjk, ← HXV.out]; exact HV.out
          · exact HNO.out j (by omega)
        case measure => simp [intOf]; omega
    · obtain rfl : m = k := by omega
      have hy : y = true := by
        rw [HY.out]
        unfold areIdx
        rw [anyP_no (fun j hj => by rw [HNO.out j (by rw [HM.out]; exact hj)]; rfl)]
        rfl
      have HYF := Lib.hid hy
      clear hy
      go_wp2
      go_ret
      exact ⟨ret_bool (by rw [HYF.out]), joinB HB1.out HBR.out⟩
end Go.Proofs.YtemogllidmgbfaaGreatDoor
