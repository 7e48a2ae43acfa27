/- The references Of and Is. -/
import Derived.Test.YtmghdeodkeenoaaDoorFan
namespace Go.Proofs.YtmghdeodkeenoaaDoor
open Go.RowKit

theorem isK_one (x k : Int) : isK [k] x = (x == k) := by simp [isK, anyP]
theorem Stk.all {w : World} {g : Nat} {v : Value} {l : List Int} (h : Stk w g v l) (hm : l.length ≤ maxLen) : Is w w.heap.size v l := by
  obtain ⟨A, c, rfl, hle, -, -⟩ := h.form
  exact h.reads c hle hm

set_option maxHeartbeats 4000000 in
theorem refOf_any (c : Ck) (kd0 : Int) (v : Value) (w : World) (B : Nat) (hB : B ≤ w.heap.size) (hc : Cir w B v c) (hsz : c.nodes.length ≤ 1000000) :
    Calls Tryd.prog 27 #[v, .int .u8 kd0] w fun e w' => (∃ s, e = .returned s ∧ Is w' w'.heap.size s (ofTo c.nodes [kd0] c.nodes.length)) ∧ Below w.heap.size w w' := by
  obtain ⟨v0, v1, v2, v3, rfl, hns, hss, hms, hos⟩ := hc
  obtain ⟨A0, b, o, c0, rfl, hA, -, -, hcell⟩ := id hns
  obtain ⟨A1, b1, o1, c1, rfl, -⟩ := id hss
  obtain ⟨A2, b2, o2, c2, rfl, -⟩ := id hms
  obtain ⟨A3, b3, o3, c3, rfl, -⟩ := id hos
  have hbW : Below w.heap.size w (w.alloc (.cells #[.slice A0 c.nodes.length c0, .slice A1 c.names.length c1, .slice A2 c.mems.length c2, .slice A3 c.outs.length c3] 27)) := (Below.refl _ _).alloc (Nat.le_refl _) _
  have hbx : (w.alloc (.cells #[.slice A0 c.nodes.length c0, .slice A1 c.names.length c1, .slice A2 c.mems.length c2, .slice A3 c.outs.length c3] 27)).cell? ⟨w.heap.size, 0, none⟩ = some (.slice A0 c.nodes.length c0) := by
    rw [World.cell?_alloc_at _ _ _ _ rfl]; rfl
  have HCE := Lib.hid hcell
  have HAA := Lib.hid hA
  clear hns hss hms hos hcell hA
  generalize c.names.length = n1 at hbW hbx ⊢
  generalize c.mems.length = n2 at hbW hbx ⊢
  generalize c.outs.length = n3 at hbW hbx ⊢
  obtain ⟨n, HN⟩ := named c.nodes.length
  rw [← HN.out] at hbW hsz hbx
  rw [← HN.out]
  obtain ⟨W, HW⟩ := named (w.alloc (.cells #[.slice A0 n c0, .slice A1 n1 c1, .slice A2 n2 c2, .slice A3 n3 c3] 27))
  have hzW : W.heap.size = w.heap.size + 1 := by rw [HW.out]; simp
  rw [← HW.out] at hbW hbx
  have HBW := Lib.hid hbW
  have HZW := Lib.hid hzW
  have HBX := Lib.hid hbx
  clear hbW hzW hbx
  go_enter Tryd.func27, Tryd.ntmps27
  go_wp2
  go_loopw [6, 5] (fun i sv wr => ∃ k : Nat, k ≤ n ∧ i = .int .i64 k ∧ Below (w.heap.size + 1) W wr ∧ Stk wr (w.heap.size + 1) sv (ofTo c.nodes [kd0] k)) (fun i _ _ => n - (intOf i).toNat)
  case atStart => exact ⟨0, Nat.zero_le _, rfl, by rw [← HW.out]; exact Below.refl _ _, Stk.nil _ _⟩
  case round =>
    obtain ⟨k, hk, rfl, hb, hst⟩ := hrel
    have hgz : w.heap.size + 1 ≤ wr.heap.size := by have := hb.size; have := HZW.out; omega
    obtain ⟨A6, c6, rfl, hle6, hc6, hsh⟩ := hst.shape
    have hbox : wr.cell? ⟨w.heap.size, 0, none⟩ = some (.slice A0 n c0) := (hb.cell (p := ⟨w.heap.size, 0, none⟩) (by show w.heap.size < w.heap.size + 1; omega)).trans HBX.out
    have hol := ofTo_len c.nodes [kd0] k
    by_cases hlt : k < n
    · obtain rfl := HAA.out (by rw [← HN.out]; omega)
      obtain ⟨hlb, s, h0, -⟩ := HCE.out k (by rw [← HN.out]; exact hlt)
      have hsu := ofTo_succ c.nodes [kd0] k
      have hlb' : b < w.heap.size := by omega
      have e0 : wr.cell? ⟨b, o + k * 4, none⟩ = _ := (hb.cell (p := ⟨b, o + k * 4, none⟩) (by show b < w.heap.size + 1; omega)).trans ((HBW.out.cell (p := ⟨b, o + k * 4, none⟩) hlb').trans h0)
      obtain ⟨kd, HKD⟩ := named (c.nodes.getD k default).kind
      rw [← HKD.out] at e0 hsu
      rw [isK_one] at hsu
      have HST := Lib.hid hst
      have HB := Lib.hid hb
      have HOL := Lib.hid hol
      clear hst hb h0 hol
      obtain ⟨L, HL⟩ := named (ofTo c.nodes [kd0] k)
      rw [← HL.out] at hsu HST HOL hle6 hsh
      rw [← HL.out]
      cases hv : kd == kd0
      · rw [hv] at hsu
        rw [if_neg (by decide), List.append_nil] at hsu
        have HSU := Lib.hid hsu
        clear hsu hsh
        go_wp2
        go_roundw
        case rel =>
          refine ⟨k + 1, by omega, by go_num, HB.out, ?_⟩
          rw [HSU.out]; exact HST.out
        case measure => simp [intOf]; omega
      · rw [hv] at hsu
        rw [if_pos rfl] at hsu
        have HSU := Lib.hid hsu
        clear hsu hsh
        obtain ⟨i1, hi1, hz0, hz1, hz2⟩ := info_parts info_int
        have HI := Lib.hid (And.intro hi1 (And.intro hz0 (And.intro hz1 hz2)))
        clear hi1 hz0 hz1 hz2
        go_wp2_with (at_builtin; refine wpList_append_own_at _ rfl _ _ 25 rfl (w.heap.size + 1) 3 i1 (.int .i64 0) 1 8 Tryd.underlying25 HI.out.1 HI.out.2.1 HI.out.2.2.1 HI.out.2.2.2 rfl (by decide) _ _ _ rfl (World.ownsRow.alloc HST.out _) ⟨wr.heap.size, 0, none⟩ 1 1 [.int .i64 (k : Int)] rfl rfl (one_new _ _ _) (ints_oneCell .i64 [(k : Int)]) (by unfold maxLen; have := HOL.out; omega) (by have := HOL.out; omega) (by simp; omega) ?_; intro v' w2 hown' hgrow hnil hloc; have HF := Lib.hid (push_own hgz HB.out HST.out hown' hgrow); clear hown' hgrow hnil hloc)
        go_roundw
        case rel =>
          refine ⟨k + 1, by omega, by go_num, HF.out.1, ?_⟩
          rw [HSU.out]; exact HF.out.2
        case measure => simp [intOf]; omega
    · obtain rfl : n = k := by omega
      have hr := hst.all (by unfold maxLen; omega)
      have HR := Lib.hid hr
      have HB := Lib.hid (HBW.out.trans (hb.mono (Nat.le_succ _)))
      clear hr hb hst hsh hle6
      generalize (ofTo c.nodes [kd0] n).length = m at HR ⊢
      go_wp2
      go_ret
      exact ⟨⟨_, rfl, HR.out⟩, HB.out⟩

set_option maxHeartbeats 1000000 in
theorem refIs_any (c : Ck) (x : Int) (v : Value) (w : World) (B : Nat) (hc : Cir w B v c) :
    Calls Tryd.prog 30 #[v, .int .i64 x] w fun e w' => e = .returned (.bool (isIdx c.nodes.length x)) ∧ Below w.heap.size w w' := by
  obtain ⟨v0, v1, v2, v3, rfl, hns, hss, hms, hos⟩ := hc
  obtain ⟨A0, b, o, c0, rfl, -⟩ := id hns
  obtain ⟨A1, b1, o1, c1, rfl, -⟩ := id hss
  obtain ⟨A2, b2, o2, c2, rfl, -⟩ := id hms
  obtain ⟨A3, b3, o3, c3, rfl, -⟩ := id hos
  have hbW : Below w.heap.size w (w.alloc (.cells #[.slice A0 c.nodes.length c0, .slice A1 c.names.length c1, .slice A2 c.mems.length c2, .slice A3 c.outs.length c3] 27)) := (Below.refl _ _).alloc (Nat.le_refl _) _
  have HBW := Lib.hid hbW
  clear hbW hns hss hms hos
  generalize c.names.length = n1 at HBW ⊢
  generalize c.mems.length = n2 at HBW ⊢
  generalize c.outs.length = n3 at HBW ⊢
  generalize c.nodes.length = n at HBW ⊢
  obtain ⟨y, HY⟩ := named (isIdx n x)
  rw [← HY.out]
  by_cases h0 : 0 ≤ x
  · by_cases h1 : x < (n : Int)
    · have hy : y = true := by rw [HY.out]; simp [isIdx, h0, h1]
      subst hy
      clear HY
      go_enter Tryd.func30, Tryd.ntmps30
      go_wp2
      go_ret
      exact ⟨ret_bool (by first | (simp; done) | (simp; omega)), HBW.out⟩
    · have hy : y = false := by rw [HY.out]; simp [isIdx, h0]; omega
      subst hy
      clear HY
      go_enter Tryd.func30, Tryd.ntmps30
      go_wp2
      go_ret
      exact ⟨ret_bool (by first | (simp; done) | (simp; omega)), HBW.out⟩
  · have hy : y = false := by rw [HY.out]; simp [isIdx]; omega
    subst hy
    clear HY
    go_enter Tryd.func30, Tryd.ntmps30
    go_wp2
    go_ret
    exact ⟨ret_bool (by first | (simp; done) | (simp; omega)), HBW.out⟩

/-- An own row of lines. -/
def Lst (w : World) (base : Nat) (v : Value) (l : List (Int × Int)) : Prop := w.ownsRow base 54 2 v l.length (lnC l)
theorem Lst.reads {w : World} {g : Nat} {v : Value} {l : List (Int × Int)} (h : Lst w g v l) : Lns w w.heap.size v l := by
  have hlt := World.ownsRow.lt h
  rcases id h.2 with ⟨rfl, hn⟩ | ⟨q, cap, cur, rfl, hb, hg, hle, hm, -⟩
  · exact ⟨none, 0, 0, 0, by rw [hn], fun h => by omega, by omega, by simp [hn], fun k hk => by omega⟩
  · refine ⟨some ⟨q, 0, none⟩, q, 0, cap, rfl, fun _ => rfl, hle, Nat.le_trans hle hm, fun k hk => ⟨(hlt q rfl).2, ?_⟩⟩
    have hc := lnC_get l k hk
    refine ⟨?_, ?_⟩
    · rw [World.ownsRow.cellAt h _ (by omega), Nat.zero_add]; exact hc.1
    · rw [World.ownsRow.cellAt h _ (by omega), Nat.zero_add]; exact hc.2
theorem push_lst {w wo w1 : World} {g : Nat} {sv v' : Value} {st : List (Int × Int)} {x y : Int} {o : Obj} (hg : g ≤ wo.heap.size) (hb : Below g w wo) (hstk : Lst wo g sv st)
    (hown : w1.ownsRow g 54 2 v' (st.length + 1) (lnC st ++ [.int .i64 x, .int .i64 y])) (hgr : (wo.alloc o).grownBy w1 sv.ownBlock) : Below g w w1 ∧ Lst w1 g v' (st ++ [(x, y)]) := by
  have hq : ∀ q, sv.ownBlock = some q → g ≤ q := fun q h => (World.ownsRow.lt hstk q h).1
  refine ⟨(hb.alloc hg o).grown hgr (by simp; omega) hq, ?_⟩
  unfold Lst
  rw [List.length_append, lnC_snoc]
  exact hown

set_option maxHeartbeats 4000000 in
theorem refFan_any (c : Ck) (j : Nat) (v : Value) (w : World) (B : Nat) (hB : B ≤ w.heap.size) (hc : Cir w B v c) (hpz : (nodP c.nodes c.nodes.length).length ≤ 1000000000000) :
    Calls Tryd.prog 31 #[v, .int .i64 (j : Int)] w fun e w' => (∃ s, e = .returned s ∧ Lns w' w'.heap.size s (fan (nodP c.nodes c.nodes.length) j)) ∧ Below w.heap.size w w' := by
  obtain ⟨v0, v1, v2, v3, rfl, hns, hss, hms, hos⟩ := hc
  obtain ⟨A0, b, o, c0, rfl, hA, -, hm0, hcell⟩ := id hns
  obtain ⟨A1, b1, o1, c1, rfl, -⟩ := id hss
  obtain ⟨A2, b2, o2, c2, rfl, -⟩ := id hms
  obtain ⟨A3, b3, o3, c3, rfl, -⟩ := id hos
  have hbW : Below w.heap.size w (w.alloc (.cells #[.slice A0 c.nodes.length c0, .slice A1 c.names.length c1, .slice A2 c.mems.length c2, .slice A3 c.outs.length c3] 27)) := (Below.refl _ _).alloc (Nat.le_refl _) _
  have hbx : (w.alloc (.cells #[.slice A0 c.nodes.length c0, .slice A1 c.names.length c1, .slice A2 c.mems.length c2, .slice A3 c.outs.length c3] 27)).cell? ⟨w.heap.size, 0, none⟩ = some (.slice A0 c.nodes.length c0) := by
    rw [World.cell?_alloc_at _ _ _ _ rfl]; rfl
  have HCE := Lib.hid hcell
  have HAA := Lib.hid hA
  clear hns hss hms hos hcell hA
  generalize c.names.length = n1 at hbW hbx ⊢
  generalize c.mems.length = n2 at hbW hbx ⊢
  generalize c.outs.length = n3 at hbW hbx ⊢
  obtain ⟨n, HN⟩ := named c.nodes.length
  rw [← HN.out] at hbW hbx hpz hm0
  unfold maxLen at hm0
  rw [← HN.out]
  obtain ⟨W, HW⟩ := named (w.alloc (.cells #[.slice A0 n c0, .slice A1 n1 c1, .slice A2 n2 c2, .slice A3 n3 c3] 27))
  have hzW : W.heap.size = w.heap.size + 1 := by rw [HW.out]; simp
  rw [← HW.out] at hbW hbx
  have HBW := Lib.hid hbW
  have HZW := Lib.hid hzW
  have HBX := Lib.hid hbx
  have HPZ := Lib.hid hpz
  clear hbW hzW hbx hpz
  go_enter Tryd.func31, Tryd.ntmps31
  go_wp2
  go_loopw [6, 5] (fun i sv wr => ∃ k : Nat, k ≤ n ∧ i = .int .i64 k ∧ Below (w.heap.size + 1) W wr ∧ Lst wr (w.heap.size + 1) sv (fan (pinsAt c.nodes k 0) j)) (fun i _ _ => n - (intOf i).toNat)
  case atStart => exact ⟨0, Nat.zero_le _, rfl, by rw [← HW.out]; exact Below.refl _ _, World.ownsRow_nil _ _ _ _⟩
  case round =>
    obtain ⟨k, hk, rfl, hb, hst⟩ := hrel
    have hbox : wr.cell? ⟨w.heap.size, 0, none⟩ = some (.slice A0 n c0) := (hb.cell (p := ⟨w.heap.size, 0, none⟩) (by show w.heap.size < w.heap.size + 1; omega)).trans HBX.out
    by_cases hlt : k < n
    · obtain rfl := HAA.out (by rw [← HN.out]; omega)
      obtain ⟨hlb, s, h0, h1, h2, h3, h4, -⟩ := HCE.out k (by rw [← HN.out]; exact hlt)
      obtain ⟨A4, b4, o4, c4, rfl, hA4, -, hm4, hc4⟩ := id h4
      have hlb' : b < w.heap.size := by omega
      have e1 := (HBW.out.cell (p := ⟨b, o + k * 4 + 1, none⟩) hlb').trans h1
      obtain ⟨m, HM⟩ := named (c.nodes.getD k default).ins.length
      rw [← HM.out] at e1 hm4
      unfold maxLen at hm4
      have HE1 := Lib.hid e1
      have HA4 := Lib.hid hA4
      have HC4 := Lib.hid hc4
      have HST := Lib.hid hst
      have HB := Lib.hid hb
      clear h0 h1 h2 h3 h4 hA4 hc4 hst hb e1
      go_wp2
      go_loopw [7, 5] (fun i sv wr => ∃ p : Nat, p ≤ m ∧ i = .int .i64 p ∧ Below (w.heap.size + 1) W wr ∧ Lst wr (w.heap.size + 1) sv (fan (pinsAt c.nodes k p) j)) (fun i _ _ => m - (intOf i).toNat)
      case atStart => exact ⟨0, Nat.zero_le _, rfl, HB.out, HST.out⟩
      case round =>
        clear HST HB hbox
        obtain ⟨p, hp, rfl, hb, hst⟩ := hrel
        have hgz : w.heap.size + 1 ≤ wr.heap.size := by have := hb.size; have := HZW.out; omega
        have hbox : wr.cell? ⟨w.heap.size, 0, none⟩ = some (.slice (some ⟨b, o, none⟩) n c0) := (hb.cell (p := ⟨w.heap.size, 0, none⟩) (by show w.heap.size < w.heap.size + 1; omega)).trans HBX.out
        have e1 := (hb.cell (p := ⟨b, o + k * 4 + 1, none⟩) (by show b < w.heap.size + 1; omega)).trans HE1.out
        by_cases hpm : p < m
        · obtain rfl := HA4.out (by rw [← HM.out]; omega)
          obtain ⟨hb4, hx0⟩ := HC4.out p (by rw [← HM.out]; exact hpm)
          have hx : wr.cell? ⟨b4, o4 + p, none⟩ = some (.int .i64 ((c.nodes.getD k default).ins.getD p 0)) := by
            have := (hb.cell (p := ⟨b4, o4 + p * 1, none⟩) (by show b4 < w.heap.size + 1; omega)).trans ((HBW.out.cell (p := ⟨b4, o4 + p * 1, none⟩) (Nat.lt_of_lt_of_le hb4 hB)).trans hx0)
            rw [Nat.mul_one] at this; exact this
          have hps := pinsAt_succ c.nodes k p
          have hpl := pinsAt_len c.nodes (i := k) (p := p) (n := n) hlt (by rw [← HM.out]; exact hpm)
          have hfl := fan_len (pinsAt c.nodes k p) j
          have hfs := fan_snoc (pinsAt c.nodes k p) ((c.nodes.getD k default).ins.getD p 0) ((k : Int), (p : Int)) j
          rw [← hps] at hfs
          obtain ⟨x, HX⟩ := named ((c.nodes.getD k default).ins.getD p 0)
          rw [← HX.out] at hx hfs
          have HFS := Lib.hid hfs
          have HST := Lib.hid hst
          have HB := Lib.hid hb
          have HFL := Lib.hid hfl
          have HPL := Lib.hid hpl
          obtain ⟨A6, c6, hsv⟩ := own_form hst
          subst hsv
          clear hst hb hx0 hps hpl hfl hfs
          obtain ⟨L, HL⟩ := named (fan (pinsAt c.nodes k p) j)
          rw [← HL.out] at HST HFL HFS
          rw [← HL.out]
          cases hv : x == (j : Int)
          · have hne : ¬ x = (j : Int) := by simpa using hv
            have HNE := Lib.hid hne
            clear hne
            go_wp2
            go_roundw
            case rel =>
              refine ⟨p + 1, by omega, by go_num, HB.out, ?_⟩
              rw [HFS.out, if_neg HNE.out]; exact HST.out
            case measure => simp [intOf]; omega
          · have heq : x = (j : Int) := by simpa using hv
            have HEQ := Lib.hid heq
            clear heq
            obtain ⟨i1, hi1, hz0, hz1, hz2⟩ := info_parts info_line
            have HI1 := Lib.hid (And.intro hi1 (And.intro hz0 (And.intro hz1 hz2)))
            clear hi1 hz0 hz1 hz2
            go_wp2_with (at_builtin; refine wpList_append_own_at _ rfl _ _ 51 rfl (w.heap.size + 1) 54 i1 (.agg #[.int .i64 0, .int .i64 0]) 2 16 Tryd.underlying51 HI1.out.1 HI1.out.2.1 HI1.out.2.2.1 HI1.out.2.2.2 rfl (by decide) _ _ _ rfl (World.ownsRow.alloc HST.out _) ⟨wr.heap.size, 0, none⟩ 1 1 [.int .i64 (k : Int), .int .i64 (p : Int)] rfl rfl (two_new _ _ _ _) (ints_oneCell .i64 [(k : Int), (p : Int)]) (by unfold maxLen; have := HFL.out; have := HPL.out; have := HPZ.out; omega) (by have := HFL.out; have := HPL.out; have := HPZ.out; omega) (by simp; omega) ?_; intro v' w2 hown' hgrow hnil hloc; have HF := Lib.hid (push_lst hgz HB.out HST.out hown' hgrow); clear hown' hgrow hnil hloc)
            go_roundw
            case rel =>
              refine ⟨p + 1, by omega, by go_num, HF.out.1, ?_⟩
              rw [HFS.out, if_pos HEQ.out]; exact HF.out.2
            case measure => simp [intOf]; omega
        · obtain rfl : m = p := by omega
          have HST := Lib.hid hst
          have HB := Lib.hid hb
          clear hst hb
          go_wp2
          go_roundw
          case rel =>
            refine ⟨k + 1, by omega, by go_num, HB.out, ?_⟩
            rw [pinsAt_zero, nodP_succ, ← HM.out]; exact HST.out
          case measure => simp [intOf]; omega
    · obtain rfl : n = k := by omega
      rw [pinsAt_zero] at hst
      have HR := Lib.hid hst.reads
      have HB := Lib.hid (HBW.out.trans (hb.mono (Nat.le_succ _)))
      clear hb hst
      go_wp2
      go_ret
      exact ⟨⟨_, rfl, HR.out⟩, HB.out⟩

end Go.Proofs.YtmghdeodkeenoaaDoor
