/- The references Of and Is. -/
import Derived.Test.YtfcdhoaccmckoaaGreatDoorOfp
import Derived.Deep.LoopGhost
namespace Go.Proofs.YtfcdhoaccmckoaaGreatDoor
open Go.RowKit

def insP (i : Nat) (ins : List Int) (p : Nat) : List (Int × Int × Int) := (List.range p).map fun (k : Nat) => (ins.getD k 0, (i : Int), (k : Int))
def nodP (nodes : List Nd) (i : Nat) : List (Int × Int × Int) := (List.range i).flatMap fun k => insP k (nodes.getD k default).ins (nodes.getD k default).ins.length
def pinsAt (nodes : List Nd) (i p : Nat) : List (Int × Int × Int) := nodP nodes i ++ insP i (nodes.getD i default).ins p
theorem insP_succ (i : Nat) (ins : List Int) (p : Nat) : insP i ins (p + 1) = insP i ins p ++ [(ins.getD p 0, (i : Int), (p : Int))] := by
  simp [insP, List.range_succ]
theorem pinsAt_succ (nodes : List Nd) (i p : Nat) : pinsAt nodes i (p + 1) = pinsAt nodes i p ++ [((nodes.getD i default).ins.getD p 0, (i : Int), (p : Int))] := by
  rw [pinsAt, insP_succ, ← List.append_assoc]; rfl
theorem pinsAt_zero (nodes : List Nd) (i : Nat) : pinsAt nodes i 0 = nodP nodes i := by simp [pinsAt, insP]
theorem nodP_succ (nodes : List Nd) (i : Nat) : nodP nodes (i + 1) = pinsAt nodes i (nodes.getD i default).ins.length := by
  simp [nodP, pinsAt, List.range_succ]
theorem nodP_le (nodes : List Nd) (i : Nat) : ∀ d, (nodP nodes i).length ≤ (nodP nodes (i + d)).length
  | 0 => Nat.le_refl _
  | d + 1 => by
      refine Nat.le_trans (nodP_le nodes i d) ?_
      rw [← Nat.add_assoc, nodP_succ, pinsAt, List.length_append]; omega
theorem pinsAt_len (nodes : List Nd) {i p n : Nat} (hi : i < n) (hp : p < (nodes.getD i default).ins.length) : (pinsAt nodes i p).length < (nodP nodes n).length := by
  have h1 := nodP_le nodes (i + 1) (n - (i + 1))
  rw [show i + 1 + (n - (i + 1)) = n by omega, nodP_succ] at h1
  have h2 : (pinsAt nodes i p).length + ((nodes.getD i default).ins.length - p) = (pinsAt nodes i (nodes.getD i default).ins.length).length := by
    simp only [pinsAt, insP, List.length_append, List.length_map, List.length_range]; omega
  omega
/-- The lines of the net j. -/
def fan (l : List (Int × Int × Int)) (j : Nat) : List (Int × Int) := (l.filter fun q => q.1 == (j : Int)).map (·.2)
theorem fan_len (l : List (Int × Int × Int)) (j : Nat) : (fan l j).length ≤ l.length := by
  unfold fan; rw [List.length_map]; exact List.length_filter_le _ _
theorem fan_snoc (l : List (Int × Int × Int)) (x : Int) (y : Int × Int) (j : Nat) : fan (l ++ [(x, y)]) j = if x = (j : Int) then fan l j ++ [y] else fan l j := by
  unfold fan
  rw [List.filter_append, List.map_append]
  by_cases h : x = (j : Int)
  · simp [h]
  · simp [h]
def lnC (l : List (Int × Int)) : List Value := l.flatMap fun q => [.int .i64 q.1, .int .i64 q.2]
theorem lnC_snoc (l : List (Int × Int)) (x y : Int) : lnC (l ++ [(x, y)]) = lnC l ++ [.int .i64 x, .int .i64 y] := by simp [lnC]
theorem lnC_len : ∀ l : List (Int × Int), (lnC l).length = l.length * 2
  | [] => rfl
  | q :: r => by have := lnC_len r; simp [lnC] at this ⊢; omega
theorem lnC_get : ∀ (l : List (Int × Int)) (k : Nat), k < l.length → (lnC l)[k * 2]? = some (.int .i64 (l.getD k (0, 0)).1) ∧ (lnC l)[k * 2 + 1]? = some (.int .i64 (l.getD k (0, 0)).2)
  | [], k, h => absurd h (by simp)
  | q :: r, 0, h => by simp [lnC]
  | q :: r, k + 1, h => by
      have hr := lnC_get r k (by simpa using h)
      have e : lnC (q :: r) = [.int .i64 q.1, .int .i64 q.2] ++ lnC r := rfl
      rw [e, show (k + 1) * 2 = k * 2 + 2 by omega, show k * 2 + 2 + 1 = (k * 2 + 1) + 2 by omega]
      rw [List.getElem?_append_right (by simp), List.getElem?_append_right (by simp)]
      simpa using hr
def vat (Vs : List Value) (j : Nat) : Value := Vs.getD j (.slice none 0 0)
theorem vat_set (Vs : List Value) (j k : Nat) (v : Value) (hj : j < Vs.length) : vat (Vs.set j v) k = if k = j then v else vat Vs k := by
  unfold vat
  rw [List.getD_eq_getElem?_getD, List.getD_eq_getElem?_getD, List.getElem?_set]
  by_cases h : j = k
  · subst h; simp [hj]
  · rw [if_neg h, if_neg (fun e => h e.symm)]

/-- What a slice is behind Clip. -/
def clipV : Value → Value
  | .slice A n _ => .slice A n n
  | v => v
def clipTo (Vs : List Value) (n k : Nat) : List Value := (List.range n).map fun j => if j < k then clipV (vat Vs j) else vat Vs j
theorem clipTo_zero (Vs : List Value) (n : Nat) (h : Vs.length = n) : clipTo Vs n 0 = Vs := by
  apply List.ext_getElem?
  intro j
  by_cases hj : j < n
  · simp [clipTo, hj, vat, List.getD_eq_getElem?_getD, h]
  · simp [clipTo, hj, h]
theorem clipTo_get (Vs : List Value) (n k j : Nat) (h : j < n) : (clipTo Vs n k)[j]? = some (if j < k then clipV (vat Vs j) else vat Vs j) := by
  simp [clipTo, h]
theorem clipTo_set (Vs : List Value) (n k : Nat) : (clipTo Vs n k).set k (clipV (vat Vs k)) = clipTo Vs n (k + 1) := by
  apply List.ext_getElem?
  intro j
  rw [List.getElem?_set]
  by_cases hjn : j < n
  · rw [clipTo_get _ _ _ _ hjn, clipTo_get _ _ _ _ hjn]
    by_cases hjk : k = j
    · subst hjk
      have : k < (clipTo Vs n k).length := by simp [clipTo, hjn]
      simp [this]
    · rw [if_neg hjk]
      by_cases hl : j < k
      · rw [if_pos hl, if_pos (by omega)]
      · rw [if_neg hl, if_neg (by omega)]
  · have h1 : ¬ j < (clipTo Vs n k).length := by simp [clipTo]; omega
    simp [clipTo, hjn]
    omega
def LnAt (w : World) (_B b p : Nat) (x : Int × Int) : Prop := w.cell? ⟨b, p, none⟩ = some (.int .i64 x.1) ∧ w.cell? ⟨b, p + 1, none⟩ = some (.int .i64 x.2)
theorem stays_ln : Stays LnAt := fun w w' B B' b p x hb hB h hk => ⟨(hk ⟨b, p, none⟩ hb).trans h.1, (hk ⟨b, p + 1, none⟩ hb).trans h.2⟩
def Lns (w : World) (B : Nat) (v : Value) (l : List (Int × Int)) : Prop := Arr (0, 0) 2 LnAt w B v l
def LnsAt (w : World) (B b p : Nat) (l : List (Int × Int)) : Prop := ∃ A, w.cell? ⟨b, p, none⟩ = some (.slice A l.length l.length) ∧ Lns w B (.slice A l.length l.length) l
theorem stays_lns : Stays LnsAt := fun w w' B B' b p x hb hB ⟨s, h, k⟩ hk => ⟨s, (hk ⟨b, p, none⟩ hb).trans h, Arr.keep stays_ln k hB hk⟩
def Fos (w : World) (B : Nat) (v : Value) (l : List (List (Int × Int))) : Prop := Arr [] 1 LnsAt w B v l
theorem Fos.keep {w w' : World} {B B' : Nat} {v : Value} {l : List (List (Int × Int))} (h : Fos w B v l) (hB : B ≤ B') (hk : ∀ q : Addr, q.block < B → w'.cell? q = w.cell? q) : Fos w' B' v l := Arr.keep stays_lns h hB hk
def fanL (nodes : List Nd) : List (List (Int × Int)) := (List.range nodes.length).map (fan (nodP nodes nodes.length))
end Go.Proofs.YtfcdhoaccmckoaaGreatDoor

namespace Go.Proofs.YtfcdhoaccmckoaaGreatDoor
open Go.RowKit

theorem two_new (w : World) (u v : Value) (t : TypeId) : ∀ (j : Nat) (x : Value), [u, v][j]? = some x → (w.alloc (.cells #[u, v] t)).cell? ((⟨w.heap.size, 0, none⟩ : Addr).add j) = some x := by
  intro j x hj
  match j, hj with
  | 0, hj =>
    rw [show (⟨w.heap.size, 0, none⟩ : Addr).add 0 = ⟨w.heap.size, 0, none⟩ from rfl, World.cell?_alloc_at _ _ _ _ rfl]
    simpa using hj
  | 1, hj =>
    rw [show (⟨w.heap.size, 0, none⟩ : Addr).add 1 = ⟨w.heap.size, 1, none⟩ from rfl, World.cell?_alloc_at _ _ _ _ rfl]
    simpa using hj
  | j + 2, hj => simp at hj
theorem own_form {w : World} {base : Nat} {e : TypeId} {size : Nat} {v : Value} {n : Nat} {xs : List Value} (h : w.ownsRow base e size v n xs) : ∃ A c, v = .slice A n c := by
  rcases h.2 with ⟨rfl, hn⟩ | ⟨g, cap, cur, rfl, -⟩
  · exact ⟨none, 0, by rw [hn]⟩
  · exact ⟨_, cap, rfl⟩
def FanPost (nodes : List Nd) (w : World) (e : Ending) (w' : World) : Prop :=
  ∃ g, e = .returned (.slice (some ⟨g, 0, none⟩) nodes.length nodes.length) ∧ w.heap.size ≤ g ∧ Fos w' w'.heap.size (.slice (some ⟨g, 0, none⟩) nodes.length nodes.length) (fanL nodes) ∧ Below w.heap.size w w'

end Go.Proofs.YtfcdhoaccmckoaaGreatDoor

namespace Go.Proofs.YtfcdhoaccmckoaaGreatDoor
open Go.RowKit

theorem isK_one (x k : Int) : isK [k] x = (x == k) := by simp [isK, anyP]
theorem Stk.all {w : World} {g : Nat} {v : Value} {l : List Int} (h : Stk w g v l) (hm : l.length ≤ maxLen) : Is w w.heap.size v l := by
  obtain ⟨A, c, rfl, hle, -, -⟩ := h.form
  exact h.reads c hle hm

set_option maxHeartbeats 4000000 in
theorem refOf_any (c : Ck) (kd0 : Int) (v : Value) (w : World) (B : Nat) (hB : B ≤ w.heap.size) (hc : Cir w B v c) (hsz : c.nodes.length ≤ 1000000) :
    Calls Tryz.prog 27 #[v, .int .u8 kd0] w fun e w' => (∃ s, e = .returned s ∧ Is w' w'.heap.size s (ofTo c.nodes [kd0] c.nodes.length)) ∧ Below w.heap.size w w' := by
  obtain ⟨v0, v1, v2, v3, rfl, hns, hss, hms, hos⟩ := hc
  obtain ⟨A0, b, o, c0, rfl, hA, -, -, hcell⟩ := id hns
  obtain ⟨A1, b1, o1, c1, rfl, -⟩ := id hss
  obtain ⟨A2, b2, o2, c2, rfl, -⟩ := id hms
  obtain ⟨A3, b3, o3, c3, rfl, -⟩ := id hos
  have hbW : Below w.heap.size w (w.alloc (.cells #[.slice A0 c.nodes.length c0, .slice A1 c.names.length c1, .slice A2 c.mems.length c2, .slice A3 c.outs.length c3] 35)) := (Below.refl _ _).alloc (Nat.le_refl _) _
  have hbx : (w.alloc (.cells #[.slice A0 c.nodes.length c0, .slice A1 c.names.length c1, .slice A2 c.mems.length c2, .slice A3 c.outs.length c3] 35)).cell? ⟨w.heap.size, 0, none⟩ = some (.slice A0 c.nodes.length c0) := by
    rw [World.cell?_alloc_at _ _ _ _ rfl]; rfl
  have HCE := Lib.hid hcell
  have HAA := Lib.hid hA
  clear hns hss hms hos hcell hA
  generalize c.names.length = n1 at hbW hbx ⊢
  generalize c.mems.length = n2 at hbW hbx ⊢
  generalize c.outs.length = n3 at hbW hbx ⊢
  obtain ⟨n, HN⟩ := named c.nodes.length
  rw [← HN.out] at hbW hsz hbx
  rw [← HN.out]
  obtain ⟨W, HW⟩ := named (w.alloc (.cells #[.slice A0 n c0, .slice A1 n1 c1, .slice A2 n2 c2, .slice A3 n3 c3] 35))
  have hzW : W.heap.size = w.heap.size + 1 := by rw [HW.out]; simp
  rw [← HW.out] at hbW hbx
  have HBW := Lib.hid hbW
  have HZW := Lib.hid hzW
  have HBX := Lib.hid hbx
  clear hbW hzW hbx
  go_enter Tryz.func27, Tryz.ntmps27
  go_wp2
  go_loopw [6, 5] (fun i sv wr => ∃ k : Nat, k ≤ n ∧ i = .int .i64 k ∧ Below (w.heap.size + 1) W wr ∧ Stk wr (w.heap.size + 1) sv (ofTo c.nodes [kd0] k)) (fun i _ _ => n - (intOf i).toNat)
  case atStart => exact ⟨0, Nat.zero_le _, rfl, by rw [← HW.out]; exact Below.refl _ _, Stk.nil _ _⟩
  case round =>
    obtain ⟨k, hk, rfl, hb, hst⟩ := hrel
    have hgz : w.heap.size + 1 ≤ wr.heap.size := by have := hb.size; have := HZW.out; omega
    obtain ⟨A6, c6, rfl, hle6, hc6, hsh⟩ := hst.shape
    have hbox : wr.cell? ⟨w.heap.size, 0, none⟩ = some (.slice A0 n c0) := (hb.cell (p := ⟨w.heap.size, 0, none⟩) (by show w.heap.size < w.heap.size + 1; omega)).trans HBX.out
    have hol := ofTo_len c.nodes [kd0] k
    by_cases hlt : k < n
    · obtain rfl := HAA.out (by rw [← HN.out]; omega)
      obtain ⟨hlb, s, h0, -⟩ := HCE.out k (by rw [← HN.out]; exact hlt)
      have hsu := ofTo_succ c.nodes [kd0] k
      have hlb' : b < w.heap.size := by omega
      have e0 : wr.cell? ⟨b, o + k * 4, none⟩ = _ := (hb.cell (p := ⟨b, o + k * 4, none⟩) (by show b < w.heap.size + 1; omega)).trans ((HBW.out.cell (p := ⟨b, o + k * 4, none⟩) hlb').trans h0)
      obtain ⟨kd, HKD⟩ := named (c.nodes.getD k default).kind
      rw [← HKD.out] at e0 hsu
      rw [isK_one] at hsu
      have HST := Lib.hid hst
      have HB := Lib.hid hb
      have HOL := Lib.hid hol
      clear hst hb h0 hol
      obtain ⟨L, HL⟩ := named (ofTo c.nodes [kd0] k)
      rw [← HL.out] at hsu HST HOL hle6 hsh
      rw [← HL.out]
      cases hv : kd == kd0
      · rw [hv] at hsu
        rw [if_neg (by decide), List.append_nil] at hsu
        have HSU := Lib.hid hsu
        clear hsu hsh
        go_wp2
        go_roundw
        case rel =>
          refine ⟨k + 1, by omega, by go_num, HB.out, ?_⟩
          rw [HSU.out]; exact HST.out
        case measure => simp [intOf]; omega
      · rw [hv] at hsu
        rw [if_pos rfl] at hsu
        have HSU := Lib.hid hsu
        clear hsu hsh
        obtain ⟨i1, hi1, hz0, hz1, hz2⟩ := info_parts info_int
        have HI := Lib.hid (And.intro hi1 (And.intro hz0 (And.intro hz1 hz2)))
        clear hi1 hz0 hz1 hz2
        go_wp2_with (at_builtin; refine wpList_append_own_at _ rfl _ _ 33 rfl (w.heap.size + 1) 3 i1 (.int .i64 0) 1 8 Tryz.underlying33 HI.out.1 HI.out.2.1 HI.out.2.2.1 HI.out.2.2.2 rfl (by decide) _ _ _ rfl (World.ownsRow.alloc HST.out _) ⟨wr.heap.size, 0, none⟩ 1 1 [.int .i64 (k : Int)] rfl rfl (one_new _ _ _) (ints_oneCell .i64 [(k : Int)]) (by unfold maxLen; have := HOL.out; omega) (by have := HOL.out; omega) (by simp; omega) ?_; intro v' w2 hown' hgrow hnil hloc; have HF := Lib.hid (push_own hgz HB.out HST.out hown' hgrow); clear hown' hgrow hnil hloc)
        go_roundw
        case rel =>
          refine ⟨k + 1, by omega, by go_num, HF.out.1, ?_⟩
          rw [HSU.out]; exact HF.out.2
        case measure => simp [intOf]; omega
    · obtain rfl : n = k := by omega
      have hr := hst.all (by unfold maxLen; omega)
      have HR := Lib.hid hr
      have HB := Lib.hid (HBW.out.trans (hb.mono (Nat.le_succ _)))
      clear hr hb hst hsh hle6
      generalize (ofTo c.nodes [kd0] n).length = m at HR ⊢
      go_wp2
      go_ret
      exact ⟨⟨_, rfl, HR.out⟩, HB.out⟩

end Go.Proofs.YtfcdhoaccmckoaaGreatDoor
