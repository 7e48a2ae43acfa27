/- SimsUnique: the law's holds. -/
import Derived.Test.YtbkfpaklmepglaaDoorCs
namespace Go.Proofs.YtbkfpaklmepglaaDoor

theorem asg_cons (out : List Int) (x : Int) (l : List Int) (v : Int) (vs : List Int) : asg out (x :: l) (v :: vs) = asg (out.set x.toNat v) l vs := rfl
theorem asg_off : ∀ (l vs out : List Int) (i : Nat), (∀ y ∈ l, 0 ≤ y ∧ y ≠ (i : Int)) → lat (asg out l vs) i = lat out i := by
  intro l
  induction l with
  | nil => intro vs out i _; rfl
  | cons x l ih =>
    intro vs out i h
    cases vs with
    | nil => rfl
    | cons v vs =>
      rw [asg_cons, ih _ _ _ fun y hy => h y (List.mem_cons_of_mem _ hy), lat_set _ (by omega), if_neg (fun e => (h x List.mem_cons_self).2 (by have := (h x List.mem_cons_self).1; omega))]
theorem asg_on : ∀ (l vs out : List Int), l.Pairwise (· < ·) → (∀ y ∈ l, 0 ≤ y ∧ y < (out.length : Int)) → l.length = vs.length → ∀ k, k < l.length → lat (asg out l vs) (l.getD k 0) = vs.getD k 0 := by
  intro l
  induction l with
  | nil => intro vs out _ _ _ k hk; exact absurd hk (by simp)
  | cons x l ih =>
    intro vs out hp hr hl k hk
    cases vs with
    | nil => cases hl
    | cons v vs =>
      have hx := hr x List.mem_cons_self
      rw [asg_cons]
      cases k with
      | zero =>
        obtain ⟨j, rfl⟩ := Int.eq_ofNat_of_zero_le hx.1
        show lat _ (j : Int) = v
        rw [asg_off l vs _ j fun y hy => ⟨(hr y (List.mem_cons_of_mem _ hy)).1, fun e => by have := (List.pairwise_cons.1 hp).1 y hy; omega⟩, lat_set _ (by omega), if_pos ⟨by omega, by omega⟩]
      | succ k =>
        show lat _ (l.getD k 0) = vs.getD k 0
        exact ih vs _ (List.pairwise_cons.1 hp).2 (fun y hy => by rw [List.length_set]; exact hr y (List.mem_cons_of_mem _ hy)) (by simpa using hl) k (by simpa using hk)
theorem ofTo_pair (nodes : List Nd) (kl : List Int) (n : Nat) : (ofTo nodes kl n).Pairwise (· < ·) := by
  unfold ofTo
  rw [List.pairwise_map]
  exact (List.pairwise_lt_range.filter _).imp fun h => by omega
theorem ofTo_at {nodes : List Nd} {kl : List Int} : ∀ (n : Nat) {i : Nat}, i < n → isK kl (nodes.getD i default).kind = true → (ofTo nodes kl i).length < (ofTo nodes kl n).length ∧ (ofTo nodes kl n).getD (ofTo nodes kl i).length 0 = (i : Int) := by
  intro n
  induction n with
  | zero => intro i hi; exact absurd hi (by omega)
  | succ n ih =>
    intro i hi hk
    rw [ofTo_succ]
    by_cases e : i = n
    · subst e
      rw [if_pos hk]
      refine ⟨by simp, ?_⟩
      simp [List.getD_eq_getElem?_getD]
    · obtain ⟨h1, h2⟩ := ih (i := i) (by omega) hk
      refine ⟨by rw [List.length_append]; omega, ?_⟩
      rw [List.getD_eq_getElem?_getD, List.getElem?_append_left h1, ← List.getD_eq_getElem?_getD]
      exact h2
/-- The base of a pattern at an input. -/
theorem base_in {nodes : List Nd} {n : Nat} {pin pst : List Int} (hi : (ofTo nodes [0] n).length = pin.length) {i : Nat} (hn : i < n) (hk : (nodes.getD i default).kind = 0) :
    lat (baseV n (ofTo nodes [0] n) (ofTo nodes [14] n) pin pst) i = pin.getD (ofTo nodes [0] i).length 0 := by
  have hat := ofTo_at n hn (kl := [0]) (nodes := nodes) (by rw [isK_one, hk]; rfl)
  unfold baseV
  rw [asg_off _ _ _ i fun y hy => ?_, ← hat.2]
  · exact asg_on _ _ _ (ofTo_pair _ _ _) (fun y hy => by have := ofTo_in hy; simp; omega) hi _ hat.1
  · obtain ⟨j, rfl, hj, hj2⟩ := ofTo_mem hy
    refine ⟨by omega, fun e => ?_⟩
    have : j = i := by omega
    subst this
    rw [isK_one, hk] at hj2
    simp at hj2
/-- The base of a pattern at a state. -/
theorem base_st {nodes : List Nd} {n : Nat} {pin pst : List Int} (hs : (ofTo nodes [14] n).length = pst.length) {i : Nat} (hn : i < n) (hk : (nodes.getD i default).kind = 14) :
    lat (baseV n (ofTo nodes [0] n) (ofTo nodes [14] n) pin pst) i = pst.getD (ofTo nodes [14] i).length 0 := by
  have hat := ofTo_at n hn (kl := [14]) (nodes := nodes) (by rw [isK_one, hk]; rfl)
  unfold baseV
  rw [← hat.2]
  exact asg_on _ _ _ (ofTo_pair _ _ _) (fun y hy => by have := ofTo_in hy; simp [asg_len]; omega) hs _ hat.1

/-- What node i asks for, in the law's words. -/
def wantV (nodes : List Nd) (pin pst nets : List Int) (i : Nat) : Int :=
  if (nodes.getD i default).kind = 14 then pst.getD (ofTo nodes [14] i).length 0
  else if (nodes.getD i default).kind = 0 then pin.getD (ofTo nodes [0] i).length 0
  else evalL (nodes.getD i default).kind ((nodes.getD i default).ins.map (lat nets))
theorem cln_low {v : Int} (h : v ≤ 3) : cln v = v := by unfold cln; rw [if_neg (by omega)]
theorem lat_in {nets : List Int} (hv : ∀ y ∈ nets, 0 ≤ y ∧ y ≤ 3) (x : Int) : 0 ≤ lat nets x ∧ lat nets x ≤ 3 := by
  unfold lat
  rw [List.getD_eq_getElem?_getD]
  by_cases h : x.toNat < nets.length
  · rw [List.getElem?_eq_getElem h]; exact hv _ (List.getElem_mem h)
  · rw [List.getElem?_eq_none (by omega)]; simp
/-- A valid circuit without memories has nodes of these kinds. -/
theorem kinds_of {c : Ck} {L : List Int} {m : Nat} (V : Vld c L m) (hm : c.mems.length = 0) {i : Nat} (hi : i < c.nodes.length) (h0 : 0 ≤ (c.nodes.getD i default).kind) :
    ((c.nodes.getD i default).kind = 0 ∨ (c.nodes.getD i default).kind = 14 ∨ cmb (c.nodes.getD i default).kind = true) ∧ ∀ j, j < (c.nodes.getD i default).ins.length → 0 ≤ (c.nodes.getD i default).ins.getD j 0 ∧ (c.nodes.getD i default).ins.getD j 0 < (c.nodes.length : Int) := by
  have h := nodeErr_zero ((shape_zero (chk_shape V.ok)).2.2.2.2.1 _ (getD_mem_nd hi))
  refine ⟨?_, fun j hj => ?_⟩
  · have h15 : (c.nodes.getD i default).kind ≠ 15 := fun e => by
      have hp := h.2.2.2.2.2
      unfold placeOk at hp
      rw [if_pos e, hm] at hp
      simp [isIdx] at hp
      omega
    unfold cmb
    by_cases e0 : (c.nodes.getD i default).kind = 0
    · exact .inl e0
    · by_cases e1 : (c.nodes.getD i default).kind = 14
      · exact .inr (.inl e1)
      · refine .inr (.inr ?_)
        have := h.1
        rw [Bool.and_eq_true, decide_eq_true_iff, decide_eq_true_iff]
        omega
  · have ha := h.2.2.2.1
    unfold areIdx at ha
    have hz : anyP (fun x => !isIdx c.nodes.length x) (c.nodes.getD i default).ins = false := by
      cases hh : anyP (fun x => !isIdx c.nodes.length x) (c.nodes.getD i default).ins
      · rfl
      · rw [hh] at ha; cases ha
    have hb := List.any_eq_false.1 hz _ (ints_mem hj)
    cases hx : isIdx c.nodes.length ((c.nodes.getD i default).ins.getD j 0)
    · rw [hx] at hb; exact absurd rfl hb
    · unfold isIdx at hx
      rw [Bool.and_eq_true, decide_eq_true_iff, decide_eq_true_iff] at hx
      exact hx
/-- What the law asks of values is what the nets' values are. -/
theorem holds_net {c : Ck} {L : List Int} {n : Nat} (V : Vld c L n) (hm : c.mems.length = 0) (hk : ∀ i : Nat, i < n → 0 ≤ (c.nodes.getD i default).kind) {pin pst nets : List Int} (hi : (ofTo c.nodes [0] n).length = pin.length) (hs : (ofTo c.nodes [14] n).length = pst.length) (hl : nets.length = n) (hv : ∀ y ∈ nets, 0 ≤ y ∧ y ≤ 3) :
    (∀ i : Nat, i < n → lat nets i = wantV c.nodes pin pst nets i) ↔ Net c.nodes (baseV n (ofTo c.nodes [0] n) (ofTo c.nodes [14] n) pin pst) nets := by
  have hlen := V.len
  have key : ∀ i : Nat, i < n → wantV c.nodes pin pst nets i = if cmb (c.nodes.getD i default).kind = true then gateV c.nodes nets i else lat (baseV n (ofTo c.nodes [0] n) (ofTo c.nodes [14] n) pin pst) i := fun i hin => by
    unfold wantV
    rcases (kinds_of V hm (i := i) (by omega) (hk i hin)).1 with e | e | e
    · rw [base_in hi hin e, e]; rfl
    · rw [base_st hs hin e, e]; rfl
    · have h14 : ¬ (c.nodes.getD i default).kind = 14 := fun h => by rw [h] at e; revert e; decide
      have h00 : ¬ (c.nodes.getD i default).kind = 0 := fun h => by rw [h] at e; revert e; decide
      rw [if_neg h14, if_neg h00, if_pos e]
      unfold gateV
      rw [Int.toNat_natCast]
      congr 1
      exact List.map_congr_left fun x _ => (cln_low (lat_in hv x).2).symm
  constructor
  · intro h
    refine ⟨by omega, fun i hi' => ?_⟩
    rw [h i (by omega), key i (by omega)]
  · intro h i hin
    rw [key i hin]
    exact h.2 i (by omega)
theorem rd_in (a : Int) : 0 ≤ rd a ∧ rd a ≤ 3 := by rcases rd_cases a with h | h | h <;> omega
theorem nt_in (a : Int) : 0 ≤ nt a ∧ nt a ≤ 3 := by unfold nt; split <;> (try split) <;> omega
theorem mx_in (a b d : Int) : 0 ≤ mx a b d ∧ mx a b d ≤ 3 := by
  have h1 := rd_in b
  have h2 := rd_in d
  unfold mx
  split
  · exact h1
  split
  · exact h2
  split
  · exact h1
  · omega
theorem tr_in (a b : Int) : 0 ≤ tr a b ∧ tr a b ≤ 3 := by
  have h1 := rd_in b
  unfold tr
  split
  · omega
  split
  · exact h1
  · omega
theorem xor_in (l : List Int) : 0 ≤ xorL l ∧ xorL l ≤ 3 := by
  unfold xorL
  split
  · omega
  · rcases par_cases l with h | h <;> omega
theorem and_in (l : List Int) : 0 ≤ andL l ∧ andL l ≤ 3 := by unfold andL; split <;> (try split) <;> omega
theorem or_in (l : List Int) : 0 ≤ orL l ∧ orL l ≤ 3 := by unfold orL; split <;> (try split) <;> omega
theorem bus_in (l : List Int) : 0 ≤ busL l ∧ busL l ≤ 3 := by unfold busL; split <;> (try split) <;> (try split) <;> omega
/-- The nets' values are within bounds. -/
theorem evalL_in (k : Int) (l : List Int) : 0 ≤ evalL k l ∧ evalL k l ≤ 3 := by
  have h1 := rd_in (l.getD 0 0)
  have h2 := nt_in (l.getD 0 0)
  have h5 := and_in l
  have h6 := or_in l
  have h7 := xor_in l
  have h8 := bus_in l
  have h9 := mx_in (l.getD 0 0) (l.getD 1 0) (l.getD 2 0)
  have h10 := tr_in (l.getD 0 0) (l.getD 1 0)
  have h11 := nt_in (andL l)
  have h12 := nt_in (orL l)
  have h13 := nt_in (xorL l)
  unfold evalL
  split
  · omega
  unfold funL
  repeat' split
  all_goals omega
theorem asg_in {l vs out : List Int} (hv : ∀ y ∈ vs, 0 ≤ y ∧ y ≤ 3) (ho : ∀ y ∈ out, 0 ≤ y ∧ y ≤ 3) : ∀ y ∈ asg out l vs, 0 ≤ y ∧ y ≤ 3 := by
  unfold asg
  induction l generalizing vs out with
  | nil => exact ho
  | cons x l ih =>
    cases vs with
    | nil => exact ho
    | cons v vs =>
      exact ih (vs := vs) (out := out.set x.toNat v) (fun y hy => hv y (List.mem_cons_of_mem _ hy)) fun y hy => by
        rcases List.mem_or_eq_of_mem_set hy with h | rfl
        · exact ho y h
        · exact hv _ List.mem_cons_self
theorem net_in {nodes : List Nd} {n : Nat} {ins sts pin pst nets : List Int} (h : Net nodes (baseV n ins sts pin pst) nets) (hi : ∀ y ∈ pin, 0 ≤ y ∧ y ≤ 3) (hs : ∀ y ∈ pst, 0 ≤ y ∧ y ≤ 3) : ∀ y ∈ nets, 0 ≤ y ∧ y ≤ 3 := fun y hy => by
  obtain ⟨k, hk, rfl⟩ := List.mem_iff_getElem.1 hy
  have e : lat nets k = nets[k] := by unfold lat; rw [Int.toNat_natCast, List.getD_eq_getElem?_getD, List.getElem?_eq_getElem hk]; rfl
  rw [← e, h.2 k (by rw [← h.1]; exact hk)]
  split
  · exact evalL_in _ _
  · refine lat_in (asg_in hs (asg_in hi fun y hy => ?_)) _
    rw [(List.mem_replicate.1 hy).2]
    omega
/-- Only the nets' values are what the nodes ask. -/
theorem net_only {c : Ck} {L : List Int} {n : Nat} (V : Vld c L n) {pin pst a b : List Int} (h : Net c.nodes (baseV n (ofTo c.nodes [0] n) (ofTo c.nodes [14] n) pin pst) a) (h' : Net c.nodes (baseV n (ofTo c.nodes [0] n) (ofTo c.nodes [14] n) pin pst) b) : a = b :=
  Net.same V.wf V.lvl h h' fun _ _ _ => rfl
end Go.Proofs.YtbkfpaklmepglaaDoor

namespace Go.Proofs.YtbkfpaklmepglaaDoor
open Go.RowKit

set_option maxRecDepth 100000 in
set_option maxHeartbeats 8000000 in
theorem holds_any {c : Ck} {L : List Int} {n n1 n3 ni ns : Nat} {A0 A1 A2 A3 : Option Addr} {c0 c1 c2 c3 q : Nat} (w : World) (H : Cs c n n1 n3 A0 A1 A2 A3 c0 c1 c2 c3 q w) (S : Cst c L n n1 n3 ni ns) {pin pst nets : List Int} {Ai As Am : Option Addr} {ci cs cm : Nat}
    (hi : Ks w w.heap.size (.slice Ai ni ci) pin) (hs : Ks w w.heap.size (.slice As ns cs) pst) (hm : Ks w w.heap.size (.slice Am n cm) nets) (li : pin.length = ni) (ls : pst.length = ns) (lm : nets.length = n) (r : Bool) (hr : r = true ↔ ∀ i : Nat, i < n → lat nets i = wantV c.nodes pin pst nets i) :
    Calls Tryd.prog 20 #[.agg #[.slice A0 n c0, .slice A1 n1 c1, .slice A2 0 c2, .slice A3 n3 c3], .agg #[.slice Ai ni ci, .slice As ns cs], .slice Am n cm] w fun e w' => e = .returned (.bool r) ∧ BelW w w' := by
  obtain ⟨W1, HW1⟩ := named ((w.alloc (.cells #[.slice A0 n c0, .slice A1 n1 c1, .slice A2 0 c2, .slice A3 n3 c3] 27)).alloc (.cells #[.slice Ai ni ci, .slice As ns cs] 30))
  have hb1 : BelW w W1 := by rw [HW1.out]; exact below_new (below_new (Below.refl _ _) _) _
  have hfc : Fr W1 w.heap.size 27 (#[.slice A0 n c0, .slice A1 n1 c1, .slice A2 0 c2, .slice A3 n3 c3] : Array Value).toList := by rw [HW1.out]; exact Fr.alloc (Fr.made _ _ _ rfl) _
  have hfp : Fr W1 (w.heap.size + 1) 30 [.slice Ai ni ci, .slice As ns cs] := by rw [HW1.out]; exact Fr.made _ _ _ (by simp)
  have hz : w.heap.size + 1 < W1.heap.size := by rw [HW1.out]; simp
  have HK := Lib.hid (fun W (h : BelW W1 W) => H.next (joinB hb1 h))
  have HF := Lib.hid (fun W (h : BelW W1 W) => (And.intro ((hfc.below h).cell 0) (And.intro ((hfp.below h).cell 0) ((hfp.below h).cell 1))))
  obtain ⟨A, b, o, cc, e, hA, -, -, hcm⟩ := hm.opens
  simp only [Value.slice.injEq] at e
  obtain ⟨rfl, -, rfl⟩ := e
  obtain ⟨A, bi, oi, cc, e, hAi, -, -, hci⟩ := hi.opens
  simp only [Value.slice.injEq] at e
  obtain ⟨rfl, -, rfl⟩ := e
  obtain ⟨A, bs, os, cc, e, hAs, -, -, hcs⟩ := hs.opens
  simp only [Value.slice.injEq] at e
  obtain ⟨rfl, -, rfl⟩ := e
  rw [lm] at hA hcm
  rw [li] at hAi hci
  rw [ls] at hAs hcs
  have HA := Lib.hid hA
  have HAI := Lib.hid hAi
  have HAS := Lib.hid hAs
  have HCM : Hid (∀ W, BelW W1 W → ∀ k, k < n → W.cell? ⟨b, o + k, none⟩ = some (.int .u8 (nets.getD k 0))) := Lib.hid fun W h k hk => ((joinB hb1 h).cell (p := ⟨b, o + k, none⟩) (hcm k hk).1).trans (hcm k hk).2
  have HCI : Hid (∀ W, BelW W1 W → ∀ k, k < ni → W.cell? ⟨bi, oi + k, none⟩ = some (.int .u8 (pin.getD k 0))) := Lib.hid fun W h k hk => ((joinB hb1 h).cell (p := ⟨bi, oi + k, none⟩) (hci k hk).1).trans (hci k hk).2
  have HCS : Hid (∀ W, BelW W1 W → ∀ k, k < ns → W.cell? ⟨bs, os + k, none⟩ = some (.int .u8 (pst.getD k 0))) := Lib.hid fun W h k hk => ((joinB hb1 h).cell (p := ⟨bs, os + k, none⟩) (hcs k hk).1).trans (hcs k hk).2
  have HS := Lib.hid S
  have HR := Lib.hid hr
  have HB1 := Lib.hid hb1
  have hfew := S.few
  have hniB := S.niB
  have hnsB := S.nsB
  have HIL := Lib.hid (fun k => ofTo_len c.nodes [0] k)
  have HSL := Lib.hid (fun k => ofTo_len c.nodes [14] k)
  have HIU : Hid (∀ k, (ofTo c.nodes [0] (k + 1)).length = (ofTo c.nodes [0] k).length + (if (c.nodes.getD k default).kind = 0 then 1 else 0)) := Lib.hid fun k => by
    rw [ofTo_succ, List.length_append, isK_one]
    by_cases e : (c.nodes.getD k default).kind = 0
    · rw [if_pos (by rw [e]; rfl), if_pos e]; rfl
    · rw [if_neg (by simpa using e), if_neg e]; rfl
  have HSU : Hid (∀ k, (ofTo c.nodes [14] (k + 1)).length = (ofTo c.nodes [14] k).length + (if (c.nodes.getD k default).kind = 14 then 1 else 0)) := Lib.hid fun k => by
    rw [ofTo_succ, List.length_append, isK_one]
    by_cases e : (c.nodes.getD k default).kind = 14
    · rw [if_pos (by rw [e]; rfl), if_pos e]; rfl
    · rw [if_neg (by simpa using e), if_neg e]; rfl
  have HPI : Hid (∀ k, k < n → ∀ j, j < (c.nodes.getD k default).ins.length → 0 ≤ (c.nodes.getD k default).ins.getD j 0 ∧ (c.nodes.getD k default).ins.getD j 0 < (n : Int)) := Lib.hid fun k hk j hj => by
    have := (kinds_of S.vld S.h2 (i := k) (by rw [S.len]; exact hk) (H.kinds S.len k hk)).2 j hj
    rw [S.len] at this
    exact this
  have HPL : Hid (∀ k, k < n → (c.nodes.getD k default).ins.length ≤ 16) := Lib.hid fun k hk => S.vld.pins k (by rw [S.len]; exact hk)
  have HAT0 : Hid (∀ k, k < n → (c.nodes.getD k default).kind = 0 → (ofTo c.nodes [0] k).length < ni) := Lib.hid fun k hk e => by
    have := (ofTo_at n hk (kl := [0]) (nodes := c.nodes) (by rw [isK_one, e]; rfl)).1
    rw [S.hi] at this; exact this
  have HAT1 : Hid (∀ k, k < n → (c.nodes.getD k default).kind = 14 → (ofTo c.nodes [14] k).length < ns) := Lib.hid fun k hk e => by
    have := (ofTo_at n hk (kl := [14]) (nodes := c.nodes) (by rw [isK_one, e]; rfl)).1
    rw [S.hs] at this; exact this
  have HN := Lib.hid S.len
  obtain ⟨i1, hi1, hz0, hz1, hz2⟩ := info_parts info_val
  have HI := Lib.hid (And.intro hi1 (And.intro hz0 (And.intro hz1 hz2)))
  clear hi1 hz0 hz1 hz2 hA hAi hAs hcm hci hcs hi hs hm li ls lm hr S H hfc hfp hb1
  go_enter Tryd.func20, Tryd.ntmps20
  go_upto_region 1 with (fail)
  rw [← HW1.out]
  go_wp2
  go_loopw [7, 8, 9] (fun iv sv ki wr => BelW W1 wr ∧ ∃ k : Nat, k ≤ n ∧ ki = .int .i64 k ∧ iv = .int .i64 ((ofTo c.nodes [0] k).length : Int) ∧ sv = .int .i64 ((ofTo c.nodes [14] k).length : Int) ∧ ∀ i : Nat, i < k → lat nets i = wantV c.nodes pin pst nets i) (fun _ _ ki _ => n - (intOf ki).toNat)
  case atStart => exact ⟨Below.refl _ _, 0, Nat.zero_le _, rfl, rfl, rfl, fun i hi => absurd hi (by omega)⟩
  case round =>
    obtain ⟨hb, k, hk, rfl, rfl, rfl, hall⟩ := hrel
    have HB := Lib.hid hb
    have HALL := Lib.hid hall
    have hf := (HF.out wr hb).1
    have hil := HIL.out k
    have hsl := HSL.out k
    clear hb hall
    by_cases hlt : k < n
    · obtain ⟨b4, o4, A4, m4, c4, rfl, hlb, hm4, e0, e1, e2, e3, his, k0, -⟩ := (HK.out wr HB.out).node HN.out hlt
      have HIS := Lib.hid his
      have HM4 := Lib.hid hm4
      have hpl : m4 ≤ 16 := by rw [hm4]; exact HPL.out k hlt
      obtain ⟨kd, HKD⟩ := named (c.nodes.getD k default).kind
      obtain ⟨md, HMD⟩ := named (c.nodes.getD k default).mem
      obtain ⟨bd, HBD⟩ := named (c.nodes.getD k default).bit
      rw [← HKD.out] at e0 k0
      rw [← HMD.out] at e2
      rw [← HBD.out] at e3
      clear his hm4
      obtain ⟨W2, HW2⟩ := named (wr.alloc (.cells #[.int .u8 kd, .slice A4 m4 c4, .int .i64 md, .int .i64 bd] 62))
      have hnew : Below wr.heap.size wr W2 := by rw [HW2.out]; exact below_new (Below.refl _ _) _
      have hfv : Fr W2 wr.heap.size 62 [.int .u8 kd, .slice A4 m4 c4, .int .i64 md, .int .i64 bd] := by rw [HW2.out]; exact Fr.made _ _ _ rfl
      obtain ⟨v, HV⟩ := named wr.heap.size
      rw [← HV.out] at hfv
      have HB2 := Lib.hid (joinB HB.out hnew)
      have HFV : Hid (∀ W, BelW W2 W → W.cell? ⟨v, 0, none⟩ = some (.int .u8 kd) ∧ W.cell? ⟨v, 1, none⟩ = some (.slice A4 m4 c4)) := Lib.hid fun W h => ⟨(hfv.below h).cell 0, (hfv.below h).cell 1⟩
      obtain ⟨A, b5, o5, cc, e, hA5, -, -, hc5⟩ := HIS.out.opens
      simp only [Value.slice.injEq] at e
      obtain ⟨rfl, -, rfl⟩ := e
      rw [← HM4.out] at hA5 hc5
      have HA5 := Lib.hid hA5
      have HC5 : Hid (∀ W, BelW W2 W → ∀ m, m < m4 → W.cell? ⟨b5, o5 + m, none⟩ = some (.int .i64 ((c.nodes.getD k default).ins.getD m 0))) := Lib.hid fun W h m hm => ((joinB hnew h).cell (p := ⟨b5, o5 + m, none⟩) (hc5 m hm).1).trans (hc5 m hm).2
      obtain ⟨il, HILV⟩ := named (ofTo c.nodes [0] k).length
      obtain ⟨sl, HSLV⟩ := named (ofTo c.nodes [14] k).length
      rw [← HILV.out] at hil
      rw [← HSLV.out] at hsl
      rw [← HILV.out, ← HSLV.out]
      clear hnew hfv hA5 hc5
      go_upto_region 6 with (fail)
      rw [← HW2.out, ← HV.out]
      clear hf e0 e1 e2 e3
      have y1 := (HFV.out W2 (Below.refl _ _)).2
      go_wp2
      clear y1
      go_loopw [11, 12] (fun lv mi wi => ∃ m : Nat, m ≤ m4 ∧ mi = .int .i64 m ∧ BelW W2 wi ∧ VStk wi W2.heap.size lv (((c.nodes.getD k default).ins.take m).map (lat nets))) (fun _ mi _ => m4 - (intOf mi).toNat)
      case atStart => exact ⟨0, Nat.zero_le _, rfl, Below.refl _ _, VStk.nil _ _⟩
      case round =>
        obtain ⟨m, hm, rfl, hbi, hst⟩ := hrel
        have hbw : BelW W1 wr := joinB HB2.out hbi
        obtain ⟨A6, c6, rfl, hle6, hc6, -⟩ := hst.form
        have hol : (((c.nodes.getD k default).ins.take m).map (lat nets)).length = m := by rw [List.length_map, List.length_take, ← HM4.out]; omega
        rw [hol] at hle6
        have HST := Lib.hid hst
        have HBI := Lib.hid hbi
        have y1 := (HFV.out wr hbi).2
        by_cases hltm : m < m4
        · obtain rfl := HA5.out (by omega)
          have f5 := HC5.out wr hbi m hltm
          obtain ⟨p0, p1⟩ := HPI.out k hlt m (by rw [← HM4.out]; exact hltm)
          have HTK : Hid (((c.nodes.getD k default).ins.take (m + 1)).map (lat nets) = ((c.nodes.getD k default).ins.take m).map (lat nets) ++ [lat nets ((c.nodes.getD k default).ins.getD m 0)]) := Lib.hid (by rw [take_succ_getD _ _ (by rw [← HM4.out]; exact hltm), List.map_append]; rfl)
          obtain ⟨x, HX⟩ := named ((c.nodes.getD k default).ins.getD m 0)
          rw [← HX.out] at f5 p0 p1 HTK
          obtain ⟨xn, hxn⟩ := Int.eq_ofNat_of_zero_le p0
          subst hxn
          have hxn : xn < n := by omega
          obtain rfl := HA.out (by omega)
          have f6 := HCM.out wr hbw xn hxn
          obtain ⟨y, HY⟩ := named (nets.getD xn 0)
          have HYE : Hid (lat nets (xn : Int) = y) := Lib.hid (by rw [HY.out]; unfold lat; rw [Int.toNat_natCast])
          rw [← HY.out] at f6
          rw [HYE.out] at HTK
          obtain ⟨st, HL⟩ := named (((c.nodes.getD k default).ins.take m).map (lat nets))
          rw [← HL.out] at HST hol HTK
          rw [← HL.out, hol]
          have HST2 : Hid (VStk wr W2.heap.size (.slice A6 m c6) st) := Lib.hid (by have := HST.out; rw [hol] at this; exact this)
          have HOL := Lib.hid hol
          have HSTR : Hid (wr.ownsRow W2.heap.size 40 1 (.slice A6 m c6) m (st.map (Value.int .u8))) := Lib.hid (by have := HST2.out; unfold VStk at this; rw [HOL.out] at this; exact this)
          have hwz : W2.heap.size ≤ wr.heap.size := Below.size hbi
          clear hst hbi hol hbw
          go_wp2_with (at_builtin; refine wpList_append_own_at _ rfl _ _ 28 rfl W2.heap.size 40 i1 (.int .u8 0) 1 1 Tryd.underlying28 HI.out.1 HI.out.2.1 HI.out.2.2.1 HI.out.2.2.2 rfl (by decide) _ _ _ rfl (World.ownsRow.alloc HSTR.out _) ⟨wr.heap.size, 0, none⟩ 1 1 [.int .u8 y] rfl rfl (by have := one_new wr (.int .u8 y) 40; simpa using this) (ints_oneCell .u8 [y]) (by unfold maxLen; omega) (by omega) (by first | omega | (simp; omega)) ?_; intro v' w5 hown' hgrow hnil hloc; have HF5 := Lib.hid (vpush (x := y) (by first | omega | (simp; omega)) HBI.out HST2.out (by rw [HOL.out]; exact hown') hgrow); clear hown' hgrow hnil hloc)
          go_roundw
          case rel => exact ⟨m + 1, by omega, by go_num, HF5.out.1, by rw [HTK.out]; exact HF5.out.2⟩
          case measure => simp [intOf]; omega
        · obtain rfl : m4 = m := by omega
          have hta : ((c.nodes.getD k default).ins.take m4).map (lat nets) = (c.nodes.getD k default).ins.map (lat nets) := by rw [List.take_of_length_le (by rw [← HM4.out]; exact Nat.le_refl _)]
          rw [hta] at HST hol
          rw [hta, hol]
          obtain ⟨st, HL⟩ := named ((c.nodes.getD k default).ins.map (lat nets))
          rw [← HL.out] at HST hol
          have hst2 : VStk wr W2.heap.size (.slice A6 m4 c6) st := by have := HST.out; rw [hol] at this; exact this
          have HEV := Lib.hid (Lg.eval_any kd k0 (Nat.le_refl _) hst2.ks.vs (HK.out wr hbw).tabs)
          obtain ⟨ev, HEVV⟩ := named (evalL kd st)
          rw [← HEVV.out] at HEV
          have HBW := Lib.hid hbw
          have y0 := (HFV.out wr hbi).1
          clear hst hst2 hbw
          go_upto_region 11 with (fail)
          go_upto_region 12 with (go_at_call 40; (with_reducible refine HEV.out.mono ?_); rintro e w6 ⟨rfl, hb6⟩; have HB6 := Lib.hid (joinB HBW.out hb6); have HB26 := Lib.hid (joinB HBI.out hb6); clear hb6)
          have z0 := (HFV.out w6 HB26.out).1
          clear y0 y1
          have g1 := (HF.out w6 HB6.out).2.1
          have g2 := (HF.out w6 HB6.out).2.2
          obtain rfl := HA.out (by omega)
          have f7 := HCM.out w6 HB6.out k hlt
          obtain ⟨y, HY⟩ := named (nets.getD k 0)
          have HYE : Hid (lat nets (k : Int) = y) := Lib.hid (by rw [HY.out]; unfold lat; rw [Int.toNat_natCast])
          rw [← HY.out] at f7
          by_cases e0 : kd = 0
          · have t0 : (kd == 0) = true := by simpa using e0
            have t14 : (kd == 14) = false := by rw [e0]; decide
            have hlt0 : il < ni := by rw [HILV.out]; exact HAT0.out k hlt (HKD.out.symm.trans e0)
            obtain rfl := HAI.out (by omega)
            have f8 := HCI.out w6 HB6.out il hlt0
            obtain ⟨z, HZ⟩ := named (pin.getD il 0)
            rw [← HZ.out] at f8
            have HWE : Hid (wantV c.nodes pin pst nets k = z) := Lib.hid (by unfold wantV; rw [if_neg (by rw [← HKD.out, e0]; decide), if_pos (HKD.out.symm.trans e0), ← HILV.out, HZ.out])
            by_cases hyw : y = z
            · have HNX : Hid (∀ i : Nat, i < k + 1 → lat nets i = wantV c.nodes pin pst nets i) := Lib.hid fun i hi => by
                by_cases e : i = k
                · subst e; rw [HWE.out, ← hyw]; exact HYE.out
                · exact HALL.out i (by omega)
              have t9 : (y != z) = false := by simp [hyw]
              go_wp2
              go_roundw
              case rel => exact ⟨HB6.out, k + 1, by omega, by go_num, by rw [HIU.out k, ← HKD.out, ← HILV.out]; (rw [if_pos e0]; go_num), by rw [HSU.out k, ← HKD.out, ← HSLV.out]; (rw [if_neg (by rw [e0]; decide)]; rfl), HNX.out⟩
              case measure => simp [intOf]; omega
            · have hrf : r = false := by
                cases hh : r
                · rfl
                · exact absurd ((HYE.out.symm.trans (HR.out.1 hh k hlt)).trans HWE.out) hyw
              subst hrf
              have t9 : (y != z) = true := by simpa using hyw
              go_wp2
              go_ret
              exact ⟨rfl, joinB HB1.out HB6.out⟩
          · have t0 : (kd == 0) = false := by simpa using e0
            by_cases e14 : kd = 14
            · have t14 : (kd == 14) = true := by simpa using e14
              have hlt1 : sl < ns := by rw [HSLV.out]; exact HAT1.out k hlt (HKD.out.symm.trans e14)
              obtain rfl := HAS.out (by omega)
              have f8 := HCS.out w6 HB6.out sl hlt1
              obtain ⟨z, HZ⟩ := named (pst.getD sl 0)
              rw [← HZ.out] at f8
              have HWE : Hid (wantV c.nodes pin pst nets k = z) := Lib.hid (by unfold wantV; rw [if_pos (HKD.out.symm.trans e14), ← HSLV.out, HZ.out])
              by_cases hyw : y = z
              · have HNX : Hid (∀ i : Nat, i < k + 1 → lat nets i = wantV c.nodes pin pst nets i) := Lib.hid fun i hi => by
                  by_cases e : i = k
                  · subst e; rw [HWE.out, ← hyw]; exact HYE.out
                  · exact HALL.out i (by omega)
                have t9 : (y != z) = false := by simp [hyw]
                go_wp2
                go_roundw
                case rel => exact ⟨HB6.out, k + 1, by omega, by go_num, by rw [HIU.out k, ← HKD.out, ← HILV.out]; (rw [if_neg e0]; rfl), by rw [HSU.out k, ← HKD.out, ← HSLV.out]; (rw [if_pos e14]; go_num), HNX.out⟩
                case measure => simp [intOf]; omega
              · have hrf : r = false := by
                  cases hh : r
                  · rfl
                  · exact absurd ((HYE.out.symm.trans (HR.out.1 hh k hlt)).trans HWE.out) hyw
                subst hrf
                have t9 : (y != z) = true := by simpa using hyw
                go_wp2
                go_ret
                exact ⟨rfl, joinB HB1.out HB6.out⟩
            · have t14 : (kd == 14) = false := by simpa using e14
              have HWE : Hid (wantV c.nodes pin pst nets k = ev) := Lib.hid (by unfold wantV; rw [if_neg (by rw [← HKD.out]; exact e14), if_neg (by rw [← HKD.out]; exact e0), ← HKD.out, HEVV.out, HL.out])
              by_cases hyw : y = ev
              · have HNX : Hid (∀ i : Nat, i < k + 1 → lat nets i = wantV c.nodes pin pst nets i) := Lib.hid fun i hi => by
                  by_cases e : i = k
                  · subst e; rw [HWE.out, ← hyw]; exact HYE.out
                  · exact HALL.out i (by omega)
                have t9 : (y != ev) = false := by simp [hyw]
                go_wp2
                go_roundw
                case rel => exact ⟨HB6.out, k + 1, by omega, by go_num, by rw [HIU.out k, ← HKD.out, ← HILV.out]; (rw [if_neg e0]; rfl), by rw [HSU.out k, ← HKD.out, ← HSLV.out]; (rw [if_neg e14]; rfl), HNX.out⟩
                case measure => simp [intOf]; omega
              · have hrf : r = false := by
                  cases hh : r
                  · rfl
                  · exact absurd ((HYE.out.symm.trans (HR.out.1 hh k hlt)).trans HWE.out) hyw
                subst hrf
                have t9 : (y != ev) = true := by simpa using hyw
                go_wp2
                go_ret
                exact ⟨rfl, joinB HB1.out HB6.out⟩
    · obtain rfl : n = k := by omega
      have hrt : r = true := HR.out.2 HALL.out
      subst hrt
      go_wp2
      go_ret
      exact ⟨rfl, joinB HB1.out HB.out⟩
end Go.Proofs.YtbkfpaklmepglaaDoor
