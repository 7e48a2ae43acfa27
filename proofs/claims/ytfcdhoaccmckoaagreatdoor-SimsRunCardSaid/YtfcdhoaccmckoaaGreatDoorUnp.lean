/- SimsUnique, plain side: what the nodes ask of values, and that only the nets' values meet it. -/
import Derived.Test.YtfcdhoaccmckoaaGreatDoorCs
namespace Go.Proofs.YtfcdhoaccmckoaaGreatDoor

theorem asg_cons (out : List Int) (x : Int) (l : List Int) (v : Int) (vs : List Int) : asg out (x :: l) (v :: vs) = asg (out.set x.toNat v) l vs := rfl
theorem asg_off : ∀ (l vs out : List Int) (i : Nat), (∀ y ∈ l, 0 ≤ y ∧ y ≠ (i : Int)) → lat (asg out l vs) i = lat out i := by
  intro l
  induction l with
  | nil => intro vs out i _; rfl
  | cons x l ih =>
    intro vs out i h
    cases vs with
    | nil => rfl
    | cons v vs =>
      rw [asg_cons, ih _ _ _ fun y hy => h y (List.mem_cons_of_mem _ hy), lat_set _ (by omega), if_neg (fun e => (h x List.mem_cons_self).2 (by have := (h x List.mem_cons_self).1; omega))]
theorem asg_on : ∀ (l vs out : List Int), l.Pairwise (· < ·) → (∀ y ∈ l, 0 ≤ y ∧ y < (out.length : Int)) → l.length = vs.length → ∀ k, k < l.length → lat (asg out l vs) (l.getD k 0) = vs.getD k 0 := by
  intro l
  induction l with
  | nil => intro vs out _ _ _ k hk; exact absurd hk (by simp)
  | cons x l ih =>
    intro vs out hp hr hl k hk
    cases vs with
    | nil => cases hl
    | cons v vs =>
      have hx := hr x List.mem_cons_self
      rw [asg_cons]
      cases k with
      | zero =>
        obtain ⟨j, rfl⟩ := Int.eq_ofNat_of_zero_le hx.1
        show lat _ (j : Int) = v
        rw [asg_off l vs _ j fun y hy => ⟨(hr y (List.mem_cons_of_mem _ hy)).1, fun e => by have := (List.pairwise_cons.1 hp).1 y hy; omega⟩, lat_set _ (by omega), if_pos ⟨by omega, by omega⟩]
      | succ k =>
        show lat _ (l.getD k 0) = vs.getD k 0
        exact ih vs _ (List.pairwise_cons.1 hp).2 (fun y hy => by rw [List.length_set]; exact hr y (List.mem_cons_of_mem _ hy)) (by simpa using hl) k (by simpa using hk)
theorem ofTo_pair (nodes : List Nd) (kl : List Int) (n : Nat) : (ofTo nodes kl n).Pairwise (· < ·) := by
  unfold ofTo
  rw [List.pairwise_map]
  exact (List.pairwise_lt_range.filter _).imp fun h => by omega
theorem ofTo_at {nodes : List Nd} {kl : List Int} : ∀ (n : Nat) {i : Nat}, i < n → isK kl (nodes.getD i default).kind = true → (ofTo nodes kl i).length < (ofTo nodes kl n).length ∧ (ofTo nodes kl n).getD (ofTo nodes kl i).length 0 = (i : Int) := by
  intro n
  induction n with
  | zero => intro i hi; exact absurd hi (by omega)
  | succ n ih =>
    intro i hi hk
    rw [ofTo_succ]
    by_cases e : i = n
    · subst e
      rw [if_pos hk]
      refine ⟨by simp, ?_⟩
      simp [List.getD_eq_getElem?_getD]
    · obtain ⟨h1, h2⟩ := ih (i := i) (by omega) hk
      refine ⟨by rw [List.length_append]; omega, ?_⟩
      rw [List.getD_eq_getElem?_getD, List.getElem?_append_left h1, ← List.getD_eq_getElem?_getD]
      exact h2
/-- The base of a pattern at an input. -/
theorem base_in {nodes : List Nd} {n : Nat} {pin pst : List Int} (hi : (ofTo nodes [0] n).length = pin.length) {i : Nat} (hn : i < n) (hk : (nodes.getD i default).kind = 0) :
    lat (baseV n (ofTo nodes [0] n) (ofTo nodes [14] n) pin pst) i = pin.getD (ofTo nodes [0] i).length 0 := by
  have hat := ofTo_at n hn (kl := [0]) (nodes := nodes) (by rw [isK_one, hk]; rfl)
  unfold baseV
  rw [asg_off _ _ _ i fun y hy => ?_, ← hat.2]
  · exact asg_on _ _ _ (ofTo_pair _ _ _) (fun y hy => by have := ofTo_in hy; simp; omega) hi _ hat.1
  · obtain ⟨j, rfl, hj, hj2⟩ := ofTo_mem hy
    refine ⟨by omega, fun e => ?_⟩
    have : j = i := by omega
    subst this
    rw [isK_one, hk] at hj2
    simp at hj2
/-- The base of a pattern at a state. -/
theorem base_st {nodes : List Nd} {n : Nat} {pin pst : List Int} (hs : (ofTo nodes [14] n).length = pst.length) {i : Nat} (hn : i < n) (hk : (nodes.getD i default).kind = 14) :
    lat (baseV n (ofTo nodes [0] n) (ofTo nodes [14] n) pin pst) i = pst.getD (ofTo nodes [14] i).length 0 := by
  have hat := ofTo_at n hn (kl := [14]) (nodes := nodes) (by rw [isK_one, hk]; rfl)
  unfold baseV
  rw [← hat.2]
  exact asg_on _ _ _ (ofTo_pair _ _ _) (fun y hy => by have := ofTo_in hy; simp [asg_len]; omega) hs _ hat.1

/-- What node i asks for, in the law's words. -/
def wantV (nodes : List Nd) (pin pst nets : List Int) (i : Nat) : Int :=
  if (nodes.getD i default).kind = 14 then pst.getD (ofTo nodes [14] i).length 0
  else if (nodes.getD i default).kind = 0 then pin.getD (ofTo nodes [0] i).length 0
  else evalL (nodes.getD i default).kind ((nodes.getD i default).ins.map (lat nets))
theorem cln_low {v : Int} (h : v ≤ 3) : cln v = v := by unfold cln; rw [if_neg (by omega)]
theorem lat_in {nets : List Int} (hv : ∀ y ∈ nets, 0 ≤ y ∧ y ≤ 3) (x : Int) : 0 ≤ lat nets x ∧ lat nets x ≤ 3 := by
  unfold lat
  rw [List.getD_eq_getElem?_getD]
  by_cases h : x.toNat < nets.length
  · rw [List.getElem?_eq_getElem h]; exact hv _ (List.getElem_mem h)
  · rw [List.getElem?_eq_none (by omega)]; simp
/-- A valid circuit without memories has nodes of these kinds. -/
theorem kinds_of {c : Ck} {L : List Int} {m : Nat} (V : Vld c L m) (hm : c.mems.length = 0) {i : Nat} (hi : i < c.nodes.length) (h0 : 0 ≤ (c.nodes.getD i default).kind) :
    ((c.nodes.getD i default).kind = 0 ∨ (c.nodes.getD i default).kind = 14 ∨ cmb (c.nodes.getD i default).kind = true) ∧ ∀ j, j < (c.nodes.getD i default).ins.length → 0 ≤ (c.nodes.getD i default).ins.getD j 0 ∧ (c.nodes.getD i default).ins.getD j 0 < (c.nodes.length : Int) := by
  have h := nodeErr_zero ((shape_zero (chk_shape V.ok)).2.2.2.2.1 _ (getD_mem_nd hi))
  refine ⟨?_, fun j hj => ?_⟩
  · have h15 : (c.nodes.getD i default).kind ≠ 15 := fun e => by
      have hp := h.2.2.2.2.2
      unfold placeOk at hp
      rw [if_pos e, hm] at hp
      simp [isIdx] at hp
      omega
    unfold cmb
    by_cases e0 : (c.nodes.getD i default).kind = 0
    · exact .inl e0
    · by_cases e1 : (c.nodes.getD i default).kind = 14
      · exact .inr (.inl e1)
      · refine .inr (.inr ?_)
        have := h.1
        rw [Bool.and_eq_true, decide_eq_true_iff, decide_eq_true_iff]
        omega
  · have ha := h.2.2.2.1
    unfold areIdx at ha
    have hz : anyP (fun x => !isIdx c.nodes.length x) (c.nodes.getD i default).ins = false := by
      cases hh : anyP (fun x => !isIdx c.nodes.length x) (c.nodes.getD i default).ins
      · rfl
      · rw [hh] at ha; cases ha
    have hb := List.any_eq_false.1 hz _ (ints_mem hj)
    cases hx : isIdx c.nodes.length ((c.nodes.getD i default).ins.getD j 0)
    · rw [hx] at hb; exact absurd rfl hb
    · unfold isIdx at hx
      rw [Bool.and_eq_true, decide_eq_true_iff, decide_eq_true_iff] at hx
      exact hx
/-- What the law asks of values is what the nets' values are. -/
theorem holds_net {c : Ck} {L : List Int} {n : Nat} (V : Vld c L n) (hm : c.mems.length = 0) (hk : ∀ i : Nat, i < n → 0 ≤ (c.nodes.getD i default).kind) {pin pst nets : List Int} (hi : (ofTo c.nodes [0] n).length = pin.length) (hs : (ofTo c.nodes [14] n).length = pst.length) (hl : nets.length = n) (hv : ∀ y ∈ nets, 0 ≤ y ∧ y ≤ 3) :
    (∀ i : Nat, i < n → lat nets i = wantV c.nodes pin pst nets i) ↔ Net c.nodes (baseV n (ofTo c.nodes [0] n) (ofTo c.nodes [14] n) pin pst) nets := by
  have hlen := V.len
  have key : ∀ i : Nat, i < n → wantV c.nodes pin pst nets i = if cmb (c.nodes.getD i default).kind = true then gateV c.nodes nets i else lat (baseV n (ofTo c.nodes [0] n) (ofTo c.nodes [14] n) pin pst) i := fun i hin => by
    unfold wantV
    rcases (kinds_of V hm (i := i) (by omega) (hk i hin)).1 with e | e | e
    · rw [base_in hi hin e, e]; rfl
    · rw [base_st hs hin e, e]; rfl
    · have h14 : ¬ (c.nodes.getD i default).kind = 14 := fun h => by rw [h] at e; revert e; decide
      have h00 : ¬ (c.nodes.getD i default).kind = 0 := fun h => by rw [h] at e; revert e; decide
      rw [if_neg h14, if_neg h00, if_pos e]
      unfold gateV
      rw [Int.toNat_natCast]
      congr 1
      exact List.map_congr_left fun x _ => (cln_low (lat_in hv x).2).symm
  constructor
  · intro h
    refine ⟨by omega, fun i hi' => ?_⟩
    rw [h i (by omega), key i (by omega)]
  · intro h i hin
    rw [key i hin]
    exact h.2 i (by omega)
theorem rd_in (a : Int) : 0 ≤ rd a ∧ rd a ≤ 3 := by rcases rd_cases a with h | h | h <;> omega
theorem nt_in (a : Int) : 0 ≤ nt a ∧ nt a ≤ 3 := by unfold nt; split <;> (try split) <;> omega
theorem mx_in (a b d : Int) : 0 ≤ mx a b d ∧ mx a b d ≤ 3 := by
  have h1 := rd_in b
  have h2 := rd_in d
  unfold mx
  split
  · exact h1
  split
  · exact h2
  split
  · exact h1
  · omega
theorem tr_in (a b : Int) : 0 ≤ tr a b ∧ tr a b ≤ 3 := by
  have h1 := rd_in b
  unfold tr
  split
  · omega
  split
  · exact h1
  · omega
theorem xor_in (l : List Int) : 0 ≤ xorL l ∧ xorL l ≤ 3 := by
  unfold xorL
  split
  · omega
  · rcases par_cases l with h | h <;> omega
theorem and_in (l : List Int) : 0 ≤ andL l ∧ andL l ≤ 3 := by unfold andL; split <;> (try split) <;> omega
theorem or_in (l : List Int) : 0 ≤ orL l ∧ orL l ≤ 3 := by unfold orL; split <;> (try split) <;> omega
theorem bus_in (l : List Int) : 0 ≤ busL l ∧ busL l ≤ 3 := by unfold busL; split <;> (try split) <;> (try split) <;> omega
/-- The nets' values are within bounds. -/
theorem evalL_in (k : Int) (l : List Int) : 0 ≤ evalL k l ∧ evalL k l ≤ 3 := by
  have h1 := rd_in (l.getD 0 0)
  have h2 := nt_in (l.getD 0 0)
  have h5 := and_in l
  have h6 := or_in l
  have h7 := xor_in l
  have h8 := bus_in l
  have h9 := mx_in (l.getD 0 0) (l.getD 1 0) (l.getD 2 0)
  have h10 := tr_in (l.getD 0 0) (l.getD 1 0)
  have h11 := nt_in (andL l)
  have h12 := nt_in (orL l)
  have h13 := nt_in (xorL l)
  unfold evalL
  split
  · omega
  unfold funL
  repeat' split
  all_goals omega
theorem asg_in {l vs out : List Int} (hv : ∀ y ∈ vs, 0 ≤ y ∧ y ≤ 3) (ho : ∀ y ∈ out, 0 ≤ y ∧ y ≤ 3) : ∀ y ∈ asg out l vs, 0 ≤ y ∧ y ≤ 3 := by
  unfold asg
  induction l generalizing vs out with
  | nil => exact ho
  | cons x l ih =>
    cases vs with
    | nil => exact ho
    | cons v vs =>
      exact ih (vs := vs) (out := out.set x.toNat v) (fun y hy => hv y (List.mem_cons_of_mem _ hy)) fun y hy => by
        rcases List.mem_or_eq_of_mem_set hy with h | rfl
        · exact ho y h
        · exact hv _ List.mem_cons_self
theorem net_in {nodes : List Nd} {n : Nat} {ins sts pin pst nets : List Int} (h : Net nodes (baseV n ins sts pin pst) nets) (hi : ∀ y ∈ pin, 0 ≤ y ∧ y ≤ 3) (hs : ∀ y ∈ pst, 0 ≤ y ∧ y ≤ 3) : ∀ y ∈ nets, 0 ≤ y ∧ y ≤ 3 := fun y hy => by
  obtain ⟨k, hk, rfl⟩ := List.mem_iff_getElem.1 hy
  have e : lat nets k = nets[k] := by unfold lat; rw [Int.toNat_natCast, List.getD_eq_getElem?_getD, List.getElem?_eq_getElem hk]; rfl
  rw [← e, h.2 k (by rw [← h.1]; exact hk)]
  split
  · exact evalL_in _ _
  · refine lat_in (asg_in hs (asg_in hi fun y hy => ?_)) _
    rw [(List.mem_replicate.1 hy).2]
    omega
/-- Only the nets' values are what the nodes ask. -/
theorem net_only {c : Ck} {L : List Int} {n : Nat} (V : Vld c L n) {pin pst a b : List Int} (h : Net c.nodes (baseV n (ofTo c.nodes [0] n) (ofTo c.nodes [14] n) pin pst) a) (h' : Net c.nodes (baseV n (ofTo c.nodes [0] n) (ofTo c.nodes [14] n) pin pst) b) : a = b :=
  Net.same V.wf V.lvl h h' fun _ _ _ => rfl
end Go.Proofs.YtfcdhoaccmckoaaGreatDoor

