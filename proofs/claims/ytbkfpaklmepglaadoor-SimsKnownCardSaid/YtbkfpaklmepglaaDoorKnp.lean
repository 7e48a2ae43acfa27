/- SimsKnown, plain side: known values make known values where there is no Tri. -/
import Derived.Test.YtbkfpaklmepglaaDoorCs
namespace Go.Proofs.YtbkfpaklmepglaaDoor

theorem asg_cons (out : List Int) (x : Int) (l : List Int) (v : Int) (vs : List Int) : asg out (x :: l) (v :: vs) = asg (out.set x.toNat v) l vs := rfl
theorem asg_off : ∀ (l vs out : List Int) (i : Nat), (∀ y ∈ l, 0 ≤ y ∧ y ≠ (i : Int)) → lat (asg out l vs) i = lat out i := by
  intro l
  induction l with
  | nil => intro vs out i _; rfl
  | cons x l ih =>
    intro vs out i h
    cases vs with
    | nil => rfl
    | cons v vs =>
      rw [asg_cons, ih _ _ _ fun y hy => h y (List.mem_cons_of_mem _ hy), lat_set _ (by omega), if_neg (fun e => (h x List.mem_cons_self).2 (by have := (h x List.mem_cons_self).1; omega))]
theorem asg_on : ∀ (l vs out : List Int), l.Pairwise (· < ·) → (∀ y ∈ l, 0 ≤ y ∧ y < (out.length : Int)) → l.length = vs.length → ∀ k, k < l.length → lat (asg out l vs) (l.getD k 0) = vs.getD k 0 := by
  intro l
  induction l with
  | nil => intro vs out _ _ _ k hk; exact absurd hk (by simp)
  | cons x l ih =>
    intro vs out hp hr hl k hk
    cases vs with
    | nil => cases hl
    | cons v vs =>
      have hx := hr x List.mem_cons_self
      rw [asg_cons]
      cases k with
      | zero =>
        obtain ⟨j, rfl⟩ := Int.eq_ofNat_of_zero_le hx.1
        show lat _ (j : Int) = v
        rw [asg_off l vs _ j fun y hy => ⟨(hr y (List.mem_cons_of_mem _ hy)).1, fun e => by have := (List.pairwise_cons.1 hp).1 y hy; omega⟩, lat_set _ (by omega), if_pos ⟨by omega, by omega⟩]
      | succ k =>
        show lat _ (l.getD k 0) = vs.getD k 0
        exact ih vs _ (List.pairwise_cons.1 hp).2 (fun y hy => by rw [List.length_set]; exact hr y (List.mem_cons_of_mem _ hy)) (by simpa using hl) k (by simpa using hk)
theorem ofTo_pair (nodes : List Nd) (kl : List Int) (n : Nat) : (ofTo nodes kl n).Pairwise (· < ·) := by
  unfold ofTo
  rw [List.pairwise_map]
  exact (List.pairwise_lt_range.filter _).imp fun h => by omega
theorem ofTo_at {nodes : List Nd} {kl : List Int} : ∀ (n : Nat) {i : Nat}, i < n → isK kl (nodes.getD i default).kind = true → (ofTo nodes kl i).length < (ofTo nodes kl n).length ∧ (ofTo nodes kl n).getD (ofTo nodes kl i).length 0 = (i : Int) := by
  intro n
  induction n with
  | zero => intro i hi; exact absurd hi (by omega)
  | succ n ih =>
    intro i hi hk
    rw [ofTo_succ]
    by_cases e : i = n
    · subst e
      rw [if_pos hk]
      refine ⟨by simp, ?_⟩
      simp [List.getD_eq_getElem?_getD]
    · obtain ⟨h1, h2⟩ := ih (i := i) (by omega) hk
      refine ⟨by rw [List.length_append]; omega, ?_⟩
      rw [List.getD_eq_getElem?_getD, List.getElem?_append_left h1, ← List.getD_eq_getElem?_getD]
      exact h2
/-- The base of a pattern at an input. -/
theorem base_in {nodes : List Nd} {n : Nat} {pin pst : List Int} (hi : (ofTo nodes [0] n).length = pin.length) {i : Nat} (hn : i < n) (hk : (nodes.getD i default).kind = 0) :
    lat (baseV n (ofTo nodes [0] n) (ofTo nodes [14] n) pin pst) i = pin.getD (ofTo nodes [0] i).length 0 := by
  have hat := ofTo_at n hn (kl := [0]) (nodes := nodes) (by rw [isK_one, hk]; rfl)
  unfold baseV
  rw [asg_off _ _ _ i fun y hy => ?_, ← hat.2]
  · exact asg_on _ _ _ (ofTo_pair _ _ _) (fun y hy => by have := ofTo_in hy; simp; omega) hi _ hat.1
  · obtain ⟨j, rfl, hj, hj2⟩ := ofTo_mem hy
    refine ⟨by omega, fun e => ?_⟩
    have : j = i := by omega
    subst this
    rw [isK_one, hk] at hj2
    simp at hj2
/-- The base of a pattern at a state. -/
theorem base_st {nodes : List Nd} {n : Nat} {pin pst : List Int} (hs : (ofTo nodes [14] n).length = pst.length) {i : Nat} (hn : i < n) (hk : (nodes.getD i default).kind = 14) :
    lat (baseV n (ofTo nodes [0] n) (ofTo nodes [14] n) pin pst) i = pst.getD (ofTo nodes [14] i).length 0 := by
  have hat := ofTo_at n hn (kl := [14]) (nodes := nodes) (by rw [isK_one, hk]; rfl)
  unfold baseV
  rw [← hat.2]
  exact asg_on _ _ _ (ofTo_pair _ _ _) (fun y hy => by have := ofTo_in hy; simp [asg_len]; omega) hs _ hat.1

/-- What node i asks for, in the law's words. -/
def wantV (nodes : List Nd) (pin pst nets : List Int) (i : Nat) : Int :=
  if (nodes.getD i default).kind = 14 then pst.getD (ofTo nodes [14] i).length 0
  else if (nodes.getD i default).kind = 0 then pin.getD (ofTo nodes [0] i).length 0
  else evalL (nodes.getD i default).kind ((nodes.getD i default).ins.map (lat nets))
theorem cln_low {v : Int} (h : v ≤ 3) : cln v = v := by unfold cln; rw [if_neg (by omega)]
theorem lat_in {nets : List Int} (hv : ∀ y ∈ nets, 0 ≤ y ∧ y ≤ 3) (x : Int) : 0 ≤ lat nets x ∧ lat nets x ≤ 3 := by
  unfold lat
  rw [List.getD_eq_getElem?_getD]
  by_cases h : x.toNat < nets.length
  · rw [List.getElem?_eq_getElem h]; exact hv _ (List.getElem_mem h)
  · rw [List.getElem?_eq_none (by omega)]; simp
/-- A valid circuit without memories has nodes of these kinds. -/
theorem kinds_of {c : Ck} {L : List Int} {m : Nat} (V : Vld c L m) (hm : c.mems.length = 0) {i : Nat} (hi : i < c.nodes.length) (h0 : 0 ≤ (c.nodes.getD i default).kind) :
    ((c.nodes.getD i default).kind = 0 ∨ (c.nodes.getD i default).kind = 14 ∨ cmb (c.nodes.getD i default).kind = true) ∧ ∀ j, j < (c.nodes.getD i default).ins.length → 0 ≤ (c.nodes.getD i default).ins.getD j 0 ∧ (c.nodes.getD i default).ins.getD j 0 < (c.nodes.length : Int) := by
  have h := nodeErr_zero ((shape_zero (chk_shape V.ok)).2.2.2.2.1 _ (getD_mem_nd hi))
  refine ⟨?_, fun j hj => ?_⟩
  · have h15 : (c.nodes.getD i default).kind ≠ 15 := fun e => by
      have hp := h.2.2.2.2.2
      unfold placeOk at hp
      rw [if_pos e, hm] at hp
      simp [isIdx] at hp
      omega
    unfold cmb
    by_cases e0 : (c.nodes.getD i default).kind = 0
    · exact .inl e0
    · by_cases e1 : (c.nodes.getD i default).kind = 14
      · exact .inr (.inl e1)
      · refine .inr (.inr ?_)
        have := h.1
        rw [Bool.and_eq_true, decide_eq_true_iff, decide_eq_true_iff]
        omega
  · have ha := h.2.2.2.1
    unfold areIdx at ha
    have hz : anyP (fun x => !isIdx c.nodes.length x) (c.nodes.getD i default).ins = false := by
      cases hh : anyP (fun x => !isIdx c.nodes.length x) (c.nodes.getD i default).ins
      · rfl
      · rw [hh] at ha; cases ha
    have hb := List.any_eq_false.1 hz _ (ints_mem hj)
    cases hx : isIdx c.nodes.length ((c.nodes.getD i default).ins.getD j 0)
    · rw [hx] at hb; exact absurd rfl hb
    · unfold isIdx at hx
      rw [Bool.and_eq_true, decide_eq_true_iff, decide_eq_true_iff] at hx
      exact hx
/-- What the law asks of values is what the nets' values are. -/
theorem holds_net {c : Ck} {L : List Int} {n : Nat} (V : Vld c L n) (hm : c.mems.length = 0) (hk : ∀ i : Nat, i < n → 0 ≤ (c.nodes.getD i default).kind) {pin pst nets : List Int} (hi : (ofTo c.nodes [0] n).length = pin.length) (hs : (ofTo c.nodes [14] n).length = pst.length) (hl : nets.length = n) (hv : ∀ y ∈ nets, 0 ≤ y ∧ y ≤ 3) :
    (∀ i : Nat, i < n → lat nets i = wantV c.nodes pin pst nets i) ↔ Net c.nodes (baseV n (ofTo c.nodes [0] n) (ofTo c.nodes [14] n) pin pst) nets := by
  have hlen := V.len
  have key : ∀ i : Nat, i < n → wantV c.nodes pin pst nets i = if cmb (c.nodes.getD i default).kind = true then gateV c.nodes nets i else lat (baseV n (ofTo c.nodes [0] n) (ofTo c.nodes [14] n) pin pst) i := fun i hin => by
    unfold wantV
    rcases (kinds_of V hm (i := i) (by omega) (hk i hin)).1 with e | e | e
    · rw [base_in hi hin e, e]; rfl
    · rw [base_st hs hin e, e]; rfl
    · have h14 : ¬ (c.nodes.getD i default).kind = 14 := fun h => by rw [h] at e; revert e; decide
      have h00 : ¬ (c.nodes.getD i default).kind = 0 := fun h => by rw [h] at e; revert e; decide
      rw [if_neg h14, if_neg h00, if_pos e]
      unfold gateV
      rw [Int.toNat_natCast]
      congr 1
      exact List.map_congr_left fun x _ => (cln_low (lat_in hv x).2).symm
  constructor
  · intro h
    refine ⟨by omega, fun i hi' => ?_⟩
    rw [h i (by omega), key i (by omega)]
  · intro h i hin
    rw [key i hin]
    exact h.2 i (by omega)
theorem rd_in (a : Int) : 0 ≤ rd a ∧ rd a ≤ 3 := by rcases rd_cases a with h | h | h <;> omega
theorem nt_in (a : Int) : 0 ≤ nt a ∧ nt a ≤ 3 := by unfold nt; split <;> (try split) <;> omega
theorem mx_in (a b d : Int) : 0 ≤ mx a b d ∧ mx a b d ≤ 3 := by
  have h1 := rd_in b
  have h2 := rd_in d
  unfold mx
  split
  · exact h1
  split
  · exact h2
  split
  · exact h1
  · omega
theorem tr_in (a b : Int) : 0 ≤ tr a b ∧ tr a b ≤ 3 := by
  have h1 := rd_in b
  unfold tr
  split
  · omega
  split
  · exact h1
  · omega
theorem xor_in (l : List Int) : 0 ≤ xorL l ∧ xorL l ≤ 3 := by
  unfold xorL
  split
  · omega
  · rcases par_cases l with h | h <;> omega
theorem and_in (l : List Int) : 0 ≤ andL l ∧ andL l ≤ 3 := by unfold andL; split <;> (try split) <;> omega
theorem or_in (l : List Int) : 0 ≤ orL l ∧ orL l ≤ 3 := by unfold orL; split <;> (try split) <;> omega
theorem bus_in (l : List Int) : 0 ≤ busL l ∧ busL l ≤ 3 := by unfold busL; split <;> (try split) <;> (try split) <;> omega
/-- The nets' values are within bounds. -/
theorem evalL_in (k : Int) (l : List Int) : 0 ≤ evalL k l ∧ evalL k l ≤ 3 := by
  have h1 := rd_in (l.getD 0 0)
  have h2 := nt_in (l.getD 0 0)
  have h5 := and_in l
  have h6 := or_in l
  have h7 := xor_in l
  have h8 := bus_in l
  have h9 := mx_in (l.getD 0 0) (l.getD 1 0) (l.getD 2 0)
  have h10 := tr_in (l.getD 0 0) (l.getD 1 0)
  have h11 := nt_in (andL l)
  have h12 := nt_in (orL l)
  have h13 := nt_in (xorL l)
  unfold evalL
  split
  · omega
  unfold funL
  repeat' split
  all_goals omega
theorem asg_in {l vs out : List Int} (hv : ∀ y ∈ vs, 0 ≤ y ∧ y ≤ 3) (ho : ∀ y ∈ out, 0 ≤ y ∧ y ≤ 3) : ∀ y ∈ asg out l vs, 0 ≤ y ∧ y ≤ 3 := by
  unfold asg
  induction l generalizing vs out with
  | nil => exact ho
  | cons x l ih =>
    cases vs with
    | nil => exact ho
    | cons v vs =>
      exact ih (vs := vs) (out := out.set x.toNat v) (fun y hy => hv y (List.mem_cons_of_mem _ hy)) fun y hy => by
        rcases List.mem_or_eq_of_mem_set hy with h | rfl
        · exact ho y h
        · exact hv _ List.mem_cons_self
theorem net_in {nodes : List Nd} {n : Nat} {ins sts pin pst nets : List Int} (h : Net nodes (baseV n ins sts pin pst) nets) (hi : ∀ y ∈ pin, 0 ≤ y ∧ y ≤ 3) (hs : ∀ y ∈ pst, 0 ≤ y ∧ y ≤ 3) : ∀ y ∈ nets, 0 ≤ y ∧ y ≤ 3 := fun y hy => by
  obtain ⟨k, hk, rfl⟩ := List.mem_iff_getElem.1 hy
  have e : lat nets k = nets[k] := by unfold lat; rw [Int.toNat_natCast, List.getD_eq_getElem?_getD, List.getElem?_eq_getElem hk]; rfl
  rw [← e, h.2 k (by rw [← h.1]; exact hk)]
  split
  · exact evalL_in _ _
  · refine lat_in (asg_in hs (asg_in hi fun y hy => ?_)) _
    rw [(List.mem_replicate.1 hy).2]
    omega
/-- Only the nets' values are what the nodes ask. -/
theorem net_only {c : Ck} {L : List Int} {n : Nat} (V : Vld c L n) {pin pst a b : List Int} (h : Net c.nodes (baseV n (ofTo c.nodes [0] n) (ofTo c.nodes [14] n) pin pst) a) (h' : Net c.nodes (baseV n (ofTo c.nodes [0] n) (ofTo c.nodes [14] n) pin pst) b) : a = b :=
  Net.same V.wf V.lvl h h' fun _ _ _ => rfl
end Go.Proofs.YtbkfpaklmepglaaDoor

namespace Go.Proofs.YtbkfpaklmepglaaDoor

def k01 (v : Int) : Prop := v = 0 ∨ v = 1
instance (v : Int) : Decidable (k01 v) := inferInstanceAs (Decidable (v = 0 ∨ v = 1))
theorem knw_iff {v : Int} : knw v = true ↔ k01 v := by unfold knw k01; simp
theorem rd_k {v : Int} (h : k01 v) : k01 (rd v) ∧ rd v = v := by rcases h with rfl | rfl <;> decide
theorem rd_k' {v : Int} (h : k01 v) : k01 (rd v) := by rcases h with rfl | rfl <;> decide
theorem nt_k {v : Int} (h : k01 v) : k01 (nt v) := by rcases h with rfl | rfl <;> decide
theorem getD_k {l : List Int} (h : ∀ y ∈ l, k01 y) (j : Nat) : k01 (l.getD j 0) := by
  rw [List.getD_eq_getElem?_getD]
  by_cases hj : j < l.length
  · rw [List.getElem?_eq_getElem hj]; exact h _ (List.getElem_mem hj)
  · rw [List.getElem?_eq_none (by omega)]; exact .inl rfl
theorem any2_k {l : List Int} (h : ∀ y ∈ l, k01 y) : anyIs rd 2 l = false := by
  refine List.any_eq_false.2 fun v hv => ?_
  rcases h v hv with rfl | rfl <;> decide
theorem eval_k {k : Int} {l : List Int} (hc : cmb k = true) (h12 : k ≠ 12) (h13 : k ≠ 13) (hlo : lo k ≤ (l.length : Int)) (hhi : (l.length : Int) ≤ hi k) (hl : ∀ y ∈ l, k01 y) : k01 (evalL k l) := by
  unfold evalL
  rw [if_neg (by omega)]
  have h2 := any2_k hl
  have ha : k01 (andL l) := by unfold andL; rw [h2]; split <;> first | exact .inl rfl | exact .inr rfl
  have ho : k01 (orL l) := by unfold orL; rw [h2]; split <;> first | exact .inl rfl | exact .inr rfl
  have hx : k01 (xorL l) := by unfold xorL; rw [h2]; exact par_cases l
  have hm : k01 (mx (l.getD 0 0) (l.getD 1 0) (l.getD 2 0)) := by
    have a := rd_k' (getD_k hl 1)
    have b := rd_k' (getD_k hl 2)
    unfold mx
    rcases (rd_k' (getD_k hl 0)) with e | e
    · rw [if_pos e]; exact a
    · rw [if_neg (by omega), if_pos e]; exact b
  have hr := rd_k' (getD_k hl 0)
  have hn := nt_k (getD_k hl 0)
  have hc' : 1 ≤ k ∧ k ≤ 11 := by unfold cmb at hc; simp at hc; omega
  unfold funL
  by_cases e1 : k = 1
  · rw [if_pos e1]; exact .inl rfl
  rw [if_neg e1]
  by_cases e2 : k = 2
  · rw [if_pos e2]; exact .inr rfl
  rw [if_neg e2]
  by_cases e3 : k = 3
  · rw [if_pos e3]; exact hr
  rw [if_neg e3]
  by_cases e4 : k = 4
  · rw [if_pos e4]; exact hn
  rw [if_neg e4]
  by_cases e5 : k = 5
  · rw [if_pos e5]; exact ha
  rw [if_neg e5]
  by_cases e6 : k = 6
  · rw [if_pos e6]; exact nt_k ha
  rw [if_neg e6]
  by_cases e7 : k = 7
  · rw [if_pos e7]; exact ho
  rw [if_neg e7]
  by_cases e8 : k = 8
  · rw [if_pos e8]; exact nt_k ho
  rw [if_neg e8]
  by_cases e9 : k = 9
  · rw [if_pos e9]; exact hx
  rw [if_neg e9]
  by_cases e10 : k = 10
  · rw [if_pos e10]; exact nt_k hx
  rw [if_neg e10, if_pos (by omega)]
  exact hm
theorem Net.known {nodes : List Nd} {base out L : List Int} (hw : Wf nodes) (hL : Lvl nodes L) (h : Net nodes base out)
    (hb : ∀ i : Nat, i < nodes.length → cmb (nodes.getD i default).kind = false → k01 (lat base i))
    (hk : ∀ i : Nat, i < nodes.length → cmb (nodes.getD i default).kind = true → (nodes.getD i default).kind ≠ 12 ∧ (nodes.getD i default).kind ≠ 13 ∧ lo (nodes.getD i default).kind ≤ ((nodes.getD i default).ins.length : Int) ∧ ((nodes.getD i default).ins.length : Int) ≤ hi (nodes.getD i default).kind) :
    ∀ i : Nat, i < nodes.length → k01 (lat out i) := by
  have key : ∀ (m : Nat) (i : Nat), i < nodes.length → lat L i < (m : Int) → k01 (lat out i) := by
    intro m
    induction m with
    | zero => intro i hi hlt; have := hL.nonneg hi; omega
    | succ m ih =>
      intro i hi hlt
      rw [h.2 i hi]
      by_cases hc : cmb (nodes.getD i default).kind = true
      · rw [if_pos hc]
        obtain ⟨h1, h2, h3, h4⟩ := hk i hi hc
        unfold gateV
        rw [Int.toNat_natCast]
        refine eval_k hc h1 h2 (by simpa using h3) (by simpa using h4) fun y hy => ?_
        obtain ⟨z, hz0, rfl⟩ := List.mem_map.1 hy
        have hz : z ∈ dep nodes i := by rw [dep_ins (by rw [Int.toNat_natCast]; exact hc), Int.toNat_natCast]; exact hz0
        have q := hw.dep (i := (i : Int)) (by omega) hz
        have hl := hL.lt (i := (i : Int)) (by omega) (by omega) hz
        obtain ⟨k, rfl⟩ := Int.eq_ofNat_of_zero_le q.1
        have := ih k (by omega) (by omega)
        rcases this with e | e <;> (show k01 (cln (lat out (k : Int)))) <;> rw [e] <;> first | exact .inl rfl | exact .inr rfl
      · rw [if_neg hc]
        exact hb i hi (by simpa using hc)
  exact fun i hi => key ((lat L i).toNat + 1) i hi (by have := hL.nonneg hi; omega)
/-- Without a Tri, and known inputs and states, all nets are known. -/
theorem net_known {c : Ck} {L : List Int} {n : Nat} (V : Vld c L n) (hm : c.mems.length = 0) (hk : ∀ i : Nat, i < n → 0 ≤ (c.nodes.getD i default).kind) {pin pst out : List Int} (hi : (ofTo c.nodes [0] n).length = pin.length) (hs : (ofTo c.nodes [14] n).length = pst.length) (h : Net c.nodes (baseV n (ofTo c.nodes [0] n) (ofTo c.nodes [14] n) pin pst) out)
    (v1 : ∀ y ∈ pin, k01 y) (v2 : ∀ y ∈ pst, k01 y) (ht : (ofTo c.nodes [12] n).length = 0) : ∀ i : Nat, i < n → k01 (lat out i) := by
  have hlen := V.len
  have h12 : ∀ i : Nat, i < n → (c.nodes.getD i default).kind ≠ 12 := fun i hin e => by
    have := (ofTo_at n hin (kl := [12]) (nodes := c.nodes) (by rw [isK_one, e]; rfl)).1
    omega
  have := Net.known V.wf V.lvl h (fun i hin hc => ?_) (fun i hin hc => ?_)
  · exact fun i hin => this i (by omega)
  · rcases (kinds_of V hm hin (hk i (by omega))).1 with e | e | e
    · rw [base_in hi (by omega) e]; exact getD_k v1 _
    · rw [base_st hs (by omega) e]; exact getD_k v2 _
    · rw [e] at hc; cases hc
  · have hn := nodeErr_zero ((shape_zero (chk_shape V.ok)).2.2.2.2.1 _ (getD_mem_nd hin))
    refine ⟨h12 i (by omega), fun e => ?_, hn.2.1, hn.2.2.1⟩
    have h1 := hn.2.1
    rw [e] at h1
    have hl : 0 < (c.nodes.getD i default).ins.length := by
      have h13 : lo 13 = 1 := by decide
      omega
    have hx := (kinds_of V hm hin (hk i (by omega))).2 0 hl
    have h2 := hn.2.2.2.2.1
    have h3 : anyP (notTri c) (c.nodes.getD i default).ins = false := by
      cases hh : anyP (notTri c) (c.nodes.getD i default).ins
      · rfl
      · exact absurd ⟨e, hh⟩ h2
    have h4 := List.any_eq_false.1 h3 _ (ints_mem hl)
    obtain ⟨k, hk2⟩ := Int.eq_ofNat_of_zero_le hx.1
    have h5 := h12 k (by omega)
    unfold notTri at h4
    rw [hk2] at h4
    simp at h4
    exact h5 h4

/-- Known values of the first list in the place of the second's own. -/
def kmrg (l m : List Int) (k : Nat) : List Int := (List.range m.length).map fun i => if i < k ∧ knw (l.getD i 0) = true then l.getD i 0 else m.getD i 0
theorem kmrg_len (l m : List Int) (k : Nat) : (kmrg l m k).length = m.length := by simp [kmrg]
theorem kmrg_get {l m : List Int} {k i : Nat} (hi : i < m.length) : (kmrg l m k).getD i 0 = if i < k ∧ knw (l.getD i 0) = true then l.getD i 0 else m.getD i 0 := by
  simp [kmrg, List.getD_eq_getElem?_getD, hi]
theorem kmrg_zero (l m : List Int) : kmrg l m 0 = m := by
  refine getD_ext (kmrg_len l m 0) fun i hi => ?_
  rw [kmrg_len] at hi
  rw [kmrg_get hi, if_neg (by omega)]
theorem kmrg_keep {l m : List Int} {k : Nat} (h : knw (l.getD k 0) = false) : kmrg l m (k + 1) = kmrg l m k := by
  refine getD_ext (by rw [kmrg_len, kmrg_len]) fun i hi => ?_
  rw [kmrg_len] at hi
  rw [kmrg_get hi, kmrg_get hi]
  by_cases e : i = k
  · subst e; rw [if_neg (fun h' => by rw [h] at h'; exact absurd h'.2 (by decide)), if_neg (by omega)]
  · by_cases h1 : i < k ∧ knw (l.getD i 0) = true
    · rw [if_pos ⟨by omega, h1.2⟩, if_pos h1]
    · rw [if_neg (fun h' => h1 ⟨by omega, h'.2⟩), if_neg h1]
theorem kmrg_put {l m : List Int} {k : Nat} (hk : k < m.length) (h : knw (l.getD k 0) = true) : kmrg l m (k + 1) = (kmrg l m k).set k (l.getD k 0) := by
  refine getD_ext (by rw [List.length_set, kmrg_len, kmrg_len]) fun i hi => ?_
  rw [kmrg_len] at hi
  rw [getD_setL (by rw [kmrg_len]; exact hk), kmrg_get hi]
  by_cases e : i = k
  · subst e; rw [if_pos rfl, if_pos ⟨by omega, h⟩]
  · rw [if_neg e, kmrg_get hi]
    by_cases h1 : i < k ∧ knw (l.getD i 0) = true
    · rw [if_pos ⟨by omega, h1.2⟩, if_pos h1]
    · rw [if_neg (fun h' => h1 ⟨by omega, h'.2⟩), if_neg h1]
theorem kmrg_k {l m : List Int} (k : Nat) (hm : ∀ y ∈ m, k01 y) : ∀ y ∈ kmrg l m k, k01 y := fun y hy => by
  obtain ⟨i, hi, rfl⟩ := List.mem_map.1 hy
  show k01 (if i < k ∧ knw (l.getD i 0) = true then l.getD i 0 else m.getD i 0)
  split
  · rename_i h; exact knw_iff.1 h.2
  · exact getD_k hm i
/-- The first k values read. -/
def rdTo (l : List Int) (k : Nat) : List Int := (List.range l.length).map fun i => if i < k then rd (l.getD i 0) else l.getD i 0
theorem rdTo_len (l : List Int) (k : Nat) : (rdTo l k).length = l.length := by simp [rdTo]
theorem rdTo_get {l : List Int} {k i : Nat} (hi : i < l.length) : (rdTo l k).getD i 0 = if i < k then rd (l.getD i 0) else l.getD i 0 := by
  simp [rdTo, List.getD_eq_getElem?_getD, hi]
theorem rdTo_zero (l : List Int) : rdTo l 0 = l := by
  refine getD_ext (rdTo_len l 0) fun i hi => ?_
  rw [rdTo_len] at hi
  rw [rdTo_get hi, if_neg (by omega)]
theorem rdTo_put {l : List Int} {k : Nat} (hk : k < l.length) : rdTo l (k + 1) = (rdTo l k).set k (rd (l.getD k 0)) := by
  refine getD_ext (by rw [List.length_set, rdTo_len, rdTo_len]) fun i hi => ?_
  rw [rdTo_len] at hi
  rw [getD_setL (by rw [rdTo_len]; exact hk), rdTo_get hi]
  by_cases e : i = k
  · subst e; rw [if_pos rfl, if_pos (by omega)]
  · rw [if_neg e, rdTo_get hi]
    by_cases h1 : i < k
    · rw [if_pos h1, if_pos (by omega)]
    · rw [if_neg h1, if_neg (by omega)]
theorem rdTo_in {l : List Int} (k : Nat) (h : ∀ y ∈ l, 0 ≤ y ∧ y ≤ 3) : ∀ y ∈ rdTo l k, 0 ≤ y ∧ y ≤ 3 := fun y hy => by
  obtain ⟨i, hi, rfl⟩ := List.mem_map.1 hy
  show 0 ≤ (if i < k then rd (l.getD i 0) else l.getD i 0) ∧ _
  split
  · rcases rd_cases (l.getD i 0) with e | e | e <;> omega
  · exact h _ (getD_inL (List.mem_range.1 hi))
/-- What is read is below what the known values make of it. -/
theorem krd_le {l m : List Int} {i : Nat} (hi : i < l.length) (hm : l.length = m.length) : blw ((rdTo l l.length).getD i 0) ((kmrg l m l.length).getD i 0) = true := by
  rw [rdTo_get hi, kmrg_get (by omega), if_pos hi]
  cases h : knw (l.getD i 0)
  · have : rd (l.getD i 0) = 2 := by unfold rd; rw [h]; rfl
    rw [this]; exact Lg.blw_X _
  · rw [if_pos ⟨hi, rfl⟩, (rd_k (knw_iff.1 h)).2]; exact Lg.blw_refl _
/-- A list of 0, 1 and 2 is below what the known values make of it. -/
theorem kst_le {l m : List Int} {i : Nat} (hi : i < l.length) (hm : l.length = m.length) (hv : ∀ y ∈ l, 0 ≤ y ∧ y ≤ 2) : blw (l.getD i 0) ((kmrg l m l.length).getD i 0) = true := by
  rw [kmrg_get (by omega)]
  have := hv _ (getD_inL hi)
  cases h : knw (l.getD i 0)
  · have : l.getD i 0 = 2 := by
      have h1 : l.getD i 0 ≠ 0 := fun e => by rw [e] at h; exact absurd h (by decide)
      have h2 : l.getD i 0 ≠ 1 := fun e => by rw [e] at h; exact absurd h (by decide)
      omega
    rw [this]; exact Lg.blw_X _
  · rw [if_pos ⟨hi, rfl⟩]; exact Lg.blw_refl _
/-- What is above a known value is that value. -/
theorem blw_known {a b : Int} (h : blw a b = true) (ha : k01 a) (hb : 0 ≤ b ∧ b ≤ 3) : b = a := by
  unfold blw cln at h
  rcases ha with rfl | rfl <;> simp at h <;> omega
theorem takL_k {l : List Int} (h0 : ∀ x ∈ l, 0 ≤ x ∧ x ≤ 255) (hl : l.length ≠ 0) (n : Nat) : ∀ x ∈ takL l 2 n, k01 x := fun x hx => by
  obtain ⟨i, -, rfl⟩ := List.mem_map.1 hx
  show k01 (takV l 2 i)
  unfold takV
  rw [if_neg hl]
  have hmem := h0 (l.getD (i % l.length) 0) (by rw [List.getD_eq_getElem?_getD, List.getElem?_eq_getElem (Nat.mod_lt _ (by omega))]; exact List.getElem_mem _)
  rw [Int.tmod_eq_emod_of_nonneg hmem.1]
  unfold k01
  omega
theorem takL_two {l : List Int} (h0 : ∀ x ∈ l, 0 ≤ x ∧ x ≤ 255) (n : Nat) : ∀ x ∈ takL l 3 n, 0 ≤ x ∧ x ≤ 2 := fun x hx => by
  obtain ⟨i, -, rfl⟩ := List.mem_map.1 hx
  show 0 ≤ takV l 3 i ∧ takV l 3 i ≤ 2
  unfold takV
  split
  · omega
  · rename_i hl
    have hmem := h0 (l.getD (i % l.length) 0) (by rw [List.getD_eq_getElem?_getD, List.getElem?_eq_getElem (Nat.mod_lt _ (by omega))]; exact List.getElem_mem _)
    rw [Int.tmod_eq_emod_of_nonneg hmem.1]
    omega
section
open Go.RowKit
variable {V V' wr : World} {q ni ns cI cS : Nat} {AI AS : Option Addr} {lI lS : List Int}
/-- The same over an earlier world. -/
theorem MV.down (h : MV V' q ni ns cI cS AI AS lI lS wr) (hb : BelW V V') : MV V q ni ns cI cS AI AS lI lS wr :=
  ⟨joinB hb h.bel, h.box, h.rI.low (Below.size hb), h.rS.low (Below.size hb), h.apart, h.offI, h.offS, h.lenI, h.lenS⟩
/-- A store elsewhere. -/
theorem MV.far (h : MV V q ni ns cI cS AI AS lI lS wr) {a : Addr} (h0 : V.heap.size ≤ a.block) (h1 : a.block ≠ q) (h2 : ∀ b, (Value.slice AI ni cI).ownBlock = some b → b ≠ a.block) (h3 : ∀ b, (Value.slice AS ns cS).ownBlock = some b → b ≠ a.block) (x : Value) : MV V q ni ns cI cS AI AS lI lS (wr.setCell a x) :=
  ⟨Below.setCell h.bel h0 _, h.box.other h1 _, h.rI.other (fun e => h2 _ e rfl) _, h.rS.other (fun e => h3 _ e rfl) _, h.apart, h.offI, h.offS, h.lenI, h.lenS⟩
end
end Go.Proofs.YtbkfpaklmepglaaDoor
