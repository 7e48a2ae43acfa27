/- SimsFanin, plain side: which nets depend on a node, by a walk in the order; the others keep their values. -/
import Derived.Test.YtbkfpaklmepglaaDoorCs
import Derived.Test.YtbkfpaklmepglaaDoorOfp
namespace Go.Proofs.YtbkfpaklmepglaaDoor

theorem asg_cons (out : List Int) (x : Int) (l : List Int) (v : Int) (vs : List Int) : asg out (x :: l) (v :: vs) = asg (out.set x.toNat v) l vs := rfl
theorem asg_off : ∀ (l vs out : List Int) (i : Nat), (∀ y ∈ l, 0 ≤ y ∧ y ≠ (i : Int)) → lat (asg out l vs) i = lat out i := by
  intro l
  induction l with
  | nil => intro vs out i _; rfl
  | cons x l ih =>
    intro vs out i h
    cases vs with
    | nil => rfl
    | cons v vs =>
      rw [asg_cons, ih _ _ _ fun y hy => h y (List.mem_cons_of_mem _ hy), lat_set _ (by omega), if_neg (fun e => (h x List.mem_cons_self).2 (by have := (h x List.mem_cons_self).1; omega))]
theorem asg_on : ∀ (l vs out : List Int), l.Pairwise (· < ·) → (∀ y ∈ l, 0 ≤ y ∧ y < (out.length : Int)) → l.length = vs.length → ∀ k, k < l.length → lat (asg out l vs) (l.getD k 0) = vs.getD k 0 := by
  intro l
  induction l with
  | nil => intro vs out _ _ _ k hk; exact absurd hk (by simp)
  | cons x l ih =>
    intro vs out hp hr hl k hk
    cases vs with
    | nil => cases hl
    | cons v vs =>
      have hx := hr x List.mem_cons_self
      rw [asg_cons]
      cases k with
      | zero =>
        obtain ⟨j, rfl⟩ := Int.eq_ofNat_of_zero_le hx.1
        show lat _ (j : Int) = v
        rw [asg_off l vs _ j fun y hy => ⟨(hr y (List.mem_cons_of_mem _ hy)).1, fun e => by have := (List.pairwise_cons.1 hp).1 y hy; omega⟩, lat_set _ (by omega), if_pos ⟨by omega, by omega⟩]
      | succ k =>
        show lat _ (l.getD k 0) = vs.getD k 0
        exact ih vs _ (List.pairwise_cons.1 hp).2 (fun y hy => by rw [List.length_set]; exact hr y (List.mem_cons_of_mem _ hy)) (by simpa using hl) k (by simpa using hk)
theorem ofTo_pair (nodes : List Nd) (kl : List Int) (n : Nat) : (ofTo nodes kl n).Pairwise (· < ·) := by
  unfold ofTo
  rw [List.pairwise_map]
  exact (List.pairwise_lt_range.filter _).imp fun h => by omega
theorem ofTo_at {nodes : List Nd} {kl : List Int} : ∀ (n : Nat) {i : Nat}, i < n → isK kl (nodes.getD i default).kind = true → (ofTo nodes kl i).length < (ofTo nodes kl n).length ∧ (ofTo nodes kl n).getD (ofTo nodes kl i).length 0 = (i : Int) := by
  intro n
  induction n with
  | zero => intro i hi; exact absurd hi (by omega)
  | succ n ih =>
    intro i hi hk
    rw [ofTo_succ]
    by_cases e : i = n
    · subst e
      rw [if_pos hk]
      refine ⟨by simp, ?_⟩
      simp [List.getD_eq_getElem?_getD]
    · obtain ⟨h1, h2⟩ := ih (i := i) (by omega) hk
      refine ⟨by rw [List.length_append]; omega, ?_⟩
      rw [List.getD_eq_getElem?_getD, List.getElem?_append_left h1, ← List.getD_eq_getElem?_getD]
      exact h2
/-- The base of a pattern at an input. -/
theorem base_in {nodes : List Nd} {n : Nat} {pin pst : List Int} (hi : (ofTo nodes [0] n).length = pin.length) {i : Nat} (hn : i < n) (hk : (nodes.getD i default).kind = 0) :
    lat (baseV n (ofTo nodes [0] n) (ofTo nodes [14] n) pin pst) i = pin.getD (ofTo nodes [0] i).length 0 := by
  have hat := ofTo_at n hn (kl := [0]) (nodes := nodes) (by rw [isK_one, hk]; rfl)
  unfold baseV
  rw [asg_off _ _ _ i fun y hy => ?_, ← hat.2]
  · exact asg_on _ _ _ (ofTo_pair _ _ _) (fun y hy => by have := ofTo_in hy; simp; omega) hi _ hat.1
  · obtain ⟨j, rfl, hj, hj2⟩ := ofTo_mem hy
    refine ⟨by omega, fun e => ?_⟩
    have : j = i := by omega
    subst this
    rw [isK_one, hk] at hj2
    simp at hj2
/-- The base of a pattern at a state. -/
theorem base_st {nodes : List Nd} {n : Nat} {pin pst : List Int} (hs : (ofTo nodes [14] n).length = pst.length) {i : Nat} (hn : i < n) (hk : (nodes.getD i default).kind = 14) :
    lat (baseV n (ofTo nodes [0] n) (ofTo nodes [14] n) pin pst) i = pst.getD (ofTo nodes [14] i).length 0 := by
  have hat := ofTo_at n hn (kl := [14]) (nodes := nodes) (by rw [isK_one, hk]; rfl)
  unfold baseV
  rw [← hat.2]
  exact asg_on _ _ _ (ofTo_pair _ _ _) (fun y hy => by have := ofTo_in hy; simp [asg_len]; omega) hs _ hat.1

/-- What node i asks for, in the law's words. -/
def wantV (nodes : List Nd) (pin pst nets : List Int) (i : Nat) : Int :=
  if (nodes.getD i default).kind = 14 then pst.getD (ofTo nodes [14] i).length 0
  else if (nodes.getD i default).kind = 0 then pin.getD (ofTo nodes [0] i).length 0
  else evalL (nodes.getD i default).kind ((nodes.getD i default).ins.map (lat nets))
theorem cln_low {v : Int} (h : v ≤ 3) : cln v = v := by unfold cln; rw [if_neg (by omega)]
theorem lat_in {nets : List Int} (hv : ∀ y ∈ nets, 0 ≤ y ∧ y ≤ 3) (x : Int) : 0 ≤ lat nets x ∧ lat nets x ≤ 3 := by
  unfold lat
  rw [List.getD_eq_getElem?_getD]
  by_cases h : x.toNat < nets.length
  · rw [List.getElem?_eq_getElem h]; exact hv _ (List.getElem_mem h)
  · rw [List.getElem?_eq_none (by omega)]; simp
/-- A valid circuit without memories has nodes of these kinds. -/
theorem kinds_of {c : Ck} {L : List Int} {m : Nat} (V : Vld c L m) (hm : c.mems.length = 0) {i : Nat} (hi : i < c.nodes.length) (h0 : 0 ≤ (c.nodes.getD i default).kind) :
    ((c.nodes.getD i default).kind = 0 ∨ (c.nodes.getD i default).kind = 14 ∨ cmb (c.nodes.getD i default).kind = true) ∧ ∀ j, j < (c.nodes.getD i default).ins.length → 0 ≤ (c.nodes.getD i default).ins.getD j 0 ∧ (c.nodes.getD i default).ins.getD j 0 < (c.nodes.length : Int) := by
  have h := nodeErr_zero ((shape_zero (chk_shape V.ok)).2.2.2.2.1 _ (getD_mem_nd hi))
  refine ⟨?_, fun j hj => ?_⟩
  · have h15 : (c.nodes.getD i default).kind ≠ 15 := fun e => by
      have hp := h.2.2.2.2.2
      unfold placeOk at hp
      rw [if_pos e, hm] at hp
      simp [isIdx] at hp
      omega
    unfold cmb
    by_cases e0 : (c.nodes.getD i default).kind = 0
    · exact .inl e0
    · by_cases e1 : (c.nodes.getD i default).kind = 14
      · exact .inr (.inl e1)
      · refine .inr (.inr ?_)
        have := h.1
        rw [Bool.and_eq_true, decide_eq_true_iff, decide_eq_true_iff]
        omega
  · have ha := h.2.2.2.1
    unfold areIdx at ha
    have hz : anyP (fun x => !isIdx c.nodes.length x) (c.nodes.getD i default).ins = false := by
      cases hh : anyP (fun x => !isIdx c.nodes.length x) (c.nodes.getD i default).ins
      · rfl
      · rw [hh] at ha; cases ha
    have hb := List.any_eq_false.1 hz _ (ints_mem hj)
    cases hx : isIdx c.nodes.length ((c.nodes.getD i default).ins.getD j 0)
    · rw [hx] at hb; exact absurd rfl hb
    · unfold isIdx at hx
      rw [Bool.and_eq_true, decide_eq_true_iff, decide_eq_true_iff] at hx
      exact hx
/-- What the law asks of values is what the nets' values are. -/
theorem holds_net {c : Ck} {L : List Int} {n : Nat} (V : Vld c L n) (hm : c.mems.length = 0) (hk : ∀ i : Nat, i < n → 0 ≤ (c.nodes.getD i default).kind) {pin pst nets : List Int} (hi : (ofTo c.nodes [0] n).length = pin.length) (hs : (ofTo c.nodes [14] n).length = pst.length) (hl : nets.length = n) (hv : ∀ y ∈ nets, 0 ≤ y ∧ y ≤ 3) :
    (∀ i : Nat, i < n → lat nets i = wantV c.nodes pin pst nets i) ↔ Net c.nodes (baseV n (ofTo c.nodes [0] n) (ofTo c.nodes [14] n) pin pst) nets := by
  have hlen := V.len
  have key : ∀ i : Nat, i < n → wantV c.nodes pin pst nets i = if cmb (c.nodes.getD i default).kind = true then gateV c.nodes nets i else lat (baseV n (ofTo c.nodes [0] n) (ofTo c.nodes [14] n) pin pst) i := fun i hin => by
    unfold wantV
    rcases (kinds_of V hm (i := i) (by omega) (hk i hin)).1 with e | e | e
    · rw [base_in hi hin e, e]; rfl
    · rw [base_st hs hin e, e]; rfl
    · have h14 : ¬ (c.nodes.getD i default).kind = 14 := fun h => by rw [h] at e; revert e; decide
      have h00 : ¬ (c.nodes.getD i default).kind = 0 := fun h => by rw [h] at e; revert e; decide
      rw [if_neg h14, if_neg h00, if_pos e]
      unfold gateV
      rw [Int.toNat_natCast]
      congr 1
      exact List.map_congr_left fun x _ => (cln_low (lat_in hv x).2).symm
  constructor
  · intro h
    refine ⟨by omega, fun i hi' => ?_⟩
    rw [h i (by omega), key i (by omega)]
  · intro h i hin
    rw [key i hin]
    exact h.2 i (by omega)
theorem rd_in (a : Int) : 0 ≤ rd a ∧ rd a ≤ 3 := by rcases rd_cases a with h | h | h <;> omega
theorem nt_in (a : Int) : 0 ≤ nt a ∧ nt a ≤ 3 := by unfold nt; split <;> (try split) <;> omega
theorem mx_in (a b d : Int) : 0 ≤ mx a b d ∧ mx a b d ≤ 3 := by
  have h1 := rd_in b
  have h2 := rd_in d
  unfold mx
  split
  · exact h1
  split
  · exact h2
  split
  · exact h1
  · omega
theorem tr_in (a b : Int) : 0 ≤ tr a b ∧ tr a b ≤ 3 := by
  have h1 := rd_in b
  unfold tr
  split
  · omega
  split
  · exact h1
  · omega
theorem xor_in (l : List Int) : 0 ≤ xorL l ∧ xorL l ≤ 3 := by
  unfold xorL
  split
  · omega
  · rcases par_cases l with h | h <;> omega
theorem and_in (l : List Int) : 0 ≤ andL l ∧ andL l ≤ 3 := by unfold andL; split <;> (try split) <;> omega
theorem or_in (l : List Int) : 0 ≤ orL l ∧ orL l ≤ 3 := by unfold orL; split <;> (try split) <;> omega
theorem bus_in (l : List Int) : 0 ≤ busL l ∧ busL l ≤ 3 := by unfold busL; split <;> (try split) <;> (try split) <;> omega
/-- The nets' values are within bounds. -/
theorem evalL_in (k : Int) (l : List Int) : 0 ≤ evalL k l ∧ evalL k l ≤ 3 := by
  have h1 := rd_in (l.getD 0 0)
  have h2 := nt_in (l.getD 0 0)
  have h5 := and_in l
  have h6 := or_in l
  have h7 := xor_in l
  have h8 := bus_in l
  have h9 := mx_in (l.getD 0 0) (l.getD 1 0) (l.getD 2 0)
  have h10 := tr_in (l.getD 0 0) (l.getD 1 0)
  have h11 := nt_in (andL l)
  have h12 := nt_in (orL l)
  have h13 := nt_in (xorL l)
  unfold evalL
  split
  · omega
  unfold funL
  repeat' split
  all_goals omega
theorem asg_in {l vs out : List Int} (hv : ∀ y ∈ vs, 0 ≤ y ∧ y ≤ 3) (ho : ∀ y ∈ out, 0 ≤ y ∧ y ≤ 3) : ∀ y ∈ asg out l vs, 0 ≤ y ∧ y ≤ 3 := by
  unfold asg
  induction l generalizing vs out with
  | nil => exact ho
  | cons x l ih =>
    cases vs with
    | nil => exact ho
    | cons v vs =>
      exact ih (vs := vs) (out := out.set x.toNat v) (fun y hy => hv y (List.mem_cons_of_mem _ hy)) fun y hy => by
        rcases List.mem_or_eq_of_mem_set hy with h | rfl
        · exact ho y h
        · exact hv _ List.mem_cons_self
theorem net_in {nodes : List Nd} {n : Nat} {ins sts pin pst nets : List Int} (h : Net nodes (baseV n ins sts pin pst) nets) (hi : ∀ y ∈ pin, 0 ≤ y ∧ y ≤ 3) (hs : ∀ y ∈ pst, 0 ≤ y ∧ y ≤ 3) : ∀ y ∈ nets, 0 ≤ y ∧ y ≤ 3 := fun y hy => by
  obtain ⟨k, hk, rfl⟩ := List.mem_iff_getElem.1 hy
  have e : lat nets k = nets[k] := by unfold lat; rw [Int.toNat_natCast, List.getD_eq_getElem?_getD, List.getElem?_eq_getElem hk]; rfl
  rw [← e, h.2 k (by rw [← h.1]; exact hk)]
  split
  · exact evalL_in _ _
  · refine lat_in (asg_in hs (asg_in hi fun y hy => ?_)) _
    rw [(List.mem_replicate.1 hy).2]
    omega
/-- Only the nets' values are what the nodes ask. -/
theorem net_only {c : Ck} {L : List Int} {n : Nat} (V : Vld c L n) {pin pst a b : List Int} (h : Net c.nodes (baseV n (ofTo c.nodes [0] n) (ofTo c.nodes [14] n) pin pst) a) (h' : Net c.nodes (baseV n (ofTo c.nodes [0] n) (ofTo c.nodes [14] n) pin pst) b) : a = b :=
  Net.same V.wf V.lvl h h' fun _ _ _ => rfl
end Go.Proofs.YtbkfpaklmepglaaDoor

namespace Go.Proofs.YtbkfpaklmepglaaDoor

def onAt (on : List Bool) (x : Int) : Bool := on.getD x.toNat false
/-- One node marked. -/
def onS (nodes : List Nd) (on : List Bool) (i : Int) : List Bool := if cmb (nodes.getD i.toNat default).kind = true then on.set i.toNat (onAt on i || (nodes.getD i.toNat default).ins.any (onAt on)) else on
theorem onAt_set {on : List Bool} {i : Nat} {b : Bool} {x : Int} (h0 : 0 ≤ x) : onAt (on.set i b) x = if x = i ∧ i < on.length then b else onAt on x := by
  unfold onAt
  rw [List.getD_eq_getElem?_getD, List.getD_eq_getElem?_getD, List.getElem?_set]
  by_cases h : i = x.toNat
  · subst h
    by_cases hl : x.toNat < on.length
    · rw [if_pos rfl, if_pos hl, if_pos ⟨by omega, hl⟩]; rfl
    · rw [if_pos rfl, if_neg hl, if_neg (fun e => hl e.2), List.getElem?_eq_none (by omega)]
  · rw [if_neg h, if_neg (fun e => h (by omega))]
/-- The nodes of P are marked, and so is s. -/
structure OnI (nodes : List Nd) (s : Nat) (P : List Int) (on : List Bool) : Prop where
  len : on.length = nodes.length
  src : onAt on s = true
  on : ∀ y ∈ P, cmb (nodes.getD y.toNat default).kind = true → ∀ z ∈ (nodes.getD y.toNat default).ins, onAt on z = true → onAt on y = true
theorem OnI.step {nodes : List Nd} {s : Nat} {P L : List Int} {on : List Bool} (hw : Wf nodes) (hL : Lvl nodes L) (h : OnI nodes s P on) {x : Int} (h0 : 0 ≤ x) (hx : x < (nodes.length : Int))
    (hP : ∀ y ∈ P, 0 ≤ y ∧ y < (nodes.length : Int) ∧ y ≠ x ∧ lat L y ≤ lat L x) : OnI nodes s (P ++ [x]) (onS nodes on x) := by
  unfold onS
  by_cases hc : cmb (nodes.getD x.toNat default).kind = true
  · rw [if_pos hc]
    obtain ⟨b, hb⟩ : ∃ b, b = (onAt on x || (nodes.getD x.toNat default).ins.any (onAt on)) := ⟨_, rfl⟩
    rw [← hb]
    have hset : ∀ y : Int, 0 ≤ y → y ≠ x → onAt (on.set x.toNat b) y = onAt on y := fun y hy hyx => by
      rw [onAt_set hy, if_neg (fun e => hyx (by omega))]
    have hx2 : onAt (on.set x.toNat b) x = b := by
      rw [onAt_set h0, if_pos ⟨by omega, by rw [h.len]; omega⟩]
    refine ⟨by rw [List.length_set]; exact h.len, ?_, fun y hy hyc z hz hzo => ?_⟩
    · by_cases e : (s : Int) = x
      · rw [e, hx2, hb, ← e, h.src]; rfl
      · rw [hset s (by omega) e]; exact h.src
    · rcases List.mem_append.1 hy with hy | hy
      · obtain ⟨p0, p1, p2, p3⟩ := hP y hy
        have hz' : z ∈ dep nodes y := by rw [dep_ins hyc]; exact hz
        have q := hw.dep (i := y) (by omega) hz'
        have hzx : z ≠ x := fun e => by have := hL.lt p0 (by omega) hz'; rw [e] at this; omega
        rw [hset z q.1 hzx] at hzo
        rw [hset y p0 p2]
        exact h.on y hy hyc z hz hzo
      · obtain rfl : y = x := by simpa using hy
        have hz' : z ∈ dep nodes y := by rw [dep_ins hyc]; exact hz
        have q := hw.dep (i := y) (by omega) hz'
        have hzx : z ≠ y := fun e => by have := hL.lt h0 (by omega) hz'; rw [e] at this; omega
        rw [hset z q.1 hzx] at hzo
        rw [hx2, hb, List.any_eq_true.2 ⟨z, hz, hzo⟩, Bool.or_true]
  · rw [if_neg hc]
    refine ⟨h.len, h.src, fun y hy hyc => ?_⟩
    rcases List.mem_append.1 hy with hy | hy
    · exact h.on y hy hyc
    · obtain rfl : y = x := by simpa using hy
      exact absurd hyc hc
theorem OnI.start (nodes : List Nd) (s n : Nat) (hn : n = nodes.length) (hs : s < n) : OnI nodes s [] ((List.replicate n false).set s true) :=
  ⟨by simp [hn], by rw [onAt_set (by omega), if_pos ⟨rfl, by simpa using hs⟩], fun y hy => by cases hy⟩
/-- What is not marked keeps its value. -/
theorem OnI.keep {nodes : List Nd} {s : Nat} {P L base base' a b : List Int} {on : List Bool} (hw : Wf nodes) (hL : Lvl nodes L) (h : OnI nodes s P on) (hP : ∀ i : Nat, i < nodes.length → (i : Int) ∈ P) (ha : Net nodes base a) (hb : Net nodes base' b)
    (he : ∀ i : Nat, i < nodes.length → cmb (nodes.getD i default).kind = false → i ≠ s → lat base i = lat base' i) : ∀ i : Nat, i < nodes.length → onAt on i = false → lat a i = lat b i := by
  have key : ∀ (m : Nat) (i : Nat), i < nodes.length → lat L i < (m : Int) → onAt on i = false → lat a i = lat b i := by
    intro m
    induction m with
    | zero => intro i hi hlt; have := hL.nonneg hi; omega
    | succ m ih =>
      intro i hi hlt hon
      rw [ha.2 i hi, hb.2 i hi]
      by_cases hc : cmb (nodes.getD i default).kind = true
      · rw [if_pos hc, if_pos hc]
        refine gateV_congr fun z hz => ?_
        have hz' : z ∈ dep nodes i := by rw [dep_ins (by rw [Int.toNat_natCast]; exact hc)]; exact hz
        have q := hw.dep (i := (i : Int)) (by omega) hz'
        have hl := hL.lt (i := (i : Int)) (by omega) (by omega) hz'
        have hzo : onAt on z = false := by
          cases hh : onAt on z
          · rfl
          · have := h.on i (hP i hi) (by rw [Int.toNat_natCast]; exact hc) z hz hh
            rw [this] at hon; cases hon
        obtain ⟨k, rfl⟩ := Int.eq_ofNat_of_zero_le q.1
        exact ih k (by omega) (by omega) hzo
      · rw [if_neg hc, if_neg hc]
        refine he i hi (by simpa using hc) fun e => ?_
        subst e
        rw [h.src] at hon; cases hon
  exact fun i hi => key ((lat L i).toNat + 1) i hi (by have := hL.nonneg hi; omega)

/-- The node of position k in the law's list of inputs and states, and the pattern changed there. -/
theorem fan_base {c : Ck} {L : List Int} {n : Nat} (V : Vld c L n) (hm : c.mems.length = 0) (hk : ∀ i : Nat, i < n → 0 ≤ (c.nodes.getD i default).kind) {pin pst pin' pst' : List Int} (hi : (ofTo c.nodes [0] n).length = pin.length) (hs : (ofTo c.nodes [14] n).length = pst.length) (hi' : pin'.length = pin.length) (hs' : pst'.length = pst.length) {s : Nat}
    (e1 : ∀ j, j < pin.length → (ofTo c.nodes [0] n).getD j 0 ≠ (s : Int) → pin.getD j 0 = pin'.getD j 0) (e2 : ∀ j, j < pst.length → (ofTo c.nodes [14] n).getD j 0 ≠ (s : Int) → pst.getD j 0 = pst'.getD j 0) :
    ∀ i : Nat, i < c.nodes.length → cmb (c.nodes.getD i default).kind = false → i ≠ s → lat (baseV n (ofTo c.nodes [0] n) (ofTo c.nodes [14] n) pin pst) i = lat (baseV n (ofTo c.nodes [0] n) (ofTo c.nodes [14] n) pin' pst') i := fun i hin hc hne => by
  have hlen := V.len
  rcases (kinds_of V hm hin (hk i (by omega))).1 with e | e | e
  · have hat := ofTo_at n (i := i) (by omega) (kl := [0]) (nodes := c.nodes) (by rw [isK_one, e]; rfl)
    rw [base_in hi (by omega) e, base_in (by rw [hi', hi]) (by omega) e]
    exact e1 _ (by rw [← hi]; exact hat.1) (by rw [hat.2]; omega)
  · have hat := ofTo_at n (i := i) (by omega) (kl := [14]) (nodes := c.nodes) (by rw [isK_one, e]; rfl)
    rw [base_st hs (by omega) e, base_st (by rw [hs', hs]) (by omega) e]
    exact e2 _ (by rw [← hs]; exact hat.1) (by rw [hat.2]; omega)
  · rw [e] at hc; cases hc
/-- The same, for the change of the law. -/
theorem fan_eq {c : Ck} {L : List Int} {n ni ns : Nat} (V : Vld c L n) (hm : c.mems.length = 0) (hk : ∀ i : Nat, i < n → 0 ≤ (c.nodes.getD i default).kind) {pin pst mI mS : List Int} (hi : (ofTo c.nodes [0] n).length = ni) (hs : (ofTo c.nodes [14] n).length = ns) (l1 : pin.length = ni) (l2 : pst.length = ns) {kk s : Nat} {v : Int}
    (hls : (ofTo c.nodes [0] n ++ ofTo c.nodes [14] n).getD kk 0 = (s : Int)) (hc : (kk < ni ∧ mI = pin.set kk v ∧ mS = pst) ∨ (ni ≤ kk ∧ mI = pin ∧ mS = pst.set (kk - ni) v)) :
    ∀ i : Nat, i < c.nodes.length → cmb (c.nodes.getD i default).kind = false → i ≠ s → lat (baseV n (ofTo c.nodes [0] n) (ofTo c.nodes [14] n) pin pst) i = lat (baseV n (ofTo c.nodes [0] n) (ofTo c.nodes [14] n) mI mS) i := by
  rcases hc with ⟨h1, rfl, rfl⟩ | ⟨h1, rfl, rfl⟩
  · refine fan_base V hm hk (by omega) (by omega) (by rw [List.length_set]) rfl (fun j hj hne => ?_) (fun _ _ _ => rfl)
    by_cases e : j = kk
    · subst e
      rw [List.getD_eq_getElem?_getD, List.getElem?_append_left (by omega), ← List.getD_eq_getElem?_getD] at hls
      exact absurd hls hne
    · rw [List.getD_eq_getElem?_getD, List.getD_eq_getElem?_getD, List.getElem?_set, if_neg (fun h => e h.symm)]
  · refine fan_base V hm hk (by omega) (by omega) rfl (by rw [List.length_set]) (fun _ _ _ => rfl) (fun j hj hne => ?_)
    by_cases e : j = kk - ni
    · subst e
      rw [List.getD_eq_getElem?_getD, List.getElem?_append_right (by omega), hi, ← List.getD_eq_getElem?_getD] at hls
      exact absurd hls hne
    · rw [List.getD_eq_getElem?_getD, List.getD_eq_getElem?_getD, List.getElem?_set, if_neg (fun h => e h.symm)]
theorem fan_in {ni : Nat} {pin pst mI mS : List Int} {kk : Nat} {v : Int} (v1 : ∀ y ∈ pin, 0 ≤ y ∧ y ≤ 3) (v2 : ∀ y ∈ pst, 0 ≤ y ∧ y ≤ 3) (hv : 0 ≤ v ∧ v ≤ 3) (hc : (kk < ni ∧ mI = pin.set kk v ∧ mS = pst) ∨ (ni ≤ kk ∧ mI = pin ∧ mS = pst.set (kk - ni) v)) : (∀ y ∈ mI, 0 ≤ y ∧ y ≤ 3) ∧ ∀ y ∈ mS, 0 ≤ y ∧ y ≤ 3 := by
  have hset : ∀ (l : List Int) (j : Nat), (∀ y ∈ l, 0 ≤ y ∧ y ≤ 3) → ∀ y ∈ l.set j v, 0 ≤ y ∧ y ≤ 3 := fun l j h y hy => by
    rcases List.mem_or_eq_of_mem_set hy with h' | rfl
    · exact h y h'
    · exact hv
  rcases hc with ⟨-, rfl, rfl⟩ | ⟨-, rfl, rfl⟩
  · exact ⟨hset _ _ v1, v2⟩
  · exact ⟨v1, hset _ _ v2⟩
theorem set_same {on : List Bool} {i : Nat} {b : Bool} (h : onAt on i = b) (hi : i < on.length) : on.set i b = on := by
  apply List.ext_getElem?
  intro j
  rw [List.getElem?_set]
  by_cases e : i = j
  · subst e
    rw [if_pos rfl, if_pos hi]
    unfold onAt at h
    rw [Int.toNat_natCast, List.getD_eq_getElem?_getD, List.getElem?_eq_getElem hi] at h
    rw [List.getElem?_eq_getElem hi, ← h]
    rfl
  · rw [if_neg e]
/-- The marks when the first m pins of node x have been looked at. -/
def onM (nodes : List Nd) (on : List Bool) (x m : Nat) : Bool := onAt on x || ((nodes.getD x default).ins.take m).any (onAt on)
theorem onM_zero (nodes : List Nd) (on : List Bool) (x : Nat) : onM nodes on x 0 = onAt on x := by simp [onM]
theorem onM_succ {nodes : List Nd} {on : List Bool} {x m : Nat} (h : m < (nodes.getD x default).ins.length) : onM nodes on x (m + 1) = (onM nodes on x m || onAt on ((nodes.getD x default).ins.getD m 0)) := by
  unfold onM
  rw [take_succ_getD _ _ h, List.any_append, ← Bool.or_assoc]
  simp
theorem onS_all {nodes : List Nd} {on : List Bool} {x m : Nat} (hc : cmb (nodes.getD x default).kind = true) (h : m = (nodes.getD x default).ins.length) : onS nodes on (x : Int) = on.set x (onM nodes on x m) := by
  unfold onS onM
  rw [Int.toNat_natCast, if_pos hc, List.take_of_length_le (by omega)]
theorem onS_none {nodes : List Nd} {on : List Bool} {x : Nat} (hc : cmb (nodes.getD x default).kind = false) : onS nodes on (x : Int) = on := by
  unfold onS
  rw [Int.toNat_natCast, if_neg (by rw [hc]; decide)]
theorem gatesTo_0 (x : Cx) : ∀ k, (gatesTo x k).getD 0 default = inputN
  | 0 => by
    have h := firstN_le x
    show (baseN x).getD 0 default = inputN
    unfold baseN
    obtain ⟨m, hm⟩ : ∃ m, firstN x = m + 1 := ⟨firstN x - 1, by omega⟩
    rw [hm, List.replicate_succ]
    rfl
  | k + 1 => by
    have h := gatesTo_0 x k
    have hl : 0 < (gatesTo x k).length := by have := firstN_le x; rw [gatesTo_len, baseN_len]; omega
    rw [gatesTo, List.getD_eq_getElem?_getD, List.getElem?_append_left hl, ← List.getD_eq_getElem?_getD]
    exact h
theorem dffTo_0 (x : Cx) : ∀ k, (dffTo x k).getD 0 default = inputN
  | 0 => gatesTo_0 x _
  | k + 1 => by
    have h := dffTo_0 x k
    have hf := firstN_le x
    rw [dffTo, List.getD_eq_getElem?_getD, List.getElem?_set, if_neg (by omega), ← List.getD_eq_getElem?_getD]
    exact h
/-- A circuit of C has an input. -/
theorem ofC_in0 (x : Cx) {c : Ck} (hc : c = ofC x) {n : Nat} (hn : 0 < n) : 0 < (ofTo c.nodes [0] n).length := by
  have h : (c.nodes.getD 0 default) = inputN := by rw [hc]; exact dffTo_0 x _
  have := (ofTo_at n hn (i := 0) (kl := [0]) (nodes := c.nodes) (by rw [h]; rfl)).1
  omega
end Go.Proofs.YtbkfpaklmepglaaDoor
