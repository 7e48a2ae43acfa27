/- The values of the nets: what is below stays below; the lists of a pattern laid over the nets. Plain. -/
import Derived.Test.YtfcdhoaccmckoaaGreatDoorRlp
import Derived.Test.YtfcdhoaccmckoaaGreatDoorPure
namespace Go.Proofs.YtfcdhoaccmckoaaGreatDoor

/-- What node i computes of the values out. -/
def gateV (nodes : List Nd) (out : List Int) (i : Int) : Int := evalL (nodes.getD i.toNat default).kind ((nodes.getD i.toNat default).ins.map fun x => cln (lat out x))
/-- One node settled. -/
def stl (nodes : List Nd) (out : List Int) (i : Int) : List Int := if cmb (nodes.getD i.toNat default).kind = true then out.set i.toNat (gateV nodes out i) else out
/-- out are the values of the nets, base those of the nodes that are not combinational. -/
def Net (nodes : List Nd) (base out : List Int) : Prop := out.length = nodes.length ∧ ∀ i : Nat, i < nodes.length → lat out i = if cmb (nodes.getD i default).kind = true then gateV nodes out i else lat base i
/-- The nodes of P are settled. -/
structure StI (nodes : List Nd) (base P out : List Int) : Prop where
  len : out.length = nodes.length
  off : ∀ i : Nat, i < nodes.length → cmb (nodes.getD i default).kind = false → lat out i = lat base i
  on : ∀ y ∈ P, cmb (nodes.getD y.toNat default).kind = true → lat out y = gateV nodes out y

theorem gateV_congr {nodes : List Nd} {out out' : List Int} {i : Int} (h : ∀ x ∈ (nodes.getD i.toNat default).ins, lat out x = lat out' x) : gateV nodes out i = gateV nodes out' i := by
  unfold gateV
  congr 1
  exact List.map_congr_left fun x hx => by rw [h x hx]
theorem dep_ins {nodes : List Nd} {i : Int} (h : cmb (nodes.getD i.toNat default).kind = true) : dep nodes i = (nodes.getD i.toNat default).ins := by
  unfold dep depsOf; rw [if_pos h]
theorem StI.start (nodes : List Nd) (base : List Int) (h : base.length = nodes.length) : StI nodes base [] base := ⟨h, fun _ _ _ => rfl, fun y hy => by cases hy⟩
theorem StI.step {nodes : List Nd} {base P out L : List Int} (hw : Wf nodes) (hL : Lvl nodes L) (h : StI nodes base P out) {x : Int} (h0 : 0 ≤ x) (hx : x < (nodes.length : Int))
    (hP : ∀ y ∈ P, 0 ≤ y ∧ y < (nodes.length : Int) ∧ y ≠ x ∧ lat L y ≤ lat L x) : StI nodes base (P ++ [x]) (stl nodes out x) := by
  unfold stl
  by_cases hc : cmb (nodes.getD x.toNat default).kind = true
  · rw [if_pos hc]
    have hset : ∀ y : Int, 0 ≤ y → y ≠ x → lat (out.set x.toNat (gateV nodes out x)) y = lat out y := fun y hy hyx => by
      rw [lat_set _ hy, if_neg (fun e => hyx (by omega))]
    have hx2 : lat (out.set x.toNat (gateV nodes out x)) x = gateV nodes out x := by
      rw [lat_set _ h0, if_pos ⟨by omega, by rw [h.len]; omega⟩]
    have hself : ∀ z ∈ (nodes.getD x.toNat default).ins, lat (out.set x.toNat (gateV nodes out x)) z = lat out z := fun z hz => by
      have hz' : z ∈ dep nodes x := by rw [dep_ins hc]; exact hz
      have := hw.dep (i := x) (by omega) hz'
      exact hset z this.1 fun e => by have := hL.lt h0 (by omega) hz'; rw [e] at this; omega
    refine ⟨by rw [List.length_set]; exact h.len, fun i hi hn => ?_, fun y hy hyc => ?_⟩
    · rw [hset i (by omega) (fun e => by rw [← e] at hc; rw [Int.toNat_natCast] at hc; rw [hc] at hn; cases hn)]
      exact h.off i hi hn
    · rcases List.mem_append.1 hy with hy | hy
      · obtain ⟨p0, p1, p2, p3⟩ := hP y hy
        rw [hset y p0 p2, h.on y hy hyc]
        refine gateV_congr fun z hz => ?_
        have hz' : z ∈ dep nodes y := by rw [dep_ins hyc]; exact hz
        have q := hw.dep (i := y) (by omega) hz'
        exact (hset z q.1 fun e => by have := hL.lt p0 (by omega) hz'; rw [e] at this; omega).symm
      · obtain rfl : y = x := by simpa using hy
        rw [hx2]
        exact (gateV_congr hself).symm
  · rw [if_neg hc]
    refine ⟨h.len, h.off, fun y hy hyc => ?_⟩
    rcases List.mem_append.1 hy with hy | hy
    · exact h.on y hy hyc
    · obtain rfl : y = x := by simpa using hy
      exact absurd hyc hc
theorem StI.stop {nodes : List Nd} {base P out : List Int} (h : StI nodes base P out) (hP : ∀ i : Nat, i < nodes.length → (i : Int) ∈ P) : Net nodes base out :=
  ⟨h.len, fun i hi => by
    by_cases hc : cmb (nodes.getD i default).kind = true
    · rw [if_pos hc]
      exact h.on i (hP i hi) (by rw [Int.toNat_natCast]; exact hc)
    · rw [if_neg hc]
      exact h.off i hi (by simpa using hc)⟩
theorem Net.same {nodes : List Nd} {base base' out out' L : List Int} (hw : Wf nodes) (hL : Lvl nodes L) (h : Net nodes base out) (h' : Net nodes base' out') (hb : ∀ i : Nat, i < nodes.length → cmb (nodes.getD i default).kind = false → lat base i = lat base' i) : out = out' := by
  have key : ∀ (m : Nat) (i : Nat), i < nodes.length → lat L i < (m : Int) → lat out i = lat out' i := by
    intro m
    induction m with
    | zero => intro i hi hlt; have := hL.nonneg hi; omega
    | succ m ih =>
      intro i hi hlt
      rw [h.2 i hi, h'.2 i hi]
      by_cases hc : cmb (nodes.getD i default).kind = true
      · rw [if_pos hc, if_pos hc]
        refine gateV_congr fun z hz => ?_
        have hz' : z ∈ dep nodes i := by rw [dep_ins (by rw [Int.toNat_natCast]; exact hc)]; exact hz
        have q := hw.dep (i := (i : Int)) (by omega) hz'
        have hl := hL.lt (i := (i : Int)) (by omega) (by omega) hz'
        obtain ⟨k, rfl⟩ := Int.eq_ofNat_of_zero_le q.1
        exact ih k (by omega) (by omega)
      · rw [if_neg hc, if_neg hc]
        exact hb i hi (by simpa using hc)
  refine ext_lat (h.1.trans h'.1.symm) fun i hi => ?_
  have hi' : i < nodes.length := by rw [← h.1]; exact hi
  exact key ((lat L i).toNat + 1) i hi' (by have := hL.nonneg hi'; omega)
/-- The prefix of an order is settled, node by node. -/
theorem order_before {L R : List Int} {n : Nat} (h : SortTo L n n R) {k : Nat} (hk : k < n) : 0 ≤ lat R k ∧ lat R k < (n : Int) ∧ ∀ y ∈ R.take k, 0 ≤ y ∧ y < (n : Int) ∧ y ≠ lat R k ∧ lat L y ≤ lat L (lat R k) := by
  obtain ⟨S, h1, h2, h3, h4, h5⟩ := h
  have hR : R = S := by rw [h1]; simp [rng]
  subst hR
  have hk' : k < R.length := by omega
  have e : lat R k = R[k] := by unfold lat; rw [Int.toNat_natCast, List.getD_eq_getElem?_getD, List.getElem?_eq_getElem hk']; rfl
  rw [e]
  refine ⟨(h5 _ (List.getElem_mem hk')).1, (h5 _ (List.getElem_mem hk')).2, fun y hy => ?_⟩
  have hm := h5 y (List.mem_of_mem_take hy)
  obtain ⟨j, hj, ej⟩ := List.mem_iff_getElem.1 hy
  rw [List.length_take] at hj
  rw [List.getElem_take] at ej
  have hjk : j < k := by omega
  have := List.pairwise_iff_getElem.1 h4 j k (by omega) hk' hjk
  rw [ej] at this
  refine ⟨hm.1, hm.2, fun e2 => ?_, ?_⟩
  · rw [e2] at this; exact Lex.irr _ this
  · rcases this with h | h <;> omega
end Go.Proofs.YtfcdhoaccmckoaaGreatDoor

namespace Go.Proofs.YtfcdhoaccmckoaaGreatDoor.Lg

theorem blw_iff (a b : Int) : blw a b = true ↔ cln a = cln b ∨ cln a = 2 := by simp [blw]
theorem blw_refl (a : Int) : blw a a = true := by simp [blw]
theorem blw_X (b : Int) : blw 2 b = true := by simp [blw, show cln 2 = 2 by decide]
theorem cln_0 {b : Int} (h : cln b = 0) : b = 0 := by unfold cln at h; split at h <;> omega
theorem cln_1 {b : Int} (h : cln b = 1) : b = 1 := by unfold cln at h; split at h <;> omega
theorem blw_of_0 {b : Int} (h : blw 0 b = true) : b = 0 := by
  rcases (blw_iff _ _).1 h with h | h
  · exact cln_0 (by rw [← h]; decide)
  · exact absurd h (by decide)
theorem blw_of_1 {b : Int} (h : blw 1 b = true) : b = 1 := by
  rcases (blw_iff _ _).1 h with h | h
  · exact cln_1 (by rw [← h]; decide)
  · exact absurd h (by decide)
/-- Of two values, the one below the other: both the same known value, or it is read as X. -/
theorem blw_cases {a b : Int} (h : blw a b = true) : (a = 0 ∧ b = 0) ∨ (a = 1 ∧ b = 1) ∨ rd a = 2 := by
  rcases knw_cases a with ⟨rfl, _⟩ | ⟨rfl, _⟩ | ⟨_, _, _, h2⟩
  · exact .inl ⟨rfl, blw_of_0 h⟩
  · exact .inr (.inl ⟨rfl, blw_of_1 h⟩)
  · exact .inr (.inr h2)
theorem rd_mono {a b : Int} (h : blw a b = true) : blw (rd a) (rd b) = true := by
  rcases blw_cases h with ⟨rfl, rfl⟩ | ⟨rfl, rfl⟩ | h2
  · exact blw_refl _
  · exact blw_refl _
  · rw [h2]; exact blw_X _
theorem nt_2 {a : Int} (h : rd a = 2) : nt a = 2 := by simp [nt, h]
theorem nt_mono {a b : Int} (h : blw a b = true) : blw (nt a) (nt b) = true := by
  rcases blw_cases h with ⟨rfl, rfl⟩ | ⟨rfl, rfl⟩ | h2
  · exact blw_refl _
  · exact blw_refl _
  · rw [nt_2 h2]; exact blw_X _
theorem mx_mono {s a b s' a' b' : Int} (hs : blw s s' = true) (ha : blw a a' = true) (hb : blw b b' = true) : blw (mx s a b) (mx s' a' b') = true := by
  rcases blw_cases hs with ⟨rfl, rfl⟩ | ⟨rfl, rfl⟩ | h2
  · exact rd_mono ha
  · exact rd_mono hb
  · unfold mx
    rw [h2]
    rcases blw_cases ha with ⟨rfl, rfl⟩ | ⟨rfl, rfl⟩ | h3
    · rcases blw_cases hb with ⟨rfl, rfl⟩ | ⟨rfl, rfl⟩ | h4
      · rcases rd_cases s' with h | h | h <;> rw [h] <;> decide
      · rcases rd_cases s' with h | h | h <;> rw [h] <;> decide
      · rw [h4]; exact blw_X _
    · rcases blw_cases hb with ⟨rfl, rfl⟩ | ⟨rfl, rfl⟩ | h4
      · rcases rd_cases s' with h | h | h <;> rw [h] <;> decide
      · rcases rd_cases s' with h | h | h <;> rw [h] <;> decide
      · rw [h4]; exact blw_X _
    · rw [h3]
      have e : (if (2 : Int) = 0 then (2 : Int) else if (2 : Int) = 1 then rd b else if (2 : Int) = rd b then 2 else 2) = 2 := by simp
      rw [e]; exact blw_X _
theorem tr_mono {a b a' b' : Int} (ha : blw a a' = true) (hb : blw b b' = true) : blw (tr a b) (tr a' b') = true := by
  rcases blw_cases ha with ⟨rfl, rfl⟩ | ⟨rfl, rfl⟩ | h2
  · exact blw_refl _
  · exact rd_mono hb
  · have e : tr a b = 2 := by simp [tr, h2]
    rw [e]; exact blw_X _

/-- Each value of the one list is below that of the other. -/
def LeL (l m : List Int) : Prop := l.length = m.length ∧ ∀ j, j < l.length → blw (l.getD j 0) (m.getD j 0) = true
theorem anyIs_iff {g : Int → Int} {x : Int} {l : List Int} : anyIs g x l = true ↔ ∃ j, j < l.length ∧ g (l.getD j 0) = x := by
  constructor
  · intro h
    obtain ⟨v, hv, hx⟩ := List.any_eq_true.1 h
    obtain ⟨k, hk, rfl⟩ := List.mem_iff_getElem.1 hv
    refine ⟨k, hk, ?_⟩
    rw [List.getD_eq_getElem?_getD, List.getElem?_eq_getElem hk]
    simpa using hx
  · rintro ⟨k, hk, h⟩
    exact anyIs_yes k hk (by simpa using h)
theorem LeL.known {l m : List Int} (h : LeL l m) (x : Int) (hx : x = 0 ∨ x = 1) (hl : anyIs rd x l = true) : anyIs rd x m = true := by
  obtain ⟨j, hj, e⟩ := anyIs_iff.1 hl
  refine anyIs_iff.2 ⟨j, by rw [← h.1]; exact hj, ?_⟩
  rcases blw_cases (h.2 j hj) with ⟨h1, h2⟩ | ⟨h1, h2⟩ | h1
  · rw [h2, ← h1]; exact e
  · rw [h2, ← h1]; exact e
  · omega
theorem LeL.eq_ {l m : List Int} (h : LeL l m) (hl : anyIs rd 2 l = false) : l = m := by
  apply List.ext_getElem h.1
  intro j h1 h2
  have e1 : l.getD j 0 = l[j] := by rw [List.getD_eq_getElem?_getD, List.getElem?_eq_getElem h1]; rfl
  have e2 : m.getD j 0 = m[j] := by rw [List.getD_eq_getElem?_getD, List.getElem?_eq_getElem h2]; rfl
  rw [← e1, ← e2]
  rcases blw_cases (h.2 j h1) with ⟨h3, h4⟩ | ⟨h3, h4⟩ | h3
  · rw [h3, h4]
  · rw [h3, h4]
  · have := bit_of_any hl j h1
    rcases this with h5 | h5 <;> rw [h5] at h3 <;> exact absurd h3 (by decide)
theorem and_mono {l m : List Int} (h : LeL l m) : blw (andL l) (andL m) = true := by
  cases h0 : anyIs rd 0 l
  · cases h2 : anyIs rd 2 l
    · rw [h.eq_ h2]; exact blw_refl _
    · have e : andL l = 2 := by simp [andL, h0, h2]
      rw [e]; exact blw_X _
  · have e : andL l = 0 := by simp [andL, h0]
    have e' : andL m = 0 := by simp [andL, h.known 0 (.inl rfl) h0]
    rw [e, e']; exact blw_refl _
theorem or_mono {l m : List Int} (h : LeL l m) : blw (orL l) (orL m) = true := by
  cases h0 : anyIs rd 1 l
  · cases h2 : anyIs rd 2 l
    · rw [h.eq_ h2]; exact blw_refl _
    · have e : orL l = 2 := by simp [orL, h0, h2]
      rw [e]; exact blw_X _
  · have e : orL l = 1 := by simp [orL, h0]
    have e' : orL m = 1 := by simp [orL, h.known 1 (.inr rfl) h0]
    rw [e, e']; exact blw_refl _
theorem xor_mono {l m : List Int} (h : LeL l m) : blw (xorL l) (xorL m) = true := by
  cases h2 : anyIs rd 2 l
  · rw [h.eq_ h2]; exact blw_refl _
  · have e : xorL l = 2 := by simp [xorL, h2]
    rw [e]; exact blw_X _
theorem anyIs_map (g : Int → Int) (x : Int) (l : List Int) : anyIs g x l = (l.map g).any (· == x) := by
  unfold anyIs; rw [List.any_map]; rfl
theorem bus_mono {l m : List Int} (h : LeL l m) : blw (busL l) (busL m) = true := by
  cases h2 : anyIs cln 2 l
  · have e : l.map cln = m.map cln := by
      apply List.ext_getElem (by simpa using h.1)
      intro j h1 h3
      have hj : j < l.length := by simpa using h1
      have hj' : j < m.length := by simpa using h3
      have e1 : l.getD j 0 = l[j] := by rw [List.getD_eq_getElem?_getD, List.getElem?_eq_getElem hj]; rfl
      have e2 : m.getD j 0 = m[j] := by rw [List.getD_eq_getElem?_getD, List.getElem?_eq_getElem hj']; rfl
      rw [List.getElem_map, List.getElem_map, ← e1, ← e2]
      rcases (blw_iff _ _).1 (h.2 j hj) with h4 | h4
      · exact h4
      · have := (anyIs_iff (g := cln) (x := 2) (l := l)).2 ⟨j, hj, h4⟩
        rw [h2] at this; cases this
    have e' : ∀ x, anyIs cln x l = anyIs cln x m := fun x => by rw [anyIs_map, anyIs_map, e]
    have : busL l = busL m := by unfold busL conL; rw [e' 2, e' 0, e' 1]
    rw [this]; exact blw_refl _
  · have e : busL l = 2 := by simp [busL, h2]
    rw [e]; exact blw_X _
theorem LeL.at_ {l m : List Int} (h : LeL l m) (j : Nat) : blw (l.getD j 0) (m.getD j 0) = true := by
  by_cases hj : j < l.length
  · exact h.2 j hj
  · rw [List.getD_eq_getElem?_getD, List.getD_eq_getElem?_getD, List.getElem?_eq_none (by omega), List.getElem?_eq_none (by rw [← h.1]; omega)]
    exact blw_refl _
theorem ite_mono {c : Prop} [Decidable c] {a b a' b' : Int} (h1 : blw a a' = true) (h2 : blw b b' = true) : blw (if c then a else b) (if c then a' else b') = true := by
  split
  · exact h1
  · exact h2
theorem fun_mono (k : Int) {l m : List Int} (h : LeL l m) : blw (funL k l) (funL k m) = true := by
  unfold funL
  refine ite_mono (blw_refl _) ?_
  refine ite_mono (blw_refl _) ?_
  refine ite_mono (rd_mono (h.at_ 0)) ?_
  refine ite_mono (nt_mono (h.at_ 0)) ?_
  refine ite_mono (and_mono h) ?_
  refine ite_mono (nt_mono (and_mono h)) ?_
  refine ite_mono (or_mono h) ?_
  refine ite_mono (nt_mono (or_mono h)) ?_
  refine ite_mono (xor_mono h) ?_
  refine ite_mono (nt_mono (xor_mono h)) ?_
  refine ite_mono (mx_mono (h.at_ 0) (h.at_ 1) (h.at_ 2)) ?_
  refine ite_mono (tr_mono (h.at_ 0) (h.at_ 1)) ?_
  refine ite_mono (bus_mono h) ?_
  exact blw_refl _
theorem eval_mono (k : Int) {l m : List Int} (h : LeL l m) : blw (evalL k l) (evalL k m) = true := by
  unfold evalL
  rw [← h.1]
  exact ite_mono (blw_refl _) (fun_mono k h)

/-- The values that replace the first k of a list. -/
def morL (l y : List Int) : Nat → List Int
  | 0 => []
  | k + 1 => morL l y k ++ [if cln (l.getD k 0) = 2 then y.getD k 0 else l.getD k 0]
theorem morL_len (l y : List Int) (k : Nat) : (morL l y k).length = k := by
  induction k with
  | zero => rfl
  | succ k ih => simp [morL, ih]
theorem morL_get (l y : List Int) : ∀ (n k : Nat), k < n → (morL l y n).getD k 0 = if cln (l.getD k 0) = 2 then y.getD k 0 else l.getD k 0
  | 0, _, h => absurd h (by omega)
  | n + 1, k, h => by
    rw [morL, List.getD_eq_getElem?_getD]
    by_cases hk : k < n
    · rw [List.getElem?_append_left (by rw [morL_len]; exact hk), ← List.getD_eq_getElem?_getD]
      exact morL_get l y n k hk
    · obtain rfl : k = n := by omega
      rw [List.getElem?_append_right (by rw [morL_len]; exact Nat.le_refl _), morL_len, Nat.sub_self]
      rfl
theorem morL_le (l y : List Int) : LeL l (morL l y l.length) := by
  refine ⟨(morL_len _ _ _).symm, fun j hj => ?_⟩
  rw [morL_get l y _ j hj]
  split
  · next h => exact (blw_iff _ _).2 (.inr h)
  · exact blw_refl _

end Go.Proofs.YtfcdhoaccmckoaaGreatDoor.Lg

namespace Go.Proofs.YtfcdhoaccmckoaaGreatDoor

theorem cln_cln (a : Int) : cln (cln a) = cln a := by unfold cln; split <;> simp_all
theorem blw_cln (a b : Int) : blw (cln a) (cln b) = blw a b := by unfold blw; rw [cln_cln, cln_cln]
theorem Net.mono {nodes : List Nd} {base base' out out' L : List Int} (hw : Wf nodes) (hL : Lvl nodes L) (h : Net nodes base out) (h' : Net nodes base' out')
    (hb : ∀ i : Nat, i < nodes.length → cmb (nodes.getD i default).kind = false → blw (lat base i) (lat base' i) = true) : ∀ i : Nat, i < nodes.length → blw (lat out i) (lat out' i) = true := by
  have key : ∀ (m : Nat) (i : Nat), i < nodes.length → lat L i < (m : Int) → blw (lat out i) (lat out' i) = true := by
    intro m
    induction m with
    | zero => intro i hi hlt; have := hL.nonneg hi; omega
    | succ m ih =>
      intro i hi hlt
      rw [h.2 i hi, h'.2 i hi]
      by_cases hc : cmb (nodes.getD i default).kind = true
      · rw [if_pos hc, if_pos hc]
        refine Lg.eval_mono _ ⟨by simp, fun j hj => ?_⟩
        have hj' : j < (nodes.getD ((i : Int).toNat) default).ins.length := by simpa using hj
        have e : ∀ o : List Int, ((nodes.getD ((i : Int).toNat) default).ins.map fun x => cln (lat o x)).getD j 0 = cln (lat o ((nodes.getD ((i : Int).toNat) default).ins[j])) := fun o => by
          rw [List.getD_eq_getElem?_getD, List.getElem?_map, List.getElem?_eq_getElem hj']; rfl
        rw [e, e, blw_cln]
        have hz : (nodes.getD ((i : Int).toNat) default).ins[j] ∈ dep nodes i := by rw [dep_ins (by rw [Int.toNat_natCast]; exact hc)]; exact List.getElem_mem hj'
        have q := hw.dep (i := (i : Int)) (by omega) hz
        have hl := hL.lt (i := (i : Int)) (by omega) (by omega) hz
        generalize (nodes.getD ((i : Int).toNat) default).ins[j] = z at *
        obtain ⟨k, rfl⟩ := Int.eq_ofNat_of_zero_le q.1
        exact ih k (by omega) (by omega)
      · rw [if_neg hc, if_neg hc]
        exact hb i hi (by simpa using hc)
  exact fun i hi => key ((lat L i).toNat + 1) i hi (by have := hL.nonneg hi; omega)

/-- The values vs laid over the nodes of l. -/
def asg (out l vs : List Int) : List Int := (l.zip vs).foldl (fun o p => o.set p.1.toNat p.2) out
theorem asg_len (out l vs : List Int) : (asg out l vs).length = out.length := by
  unfold asg
  induction l.zip vs generalizing out with
  | nil => rfl
  | cons p t ih => rw [List.foldl_cons, ih, List.length_set]
theorem asg_rel {R : Int → Int → Prop} : ∀ (l vs vs' out out' : List Int), (∀ x ∈ l, 0 ≤ x) → vs.length = vs'.length → out.length = out'.length → (∀ j, j < vs.length → R (vs.getD j 0) (vs'.getD j 0)) → (∀ i : Nat, i < out.length → R (lat out i) (lat out' i)) →
    ∀ i : Nat, i < out.length → R (lat (asg out l vs) i) (lat (asg out' l vs') i) := by
  intro l
  induction l with
  | nil => intro vs vs' out out' _ _ _ _ h i hi; simpa [asg] using h i hi
  | cons x l ih =>
    intro vs vs' out out' hl hv ho hr h i hi
    cases vs with
    | nil => obtain rfl : vs' = [] := List.eq_nil_of_length_eq_zero hv.symm; simpa [asg] using h i hi
    | cons v vs =>
      cases vs' with
      | nil => cases hv
      | cons v' vs' =>
        have e : ∀ o a t, asg o (x :: l) (a :: t) = asg (o.set x.toNat a) l t := fun o a t => rfl
        rw [e, e]
        refine ih vs vs' _ _ (fun y hy => hl y (List.mem_cons_of_mem _ hy)) (by simpa using hv) (by simpa using ho) (fun j hj => hr (j + 1) (by simpa using hj)) (fun k hk => ?_) i (by simpa using hi)
        rw [lat_set _ (by omega), lat_set _ (by omega)]
        have hx := hl x List.mem_cons_self
        rw [← ho]
        split
        · exact hr 0 (by simp)
        · exact h k (by simpa using hk)
/-- What the nodes that are not combinational have for a pattern: ins and sts are their indices. -/
def baseV (n : Nat) (ins sts pin pst : List Int) : List Int := asg (asg (List.replicate n 0) ins pin) sts pst
theorem baseV_len (n : Nat) (ins sts pin pst : List Int) : (baseV n ins sts pin pst).length = n := by simp [baseV, asg_len]
theorem baseV_rel {R : Int → Int → Prop} {n : Nat} {ins sts pin pst pin' pst' : List Int} (hi : ∀ x ∈ ins, 0 ≤ x) (hs : ∀ x ∈ sts, 0 ≤ x) (h0 : R 0 0) (h1 : pin.length = pin'.length) (h2 : pst.length = pst'.length)
    (r1 : ∀ j, j < pin.length → R (pin.getD j 0) (pin'.getD j 0)) (r2 : ∀ j, j < pst.length → R (pst.getD j 0) (pst'.getD j 0)) {i : Nat} (hn : i < n) : R (lat (baseV n ins sts pin pst) i) (lat (baseV n ins sts pin' pst') i) := by
  have z : ∀ k : Nat, lat (List.replicate n (0 : Int)) k = 0 := fun k => by
    unfold lat; rw [List.getD_eq_getElem?_getD, List.getElem?_replicate]; split <;> rfl
  refine asg_rel sts pst pst' _ _ hs h2 (by rw [asg_len, asg_len]) r2 (fun k hk => ?_) i (by rw [asg_len]; simpa using hn)
  rw [asg_len] at hk
  exact asg_rel ins pin pin' _ _ hi h1 rfl r1 (fun k hk => by rw [z k]; exact h0) k (by simpa using hk)
end Go.Proofs.YtfcdhoaccmckoaaGreatDoor
