/- The texts Rlv Smp LgMono. -/
import Derived.Test.YtcaikkfcjeojiaaDoorM14
import Derived.Test.YtcaikkfcjeojiaaDoorM08
import Derived.Test.YtcaikkfcjeojiaaDoorM09
import Derived.Test.YtcaikkfcjeojiaaDoorM01
namespace Go.Proofs.YtcaikkfcjeojiaaDoor
open Go.RowKit

section
variable {w wr w1 : World} {vs : List Value} {out : List Int}
end
/-- Bounded by b. -/
def Bd (l : List Int) (b : Nat) : Prop := ∀ i : Nat, lat l i ≤ (b : Int)
theorem Bd.zero (n : Nat) : Bd (List.replicate n 0) 0 := fun i => by
  unfold lat; rw [List.getD_eq_getElem?_getD, List.getElem?_replicate]; split <;> exact Int.le_refl _
theorem Bd.pin {s : List Int × Bool} {b k : Nat} (h : Bd s.1 b) {x : Int} (hx : 0 ≤ x) : Bd (rpin k s x).1 (b + 1) := fun i => by
  have h1 := h i
  have h2 := h x.toNat
  rw [lat_nat _ hx] at h2
  unfold rpin
  split
  · show lat (s.1.set k _) i ≤ _
    rw [lat_set _ (by omega)]
    split <;> omega
  · omega
theorem Bd.le {l : List Int} {b b' : Nat} (h : Bd l b) (hb : b ≤ b') : Bd l b' := fun i => by have := h i; omega
end Go.Proofs.YtcaikkfcjeojiaaDoor

namespace Go.Proofs.YtcaikkfcjeojiaaDoor

/-- What node i computes of the values out. -/
def gateV (nodes : List Nd) (out : List Int) (i : Int) : Int := evalL (nodes.getD i.toNat default).kind ((nodes.getD i.toNat default).ins.map fun x => cln (lat out x))
/-- One node settled. -/
def stl (nodes : List Nd) (out : List Int) (i : Int) : List Int := if cmb (nodes.getD i.toNat default).kind = true then out.set i.toNat (gateV nodes out i) else out
/-- out are the values of the nets, base those of the nodes that are not combinational. -/
def Net (nodes : List Nd) (base out : List Int) : Prop := out.length = nodes.length ∧ ∀ i : Nat, i < nodes.length → lat out i = if cmb (nodes.getD i default).kind = true then gateV nodes out i else lat base i
/-- The nodes of P are settled. -/
structure StI (nodes : List Nd) (base P out : List Int) : Prop where
  len : out.length = nodes.length
  off : ∀ i : Nat, i < nodes.length → cmb (nodes.getD i default).kind = false → lat out i = lat base i
  on : ∀ y ∈ P, cmb (nodes.getD y.toNat default).kind = true → lat out y = gateV nodes out y

theorem gateV_congr {nodes : List Nd} {out out' : List Int} {i : Int} (h : ∀ x ∈ (nodes.getD i.toNat default).ins, lat out x = lat out' x) : gateV nodes out i = gateV nodes out' i := by
  unfold gateV
  congr 1
  exact List.map_congr_left fun x hx => by rw [h x hx]
theorem dep_ins {nodes : List Nd} {i : Int} (h : cmb (nodes.getD i.toNat default).kind = true) : dep nodes i = (nodes.getD i.toNat default).ins := by
  unfold dep depsOf; rw [if_pos h]
theorem StI.step {nodes : List Nd} {base P out L : List Int} (hw : Wf nodes) (hL : Lvl nodes L) (h : StI nodes base P out) {x : Int} (h0 : 0 ≤ x) (hx : x < (nodes.length : Int))
    (hP : ∀ y ∈ P, 0 ≤ y ∧ y < (nodes.length : Int) ∧ y ≠ x ∧ lat L y ≤ lat L x) : StI nodes base (P ++ [x]) (stl nodes out x) := by
  unfold stl
  by_cases hc : cmb (nodes.getD x.toNat default).kind = true
  · rw [if_pos hc]
    have hset : ∀ y : Int, 0 ≤ y → y ≠ x → lat (out.set x.toNat (gateV nodes out x)) y = lat out y := fun y hy hyx => by
      rw [lat_set _ hy, if_neg (fun e => hyx (by omega))]
    have hx2 : lat (out.set x.toNat (gateV nodes out x)) x = gateV nodes out x := by
      rw [lat_set _ h0, if_pos ⟨by omega, by rw [h.len]; omega⟩]
    have hself : ∀ z ∈ (nodes.getD x.toNat default).ins, lat (out.set x.toNat (gateV nodes out x)) z = lat out z := fun z hz => by
      have hz' : z ∈ dep nodes x := by rw [dep_ins hc]; exact hz
      have := hw.dep (i := x) (by omega) hz'
      exact hset z this.1 fun e => by have := hL.lt h0 (by omega) hz'; rw [e] at this; omega
    refine ⟨by rw [List.length_set]; exact h.len, fun i hi hn => ?_, fun y hy hyc => ?_⟩
    · rw [hset i (by omega) (fun e => by rw [← e] at hc; rw [Int.toNat_natCast] at hc; rw [hc] at hn; cases hn)]
      exact h.off i hi hn
    · rcases List.mem_append.1 hy with hy | hy
      · obtain ⟨p0, p1, p2, p3⟩ := hP y hy
        rw [hset y p0 p2, h.on y hy hyc]
        refine gateV_congr fun z hz => ?_
        have hz' : z ∈ dep nodes y := by rw [dep_ins hyc]; exact hz
        have q := hw.dep (i := y) (by omega) hz'
        exact (hset z q.1 fun e => by have := hL.lt p0 (by omega) hz'; rw [e] at this; omega).symm
      · obtain rfl : y = x := by simpa using hy
        rw [hx2]
        exact (gateV_congr hself).symm
  · rw [if_neg hc]
    refine ⟨h.len, h.off, fun y hy hyc => ?_⟩
    rcases List.mem_append.1 hy with hy | hy
    · exact h.on y hy hyc
    · obtain rfl : y = x := by simpa using hy
      exact absurd hyc hc
theorem Net.same {nodes : List Nd} {base base' out out' L : List Int} (hw : Wf nodes) (hL : Lvl nodes L) (h : Net nodes base out) (h' : Net nodes base' out') (hb : ∀ i : Nat, i < nodes.length → cmb (nodes.getD i default).kind = false → lat base i = lat base' i) : out = out' := by
  have key : ∀ (m : Nat) (i : Nat), i < nodes.length → lat L i < (m : Int) → lat out i = lat out' i := by
    intro m
    induction m with
    | zero => intro i hi hlt; have := hL.nonneg hi; omega
    | succ m ih =>
      intro i hi hlt
      rw [h.2 i hi, h'.2 i hi]
      by_cases hc : cmb (nodes.getD i default).kind = true
      · rw [if_pos hc, if_pos hc]
        refine gateV_congr fun z hz => ?_
        have hz' : z ∈ dep nodes i := by rw [dep_ins (by rw [Int.toNat_natCast]; exact hc)]; exact hz
        have q := hw.dep (i := (i : Int)) (by omega) hz'
        have hl := hL.lt (i := (i : Int)) (by omega) (by omega) hz'
        obtain ⟨k, rfl⟩ := Int.eq_ofNat_of_zero_le q.1
        exact ih k (by omega) (by omega)
      · rw [if_neg hc, if_neg hc]
        exact hb i hi (by simpa using hc)
  refine ext_lat (h.1.trans h'.1.symm) fun i hi => ?_
  have hi' : i < nodes.length := by rw [← h.1]; exact hi
  exact key ((lat L i).toNat + 1) i hi' (by have := hL.nonneg hi'; omega)
end Go.Proofs.YtcaikkfcjeojiaaDoor

namespace Go.Proofs.YtcaikkfcjeojiaaDoor.Lg

theorem blw_iff (a b : Int) : blw a b = true ↔ cln a = cln b ∨ cln a = 2 := by simp [blw]
theorem blw_refl (a : Int) : blw a a = true := by simp [blw]
theorem blw_X (b : Int) : blw 2 b = true := by simp [blw, show cln 2 = 2 by decide]
theorem cln_0 {b : Int} (h : cln b = 0) : b = 0 := by unfold cln at h; split at h <;> omega
theorem cln_1 {b : Int} (h : cln b = 1) : b = 1 := by unfold cln at h; split at h <;> omega
theorem blw_of_0 {b : Int} (h : blw 0 b = true) : b = 0 := by
  rcases (blw_iff _ _).1 h with h | h
  · exact cln_0 (by rw [← h]; decide)
  · exact absurd h (by decide)
theorem blw_of_1 {b : Int} (h : blw 1 b = true) : b = 1 := by
  rcases (blw_iff _ _).1 h with h | h
  · exact cln_1 (by rw [← h]; decide)
  · exact absurd h (by decide)
/-- Of two values, the one below the other: both the same known value, or it is read as X. -/
theorem blw_cases {a b : Int} (h : blw a b = true) : (a = 0 ∧ b = 0) ∨ (a = 1 ∧ b = 1) ∨ rd a = 2 := by
  rcases knw_cases a with ⟨rfl, _⟩ | ⟨rfl, _⟩ | ⟨_, _, _, h2⟩
  · exact .inl ⟨rfl, blw_of_0 h⟩
  · exact .inr (.inl ⟨rfl, blw_of_1 h⟩)
  · exact .inr (.inr h2)
theorem rd_mono {a b : Int} (h : blw a b = true) : blw (rd a) (rd b) = true := by
  rcases blw_cases h with ⟨rfl, rfl⟩ | ⟨rfl, rfl⟩ | h2
  · exact blw_refl _
  · exact blw_refl _
  · rw [h2]; exact blw_X _
theorem nt_2 {a : Int} (h : rd a = 2) : nt a = 2 := by simp [nt, h]
theorem nt_mono {a b : Int} (h : blw a b = true) : blw (nt a) (nt b) = true := by
  rcases blw_cases h with ⟨rfl, rfl⟩ | ⟨rfl, rfl⟩ | h2
  · exact blw_refl _
  · exact blw_refl _
  · rw [nt_2 h2]; exact blw_X _
theorem mx_mono {s a b s' a' b' : Int} (hs : blw s s' = true) (ha : blw a a' = true) (hb : blw b b' = true) : blw (mx s a b) (mx s' a' b') = true := by
  rcases blw_cases hs with ⟨rfl, rfl⟩ | ⟨rfl, rfl⟩ | h2
  · exact rd_mono ha
  · exact rd_mono hb
  · unfold mx
    rw [h2]
    rcases blw_cases ha with ⟨rfl, rfl⟩ | ⟨rfl, rfl⟩ | h3
    · rcases blw_cases hb with ⟨rfl, rfl⟩ | ⟨rfl, rfl⟩ | h4
      · rcases rd_cases s' with h | h | h <;> rw [h] <;> decide
      · rcases rd_cases s' with h | h | h <;> rw [h] <;> decide
      · rw [h4]; exact blw_X _
    · rcases blw_cases hb with ⟨rfl, rfl⟩ | ⟨rfl, rfl⟩ | h4
      · rcases rd_cases s' with h | h | h <;> rw [h] <;> decide
      · rcases rd_cases s' with h | h | h <;> rw [h] <;> decide
      · rw [h4]; exact blw_X _
    · rw [h3]
      have e : (if (2 : Int) = 0 then (2 : Int) else if (2 : Int) = 1 then rd b else if (2 : Int) = rd b then 2 else 2) = 2 := by simp
      rw [e]; exact blw_X _
theorem tr_mono {a b a' b' : Int} (ha : blw a a' = true) (hb : blw b b' = true) : blw (tr a b) (tr a' b') = true := by
  rcases blw_cases ha with ⟨rfl, rfl⟩ | ⟨rfl, rfl⟩ | h2
  · exact blw_refl _
  · exact rd_mono hb
  · have e : tr a b = 2 := by simp [tr, h2]
    rw [e]; exact blw_X _

/-- Each value of the one list is below that of the other. -/
def LeL (l m : List Int) : Prop := l.length = m.length ∧ ∀ j, j < l.length → blw (l.getD j 0) (m.getD j 0) = true
theorem anyIs_iff {g : Int → Int} {x : Int} {l : List Int} : anyIs g x l = true ↔ ∃ j, j < l.length ∧ g (l.getD j 0) = x := by
  constructor
  · intro h
    obtain ⟨v, hv, hx⟩ := List.any_eq_true.1 h
    obtain ⟨k, hk, rfl⟩ := List.mem_iff_getElem.1 hv
    refine ⟨k, hk, ?_⟩
    rw [List.getD_eq_getElem?_getD, List.getElem?_eq_getElem hk]
    simpa using hx
  · rintro ⟨k, hk, h⟩
    exact anyIs_yes k hk (by simpa using h)
theorem LeL.known {l m : List Int} (h : LeL l m) (x : Int) (hx : x = 0 ∨ x = 1) (hl : anyIs rd x l = true) : anyIs rd x m = true := by
  obtain ⟨j, hj, e⟩ := anyIs_iff.1 hl
  refine anyIs_iff.2 ⟨j, by rw [← h.1]; exact hj, ?_⟩
  rcases blw_cases (h.2 j hj) with ⟨h1, h2⟩ | ⟨h1, h2⟩ | h1
  · rw [h2, ← h1]; exact e
  · rw [h2, ← h1]; exact e
  · omega
theorem LeL.eq_ {l m : List Int} (h : LeL l m) (hl : anyIs rd 2 l = false) : l = m := by
  apply List.ext_getElem h.1
  intro j h1 h2
  have e1 : l.getD j 0 = l[j] := by rw [List.getD_eq_getElem?_getD, List.getElem?_eq_getElem h1]; rfl
  have e2 : m.getD j 0 = m[j] := by rw [List.getD_eq_getElem?_getD, List.getElem?_eq_getElem h2]; rfl
  rw [← e1, ← e2]
  rcases blw_cases (h.2 j h1) with ⟨h3, h4⟩ | ⟨h3, h4⟩ | h3
  · rw [h3, h4]
  · rw [h3, h4]
  · have := bit_of_any hl j h1
    rcases this with h5 | h5 <;> rw [h5] at h3 <;> exact absurd h3 (by decide)
theorem and_mono {l m : List Int} (h : LeL l m) : blw (andL l) (andL m) = true := by
  cases h0 : anyIs rd 0 l
  · cases h2 : anyIs rd 2 l
    · rw [h.eq_ h2]; exact blw_refl _
    · have e : andL l = 2 := by simp [andL, h0, h2]
      rw [e]; exact blw_X _
  · have e : andL l = 0 := by simp [andL, h0]
    have e' : andL m = 0 := by simp [andL, h.known 0 (.inl rfl) h0]
    rw [e, e']; exact blw_refl _
theorem or_mono {l m : List Int} (h : LeL l m) : blw (orL l) (orL m) = true := by
  cases h0 : anyIs rd 1 l
  · cases h2 : anyIs rd 2 l
    · rw [h.eq_ h2]; exact blw_refl _
    · have e : orL l = 2 := by simp [orL, h0, h2]
      rw [e]; exact blw_X _
  · have e : orL l = 1 := by simp [orL, h0]
    have e' : orL m = 1 := by simp [orL, h.known 1 (.inr rfl) h0]
    rw [e, e']; exact blw_refl _
theorem xor_mono {l m : List Int} (h : LeL l m) : blw (xorL l) (xorL m) = true := by
  cases h2 : anyIs rd 2 l
  · rw [h.eq_ h2]; exact blw_refl _
  · have e : xorL l = 2 := by simp [xorL, h2]
    rw [e]; exact blw_X _
theorem anyIs_map (g : Int → Int) (x : Int) (l : List Int) : anyIs g x l = (l.map g).any (· == x) := by
  unfold anyIs; rw [List.any_map]; rfl
theorem bus_mono {l m : List Int} (h : LeL l m) : blw (busL l) (busL m) = true := by
  cases h2 : anyIs cln 2 l
  · have e : l.map cln = m.map cln := by
      apply List.ext_getElem (by simpa using h.1)
      intro j h1 h3
      have hj : j < l.length := by simpa using h1
      have hj' : j < m.length := by simpa using h3
      have e1 : l.getD j 0 = l[j] := by rw [List.getD_eq_getElem?_getD, List.getElem?_eq_getElem hj]; rfl
      have e2 : m.getD j 0 = m[j] := by rw [List.getD_eq_getElem?_getD, List.getElem?_eq_getElem hj']; rfl
      rw [List.getElem_map, List.getElem_map, ← e1, ← e2]
      rcases (blw_iff _ _).1 (h.2 j hj) with h4 | h4
      · exact h4
      · have := (anyIs_iff (g := cln) (x := 2) (l := l)).2 ⟨j, hj, h4⟩
        rw [h2] at this; cases this
    have e' : ∀ x, anyIs cln x l = anyIs cln x m := fun x => by rw [anyIs_map, anyIs_map, e]
    have : busL l = busL m := by unfold busL conL; rw [e' 2, e' 0, e' 1]
    rw [this]; exact blw_refl _
  · have e : busL l = 2 := by simp [busL, h2]
    rw [e]; exact blw_X _
theorem LeL.at_ {l m : List Int} (h : LeL l m) (j : Nat) : blw (l.getD j 0) (m.getD j 0) = true := by
  by_cases hj : j < l.length
  · exact h.2 j hj
  · rw [List.getD_eq_getElem?_getD, List.getD_eq_getElem?_getD, List.getElem?_eq_none (by omega), List.getElem?_eq_none (by rw [← h.1]; omega)]
    exact blw_refl _
theorem ite_mono {c : Prop} [Decidable c] {a b a' b' : Int} (h1 : blw a a' = true) (h2 : blw b b' = true) : blw (if c then a else b) (if c then a' else b') = true := by
  split
  · exact h1
  · exact h2
theorem fun_mono (k : Int) {l m : List Int} (h : LeL l m) : blw (funL k l) (funL k m) = true := by
  unfold funL
  refine ite_mono (blw_refl _) ?_
  refine ite_mono (blw_refl _) ?_
  refine ite_mono (rd_mono (h.at_ 0)) ?_
  refine ite_mono (nt_mono (h.at_ 0)) ?_
  refine ite_mono (and_mono h) ?_
  refine ite_mono (nt_mono (and_mono h)) ?_
  refine ite_mono (or_mono h) ?_
  refine ite_mono (nt_mono (or_mono h)) ?_
  refine ite_mono (xor_mono h) ?_
  refine ite_mono (nt_mono (xor_mono h)) ?_
  refine ite_mono (mx_mono (h.at_ 0) (h.at_ 1) (h.at_ 2)) ?_
  refine ite_mono (tr_mono (h.at_ 0) (h.at_ 1)) ?_
  refine ite_mono (bus_mono h) ?_
  exact blw_refl _
theorem eval_mono (k : Int) {l m : List Int} (h : LeL l m) : blw (evalL k l) (evalL k m) = true := by
  unfold evalL
  rw [← h.1]
  exact ite_mono (blw_refl _) (fun_mono k h)

end Go.Proofs.YtcaikkfcjeojiaaDoor.Lg
