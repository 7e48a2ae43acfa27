/- The plain fact behind the law of monotonicity: if each input is below the one that replaces it, what a kind computes is below what it becomes. -/
import Derived.Test.YtnddgkcgedkabaaDoorPure
namespace Go.Proofs.YtnddgkcgedkabaaDoor

theorem blw_iff (a b : Int) : blw a b = true ↔ cln a = cln b ∨ cln a = 2 := by simp [blw]
theorem blw_refl (a : Int) : blw a a = true := by simp [blw]
theorem blw_X (b : Int) : blw 2 b = true := by simp [blw, show cln 2 = 2 by decide]
theorem cln_0 {b : Int} (h : cln b = 0) : b = 0 := by unfold cln at h; split at h <;> omega
theorem cln_1 {b : Int} (h : cln b = 1) : b = 1 := by unfold cln at h; split at h <;> omega
theorem blw_of_0 {b : Int} (h : blw 0 b = true) : b = 0 := by
  rcases (blw_iff _ _).1 h with h | h
  · exact cln_0 (by rw [← h]; decide)
  · exact absurd h (by decide)
theorem blw_of_1 {b : Int} (h : blw 1 b = true) : b = 1 := by
  rcases (blw_iff _ _).1 h with h | h
  · exact cln_1 (by rw [← h]; decide)
  · exact absurd h (by decide)
/-- Of two values, the one below the other: both the same known value, or it is read as X. -/
theorem blw_cases {a b : Int} (h : blw a b = true) : (a = 0 ∧ b = 0) ∨ (a = 1 ∧ b = 1) ∨ rd a = 2 := by
  rcases knw_cases a with ⟨rfl, _⟩ | ⟨rfl, _⟩ | ⟨_, _, _, h2⟩
  · exact .inl ⟨rfl, blw_of_0 h⟩
  · exact .inr (.inl ⟨rfl, blw_of_1 h⟩)
  · exact .inr (.inr h2)
theorem rd_mono {a b : Int} (h : blw a b = true) : blw (rd a) (rd b) = true := by
  rcases blw_cases h with ⟨rfl, rfl⟩ | ⟨rfl, rfl⟩ | h2
  · exact blw_refl _
  · exact blw_refl _
  · rw [h2]; exact blw_X _
theorem nt_2 {a : Int} (h : rd a = 2) : nt a = 2 := by simp [nt, h]
theorem nt_mono {a b : Int} (h : blw a b = true) : blw (nt a) (nt b) = true := by
  rcases blw_cases h with ⟨rfl, rfl⟩ | ⟨rfl, rfl⟩ | h2
  · exact blw_refl _
  · exact blw_refl _
  · rw [nt_2 h2]; exact blw_X _
theorem mx_mono {s a b s' a' b' : Int} (hs : blw s s' = true) (ha : blw a a' = true) (hb : blw b b' = true) : blw (mx s a b) (mx s' a' b') = true := by
  rcases blw_cases hs with ⟨rfl, rfl⟩ | ⟨rfl, rfl⟩ | h2
  · exact rd_mono ha
  · exact rd_mono hb
  · unfold mx
    rw [h2]
    rcases blw_cases ha with ⟨rfl, rfl⟩ | ⟨rfl, rfl⟩ | h3
    · rcases blw_cases hb with ⟨rfl, rfl⟩ | ⟨rfl, rfl⟩ | h4
      · rcases rd_cases s' with h | h | h <;> rw [h] <;> decide
      · rcases rd_cases s' with h | h | h <;> rw [h] <;> decide
      · rw [h4]; exact blw_X _
    · rcases blw_cases hb with ⟨rfl, rfl⟩ | ⟨rfl, rfl⟩ | h4
      · rcases rd_cases s' with h | h | h <;> rw [h] <;> decide
      · rcases rd_cases s' with h | h | h <;> rw [h] <;> decide
      · rw [h4]; exact blw_X _
    · rw [h3]
      have e : (if (2 : Int) = 0 then (2 : Int) else if (2 : Int) = 1 then rd b else if (2 : Int) = rd b then 2 else 2) = 2 := by simp
      rw [e]; exact blw_X _
theorem tr_mono {a b a' b' : Int} (ha : blw a a' = true) (hb : blw b b' = true) : blw (tr a b) (tr a' b') = true := by
  rcases blw_cases ha with ⟨rfl, rfl⟩ | ⟨rfl, rfl⟩ | h2
  · exact blw_refl _
  · exact rd_mono hb
  · have e : tr a b = 2 := by simp [tr, h2]
    rw [e]; exact blw_X _

/-- Each value of the one list is below that of the other. -/
def LeL (l m : List Int) : Prop := l.length = m.length ∧ ∀ j, j < l.length → blw (l.getD j 0) (m.getD j 0) = true
theorem anyIs_iff {g : Int → Int} {x : Int} {l : List Int} : anyIs g x l = true ↔ ∃ j, j < l.length ∧ g (l.getD j 0) = x := by
  constructor
  · intro h
    obtain ⟨v, hv, hx⟩ := List.any_eq_true.1 h
    obtain ⟨k, hk, rfl⟩ := List.mem_iff_getElem.1 hv
    refine ⟨k, hk, ?_⟩
    rw [List.getD_eq_getElem?_getD, List.getElem?_eq_getElem hk]
    simpa using hx
  · rintro ⟨k, hk, h⟩
    exact anyIs_yes k hk (by simpa using h)
theorem LeL.known {l m : List Int} (h : LeL l m) (x : Int) (hx : x = 0 ∨ x = 1) (hl : anyIs rd x l = true) : anyIs rd x m = true := by
  obtain ⟨j, hj, e⟩ := anyIs_iff.1 hl
  refine anyIs_iff.2 ⟨j, by rw [← h.1]; exact hj, ?_⟩
  rcases blw_cases (h.2 j hj) with ⟨h1, h2⟩ | ⟨h1, h2⟩ | h1
  · rw [h2, ← h1]; exact e
  · rw [h2, ← h1]; exact e
  · omega
theorem LeL.eq_ {l m : List Int} (h : LeL l m) (hl : anyIs rd 2 l = false) : l = m := by
  apply List.ext_getElem h.1
  intro j h1 h2
  have e1 : l.getD j 0 = l[j] := by rw [List.getD_eq_getElem?_getD, List.getElem?_eq_getElem h1]; rfl
  have e2 : m.getD j 0 = m[j] := by rw [List.getD_eq_getElem?_getD, List.getElem?_eq_getElem h2]; rfl
  rw [← e1, ← e2]
  rcases blw_cases (h.2 j h1) with ⟨h3, h4⟩ | ⟨h3, h4⟩ | h3
  · rw [h3, h4]
  · rw [h3, h4]
  · have := bit_of_any hl j h1
    rcases this with h5 | h5 <;> rw [h5] at h3 <;> exact absurd h3 (by decide)
theorem and_mono {l m : List Int} (h : LeL l m) : blw (andL l) (andL m) = true := by
  cases h0 : anyIs rd 0 l
  · cases h2 : anyIs rd 2 l
    · rw [h.eq_ h2]; exact blw_refl _
    · have e : andL l = 2 := by simp [andL, h0, h2]
      rw [e]; exact blw_X _
  · have e : andL l = 0 := by simp [andL, h0]
    have e' : andL m = 0 := by simp [andL, h.known 0 (.inl rfl) h0]
    rw [e, e']; exact blw_refl _
theorem or_mono {l m : List Int} (h : LeL l m) : blw (orL l) (orL m) = true := by
  cases h0 : anyIs rd 1 l
  · cases h2 : anyIs rd 2 l
    · rw [h.eq_ h2]; exact blw_refl _
    · have e : orL l = 2 := by simp [orL, h0, h2]
      rw [e]; exact blw_X _
  · have e : orL l = 1 := by simp [orL, h0]
    have e' : orL m = 1 := by simp [orL, h.known 1 (.inr rfl) h0]
    rw [e, e']; exact blw_refl _
theorem xor_mono {l m : List Int} (h : LeL l m) : blw (xorL l) (xorL m) = true := by
  cases h2 : anyIs rd 2 l
  · rw [h.eq_ h2]; exact blw_refl _
  · have e : xorL l = 2 := by simp [xorL, h2]
    rw [e]; exact blw_X _
theorem anyIs_map (g : Int → Int) (x : Int) (l : List Int) : anyIs g x l = (l.map g).any (· == x) := by
  unfold anyIs; rw [List.any_map]; rfl
theorem bus_mono {l m : List Int} (h : LeL l m) : blw (busL l) (busL m) = true := by
  cases h2 : anyIs cln 2 l
  · have e : l.map cln = m.map cln := by
      apply List.ext_getElem (by simpa using h.1)
      intro j h1 h3
      have hj : j < l.length := by simpa using h1
      have hj' : j < m.length := by simpa using h3
      have e1 : l.getD j 0 = l[j] := by rw [List.getD_eq_getElem?_getD, List.getElem?_eq_getElem hj]; rfl
      have e2 : m.getD j 0 = m[j] := by rw [List.getD_eq_getElem?_getD, List.getElem?_eq_getElem hj']; rfl
      rw [List.getElem_map, List.getElem_map, ← e1, ← e2]
      rcases (blw_iff _ _).1 (h.2 j hj) with h4 | h4
      · exact h4
      · have := (anyIs_iff (g := cln) (x := 2) (l := l)).2 ⟨j, hj, h4⟩
        rw [h2] at this; cases this
    have e' : ∀ x, anyIs cln x l = anyIs cln x m := fun x => by rw [anyIs_map, anyIs_map, e]
    have : busL l = busL m := by unfold busL conL; rw [e' 2, e' 0, e' 1]
    rw [this]; exact blw_refl _
  · have e : busL l = 2 := by simp [busL, h2]
    rw [e]; exact blw_X _
theorem LeL.at_ {l m : List Int} (h : LeL l m) (j : Nat) : blw (l.getD j 0) (m.getD j 0) = true := by
  by_cases hj : j < l.length
  · exact h.2 j hj
  · rw [List.getD_eq_getElem?_getD, List.getD_eq_getElem?_getD, List.getElem?_eq_none (by omega), List.getElem?_eq_none (by rw [← h.1]; omega)]
    exact blw_refl _
theorem ite_mono {c : Prop} [Decidable c] {a b a' b' : Int} (h1 : blw a a' = true) (h2 : blw b b' = true) : blw (if c then a else b) (if c then a' else b') = true := by
  split
  · exact h1
  · exact h2
theorem fun_mono (k : Int) {l m : List Int} (h : LeL l m) : blw (funL k l) (funL k m) = true := by
  unfold funL
  refine ite_mono (blw_refl _) ?_
  refine ite_mono (blw_refl _) ?_
  refine ite_mono (rd_mono (h.at_ 0)) ?_
  refine ite_mono (nt_mono (h.at_ 0)) ?_
  refine ite_mono (and_mono h) ?_
  refine ite_mono (nt_mono (and_mono h)) ?_
  refine ite_mono (or_mono h) ?_
  refine ite_mono (nt_mono (or_mono h)) ?_
  refine ite_mono (xor_mono h) ?_
  refine ite_mono (nt_mono (xor_mono h)) ?_
  refine ite_mono (mx_mono (h.at_ 0) (h.at_ 1) (h.at_ 2)) ?_
  refine ite_mono (tr_mono (h.at_ 0) (h.at_ 1)) ?_
  refine ite_mono (bus_mono h) ?_
  exact blw_refl _
theorem eval_mono (k : Int) {l m : List Int} (h : LeL l m) : blw (evalL k l) (evalL k m) = true := by
  unfold evalL
  rw [← h.1]
  exact ite_mono (blw_refl _) (fun_mono k h)

/-- The values that replace the first k of a list. -/
def morL (l y : List Int) : Nat → List Int
  | 0 => []
  | k + 1 => morL l y k ++ [if cln (l.getD k 0) = 2 then y.getD k 0 else l.getD k 0]
theorem morL_len (l y : List Int) (k : Nat) : (morL l y k).length = k := by
  induction k with
  | zero => rfl
  | succ k ih => simp [morL, ih]
theorem morL_get (l y : List Int) : ∀ (n k : Nat), k < n → (morL l y n).getD k 0 = if cln (l.getD k 0) = 2 then y.getD k 0 else l.getD k 0
  | 0, _, h => absurd h (by omega)
  | n + 1, k, h => by
    rw [morL, List.getD_eq_getElem?_getD]
    by_cases hk : k < n
    · rw [List.getElem?_append_left (by rw [morL_len]; exact hk), ← List.getD_eq_getElem?_getD]
      exact morL_get l y n k hk
    · obtain rfl : k = n := by omega
      rw [List.getElem?_append_right (by rw [morL_len]; exact Nat.le_refl _), morL_len, Nat.sub_self]
      rfl
theorem morL_le (l y : List Int) : LeL l (morL l y l.length) := by
  refine ⟨(morL_len _ _ _).symm, fun j hj => ?_⟩
  rw [morL_get l y _ j hj]
  split
  · next h => exact (blw_iff _ _).2 (.inr h)
  · exact blw_refl _

end Go.Proofs.YtnddgkcgedkabaaDoor
