/- The texts Mn9 Smk Mm9 Ss9 Wy9 Sf9. -/
import Derived.Test.YtkaedfgmhfefjaaGreatDoorM30
import Derived.Test.YtkaedfgmhfefjaaGreatDoorM12
import Derived.Test.YtkaedfgmhfefjaaGreatDoorM17
import Derived.Test.YtkaedfgmhfefjaaGreatDoorM14
import Derived.Test.YtkaedfgmhfefjaaGreatDoorM16
import Derived.Deep.AppendLies
namespace Go.Proofs.YtkaedfgmhfefjaaGreatDoor
open Go.RowKit

theorem agL_get {a b : List Int} {j : Nat} (hj : j < a.length) : (agL a b).getD j 0 = agB a b j := by
  unfold agL
  rw [List.getD_eq_getElem?_getD, List.getElem?_map, List.getElem?_range hj]
  rfl
/-- A bit of Look is known just if all words that match agree in it. -/
theorem lk_all (ws : List (List Int)) (ad : List Int) (n j : Nat) (hj : j < n) (x : Int) (hx : x = 0 ∨ x = 1) : ∀ k, ((lkS ws ad n k).1 = true ∧ (lkS ws ad n k).2.getD j 0 = x) ↔ ((∃ i, i < k ∧ mat ad i = true) ∧ ∀ i, i < k → mat ad i = true → (bitsL (ws.getD i []) n).getD j 0 = x) := by
  intro k
  induction k with
  | zero =>
    constructor
    · rintro ⟨h, -⟩
      exact absurd h (by simp [lkS])
    · rintro ⟨⟨i, hi, -⟩, -⟩
      exact absurd hi (by omega)
  | succ k ih =>
    have hlen := lkS_len ws ad n k
    have h1 : (lkS ws ad n k).1 = true ↔ ∃ i, i < k ∧ mat ad i = true := by
      clear ih
      induction k with
      | zero =>
        constructor
        · intro h; exact absurd h (by simp [lkS])
        · rintro ⟨i, hi, -⟩; exact absurd hi (by omega)
      | succ k ih =>
        rw [lkS_succ]
        unfold lkStep
        by_cases hm : mat ad k = true
        · rw [if_pos hm]
          exact ⟨fun _ => ⟨k, by omega, hm⟩, fun _ => rfl⟩
        · rw [if_neg hm, ih (lkS_len ..)]
          constructor
          · rintro ⟨i, hi, h⟩; exact ⟨i, by omega, h⟩
          · rintro ⟨i, hi, h⟩
            by_cases e : i = k
            · exact absurd (e ▸ h) hm
            · exact ⟨i, by omega, h⟩
    rw [lkS_succ]
    unfold lkStep
    by_cases hm : mat ad k = true
    · rw [if_pos hm]
      by_cases hs : (lkS ws ad n k).1 = true
      · rw [if_pos hs]
        show (true = true ∧ (agL _ _).getD j 0 = x) ↔ _
        rw [agL_get (by rw [hlen]; exact hj)]
        unfold agB
        constructor
        · rintro ⟨-, h⟩
          by_cases e : (lkS ws ad n k).2.getD j 0 = (bitsL (ws.getD k []) n).getD j 0
          · rw [if_pos e] at h
            have := ih.1 ⟨hs, h⟩
            refine ⟨⟨k, by omega, hm⟩, fun i hi hmi => ?_⟩
            by_cases e2 : i = k
            · rw [e2, ← e, h]
            · exact this.2 i (by omega) hmi
          · rw [if_neg e] at h
            rcases hx with rfl | rfl <;> exact absurd h (by decide)
        · rintro ⟨-, h⟩
          have h2 := h k (by omega) hm
          have h3 := (ih.2 ⟨h1.1 hs, fun i hi hmi => h i (by omega) hmi⟩).2
          exact ⟨rfl, by rw [if_pos (h3.trans h2.symm)]; exact h3⟩
      · rw [if_neg hs]
        show (true = true ∧ (bitsL _ _).getD j 0 = x) ↔ _
        constructor
        · rintro ⟨-, h⟩
          refine ⟨⟨k, by omega, hm⟩, fun i hi hmi => ?_⟩
          by_cases e2 : i = k
          · rw [e2]; exact h
          · exact absurd (h1.2 ⟨i, by omega, hmi⟩) hs
        · rintro ⟨-, h⟩
          exact ⟨rfl, h k (by omega) hm⟩
    · rw [if_neg hm, ih]
      constructor
      · rintro ⟨⟨i, hi, h⟩, h2⟩
        refine ⟨⟨i, by omega, h⟩, fun i hi hmi => ?_⟩
        by_cases e2 : i = k
        · exact absurd (e2 ▸ hmi) hm
        · exact h2 i (by omega) hmi
      · rintro ⟨⟨i, hi, h⟩, h2⟩
        have hik : i ≠ k := fun e => hm (e ▸ h)
        exact ⟨⟨i, by omega, h⟩, fun i hi hmi => h2 i (by omega) hmi⟩

open Lg in
theorem mat_mono {ad ad' : List Int} (h : LeL ad ad') {i : Nat} (hm : mat ad' i = true) : mat ad i = true := by
  rw [mat_iff] at hm ⊢
  refine ⟨fun k hk hkn => ?_, by rw [h.1]; exact hm.2⟩
  have hb := h.2 k hk
  have h2 := hm.1 k (by rw [← h.1]; exact hk)
  rcases blw_cases hb with ⟨e1, e2⟩ | ⟨e1, e2⟩ | e
  · rw [e1, ← e2]; exact h2 (by rw [e2]; rfl)
  · rw [e1, ← e2]; exact h2 (by rw [e2]; rfl)
  · unfold rd at e
    rw [if_pos hkn] at e
    rw [e] at hkn
    exact absurd hkn (by decide)
theorem mat_ex : ∀ ad : List Int, ∃ i, i < 2 ^ ad.length ∧ mat ad i = true
  | [] => ⟨0, by decide, by rw [mat_iff]; exact ⟨fun k hk => absurd hk (by simp), rfl⟩⟩
  | a :: t => by
    obtain ⟨i, hi, hm⟩ := mat_ex t
    rw [mat_iff] at hm
    have hlt : 2 * i + (if a = 1 then 1 else 0) < 2 ^ (a :: t).length := by
      rw [List.length_cons, Nat.pow_succ]
      split <;> omega
    refine ⟨2 * i + (if a = 1 then 1 else 0), hlt, ?_⟩
    rw [mat_iff]
    refine ⟨fun k hk => ?_, by rw [Nat.shiftRight_eq_div_pow]; exact Nat.div_eq_of_lt hlt⟩
    cases k with
    | zero =>
      intro hkn
      show a = ibit _ 0
      have hkn : knw a = true := hkn
      unfold ibit
      rw [Nat.testBit_zero]
      unfold knw at hkn
      by_cases h1 : a = 1
      · subst h1; simp
      · have h0 : a = 0 := by
          have : a = 0 ∨ a = 1 := by simpa using hkn
          omega
        subst h0; simp
    | succ k =>
      have h2 := hm.1 k (by simpa using hk)
      intro hkn
      have h3 : t.getD k 0 = ibit i k := h2 hkn
      show t.getD k 0 = ibit _ (k + 1)
      rw [h3]
      unfold ibit
      rw [Nat.testBit_succ]
      have : (2 * i + (if a = 1 then 1 else 0)) / 2 = i := by split <;> omega
      rw [this]
theorem cpy_get (l : List Int) (n j : Nat) (hj : j < n) : (cpyL l n).getD j 0 = if j < l.length then l.getD j 0 else 2 := by
  unfold cpyL
  rw [List.getD_eq_getElem?_getD]
  by_cases h : j < l.length
  · rw [List.getElem?_append_left (by rw [List.length_take]; omega), if_pos h, List.getElem?_take_of_lt hj, List.getD_eq_getElem?_getD]
  · rw [if_neg h, List.getElem?_append_right (by rw [List.length_take]; omega), List.length_take, List.getElem?_replicate]
    rw [if_pos (by omega)]
    rfl
theorem bits_get (l : List Int) (n j : Nat) (hj : j < n) : (bitsL l n).getD j 0 = rd (if j < l.length then l.getD j 0 else 2) := by
  unfold bitsL
  rw [← cpy_get l n j hj, List.getD_eq_getElem?_getD, List.getElem?_map, List.getD_eq_getElem?_getD, List.getElem?_eq_getElem (by rw [cpyL_len]; exact hj)]
  rfl
theorem rd_val (a : Int) : rd a = 0 ∨ rd a = 1 ∨ rd a = 2 := by
  unfold rd
  split
  · rename_i h
    unfold knw at h
    have : a = 0 ∨ a = 1 := by simpa using h
    omega
  · exact .inr (.inr rfl)
theorem bits_val (l : List Int) (n j : Nat) (hj : j < n) : (bitsL l n).getD j 0 = 0 ∨ (bitsL l n).getD j 0 = 1 ∨ (bitsL l n).getD j 0 = 2 := by rw [bits_get l n j hj]; exact rd_val _
open Lg in
theorem bits_mono {a b : List Int} (h : LeL a b) (n j : Nat) (hj : j < n) : blw ((bitsL a n).getD j 0) ((bitsL b n).getD j 0) = true := by
  rw [bits_get a n j hj, bits_get b n j hj, h.1]
  by_cases hl : j < b.length
  · rw [if_pos hl, if_pos hl]
    exact rd_mono (h.2 j (by rw [h.1]; exact hl))
  · rw [if_neg hl, if_neg hl]
    exact blw_refl _
open Lg in
/-- Look is monotone. -/
theorem look_mono {ws ws' : List (List Int)} {ad ad' : List Int} {n m : Nat} (had : LeL ad ad') (hw : ∀ i, i < m → LeL (ws.getD i []) (ws'.getD i [])) (hm : 2 ^ ad'.length ≤ m) : LeL (lkS ws ad n m).2 (lkS ws' ad' n m).2 := by
  refine ⟨by rw [lkS_len, lkS_len], fun j hj => ?_⟩
  rw [lkS_len] at hj
  obtain ⟨i0, hi0, hmi0⟩ := mat_ex ad'
  have key : ∀ x : Int, x = 0 ∨ x = 1 → (lkS ws ad n m).2.getD j 0 = x → (lkS ws' ad' n m).2.getD j 0 = x := by
    intro x hx hv
    have h1 : (lkS ws ad n m).1 = true := by
      by_cases hc : (lkS ws ad n m).1 = true
      · exact hc
      · exfalso
        have hno : ∀ k, (lkS ws ad n k).1 = false → (lkS ws ad n k).2 = List.replicate n 2 := by
          intro k
          induction k with
          | zero => intro _; rfl
          | succ k ih =>
            rw [lkS_succ]
            unfold lkStep
            by_cases hmk : mat ad k = true
            · rw [if_pos hmk]; intro h; cases h
            · rw [if_neg hmk]; exact ih
        rw [hno m (by simpa using hc)] at hv
        rw [List.getD_eq_getElem?_getD, List.getElem?_replicate, if_pos hj] at hv
        have hv : (2 : Int) = x := hv
        omega
    obtain ⟨-, h2⟩ := (lk_all ws ad n j hj x hx m).1 ⟨h1, hv⟩
    refine ((lk_all ws' ad' n j hj x hx m).2 ⟨⟨i0, by omega, hmi0⟩, fun i hi hmi => ?_⟩).2
    have h3 := h2 i hi (mat_mono had hmi)
    have h4 := bits_mono (hw i hi) n j hj
    rw [h3] at h4
    rcases hx with rfl | rfl
    · exact blw_of_0 h4
    · exact blw_of_1 h4
  by_cases h0 : (lkS ws ad n m).2.getD j 0 = 0
  · rw [h0, key 0 (.inl rfl) h0]; exact blw_refl _
  · by_cases h1 : (lkS ws ad n m).2.getD j 0 = 1
    · rw [h1, key 1 (.inr rfl) h1]; exact blw_refl _
    · have hv : (lkS ws ad n m).2.getD j 0 = 2 := by
        have hval : ∀ k, (lkS ws ad n k).2.getD j 0 = 0 ∨ (lkS ws ad n k).2.getD j 0 = 1 ∨ (lkS ws ad n k).2.getD j 0 = 2 := by
          intro k
          induction k with
          | zero => right; right; show (List.replicate n (2 : Int)).getD j 0 = 2; rw [List.getD_eq_getElem?_getD, List.getElem?_replicate, if_pos hj]; rfl
          | succ k ih =>
            rw [lkS_succ]
            unfold lkStep
            split
            · show (if _ then _ else _ : List Int).getD j 0 = 0 ∨ _
              split
              · rw [agL_get (by rw [lkS_len]; exact hj)]
                unfold agB
                split
                · exact ih
                · exact .inr (.inr rfl)
              · exact bits_val _ n j hj
            · exact ih
        rcases hval m with h | h | h
        · exact absurd h h0
        · exact absurd h h1
        · exact h
      rw [hv]
      exact blw_X _

theorem agB_val {a b : List Int} {j : Nat} (ha : a.getD j 0 = 0 ∨ a.getD j 0 = 1 ∨ a.getD j 0 = 2) : agB a b j = 0 ∨ agB a b j = 1 ∨ agB a b j = 2 := by
  unfold agB
  split
  · exact ha
  · exact .inr (.inr rfl)
open Lg in
theorem agB_le {a b : List Int} {j : Nat} : blw (agB a b j) (a.getD j 0) = true ∧ blw (agB a b j) (b.getD j 0) = true := by
  unfold agB
  split
  · rename_i h
    exact ⟨blw_refl _, by rw [h]; exact blw_refl _⟩
  · exact ⟨blw_X _, blw_X _⟩
open Lg in
theorem agB_mono {a b a' b' : List Int} {j : Nat} (ha : a.getD j 0 = 0 ∨ a.getD j 0 = 1 ∨ a.getD j 0 = 2) (h : blw (a.getD j 0) (a'.getD j 0) = true) (h' : blw (b.getD j 0) (b'.getD j 0) = true) : blw (agB a b j) (agB a' b' j) = true := by
  unfold agB
  by_cases e : a.getD j 0 = b.getD j 0
  · rw [if_pos e]
    rw [← e] at h'
    rcases ha with h0 | h0 | h0
    · rw [h0] at h h' ⊢
      have e1 := blw_of_0 h
      have e2 := blw_of_0 h'
      rw [if_pos (e1.trans e2.symm), e1]; exact blw_refl _
    · rw [h0] at h h' ⊢
      have e1 := blw_of_1 h
      have e2 := blw_of_1 h'
      rw [if_pos (e1.trans e2.symm), e1]; exact blw_refl _
    · rw [h0]; exact blw_X _
  · rw [if_neg e]; exact blw_X _
open Lg in
theorem blw_trans9 {a b c : Int} (h : blw a b = true) (h' : blw b c = true) (ha : a = 0 ∨ a = 1 ∨ a = 2) : blw a c = true := by
  rcases ha with rfl | rfl | rfl
  · rw [blw_of_0 h] at h'; exact h'
  · rw [blw_of_1 h] at h'; exact h'
  · exact blw_X _
open Lg in
theorem cert_mono {en en' : Int} {ad ad' : List Int} (he : blw en en' = true) (h : LeL ad ad') (hc : certB en ad = true) : certB en' ad' = true ∧ ad' = ad := by
  unfold certB at hc ⊢
  simp only [Bool.and_eq_true, decide_eq_true_eq, Bool.not_eq_true'] at hc ⊢
  obtain ⟨rfl, hu⟩ := hc
  have hk : ∀ k, k < ad.length → knw (ad.getD k 0) = true := fun k hk => by
    by_cases hx : knw (ad.getD k 0) = true
    · exact hx
    · have := anyP_yes (p := unk) k hk (by unfold unk; simpa using hx)
      rw [this] at hu
      cases hu
  have he2 : ad' = ad := by
    apply List.ext_getElem h.1.symm
    intro k h1 h2
    have hb := h.2 k h2
    have hkn := hk k h2
    rcases blw_cases hb with ⟨e1, e2⟩ | ⟨e1, e2⟩ | e
    · have := e2.trans e1.symm
      simpa [List.getD_eq_getElem?_getD, h1, h2] using this
    · have := e2.trans e1.symm
      simpa [List.getD_eq_getElem?_getD, h1, h2] using this
    · unfold rd at e
      rw [if_pos hkn] at e
      rw [e] at hkn
      exact absurd hkn (by decide)
  exact ⟨⟨blw_of_1 he, by rw [he2]; exact hu⟩, he2⟩
open Lg in
/-- Store is monotone. -/
theorem store_mono {ws ws' : List (List Int)} {ad ad' dt dt' : List Int} {en en' : Int} {j : Nat} (had : LeL ad ad') (hdt : LeL dt dt') (he : blw en en' = true) (hw : LeL (ws.getD j []) (ws'.getD j [])) : LeL (stW ws ad dt en j) (stW ws' ad' dt' en' j) := by
  refine ⟨by rw [stW_len, stW_len]; exact hw.1, fun i hi => ?_⟩
  rw [stW_len] at hi
  obtain ⟨n, hn⟩ : ∃ n, n = (ws.getD j []).length := ⟨_, rfl⟩
  have hn' : (ws'.getD j []).length = n := by rw [hn]; exact hw.1.symm
  unfold stW
  rw [hn', ← hn]
  rw [← hn] at hi
  have hold := bits_mono hw n i hi
  have hnew := bits_mono hdt n i hi
  have hov := bits_val (ws.getD j []) n i hi
  have hnv := bits_val dt n i hi
  have hgl : (agL (bitsL (ws.getD j []) n) (bitsL dt n)).getD i 0 = agB (bitsL (ws.getD j []) n) (bitsL dt n) i := agL_get (by rw [bitsL_len]; exact hi)
  have hgl' : (agL (bitsL (ws'.getD j []) n) (bitsL dt' n)).getD i 0 = agB (bitsL (ws'.getD j []) n) (bitsL dt' n) i := agL_get (by rw [bitsL_len]; exact hi)
  have hle := agB_le (a := bitsL (ws.getD j []) n) (b := bitsL dt n) (j := i)
  have hgv := agB_val (b := bitsL dt n) hov
  by_cases hc' : en' = 0 ∨ mat ad' j = false
  · rw [if_pos hc']
    by_cases hc : en = 0 ∨ mat ad j = false
    · rw [if_pos hc]; exact hold
    · rw [if_neg hc]
      by_cases hce : certB en ad = true
      · exfalso
        obtain ⟨hce2, e2⟩ := cert_mono he had hce
        rcases hc' with rfl | hm
        · unfold certB at hce2; simp at hce2
        · rw [e2] at hm; exact hc (.inr hm)
      · rw [if_neg hce, hgl]
        exact blw_trans9 hle.1 hold hgv
  · rw [if_neg hc']
    have hmt : mat ad j = true := mat_mono had (Bool.of_not_eq_false fun e => hc' (.inr e))
    have hen : en ≠ 0 := fun e => by rw [e] at he; exact hc' (.inl (blw_of_0 he))
    have hc : ¬ (en = 0 ∨ mat ad j = false) := fun h => by
      rcases h with h | h
      · exact hen h
      · rw [h] at hmt; cases hmt
    rw [if_neg hc]
    by_cases hce : certB en ad = true
    · rw [if_pos hce, if_pos (cert_mono he had hce).1]; exact hnew
    · rw [if_neg hce, hgl]
      by_cases hce' : certB en' ad' = true
      · rw [if_pos hce']; exact blw_trans9 hle.2 hnew hgv
      · rw [if_neg hce', hgl']; exact agB_mono hov hold hnew
end Go.Proofs.YtkaedfgmhfefjaaGreatDoor

namespace Go.Proofs.YtkaedfgmhfefjaaGreatDoor
open Go.RowKit

/-- The second pattern's list behind k rounds: known values of the first in the place of its own. -/
def mrgTo (l m : List Int) (k : Nat) : List Int := (List.range m.length).map fun i => if i < k ∧ l.getD i 0 ≠ 2 then l.getD i 0 else m.getD i 0
theorem mrgTo_len (l m : List Int) (k : Nat) : (mrgTo l m k).length = m.length := by simp [mrgTo]
theorem mrgTo_get {l m : List Int} {k i : Nat} (hi : i < m.length) : (mrgTo l m k).getD i 0 = if i < k ∧ l.getD i 0 ≠ 2 then l.getD i 0 else m.getD i 0 := by
  simp [mrgTo, List.getD_eq_getElem?_getD, hi]
theorem mrgTo_zero (l m : List Int) : mrgTo l m 0 = m := by
  apply List.ext_getElem?
  intro i
  by_cases hi : i < m.length
  · simp [mrgTo, hi, List.getD_eq_getElem?_getD]
  · rw [List.getElem?_eq_none (by rw [mrgTo_len]; omega), List.getElem?_eq_none (by omega)]
theorem getD_ext {a b : List Int} (hl : a.length = b.length) (h : ∀ i, i < a.length → a.getD i 0 = b.getD i 0) : a = b := by
  apply List.ext_getElem hl
  intro i h1 h2
  have := h i h1
  simpa [List.getD_eq_getElem?_getD, List.getElem?_eq_getElem h1, List.getElem?_eq_getElem h2] using this
theorem getD_setL {a : List Int} {k i : Nat} {x : Int} (hk : k < a.length) : (a.set k x).getD i 0 = if i = k then x else a.getD i 0 := by
  rw [List.getD_eq_getElem?_getD, List.getD_eq_getElem?_getD, List.getElem?_set]
  by_cases h : k = i
  · subst h; simp [hk]
  · rw [if_neg h, if_neg (fun e => h e.symm)]
theorem mrgTo_keep {l m : List Int} {k : Nat} (h : l.getD k 0 = 2) : mrgTo l m (k + 1) = mrgTo l m k := by
  refine getD_ext (by rw [mrgTo_len, mrgTo_len]) fun i hi => ?_
  rw [mrgTo_len] at hi
  rw [mrgTo_get hi, mrgTo_get hi]
  by_cases e : i = k
  · subst e; rw [if_neg (fun h' => h'.2 h), if_neg (by omega)]
  · by_cases h1 : i < k
    · by_cases h2 : l.getD i 0 ≠ 2
      · rw [if_pos ⟨by omega, h2⟩, if_pos ⟨h1, h2⟩]
      · rw [if_neg (fun h' => h2 h'.2), if_neg (fun h' => h2 h'.2)]
    · rw [if_neg (by omega), if_neg (by omega)]
theorem mrgTo_put {l m : List Int} {k : Nat} (hk : k < m.length) (h : l.getD k 0 ≠ 2) : mrgTo l m (k + 1) = (mrgTo l m k).set k (l.getD k 0) := by
  refine getD_ext (by rw [List.length_set, mrgTo_len, mrgTo_len]) fun i hi => ?_
  rw [mrgTo_len] at hi
  rw [getD_setL (by rw [mrgTo_len]; exact hk), mrgTo_get hi]
  by_cases e : i = k
  · subst e; rw [if_pos rfl, if_pos ⟨by omega, h⟩]
  · rw [if_neg e, mrgTo_get hi]
    by_cases h1 : i < k
    · by_cases h2 : l.getD i 0 ≠ 2
      · rw [if_pos ⟨by omega, h2⟩, if_pos ⟨h1, h2⟩]
      · rw [if_neg (fun h' => h2 h'.2), if_neg (fun h' => h2 h'.2)]
    · rw [if_neg (by omega), if_neg (by omega)]
theorem mrg_le {l m : List Int} {k i : Nat} (hi : i < m.length) (hk : i < k) : blw (l.getD i 0) ((mrgTo l m k).getD i 0) = true := by
  rw [mrgTo_get hi]
  by_cases h : l.getD i 0 ≠ 2
  · rw [if_pos ⟨hk, h⟩]; exact Lg.blw_refl _
  · have e : l.getD i 0 = 2 := by omega
    rw [e]; exact Lg.blw_X _
theorem takV_in {l : List Int} {most : Int} (h0 : ∀ x ∈ l, 0 ≤ x ∧ x ≤ 255) (hm : 3 ≤ most) (hm2 : most ≤ 4) (i : Nat) : 0 ≤ takV l most i ∧ takV l most i ≤ 3 := by
  unfold takV
  split
  · omega
  · rename_i hl
    have hmem := h0 (l.getD (i % l.length) 0) (by rw [List.getD_eq_getElem?_getD, List.getElem?_eq_getElem (Nat.mod_lt _ (by omega))]; exact List.getElem_mem _)
    rw [Int.tmod_eq_emod_of_nonneg hmem.1]
    have h1 := Int.emod_nonneg (l.getD (i % l.length) 0) (show most ≠ 0 by omega)
    have h2 := Int.emod_lt_of_pos (l.getD (i % l.length) 0) (show 0 < most by omega)
    omega
theorem takL_in {l : List Int} {most : Int} (h0 : ∀ x ∈ l, 0 ≤ x ∧ x ≤ 255) (hm : 3 ≤ most) (hm2 : most ≤ 4) (n : Nat) : ∀ x ∈ takL l most n, 0 ≤ x ∧ x ≤ 3 := fun x hx => by
  obtain ⟨i, -, rfl⟩ := List.mem_map.1 hx
  exact takV_in h0 hm hm2 i
theorem getD_inL {l : List Int} {i : Nat} (h : i < l.length) : l.getD i 0 ∈ l := by
  rw [List.getD_eq_getElem?_getD, List.getElem?_eq_getElem h]; exact List.getElem_mem h
theorem mrgTo_in {l m : List Int} {k : Nat} (hl : ∀ x ∈ l, 0 ≤ x ∧ x ≤ 3) (hm : ∀ x ∈ m, 0 ≤ x ∧ x ≤ 3) (hlen : l.length = m.length) : ∀ x ∈ mrgTo l m k, 0 ≤ x ∧ x ≤ 3 := fun x hx => by
  obtain ⟨i, hi, rfl⟩ := List.mem_map.1 hx
  have hi' := List.mem_range.1 hi
  show 0 ≤ (if i < k ∧ l.getD i 0 ≠ 2 then l.getD i 0 else m.getD i 0) ∧ _
  split
  · exact hl _ (getD_inL (by omega))
  · exact hm _ (getD_inL hi')

/-- Values, response and next states are below, net by net. -/
theorem resp_le {c : Ck} {n1 n2 : List Int} (hl : n1.length = n2.length) (h : ∀ i : Nat, i < n1.length → blw (lat n1 i) (lat n2 i) = true) :
    (∀ x, blw (valA n1 x) (valA n2 x) = true) ∧ (∀ j, j < (outV c n1).length → blw ((outV c n1).getD j 0) ((outV c n2).getD j 0) = true) ∧ (∀ j, j < (nextV c n1).length → blw ((nextV c n1).getD j 0) ((nextV c n2).getD j 0) = true) := by
  have hv : ∀ x, blw (valA n1 x) (valA n2 x) = true := fun x => by
    unfold valA
    rw [hl]
    by_cases hx : x < 0 ∨ (n2.length : Int) ≤ x
    · rw [if_pos hx, if_pos hx]; exact Lg.blw_refl _
    · rw [if_neg hx, if_neg hx, blw_cln]
      obtain ⟨k, rfl⟩ := Int.eq_ofNat_of_zero_le (show 0 ≤ x by omega)
      exact h k (by omega)
  have hd : ∀ l, blw (dataV n1 l) (dataV n2 l) = true := fun l => by
    unfold dataV
    split
    · exact Lg.rd_mono (hv _)
    · exact Lg.blw_refl _
  refine ⟨hv, fun j hj => ?_, fun j hj => ?_⟩
  · unfold outV at hj ⊢
    have hj' : j < c.outs.length := by simpa using hj
    simp only [List.getD_eq_getElem?_getD, List.getElem?_map, List.getElem?_eq_getElem hj']
    exact hv _
  · unfold nextV at hj ⊢
    have hj' : j < (ofTo c.nodes [14] c.nodes.length).length := by simpa using hj
    simp only [List.getD_eq_getElem?_getD, List.getElem?_map, List.getElem?_eq_getElem hj']
    exact hd _

/-- The pattern that is changed in place, in its variable q4: rows of its own behind V3. -/
structure MV (V3 : World) (q4 ni ns cI cS : Nat) (AI AS : Option Addr) (lI lS : List Int) (wr : World) : Prop where
  bel : BelW V3 wr
  box : Fr wr q4 73 [.slice AI ni cI, .slice AS ns cS]
  rI : VStk wr V3.heap.size (.slice AI ni cI) lI
  rS : VStk wr V3.heap.size (.slice AS ns cS) lS
  apart : ∀ a b, (Value.slice AI ni cI).ownBlock = some a → (Value.slice AS ns cS).ownBlock = some b → a ≠ b
  offI : ∀ a, (Value.slice AI ni cI).ownBlock = some a → a ≠ q4
  offS : ∀ a, (Value.slice AS ns cS).ownBlock = some a → a ≠ q4
  lenI : lI.length = ni
  lenS : lS.length = ns
section
variable {V3 wr w' : World} {q4 ni ns cI cS : Nat} {AI AS : Option Addr} {lI lS : List Int}
theorem MV.next (h : MV V3 q4 ni ns cI cS AI AS lI lS wr) (hb : Below wr.heap.size wr w') : MV V3 q4 ni ns cI cS AI AS lI lS w' :=
  ⟨joinB h.bel hb, h.box.below hb, h.rI.below hb, h.rS.below hb, h.apart, h.offI, h.offS, h.lenI, h.lenS⟩
theorem VStk.other {w : World} {base : Nat} {v : Value} {l : List Int} (h : VStk w base v l) {a : Addr} (ha : v.ownBlock ≠ some a.block) (x : Value) : VStk (w.setCell a x) base v l :=
  World.ownsRow.kept h (row := some a.block) ⟨rfl, rfl, rfl, by simp [World.setCell], fun i _ hne => Below.heap_setCell _ _ _ _ (fun e => hne (by rw [e]))⟩ (.inr ha)
theorem VStk.set {w : World} {base g n c : Nat} {l : List Int} (h : VStk w base (.slice (some ⟨g, 0, none⟩) n c) l) (hl : l.length = n) (j : Nat) (x : Int) : VStk (w.setCell ⟨g, j, none⟩ (.int .u8 x)) base (.slice (some ⟨g, 0, none⟩) n c) (l.set j x) := by
  subst hl
  have := (World.ownsRow.stored h j (.int .u8 x)).1
  unfold VStk
  rw [List.length_set, List.map_set]
  exact this
theorem MV.setS {g : Nat} (h : MV V3 q4 ni ns cI cS AI (some ⟨g, 0, none⟩) lI lS wr) (j : Nat) (x : Int) : MV V3 q4 ni ns cI cS AI (some ⟨g, 0, none⟩) lI (lS.set j x) (wr.setCell ⟨g, j, none⟩ (.int .u8 x)) :=
  ⟨Below.setCell h.bel (World.ownsRow.lt h.rS g rfl).1 _, h.box.other (a := ⟨g, j, none⟩) (h.offS g rfl) _, h.rI.other (a := ⟨g, j, none⟩) (fun e => h.apart g g e rfl rfl) _, h.rS.set h.lenS j x, h.apart, h.offI, h.offS, h.lenI, by rw [List.length_set]; exact h.lenS⟩
end
end Go.Proofs.YtkaedfgmhfefjaaGreatDoor

namespace Go.Proofs.YtkaedfgmhfefjaaGreatDoor
open Go.RowKit
open Lg

theorem lel_refl (l : List Int) : LeL l l := ⟨rfl, fun _ _ => blw_refl _⟩
theorem lel_lat {l m : List Int} (h : LeL l m) (x : Int) : blw (lat l x) (lat m x) = true := by
  unfold lat
  by_cases hx : x.toNat < l.length
  · exact h.2 _ hx
  · rw [List.getD_eq_getElem?_getD, List.getD_eq_getElem?_getD, List.getElem?_eq_none (by omega), List.getElem?_eq_none (by rw [← h.1]; omega)]
    exact blw_refl _
theorem lel_map {l m : List Int} (h : LeL l m) (is : List Int) : LeL (is.map fun x => lat l x) (is.map fun x => lat m x) := by
  refine ⟨by rw [List.length_map, List.length_map], fun j hj => ?_⟩
  have hj' : j < is.length := by simpa using hj
  simp only [List.getD_eq_getElem?_getD, List.getElem?_map, List.getElem?_eq_getElem hj']
  exact lel_lat h _
theorem lel_set {l m : List Int} (h : LeL l m) (j : Nat) {x y : Int} (hx : blw x y = true) : LeL (l.set j x) (m.set j y) := by
  refine ⟨by rw [List.length_set, List.length_set]; exact h.1, fun i hi => ?_⟩
  rw [List.length_set] at hi
  have hi' : i < m.length := by rw [← h.1]; exact hi
  by_cases e : i = j
  · subst e
    rw [List.getD_eq_getElem?_getD, List.getD_eq_getElem?_getD, List.getElem?_set, List.getElem?_set]
    simp only [if_true, if_pos hi, if_pos hi']
    exact hx
  · rw [List.getD_eq_getElem?_getD, List.getD_eq_getElem?_getD, List.getElem?_set, List.getElem?_set, if_neg (fun c => e c.symm), if_neg (fun c => e c.symm), ← List.getD_eq_getElem?_getD, ← List.getD_eq_getElem?_getD]
    exact h.2 i hi
/-- Words, place by place. -/
def LeW (a b : List (List Int)) : Prop := ∀ k, LeL (a.getD k []) (b.getD k [])
theorem LeW.mem {a b : List (List Int)} (h : LeW a b) (nd : List Nd) (i : Int) : blw (memV nd a i) (memV nd b i) = true := by
  unfold memV
  have hk := h (nd.getD i.toNat default).mem.toNat
  by_cases hj : (nd.getD i.toNat default).bit.toNat < (a.getD (nd.getD i.toNat default).mem.toNat []).length
  · exact hk.2 _ hj
  · rw [List.getD_eq_getElem?_getD (l := a.getD _ []), List.getD_eq_getElem?_getD (l := b.getD _ []), List.getElem?_eq_none (by omega), List.getElem?_eq_none (by rw [← hk.1]; omega)]
    exact blw_refl _
theorem stm_mono {nd : List Nd} {rd rd' : List (List Int)} {out out' : List Int} (h : LeL out out') (hr : LeW rd rd') (i : Int) : LeL (stm nd rd out i) (stm nd rd' out' i) := by
  unfold stm
  split
  · exact lel_set h _ (hr.mem nd i)
  · split
    · exact lel_set h _ (eval_mono _ (lel_map h _))
    · exact h
theorem stmK_mono {nd : List Nd} {rd rd' : List (List Int)} {out out' : List Int} (h : LeL out out') (hr : LeW rd rd') (R : List Int) (k : Nat) : LeL (stmK nd rd out R k) (stmK nd rd' out' R k) := by
  unfold stmK
  induction R.take k generalizing out out' with
  | nil => exact h
  | cons p t ih => rw [List.foldl_cons, List.foldl_cons]; exact ih (stm_mono h hr p)
theorem asg_mono : ∀ (l : List Int) {out out' vs vs' : List Int}, LeL out out' → LeL vs vs' → LeL (asg out l vs) (asg out' l vs')
  | [], _, _, _, _, h, _ => h
  | x :: t, out, out', vs, vs', h, hv => by
    cases vs with
    | nil =>
      cases vs' with
      | nil => exact h
      | cons w ws => exact absurd hv.1 (by simp)
    | cons v vs =>
      cases vs' with
      | nil => exact absurd hv.1 (by simp)
      | cons w ws =>
        show LeL (asg (out.set x.toNat v) t vs) (asg (out'.set x.toNat w) t ws)
        exact asg_mono t (lel_set h _ (hv.2 0 (by simp))) ⟨by simpa using hv.1, fun j hj => by
          have := hv.2 (j + 1) (by simpa using hj)
          exact this⟩
/-- A cycle's nets. -/
theorem nets_mono {c : Ck} {n : Nat} {s s' : Stt} {inp inp' R : List Int} (hi : LeL inp inp') (hd : LeL s.dff s'.dff) (hr : LeW s.read s'.read) : LeL (stmK c.nodes s.read (cyB c n s inp) R n) (stmK c.nodes s'.read (cyB c n s' inp') R n) := by
  refine stmK_mono ?_ hr R n
  unfold cyB
  exact asg_mono _ (asg_mono _ (lel_refl _) hi) hd
theorem nvs_mono {l m : List Int} (h : LeL l m) (is : List Int) : LeL (nvs l is) (nvs m is) := lel_map h is
/-- The words and the words read behind a cycle. -/
theorem nx_mono {ms : List Mm} {ws ws' : List (List (List Int))} {nets nets' : List Int} {k : Nat} (h : LeL nets nets') (hl : (ws.getD k []).length = (ws'.getD k []).length) (hw : ∀ i, LeL ((ws.getD k []).getD i []) ((ws'.getD k []).getD i [])) (hm : 2 ^ (ms.getD k default).addr.length ≤ (ws.getD k []).length) :
    LeL (nxR ms ws nets k) (nxR ms ws' nets' k) ∧ ∀ i, LeL (nxW ms ws nets k i) (nxW ms ws' nets' k i) := by
  constructor
  · unfold nxR
    rw [← hl, ← (hw 0).1]
    exact look_mono (nvs_mono h _) (fun i _ => hw i) (by unfold nvs; rw [List.length_map]; exact hm)
  · intro i
    unfold nxW
    exact store_mono (nvs_mono h _) (nvs_mono h _) (lel_lat h _) (hw i)
end Go.Proofs.YtkaedfgmhfefjaaGreatDoor

namespace Go.Proofs.YtkaedfgmhfefjaaGreatDoor
open Go.RowKit

/-- Where the law's list stands at memory k. -/
def posS (ms : List Mm) (ns : Nat) : Nat → Nat
  | 0 => ns
  | k + 1 => posS ms ns k + blN ms k * (ms.getD k default).data.length + (ms.getD k default).data.length
/-- The law's state out of a list. -/
def sofS (c : Ck) (ns m : Nat) (l : List Int) : Stt :=
  ⟨takL9 l 0 ns, (List.range m).map fun k => (List.range (blN c.mems k)).map fun i => takL9 l (posS c.mems ns k + i * (c.mems.getD k default).data.length) (c.mems.getD k default).data.length,
    (List.range m).map fun k => takL9 l (posS c.mems ns k + blN c.mems k * (c.mems.getD k default).data.length) (c.mems.getD k default).data.length⟩
theorem takV9_le (l : List Int) (a i : Nat) : takV9 l a i ≤ 2 := by
  unfold takV9
  split
  · decide
  · have h := Int.tmod_lt_of_pos (l.getD ((a + i) % l.length) 0) (by decide : (0 : Int) < 3)
    omega
theorem takL9_le (l : List Int) (a n j : Nat) (hj : j < n) : (takL9 l a n).getD j 0 ≤ 2 := by
  unfold takL9
  rw [getD_range_map _ _ _ _ hj]
  exact takV9_le _ _ _
theorem sofS_fits (c : Ck) (ns m : Nat) (l : List Int) : FitS c ns m (sofS c ns m l) := by
  refine ⟨takL9_len _ _ _, fun j hj => takL9_le _ _ _ _ hj, by simp [sofS], fun k hk => ?_, by simp [sofS], fun k hk => ?_⟩
  · have e : (sofS c ns m l).words.getD k [] = (List.range (blN c.mems k)).map fun i => takL9 l (posS c.mems ns k + i * (c.mems.getD k default).data.length) (c.mems.getD k default).data.length := getD_range_map _ _ _ _ hk
    rw [e]
    refine ⟨by simp, fun i hi => ?_⟩
    rw [getD_range_map _ _ _ _ hi]
    exact ⟨takL9_len _ _ _, fun j hj => takL9_le _ _ _ _ hj⟩
  · have e : (sofS c ns m l).read.getD k [] = takL9 l (posS c.mems ns k + blN c.mems k * (c.mems.getD k default).data.length) (c.mems.getD k default).data.length := getD_range_map _ _ _ _ hk
    rw [e]
    exact ⟨takL9_len _ _ _, fun j hj => takL9_le _ _ _ _ hj⟩
theorem rep_two (n j : Nat) (hj : j < n) : (List.replicate n (2 : Int)).getD j 0 = 2 := by
  rw [List.getD_eq_getElem?_getD, List.getElem?_replicate, if_pos hj]
  rfl
theorem blS_fits (c : Ck) (ns m : Nat) : FitS c ns m (blS c ns m) := by
  refine ⟨by simp [blS], fun j hj => ?_, by simp [blS], fun k hk => ?_, by simp [blS], fun k hk => ?_⟩
  · show (List.replicate ns (2 : Int)).getD j 0 ≤ 2
    rw [rep_two _ _ hj]; decide
  · have e : (blS c ns m).words.getD k [] = (List.range (blN c.mems k)).map (blW c.mems k) := getD_range_map _ _ _ _ hk
    rw [e]
    refine ⟨by simp, fun i hi => ?_⟩
    rw [getD_range_map _ _ _ _ hi]
    exact ⟨by simp [blW], fun j hj => by unfold blW; rw [rep_two _ _ hj]; decide⟩
  · have e : (blS c ns m).read.getD k [] = blR c.mems k := getD_range_map _ _ _ _ hk
    rw [e]
    exact ⟨by simp [blR], fun j hj => by unfold blR; rw [rep_two _ _ hj]; decide⟩
/-- The unknown values replaced. -/
def joinL (a b : List Int) : List Int := (List.range a.length).map fun j => if a.getD j 0 = 2 then b.getD j 0 else a.getD j 0
def aboveS (s t : Stt) : Stt :=
  ⟨joinL s.dff t.dff, (List.range s.words.length).map fun k => (List.range (s.words.getD k []).length).map fun i => joinL ((s.words.getD k []).getD i []) ((t.words.getD k []).getD i []),
    (List.range s.words.length).map fun k => joinL (s.read.getD k []) (t.read.getD k [])⟩
theorem joinL_len (a b : List Int) : (joinL a b).length = a.length := by simp [joinL]
theorem joinL_get (a b : List Int) (j : Nat) (hj : j < a.length) : (joinL a b).getD j 0 = if a.getD j 0 = 2 then b.getD j 0 else a.getD j 0 := by
  unfold joinL
  rw [getD_range_map _ _ _ _ hj]
open Lg in
theorem joinL_le (a b : List Int) : LeL a (joinL a b) := by
  refine ⟨(joinL_len a b).symm, fun j hj => ?_⟩
  rw [joinL_get a b j hj]
  split
  · rename_i h
    rw [h]; exact blw_X _
  · exact blw_refl _
theorem aboveS_fits {c : Ck} {ns m : Nat} {s t : Stt} (F : FitS c ns m s) (G : FitS c ns m t) : FitS c ns m (aboveS s t) := by
  refine ⟨by show (joinL _ _).length = _; rw [joinL_len]; exact F.dl, fun j hj => ?_, by simp [aboveS, F.wl], fun k hk => ?_, by simp [aboveS, F.wl], fun k hk => ?_⟩
  · show (joinL _ _).getD j 0 ≤ 2
    rw [joinL_get _ _ _ (by rw [F.dl]; exact hj)]
    split
    · exact G.dv j hj
    · exact F.dv j hj
  · have e : (aboveS s t).words.getD k [] = (List.range (s.words.getD k []).length).map fun i => joinL ((s.words.getD k []).getD i []) ((t.words.getD k []).getD i []) := getD_range_map _ _ _ _ (by rw [F.wl]; exact hk)
    rw [e]
    obtain ⟨f1, f2⟩ := F.wk k hk
    obtain ⟨g1, g2⟩ := G.wk k hk
    refine ⟨by rw [List.length_map, List.length_range]; exact f1, fun i hi => ?_⟩
    rw [getD_range_map _ _ _ _ (by rw [f1]; exact hi)]
    obtain ⟨f3, f4⟩ := f2 i hi
    obtain ⟨g3, g4⟩ := g2 i hi
    refine ⟨by rw [joinL_len]; exact f3, fun j hj => ?_⟩
    rw [joinL_get _ _ _ (by rw [f3]; exact hj)]
    split
    · exact g4 j hj
    · exact f4 j hj
  · have e : (aboveS s t).read.getD k [] = joinL (s.read.getD k []) (t.read.getD k []) := getD_range_map _ _ _ _ (by rw [F.wl]; exact hk)
    rw [e]
    obtain ⟨f1, f2⟩ := F.rk k hk
    obtain ⟨g1, g2⟩ := G.rk k hk
    refine ⟨by rw [joinL_len]; exact f1, fun j hj => ?_⟩
    rw [joinL_get _ _ _ (by rw [f1]; exact hj)]
    split
    · exact g2 j hj
    · exact f2 j hj
/-- One state below another, part by part. -/
structure LeS (s t : Stt) : Prop where
  d : Lg.LeL s.dff t.dff
  wl : s.words.length = t.words.length
  wk : ∀ k, (s.words.getD k []).length = (t.words.getD k []).length ∧ ∀ i, Lg.LeL ((s.words.getD k []).getD i []) ((t.words.getD k []).getD i [])
  rl : s.read.length = t.read.length
  r : LeW s.read t.read
theorem LeS.rel {s t : Stt} (h : LeS s t) : relS blw s t = true := by
  have h1 : relL blw s.dff t.dff = true := allEq_of 0 blw _ _ h.d.1 h.d.2
  have h2 : relV blw s.words t.words = true := allEq_of [] (relW blw) _ _ h.wl fun k _ => allEq_of [] (relL blw) _ _ (h.wk k).1 fun i _ => allEq_of 0 blw _ _ ((h.wk k).2 i).1 ((h.wk k).2 i).2
  have h3 : relW blw s.read t.read = true := allEq_of [] (relL blw) _ _ h.rl fun k _ => allEq_of 0 blw _ _ (h.r k).1 (h.r k).2
  unfold relS
  rw [h1, h2, h3]
  rfl
theorem getD_none {α : Type} (l : List α) (k : Nat) (d : α) (h : l.length ≤ k) : l.getD k d = d := by
  rw [List.getD_eq_getElem?_getD, List.getElem?_eq_none h]
  rfl
theorem aboveS_le {c : Ck} {ns m : Nat} {s t : Stt} (F : FitS c ns m s) (G : FitS c ns m t) : LeS s (aboveS s t) := by
  have A := aboveS_fits F G
  refine ⟨joinL_le _ _, by rw [F.wl, A.wl], fun k => ?_, by rw [F.rl, A.rl], fun k => ?_⟩
  · by_cases hk : k < m
    · have e : (aboveS s t).words.getD k [] = (List.range (s.words.getD k []).length).map fun i => joinL ((s.words.getD k []).getD i []) ((t.words.getD k []).getD i []) := getD_range_map _ _ _ _ (by rw [F.wl]; exact hk)
      refine ⟨by rw [e]; simp, fun i => ?_⟩
      by_cases hi : i < (s.words.getD k []).length
      · rw [e, getD_range_map _ _ _ _ hi]; exact joinL_le _ _
      · rw [getD_none _ _ _ (by omega), e, getD_none _ _ _ (by rw [List.length_map, List.length_range]; omega)]; exact lel_refl _
    · rw [getD_none s.words _ _ (by rw [F.wl]; omega), getD_none (aboveS s t).words _ _ (by rw [A.wl]; omega)]
      exact ⟨rfl, fun i => lel_refl _⟩
  · by_cases hk : k < m
    · have e : (aboveS s t).read.getD k [] = joinL (s.read.getD k []) (t.read.getD k []) := getD_range_map _ _ _ _ (by rw [F.wl]; exact hk)
      rw [e]; exact joinL_le _ _
    · rw [getD_none s.read _ _ (by rw [F.rl]; omega), getD_none (aboveS s t).read _ _ (by rw [A.rl]; omega)]
      exact lel_refl _
end Go.Proofs.YtkaedfgmhfefjaaGreatDoor

namespace Go.Proofs.YtkaedfgmhfefjaaGreatDoor
open Go.RowKit

theorem WS.setS {w : World} {B : Nat} {v : Value} {l : List (List Int)} (h : WS w B v l) {a : Addr} (ha : a.block < B) (x : Value) : WS (w.setCell a x) B v l := by
  obtain ⟨vs, h1, h2, h3⟩ := h
  refine ⟨vs, h1, World.ownsRow.kept h2 (row := some a.block) ⟨rfl, rfl, rfl, by simp [World.setCell], fun i _ hne => Below.heap_setCell _ _ _ _ (fun e => hne (by rw [e]))⟩ ?_, fun j hj => by
    obtain ⟨A, c, e, hp⟩ := h3 j hj
    exact ⟨A, c, e, hp.setS ha x⟩⟩
  rcases ho : v.ownBlock with _ | q
  · exact .inl rfl
  · have := (World.ownsRow.lt h2 q ho).1
    exact .inr fun e => by injection e with e; omega
theorem WWS.setS {w : World} {B : Nat} {v : Value} {l : List (List (List Int))} (h : WWS w B v l) {a : Addr} (ha : a.block < B) (x : Value) : WWS (w.setCell a x) B v l := by
  obtain ⟨vs, h1, h2, h3⟩ := h
  refine ⟨vs, h1, World.ownsRow.kept h2 (row := some a.block) ⟨rfl, rfl, rfl, by simp [World.setCell], fun i _ hne => Below.heap_setCell _ _ _ _ (fun e => hne (by rw [e]))⟩ ?_, fun j hj => by
    obtain ⟨A, c, e, hp⟩ := h3 j hj
    exact ⟨A, c, e, hp.setS ha x⟩⟩
  rcases ho : v.ownBlock with _ | q
  · exact .inl rfl
  · have := (World.ownsRow.lt h2 q ho).1
    exact .inr fun e => by injection e with e; omega
theorem WWS.low {w : World} {B B' : Nat} {v : Value} {l : List (List (List Int))} (h : WWS w B v l) (hb : B' ≤ B) : WWS w B' v l := by
  obtain ⟨vs, h1, h2, h3⟩ := h
  refine ⟨vs, h1, ⟨h2.1, ?_⟩, fun j hj => by
    obtain ⟨A, c, e, hp⟩ := h3 j hj
    exact ⟨A, c, e, hp.low hb⟩⟩
  rcases h2.2 with h4 | ⟨g, cap, cur, e, hb', h4⟩
  · exact .inl h4
  · exact .inr ⟨g, cap, cur, e, Nat.le_trans hb hb', h4⟩
/-- Three slices that are a state of the call's own: all rows lie from block B on. -/
structure OwnS (w : World) (B : Nat) (A0 A1 A2 : Option Addr) (n0 n1 n2 c0 c1 c2 : Nat) (s : Stt) : Prop where
  o0 : VStk w B (.slice A0 n0 c0) s.dff
  o1 : WWS w B (.slice A1 n1 c1) s.words
  o2 : WS w B (.slice A2 n2 c2) s.read
section
variable {w w' : World} {B B' : Nat} {A0 A1 A2 : Option Addr} {n0 n1 n2 c0 c1 c2 : Nat} {s : Stt}
theorem OwnS.below (h : OwnS w B A0 A1 A2 n0 n1 n2 c0 c1 c2 s) (hb : BelW w w') : OwnS w' B A0 A1 A2 n0 n1 n2 c0 c1 c2 s := ⟨h.o0.below hb, h.o1.below hb, h.o2.below hb⟩
theorem OwnS.low (h : OwnS w B A0 A1 A2 n0 n1 n2 c0 c1 c2 s) (hb : B' ≤ B) : OwnS w B' A0 A1 A2 n0 n1 n2 c0 c1 c2 s := ⟨h.o0.low hb, h.o1.low hb, h.o2.low hb⟩
theorem OwnS.setS (h : OwnS w B A0 A1 A2 n0 n1 n2 c0 c1 c2 s) {a : Addr} (ha : a.block < B) (x : Value) : OwnS (w.setCell a x) B A0 A1 A2 n0 n1 n2 c0 c1 c2 s := ⟨h.o0.setS ha x, h.o1.setS ha x, h.o2.setS ha x⟩
theorem OwnS.str (h : OwnS w B A0 A1 A2 n0 n1 n2 c0 c1 c2 s) : StR w w.heap.size A0 A1 A2 n0 n1 n2 c0 c1 c2 s := ⟨h.o0.ks, h.o1.wwss, h.o2.wds⟩
end

theorem bel_push {V wo w1 : World} {o : Obj} {r : Option Nat} (hb : BelW V wo) (hg : (wo.alloc o).grownBy w1 r) (hq : ∀ q, r = some q → V.heap.size ≤ q) : BelW V w1 :=
  (Below.alloc hb (Below.size hb) o).grown hg (by have := Below.size hb; simp; omega) hq
/-- One more is appended to a row of words that the world V did not have. -/
theorem WS.push {V wo w1 : World} {o : Obj} {v v' : Value} {l : List (List Int)} {vs : List Value} {p : List Int} {A : Option Addr} {c : Nat} (hb : BelW V wo)
    (q1 : vs.length = l.length) (q2 : wo.ownsRow V.heap.size 41 1 v l.length vs) (q3 : ∀ j, j < l.length → ∃ A c, vs[j]? = some (.slice A (l.getD j []).length c) ∧ VStk wo V.heap.size (.slice A (l.getD j []).length c) (l.getD j []))
    (hg : (wo.alloc o).grownBy w1 v.ownBlock) (ho : w1.ownsRow V.heap.size 41 1 v' (l.length + 1) (vs ++ [.slice A p.length c])) (hp : VStk wo V.heap.size (.slice A p.length c) p) : BelW V w1 ∧ WS w1 V.heap.size v' (l ++ [p]) := by
  have hn : BelW wo (wo.alloc o) := below_new (Below.refl _ _) _
  refine ⟨bel_push hb hg fun q h => (World.ownsRow.lt q2 q h).1, ?_⟩
  exact WS.add q1 (World.ownsRow.alloc q2 o) (fun j hj => by obtain ⟨A, c, e, h⟩ := q3 j hj; exact ⟨A, c, e, h.below hn⟩) hg ho (hp.below hn)
/-- One more is appended to a row of rows of words. -/
theorem WWX.push {V wo w1 : World} {o : Obj} {x v v' : Value} {l : List (List (List Int))} {vs : List Value} {p : List (List Int)} {A : Option Addr} {c : Nat} (hb : BelW V wo)
    (q1 : vs.length = l.length) (q2 : wo.ownsRow V.heap.size 43 1 v l.length vs) (q3 : ∀ j, j < l.length → ∃ A c, vs[j]? = some (.slice A (l.getD j []).length c) ∧ WS wo V.heap.size (.slice A (l.getD j []).length c) (l.getD j []) ∧ Apart x (.slice A (l.getD j []).length c))
    (hg : (wo.alloc o).grownBy w1 v.ownBlock) (ho : w1.ownsRow V.heap.size 43 1 v' (l.length + 1) (vs ++ [.slice A p.length c])) (hp : WS wo V.heap.size (.slice A p.length c) p) (hpx : Apart x (.slice A p.length c)) : BelW V w1 ∧ WWX x w1 V.heap.size v' (l ++ [p]) := by
  have hn : BelW wo (wo.alloc o) := below_new (Below.refl _ _) _
  refine ⟨bel_push hb hg fun q h => (World.ownsRow.lt q2 q h).1, ?_⟩
  exact WWX.add q1 (World.ownsRow.alloc q2 o) (fun j hj => by obtain ⟨A, c, e, h, h'⟩ := q3 j hj; exact ⟨A, c, e, h.below hn, h'⟩) hg ho (hp.below hn) hpx
/-- A frame of another type stays where a row grows. -/
theorem Fr.grownT {wo w1 : World} {o : Obj} {g b s n : Nat} {t e : TypeId} {cs xs : List Value} {v : Value} (hf : Fr wo g t cs) (hr : wo.ownsRow b e s v n xs) (he : t ≠ e) (hg : (wo.alloc o).grownBy w1 v.ownBlock) : Fr w1 g t cs := by
  have h1 : Fr (wo.alloc o) g t cs := hf.alloc o
  unfold Fr at h1 ⊢
  rw [← h1]
  refine hg.block g (Fr.lt (t := t) (cs := cs) h1) fun e1 => ?_
  have h2 := World.ownsRow.alloc hr o
  rcases h2.2 with ⟨rfl, -⟩ | ⟨g', c', cur', rfl, -, hg', -⟩
  · simp [Value.ownBlock] at e1
  · simp only [Value.ownBlock, Option.some.injEq] at e1
    rw [← e1, h1] at hg'
    have h3 := Option.some.inj hg'
    injection h3 with _ h4 _
    exact he h4
theorem own_sl {w : World} {b n s : Nat} {e : TypeId} {v : Value} {xs : List Value} (h : w.ownsRow b e s v n xs) : ∃ A c, v = .slice A n c := by
  rcases h.2 with ⟨rfl, h0⟩ | ⟨g', c', cur', rfl, -⟩
  · exact ⟨none, 0, by rw [h0]⟩
  · exact ⟨_, _, rfl⟩
end Go.Proofs.YtkaedfgmhfefjaaGreatDoor

namespace Go.Proofs.YtkaedfgmhfefjaaGreatDoor
open Go.RowKit

def sfw (c : Ck) (ns : Nat) (l : List Int) (k i : Nat) : List (List Int) := (List.range i).map fun i => takL9 l (posS c.mems ns k + i * (c.mems.getD k default).data.length) (c.mems.getD k default).data.length
def sfW (c : Ck) (ns : Nat) (l : List Int) (k : Nat) : List (List (List Int)) := (List.range k).map fun k => sfw c ns l k (blN c.mems k)
def sfR (c : Ck) (ns : Nat) (l : List Int) (k : Nat) : List (List Int) := (List.range k).map fun k => takL9 l (posS c.mems ns k + blN c.mems k * (c.mems.getD k default).data.length) (c.mems.getD k default).data.length
theorem sfw_len (c : Ck) (ns : Nat) (l : List Int) (k i : Nat) : (sfw c ns l k i).length = i := by simp [sfw]
theorem sfW_len (c : Ck) (ns : Nat) (l : List Int) (k : Nat) : (sfW c ns l k).length = k := by simp [sfW]
theorem sfR_len (c : Ck) (ns : Nat) (l : List Int) (k : Nat) : (sfR c ns l k).length = k := by simp [sfR]
theorem sfw_succ (c : Ck) (ns : Nat) (l : List Int) (k i : Nat) : sfw c ns l k (i + 1) = sfw c ns l k i ++ [takL9 l (posS c.mems ns k + i * (c.mems.getD k default).data.length) (c.mems.getD k default).data.length] := by simp [sfw, List.range_succ]
theorem sfW_succ (c : Ck) (ns : Nat) (l : List Int) (k : Nat) : sfW c ns l (k + 1) = sfW c ns l k ++ [sfw c ns l k (blN c.mems k)] := by simp [sfW, List.range_succ]
theorem sfR_succ (c : Ck) (ns : Nat) (l : List Int) (k : Nat) : sfR c ns l (k + 1) = sfR c ns l k ++ [takL9 l (posS c.mems ns k + blN c.mems k * (c.mems.getD k default).data.length) (c.mems.getD k default).data.length] := by simp [sfR, List.range_succ]
set_option maxRecDepth 100000 in
set_option maxHeartbeats 8000000 in
theorem sof9_any (c : Ck) (l : List Int) (A A0 A1 A2 A3 : Option Addr) (n n1 m n3 c0 c1 c2 c3 ml cl ns : Nat) (w : World) (hC : Cir w w.heap.size (.agg #[.slice A0 n c0, .slice A1 n1 c1, .slice A2 m c2, .slice A3 n3 c3]) c) (hL : Ks w w.heap.size (.slice A ml cl) l) (h0 : ∀ x ∈ l, 0 ≤ x ∧ x ≤ 255) (hsz : c.nodes.length ≤ 1000000) (hns : (ofTo c.nodes [14] c.nodes.length).length = ns) (hns1 : ns ≤ 1000000) (hm1 : m ≤ 1000)
    (hp : ∀ k, k < m → (c.mems.getD k default).addr.length ≤ 8 ∧ (c.mems.getD k default).data.length ≤ 1000) (hpos : ∀ k, k < m → posS c.mems ns (k + 1) ≤ 10000000) :
    Calls Tryz.prog 23 #[.agg #[.slice A ml cl], .agg #[.slice A0 n c0, .slice A1 n1 c1, .slice A2 m c2, .slice A3 n3 c3]] w fun e w' => ∃ A7 c7 Aa1 ca1 Aa2 ca2, e = .returned (.agg #[.slice A7 ns c7, .slice Aa1 m ca1, .slice Aa2 m ca2]) ∧ OwnS w' w.heap.size A7 Aa1 Aa2 ns m m c7 ca1 ca2 (sofS c ns m l) ∧ BelW w w' := by
  have hM : Ms w w.heap.size (.slice A2 m c2) c.mems := by
    obtain ⟨y0, y1, y2, y3, e, -, -, hM, -⟩ := id hC
    simp only [Value.agg.injEq, Array.mk.injEq, List.cons.injEq, and_true] at e
    obtain ⟨-, -, rfl, -⟩ := e
    exact hM
  obtain ⟨A', b0, o0, c', e, hA, -, -, hc⟩ := id hM
  simp only [Value.slice.injEq] at e
  obtain ⟨rfl, hml, rfl⟩ := e
  rw [← hml] at hA hc
  obtain ⟨W0, HW0⟩ := named (((w.alloc (.cells #[.slice A ml cl] 29)).alloc (.cells #[.slice A0 n c0, .slice A1 n1 c1, .slice A2 m c2, .slice A3 n3 c3] 39)).alloc (.cells #[.slice none 0 0, .slice none 0 0, .slice none 0 0] 45))
  have hb0 : BelW w W0 := by rw [HW0.out]; exact below_new (below_new (below_new (Below.refl _ _) _) _) _
  have hfv : Fr W0 w.heap.size 29 [.slice A ml cl] := by rw [HW0.out]; exact Fr.alloc (Fr.alloc (Fr.made _ [.slice A ml cl] _ rfl) _) _
  have hfc : Fr W0 (w.heap.size + 1) 39 [.slice A0 n c0, .slice A1 n1 c1, .slice A2 m c2, .slice A3 n3 c3] := by rw [HW0.out]; exact Fr.alloc (Fr.made _ [.slice A0 n c0, .slice A1 n1 c1, .slice A2 m c2, .slice A3 n3 c3] _ (by simp)) _
  have hft : Fr W0 (w.heap.size + 1 + 1) 45 [.slice none 0 0, .slice none 0 0, .slice none 0 0] := by rw [HW0.out]; exact Fr.made _ [.slice none 0 0, .slice none 0 0, .slice none 0 0] _ (by simp)
  have hus : W0.heap.size = w.heap.size + 1 + 1 + 1 := by rw [HW0.out]; simp
  obtain ⟨W1, HW1⟩ := named (W0.alloc (.cells #[.slice none 0 0, .slice none 0 0, .slice none 0 0] 45))
  have hb01 : BelW W0 W1 := by rw [HW1.out]; exact below_new (Below.refl _ _) _
  have hfu : Fr W1 W0.heap.size 45 [.slice none 0 0, .slice none 0 0, .slice none 0 0] := by rw [HW1.out]; exact Fr.made _ [.slice none 0 0, .slice none 0 0, .slice none 0 0] _ rfl
  rw [hus] at hfu
  obtain ⟨s, HS⟩ := named w.heap.size
  have HSW : Hid (w.heap.size ≤ s) := Lib.hid (by rw [HS.out]; exact Nat.le_refl _)
  obtain ⟨u, HU⟩ := named (s + 1 + 1 + 1)
  rw [← HS.out] at hfv hfc hft hfu hus
  rw [← HU.out] at hfu hus
  have HUS := Lib.hid hus
  have HCE : Hid (∀ W, BelW W0 W → W.cell? ⟨s, 0, none⟩ = some (.slice A ml cl) ∧ W.cell? ⟨s + 1, 0, none⟩ = some (.slice A0 n c0) ∧ W.cell? ⟨s + 1, 1, none⟩ = some (.slice A1 n1 c1) ∧ W.cell? ⟨s + 1, 2, none⟩ = some (.slice A2 m c2) ∧ W.cell? ⟨s + 1, 3, none⟩ = some (.slice A3 n3 c3)) := Lib.hid fun W h => ⟨(hfv.below h).cell 0, (hfc.below h).cell 0, (hfc.below h).cell 1, (hfc.below h).cell 2, (hfc.below h).cell 3⟩
  have HFT := Lib.hid hft
  have HFV : Hid (∀ W, BelW W0 W → Fr W s 29 [.slice A ml cl]) := Lib.hid fun W h => hfv.below h
  have HFU := Lib.hid hfu
  have HB0 : Hid (∀ W, BelW W0 W → BelW w W) := Lib.hid fun W h => joinB hb0 h
  have HOF : Hid (∀ W, BelW W0 W → Calls Tryz.prog 43 #[.agg #[.slice A0 n c0, .slice A1 n1 c1, .slice A2 m c2, .slice A3 n3 c3], .int .u8 14] W fun e w' => ∃ A c, e = .returned (.slice A ns c) ∧ BelW W w') := Lib.hid fun W h =>
    (refOf_any c 14 _ W W.heap.size (Nat.le_refl _) ((hC.below (joinB hb0 h)).more (Below.size (joinB hb0 h))) hsz).mono fun e w' ⟨⟨s', he, hi⟩, hb⟩ => by
      obtain ⟨A9, _, _, c9, rfl, -⟩ := id hi
      exact ⟨A9, c9, by rw [he, hns], hb⟩
  have HTK : Hid (∀ W (B at0 k : Nat), BelW W0 W → B ≤ W.heap.size → at0 ≤ 10000000 → k ≤ 1000000 → Calls Tryz.prog 64 #[.slice A ml cl, .int .i64 (at0 : Int), .int .i64 (k : Int)] W fun e w' => ∃ A c, e = .returned (.slice A k c) ∧ VStk w' B (.slice A k c) (takL9 l at0 k) ∧ BelW W w') := Lib.hid fun W B at0 k h hBW ha hk => by
    have hbw := joinB hb0 h
    refine (taken9_any l at0 ha k hk A ml cl W W.heap.size (Nat.le_refl _) (Arr.keep stays_u8 hL (Below.size hbw) fun _ hp => Below.cell hbw hp) h0).mono fun e w' ⟨v, he, hv, hb⟩ => ?_
    obtain ⟨A9, c9, rfl, -⟩ := hv.form
    rw [takL9_len] at he
    have hv := hv.low hBW
    rw [takL9_len] at hv
    exact ⟨A9, c9, he, hv, hb⟩
  have HMM : Hid (∀ k, k < m → ∃ (Aa Ad2 : Option Addr) (ca cd2 : Nat), A2 = some ⟨b0, o0, none⟩ ∧ ∀ W, BelW W0 W → W.cell? ⟨b0, o0 + k * 3, none⟩ = some (.slice Aa (c.mems.getD k default).addr.length ca) ∧ W.cell? ⟨b0, o0 + k * 3 + 1, none⟩ = some (.slice Ad2 (c.mems.getD k default).data.length cd2)) := Lib.hid fun k hk => by
    obtain ⟨hlb, x, y, e0, e1, e2, h4, h5⟩ := hc k hk
    obtain ⟨Aa, ba, oa, ca, rfl, -⟩ := id h4
    obtain ⟨Ad2, bd, od, cd2, rfl, -⟩ := id h5
    refine ⟨Aa, Ad2, ca, cd2, hA (by omega), fun W h => ?_⟩
    have h := joinB hb0 h
    have hk : ∀ j, W.cell? ⟨b0, j, none⟩ = w.cell? ⟨b0, j, none⟩ := fun j => Below.cell h (p := ⟨b0, j, none⟩) hlb
    exact ⟨by rw [hk]; exact e0, by rw [hk]; exact e1⟩
  have HTK0 : Hid (∀ W, BelW W0 W → Calls Tryz.prog 64 #[.slice A ml cl, .int .i64 0, .int .i64 (ns : Int)] W fun e w' => ∃ A c, e = .returned (.slice A ns c) ∧ VStk w' W0.heap.size (.slice A ns c) (takL9 l 0 ns) ∧ BelW W w') := Lib.hid fun W h => HTK.out W W0.heap.size 0 ns h (Below.size h) (by omega) hns1
  have HPK := Lib.hid hp
  have HPO := Lib.hid hpos
  have HB01 := Lib.hid hb01
  obtain ⟨i2, hj1, hj2, hj3, hj4⟩ := info_parts info_vals
  have HJ := Lib.hid (And.intro hj1 (And.intro hj2 (And.intro hj3 hj4)))
  clear hj1 hj2 hj3 hj4
  obtain ⟨i3, hj1, hj2, hj3, hj4⟩ := info_parts info_wds
  have HI3 := Lib.hid (And.intro hj1 (And.intro hj2 (And.intro hj3 hj4)))
  clear hj1 hj2 hj3 hj4
  obtain ⟨x0, y0, y1, y2, y3⟩ := HCE.out W1 hb01
  have z0 := hfu.cell 0
  have z1 := hfu.cell 1
  have z2 := hfu.cell 2
  have g0 := hfu.frozen 0
  clear hM hC hL h0 hsz hns hp hpos hml hc hA hb0 hfv hfc hft hus hb01 hfu
  go_enter Tryz.func23, Tryz.ntmps23
  go_upto_region 2 with (fail)
  rw [← HW0.out, ← HW1.out, ← HS.out, ← HU.out]
  go_upto_region 4 with (first
    | (go_at_call 43; (with_reducible refine (HOF.out _ HB01.out).mono ?_); rintro e w2 ⟨A9, c9, rfl, hb2⟩; have HB2 : Hid (BelW W1 w2) := Lib.hid hb2; clear x0 y0 y1 y2 y3 z0 z1 z2 g0; obtain ⟨x0, y0, y1, y2, y3⟩ := HCE.out w2 (joinB HB01.out hb2); have z0 := (HFU.out.below hb2).cell 0; have g0 := (HFU.out.below hb2).frozen 0; have hb02 : BelW W0 w2 := joinB HB01.out hb2; clear hb2)
    | (go_at_call 64; (with_reducible refine (HTK0.out _ hb02).mono ?_); rintro e w3 ⟨A7, c7, rfl, hv3, hb3⟩; have HB3 : Hid (BelW W1 w3) := Lib.hid (joinB HB2.out hb3); have HV3 := Lib.hid hv3; clear x0 y0 y1 y2 y3 z0 g0; have z0 := (HFU.out.below HB3.out).cell 0; have g0 := (HFU.out.below HB3.out).frozen 0; clear hb3 hv3))
  obtain ⟨W4, HW4⟩ := named (w3.setCell ⟨u, 0, none⟩ (.slice A7 ns c7))
  rw [← HW4.out]
  have hfu3 := HFU.out.below HB3.out
  have hb4 : BelW W0 W4 := by rw [HW4.out]; exact (joinB HB01.out HB3.out).setCell (p := ⟨u, 0, none⟩) (by show W0.heap.size ≤ u; rw [HUS.out, HU.out]; exact Nat.le_refl _) _
  have hfu4 : Fr W4 u 45 [.slice A7 ns c7, .slice none 0 0, .slice none 0 0] := by rw [HW4.out]; exact hfu3.set 0 _
  have hv4 : VStk W4 W0.heap.size (.slice A7 ns c7) (takL9 l 0 ns) := by rw [HW4.out]; exact HV3.out.setF hfu3 (by decide) 0 _
  have HI4 := Lib.hid (And.intro hb4 (And.intro hfu4 hv4))
  clear hb4 hfu4 hv4 hfu3 z0 g0 hb02
  go_wp2
  go_loopw [6, 7] (fun at0 ci wr => ∃ (k : Nat) (Aa1 : Option Addr) (ca1 : Nat) (Aa2 : Option Addr) (ca2 : Nat), k ≤ m ∧ at0 = .int .i64 (posS c.mems ns k : Nat) ∧ ci = .int .i64 k ∧ BelW W0 wr ∧ Fr wr u 45 [.slice A7 ns c7, .slice Aa1 k ca1, .slice Aa2 k ca2] ∧ VStk wr W0.heap.size (.slice A7 ns c7) (takL9 l 0 ns) ∧ WWX (.slice Aa2 k ca2) wr W0.heap.size (.slice Aa1 k ca1) (sfW c ns l k) ∧ WS wr W0.heap.size (.slice Aa2 k ca2) (sfR c ns l k)) (fun _ ci _ => m - (intOf ci).toNat)
  case atStart => exact ⟨0, none, 0, none, 0, Nat.zero_le _, rfl, rfl, HI4.out.1, HI4.out.2.1, HI4.out.2.2, WWX.nil _ _ _, WS.nil _ _⟩
  case round =>
    obtain ⟨k, Aa1, ca1, Aa2, ca2, hkm, rfl, rfl, hb, hfu, hv, hww, hws⟩ := hrel
    obtain ⟨V0, rfl⟩ : ∃ V0 : World, V0 = wr := ⟨_, rfl⟩
    by_cases hk : k < m
    · have hk2 : (k : Int) < (m : Int) := by omega
      obtain ⟨Aa, Ad2, ca, cd2, rfl, hmm⟩ := HMM.out k hk
      obtain ⟨p5, p6⟩ := HPK.out k hk
      obtain ⟨b, rfl⟩ : ∃ z, z = b0 := ⟨_, rfl⟩
      obtain ⟨o, rfl⟩ : ∃ z, z = o0 := ⟨_, rfl⟩
      obtain ⟨e0, e1⟩ := hmm V0 hb
      have hpk := HPO.out k hk
      have hps : posS c.mems ns (k + 1) = posS c.mems ns k + blN c.mems k * (c.mems.getD k default).data.length + (c.mems.getD k default).data.length := rfl
      have HSU : Hid (∀ i, sfw c ns l k (i + 1) = sfw c ns l k i ++ [takL9 l (posS c.mems ns k + i * (c.mems.getD k default).data.length) (c.mems.getD k default).data.length]) := Lib.hid fun i => sfw_succ c ns l k i
      have HWSU := Lib.hid (sfW_succ c ns l k)
      have HRSU := Lib.hid (sfR_succ c ns l k)
      have hnw : blN c.mems k = 2 ^ (c.mems.getD k default).addr.length := rfl
      have HMMK := Lib.hid hmm
      obtain ⟨p, HP⟩ := named (posS c.mems ns k)
      obtain ⟨nw, HNW⟩ := named (blN c.mems k)
      obtain ⟨la, HLA⟩ := named (c.mems.getD k default).addr.length
      obtain ⟨dl, HDL⟩ := named (c.mems.getD k default).data.length
      rw [← HP.out] at HSU HRSU hps
      rw [← HNW.out] at hnw hps HWSU HRSU
      rw [← HLA.out] at hnw p5 e0
      rw [← HDL.out] at p6 e1 HSU HRSU hps
      rw [← HP.out]
      have HPS := Lib.hid hps
      have hnwb : nw ≤ 256 := by rw [hnw]; exact Nat.le_trans (Nat.pow_le_pow_right (by decide) p5) (by decide)
      rw [hps] at hpk
      obtain ⟨x0, y0, y1, y2, y3⟩ := HCE.out V0 hb
      have HIN := Lib.hid (And.intro hb (And.intro hfu (And.intro hv (And.intro hww hws))))
      clear hmm hps hb hfu hv hww hws
      have hw64 : wrap64 (2 ^ la) = (nw : Int) := by
        have h1 : (2 ^ la : Int) = (nw : Int) := by rw [hnw]; simp
        rw [h1]; unfold wrap64; omega
      clear hnw
      go_wp2
      go_loopw [6, 9, 10] (fun at0 sv ci wr => ∃ (i : Nat) (Aw : Option Addr) (cw : Nat), i ≤ nw ∧ at0 = .int .i64 (p + i * dl : Nat) ∧ sv = .slice Aw i cw ∧ ci = .int .i64 i ∧ BelW V0 wr ∧ WS wr V0.heap.size (.slice Aw i cw) (sfw c ns l k i)) (fun _ _ ci _ => nw - (intOf ci).toNat)
      case atStart => exact ⟨0, none, 0, Nat.zero_le _, by rw [Nat.zero_mul, Nat.add_zero], rfl, rfl, Below.refl _ _, WS.nil _ _⟩
      case round =>
        clear x0 y0 y1 y2 y3 e0 e1
        obtain ⟨i, Aw, cw, hin, rfl, rfl, rfl, hbv, hwi⟩ := hrel
        have hb := joinB HIN.out.1 hbv
        obtain ⟨x0, y0, y1, y2, y3⟩ := HCE.out wr hb
        obtain ⟨e0, e1⟩ := HMMK.out wr hb
        rw [← HLA.out] at e0
        rw [← HDL.out] at e1
        have HBV := Lib.hid hbv
        have HWI := Lib.hid hwi
        have HBB := Lib.hid hb
        by_cases hi : i < nw
        · have hi2 : (i : Int) < (nw : Int) := by omega
          have hidl : i * dl + dl ≤ nw * dl := by rw [← Nat.succ_mul]; exact Nat.mul_le_mul_right _ hi
          have hsu := HSU.out i
          obtain ⟨pi, HPI⟩ := named (p + i * dl)
          rw [← HPI.out]
          rw [← HPI.out] at hsu
          have hpi : pi + dl ≤ 10000000 := by rw [HPI.out]; omega
          have HTK1 := Lib.hid (HTK.out wr V0.heap.size pi dl hb (Below.size hbv) (by omega) (by omega))
          have HSUI := Lib.hid hsu
          have HPN : Hid (((p + (i + 1) * dl : Nat) : Int) = (pi : Int) + (dl : Int)) := Lib.hid (by rw [HPI.out, Nat.succ_mul]; omega)
          clear hsu hb hbv hwi hidl
          go_upto_region 13 with (first
            | (go_at_call 64; (with_reducible refine HTK1.out.mono ?_); rintro e w5 ⟨A5, c5, rfl, hv5, hb5⟩; have HV5 := Lib.hid hv5; have HB5 : Hid (BelW V0 w5) := Lib.hid (joinB HBV.out hb5); obtain ⟨vs, q1, q2, q3⟩ := HWI.out.below hb5; rw [sfw_len] at q2; have Q1 := Lib.hid q1; have Q2 := Lib.hid q2; have Q3 := Lib.hid q3; have HSZ5 := Lib.hid (Below.size HB5.out); clear hv5 hb5 q1 q2 q3)
            | (at_builtin; refine wpList_append_own_at _ rfl _ _ 43 rfl V0.heap.size 41 i2 (.slice none 0 0) 1 24 Tryz.underlying43 HJ.out.1 HJ.out.2.1 HJ.out.2.2.1 HJ.out.2.2.2 rfl (by decide) _ _ _ rfl (World.ownsRow.alloc Q2.out _) ⟨w5.heap.size, 0, none⟩ 1 1 [.slice A5 dl c5] rfl rfl (by have := one_new w5 (.slice A5 dl c5) 41; simpa using this) (by intro u hu; obtain rfl := List.mem_singleton.1 hu; rfl) (by unfold maxLen; omega) (by omega) (by have := HSZ5.out; simp; omega) ?_; intro v6 w6 hown6 hgrow6 hnil6 hloc6; obtain ⟨A6, c6, rfl⟩ := own_sl hown6; have HO6 := Lib.hid (And.intro hown6 hgrow6); clear hown6 hgrow6 hnil6 hloc6))
          have hp6 : BelW V0 w6 ∧ WS w6 V0.heap.size (.slice A6 (i + 1) c6) (sfw c ns l k (i + 1)) := by
            have hg6 : (w5.alloc (.cells #[.slice A5 dl c5] 41)).grownBy w6 (Value.slice Aw i cw).ownBlock := HO6.out.2
            rw [HSUI.out]
            refine WS.push (A := A5) (c := c5) HB5.out Q1.out (by rw [sfw_len]; exact Q2.out) Q3.out hg6 ?_ ?_
            · rw [sfw_len, takL9_len]; exact HO6.out.1
            · rw [takL9_len]; exact HV5.out
          have HP6 := Lib.hid hp6
          clear hp6
          go_wp2
          go_roundw
          case rel => exact ⟨i + 1, A6, c6, by omega, by rw [HPN.out], rfl, by go_num, HP6.out.1, HP6.out.2⟩
          case measure => simp [intOf]; omega
        · obtain rfl : nw = i := by omega
          obtain ⟨pe, HPE⟩ := named (p + nw * dl)
          rw [← HPE.out]
          rw [← HPE.out] at hpk
          have HRSU2 : Hid (sfR c ns l (k + 1) = sfR c ns l k ++ [takL9 l pe dl]) := Lib.hid (by rw [HRSU.out, HPE.out])
          have HPS2 : Hid (posS c.mems ns (k + 1) = pe + dl) := Lib.hid (by rw [HPS.out, HPE.out])
          have HSWI := Lib.hid (hwi.low (Below.size HIN.out.1))
          have hfu := HIN.out.2.1.below hbv
          have HFUW := Lib.hid hfu
          have HVW := Lib.hid (HIN.out.2.2.1.below hbv)
          have HWWW := Lib.hid (HIN.out.2.2.2.1.below hbv)
          have HRDW := Lib.hid (HIN.out.2.2.2.2.below hbv)
          have HAP : Hid (Apart (.slice Aa2 k ca2) (.slice Aw nw cw)) := Lib.hid (by
            rcases ho : (Value.slice Aw nw cw).ownBlock with _ | q
            · exact .inl ho
            · refine .inr fun e => ?_
              rw [ho] at e
              have h1 := (hwi.lt ho).1
              have h2 := (HIN.out.2.2.2.2.lt e.symm).2
              omega)
          obtain ⟨vs, q1, q2, q3⟩ := HWWW.out
          rw [sfW_len] at q2
          have Q1 := Lib.hid q1; have Q2 := Lib.hid q2; have Q3 := Lib.hid q3
          have HSZW := Lib.hid (Below.size hb)
          have z1 := hfu.cell 1
          have f1 := hfu.frozen 1
          clear hbv hwi hb hfu q1 q2 q3
          go_upto_region 15 with (at_builtin; refine wpList_append_own_at _ rfl _ _ 42 rfl W0.heap.size 43 i3 (.slice none 0 0) 1 24 Tryz.underlying42 HI3.out.1 HI3.out.2.1 HI3.out.2.2.1 HI3.out.2.2.2 rfl (by decide) _ _ _ rfl (World.ownsRow.alloc Q2.out _) ⟨wr.heap.size, 0, none⟩ 1 1 [.slice Aw nw cw] rfl rfl (by have := one_new wr (.slice Aw nw cw) 43; simpa using this) (by intro u hu; obtain rfl := List.mem_singleton.1 hu; rfl) (by unfold maxLen; omega) (by omega) (by have := HSZW.out; simp; omega) ?_; intro v7 w7 hown7 hgrow7 hnil7 hloc7; obtain ⟨A8, c8, rfl⟩ := own_sl hown7; have HO7 := Lib.hid (And.intro hown7 hgrow7); have hfu7 := HFUW.out.grownT Q2.out (by decide) hgrow7; have HFU7 := Lib.hid hfu7; have z1 := hfu7.cell 1; have f1 := hfu7.frozen 1; clear hown7 hgrow7 hnil7 hloc7 hfu7)
          -- the rows behind the append to Words
          have hp7 : BelW W0 w7 ∧ WWX (.slice Aa2 k ca2) w7 W0.heap.size (.slice A8 (k + 1) c8) (sfW c ns l (k + 1)) := by
            have hg7 : (wr.alloc (.cells #[.slice Aw nw cw] 43)).grownBy w7 (Value.slice Aa1 k ca1).ownBlock := HO7.out.2
            rw [HWSU.out]
            refine WWX.push (A := Aw) (c := cw) HBB.out Q1.out (by rw [sfW_len]; exact Q2.out) Q3.out hg7 ?_ ?_ ?_
            · rw [sfW_len, sfw_len]; exact HO7.out.1
            · rw [sfw_len]; exact HSWI.out
            · rw [sfw_len]; exact HAP.out
          have hn7 : BelW wr (wr.alloc (.cells #[.slice Aw nw cw] 43)) := below_new (Below.refl _ _) _
          have hg7 : (wr.alloc (.cells #[.slice Aw nw cw] 43)).grownBy w7 (Value.slice Aa1 k ca1).ownBlock := HO7.out.2
          have hv7 := (HVW.out.below hn7).keptT (World.ownsRow.alloc Q2.out _) (by decide) hg7
          have hr7 := (HRDW.out.below hn7).keptT (World.ownsRow.alloc Q2.out _) (by decide) (by decide) hg7
          obtain ⟨W8, HW8⟩ := named (w7.setCell ⟨u, 1, none⟩ (.slice A8 (k + 1) c8))
          rw [← HW8.out]
          have hfu8 : Fr W8 u 45 [.slice A7 ns c7, .slice A8 (k + 1) c8, .slice Aa2 k ca2] := by rw [HW8.out]; exact HFU7.out.set 1 _
          have hb8 : BelW W0 W8 := by rw [HW8.out]; exact hp7.1.setCell (p := ⟨u, 1, none⟩) (by show W0.heap.size ≤ u; rw [HUS.out]; exact Nat.le_refl _) _
          have hv8 : VStk W8 W0.heap.size (.slice A7 ns c7) (takL9 l 0 ns) := by rw [HW8.out]; exact hv7.setF HFU7.out (by decide) 1 _
          have hww8 : WWX (.slice Aa2 k ca2) W8 W0.heap.size (.slice A8 (k + 1) c8) (sfW c ns l (k + 1)) := by rw [HW8.out]; exact hp7.2.setF HFU7.out (by decide) (by decide) (by decide) 1 _
          have hr8 : WS W8 W0.heap.size (.slice Aa2 k ca2) (sfR c ns l k) := by rw [HW8.out]; exact hr7.setF HFU7.out (by decide) (by decide) 1 _
          have HI8 := Lib.hid (And.intro hb8 (And.intro hfu8 (And.intro hv8 (And.intro hww8 hr8))))
          have HS15 : Hid (∀ W, BelW W8 W → W.cell? ⟨s, 0, none⟩ = some (.slice A ml cl) ∧ W.cell? ⟨u, 2, none⟩ = some (.slice Aa2 k ca2)) := Lib.hid fun W h => ⟨(HCE.out W (joinB HI8.out.1 h)).1, (HI8.out.2.1.below h).cell 2⟩
          have HD8 : Hid (BelW W8 W8.drew) := Lib.hid (BelW.drew (Below.refl _ _))
          have HT15 := Lib.hid (HTK.out W8.drew W0.heap.size pe dl (joinB hb8 HD8.out) (Below.size (joinB hb8 HD8.out)) (by omega) (by omega))
          have HS0 := Lib.hid (HS15.out _ HD8.out)
          clear hp7 hn7 hg7 hv7 hr7 hfu8 hb8 hv8 hww8 hr8 x0 y0 y1 y2 y3 e0 e1 z1 f1
          refine AnyX.start (S := (fun w' => w'.cell? ⟨s, 0, none⟩ = some (.slice A ml cl) ∧ w'.cell? ⟨u, 2, none⟩ = some (.slice Aa2 k ca2))) (t := 10) (by kernel_rfl) ?_
          refine AnyX.take (i := 0) (oi := ⟨some 63, _, _, _, _, _⟩) (v := .pointer (some ⟨u, 2, none⟩)) rfl rfl (by kernel_rfl) (by kernel_rfl) (by kernel_rfl) (by kernel_rfl) (fun _ _ _ h => h) (Or.inl ⟨by rfl, ?_⟩) HS0.out ?_
          · intro w' hSw
            obtain ⟨k0', k1'⟩ := hSw
            first | (go_simp; done) | (go_simp; with_reducible rfl) | (go_simp; intro hh; exfalso; omega)
          simp only [Act.put, List.setIfInBounds_toArray, List.set_cons_zero, List.set_cons_succ]
          refine AnyX.take (i := 1) (oi := ⟨some 64, _, _, _, _, _⟩) (v := .slice Aa2 k ca2) rfl rfl (by kernel_rfl) (by kernel_rfl) (by kernel_rfl) (by kernel_rfl) (fun _ _ _ h => h) (Or.inl ⟨by rfl, ?_⟩) HS0.out ?_
          · intro w' hSw
            obtain ⟨k0', k1'⟩ := hSw
            first | (go_simp; done) | (go_simp; with_reducible rfl) | (go_simp; intro hh; exfalso; omega)
          simp only [Act.put, List.setIfInBounds_toArray, List.set_cons_zero, List.set_cons_succ]
          refine AnyX.take (i := 2) (oi := ⟨some 65, _, _, _, _, _⟩) (v := .pointer (some ⟨s, 0, none⟩)) rfl rfl (by kernel_rfl) (by kernel_rfl) (by kernel_rfl) (by kernel_rfl) (fun _ _ _ h => h) (Or.inl ⟨by rfl, ?_⟩) HS0.out ?_
          · intro w' hSw
            obtain ⟨k0', k1'⟩ := hSw
            first | (go_simp; done) | (go_simp; with_reducible rfl) | (go_simp; intro hh; exfalso; omega)
          simp only [Act.put, List.setIfInBounds_toArray, List.set_cons_zero, List.set_cons_succ]
          refine AnyX.take (i := 3) (oi := ⟨some 66, _, _, _, _, _⟩) (v := .slice A ml cl) rfl rfl (by kernel_rfl) (by kernel_rfl) (by kernel_rfl) (by kernel_rfl) (fun _ _ _ h => h) (Or.inl ⟨by rfl, ?_⟩) HS0.out ?_
          · intro w' hSw
            obtain ⟨k0', k1'⟩ := hSw
            first | (go_simp; done) | (go_simp; with_reducible rfl) | (go_simp; intro hh; exfalso; omega)
          simp only [Act.put, List.setIfInBounds_toArray, List.set_cons_zero, List.set_cons_succ]
          refine AnyX.take (i := 4) (oi := ⟨some 67, _, _, _, _, _⟩) (v := .int .i64 (pe : Int)) rfl rfl (by kernel_rfl) (by kernel_rfl) (by kernel_rfl) (by kernel_rfl) (fun _ _ _ h => h) (Or.inl ⟨by rfl, ?_⟩) HS0.out ?_
          · intro w' hSw
            obtain ⟨k0', k1'⟩ := hSw
            first | (go_simp; done) | (go_simp; with_reducible rfl) | (go_simp; intro hh; exfalso; omega)
          simp only [Act.put, List.setIfInBounds_toArray, List.set_cons_zero, List.set_cons_succ]
          refine AnyX.take (i := 5) (oi := ⟨some 68, _, _, _, _, _⟩) (v := .int .i64 (dl : Int)) rfl rfl (by kernel_rfl) (by kernel_rfl) (by kernel_rfl) (by kernel_rfl) (fun _ _ _ h => h) (Or.inl ⟨by rfl, ?_⟩) HS0.out ?_
          · intro w' hSw
            obtain ⟨k0', k1'⟩ := hSw
            first | (go_simp; done) | (go_simp; with_reducible rfl) | (go_simp; intro hh; exfalso; omega)
          simp only [Act.put, List.setIfInBounds_toArray, List.set_cons_zero, List.set_cons_succ]
          refine AnyX.one (i := 6) (o := ⟨some 69, _, _, _, _, _⟩) (by kernel_rfl) rfl (fun K' hK => ?_)
          have HK := Lib.hid hK
          clear hK
          go_simp
          go_at_call 64
          (with_reducible refine HT15.out.mono ?_)
          rintro e w9 ⟨A5, c5, rfl, hv9, hb9⟩
          have hb89 : BelW W8 w9 := joinB HD8.out hb9
          have HV9 := Lib.hid hv9
          have HB9 := Lib.hid hb89
          have hs9 := HS15.out _ hb89
          have hrd9 := HI8.out.2.2.2.2.below hb89
          obtain ⟨vs9, r1, r2, r3⟩ := hrd9
          rw [sfR_len] at r2
          have R1 := Lib.hid r1
          have R2 := Lib.hid r2
          have R3 := Lib.hid r3
          have HSZ9 := Lib.hid (Below.size (joinB HI8.out.1 hb89))
          clear hv9 hb9 hb89 r1 r2 r3
          refine HK.out _ _ (fun _ => hs9) ?_
          clear HK
          (try simp only [Act.put, List.setIfInBounds_toArray, List.set_cons_zero, List.set_cons_succ])
          refine AnyX.one (i := 7) (o := ⟨some 70, _, _, _, _, _⟩) (by kernel_rfl) rfl (fun K' hK => ?_)
          have HK := Lib.hid hK
          clear hK
          go_simp
          refine HK.out _ _ (fun _ => HS15.out _ (BelW.alloc HB9.out _)) ?_
          clear HK
          (try simp only [Act.put, List.setIfInBounds_toArray, List.set_cons_zero, List.set_cons_succ])
          refine AnyX.one (i := 8) (o := ⟨some 71, _, _, _, _, _⟩) (by kernel_rfl) rfl (fun K' hK => ?_)
          have HK := Lib.hid hK
          clear hK
          refine step_append_lies _ (by rfl) (.tmp 64) (.tmp 70) 43 (by rfl) W0.heap.size 41 i2 (.slice none 0 0) 1 24 Tryz.underlying43 HJ.out.1 HJ.out.2.1 HJ.out.2.2.1 HJ.out.2.2.2 rfl (by decide) (.slice Aa2 k ca2) k vs9 (by simp [Act.eval, Act.put]) (World.ownsRow.alloc R2.out _) ⟨w9.heap.size, 0, none⟩ 1 1 [.slice A5 dl c5] (by simp [Act.eval, Act.put]) rfl (one_new w9 _ _) (by intro u hu; obtain rfl := List.mem_singleton.1 hu; rfl) (by decide) (by unfold maxLen; omega) (by omega) (by have := HSZ9.out; simp; omega) _ rfl ?_
          intro g9 c9' w10 hown10 hgrow10 hat10 hlt10
          have hfu10 := (HI8.out.2.1.below HB9.out).grownT R2.out (by decide) hgrow10
          have hs10 : w10.cell? ⟨s, 0, none⟩ = some (.slice A ml cl) ∧ w10.cell? ⟨u, 2, none⟩ = some (.slice Aa2 k ca2) := ⟨((HFV.out w9 (joinB HI8.out.1 HB9.out)).grownT R2.out (by decide) hgrow10).cell 0, hfu10.cell 2⟩
          have HO10 := Lib.hid (And.intro hown10 (And.intro hgrow10 hat10))
          have HFU10 := Lib.hid hfu10
          have f2 := hfu10.frozen 2
          clear hown10 hgrow10 hat10 hlt10 hfu10
          refine HK.out _ _ (fun _ => hs10) ?_
          clear HK
          (try simp only [Act.put, List.setIfInBounds_toArray, List.set_cons_zero, List.set_cons_succ])
          refine AnyX.one (i := 9) (o := ⟨some 72, _, _, _, _, _⟩) (by kernel_rfl) rfl (fun K' hK => ?_)
          have HK := Lib.hid hK
          clear hK
          go_simp
          refine HK.out _ _ (fun _ => hs10) ?_
          clear HK
          (try simp only [Act.put, List.setIfInBounds_toArray, List.set_cons_zero, List.set_cons_succ])
          refine AnyX.one (i := 10) (o := ⟨none, _, _, _, _, _⟩) (by kernel_rfl) rfl (fun K' hK => ?_)
          have HK := Lib.hid hK
          clear hK
          obtain ⟨k0', k1'⟩ := hs10
          go_simp
          refine HK.out _ _ (fun h => absurd rfl h) ?_
          clear HK
          (try simp only [Act.put, List.setIfInBounds_toArray, List.set_cons_zero, List.set_cons_succ])
          refine AnyX.done (by kernel_rfl) ?_ _
          have hp10 : BelW W0 w10 ∧ WS w10 W0.heap.size (.slice (some ⟨g9, 0, none⟩) (k + 1) c9') (sfR c ns l (k + 1)) := by
            have hg10 : (w9.alloc (.cells #[.slice A5 dl c5] 41)).grownBy w10 (Value.slice Aa2 k ca2).ownBlock := HO10.out.2.1
            rw [HRSU2.out]
            refine WS.push (A := A5) (c := c5) (joinB HI8.out.1 HB9.out) R1.out (by rw [sfR_len]; exact R2.out) R3.out hg10 ?_ ?_
            · rw [sfR_len, takL9_len]; exact HO10.out.1
            · rw [takL9_len]; exact HV9.out
          have hg10 : (w9.alloc (.cells #[.slice A5 dl c5] 41)).grownBy w10 (Value.slice Aa2 k ca2).ownBlock := HO10.out.2.1
          have hn9 : BelW w9 (w9.alloc (.cells #[.slice A5 dl c5] 41)) := below_new (Below.refl _ _) _
          have hv10 := ((HI8.out.2.2.1.below HB9.out).below hn9).keptT (World.ownsRow.alloc R2.out _) (by decide) hg10
          have hww10 : WWX (.slice (some ⟨g9, 0, none⟩) (k + 1) c9') w10 W0.heap.size (.slice A8 (k + 1) c8) (sfW c ns l (k + 1)) := by
            refine ((HI8.out.2.2.2.1.below HB9.out).below hn9).grow (World.ownsRow.alloc R2.out _) hg10 ?_
            rcases HO10.out.2.2 with h | h
            · exact .inl h.symm
            · exact .inr (by rw [h]; rfl)
          obtain ⟨W11, HW11⟩ := named (w10.setCell ⟨u, 2, none⟩ (.slice (some ⟨g9, 0, none⟩) (k + 1) c9'))
          rw [← HW11.out]
          have HF11 : Hid (BelW W0 W11 ∧ Fr W11 u 45 [.slice A7 ns c7, .slice A8 (k + 1) c8, .slice (some ⟨g9, 0, none⟩) (k + 1) c9'] ∧ VStk W11 W0.heap.size (.slice A7 ns c7) (takL9 l 0 ns) ∧ WWX (.slice (some ⟨g9, 0, none⟩) (k + 1) c9') W11 W0.heap.size (.slice A8 (k + 1) c8) (sfW c ns l (k + 1)) ∧ WS W11 W0.heap.size (.slice (some ⟨g9, 0, none⟩) (k + 1) c9') (sfR c ns l (k + 1))) := Lib.hid (by
            rw [HW11.out]
            exact ⟨hp10.1.setCell (p := ⟨u, 2, none⟩) (by show W0.heap.size ≤ u; rw [HUS.out]; exact Nat.le_refl _) _, HFU10.out.set 2 _, hv10.setF HFU10.out (by decide) 2 _, hww10.setF HFU10.out (by decide) (by decide) (by decide) 2 _, hp10.2.setF HFU10.out (by decide) (by decide) 2 _⟩)
          clear hp10 hg10 hn9 hv10 hww10 f2 hs9
          go_wp2
          go_roundw
          case rel => exact ⟨k + 1, A8, c8, some ⟨g9, 0, none⟩, c9', by omega, by rw [HPS2.out]; go_num, by go_num, HF11.out.1, HF11.out.2.1, HF11.out.2.2.1, HF11.out.2.2.2.1, HF11.out.2.2.2.2⟩
          case measure => simp [intOf]; omega
    · obtain rfl : m = k := by omega
      obtain ⟨x0, y0, y1, y2, y3⟩ := HCE.out V0 hb
      have z0 := hfu.cell 0
      have z1 := hfu.cell 1
      have z2 := hfu.cell 2
      have hfr := HFT.out.below hb
      have t0 := hfr.cell 0
      have t1 := hfr.cell 1
      have t2 := hfr.cell 2
      have f0 := hfr.frozen 0
      have f1 := hfr.frozen 1
      have f2 := hfr.frozen 2
      have hlt : s + 1 + 1 < W0.heap.size := by rw [HUS.out, HU.out]; omega
      have hle : w.heap.size ≤ s + 1 + 1 := by have := HSW.out; omega
      have hown : OwnS V0 W0.heap.size A7 Aa1 Aa2 ns m m c7 ca1 ca2 (sofS c ns m l) := ⟨hv, hww.wws, hws⟩
      have HOW := Lib.hid (((hown.setS (a := ⟨s + 1 + 1, 0, none⟩) hlt (.slice A7 ns c7)).setS (a := ⟨s + 1 + 1, 1, none⟩) hlt (.slice Aa1 m ca1)).setS (a := ⟨s + 1 + 1, 2, none⟩) hlt (.slice Aa2 m ca2))
      have HBE := Lib.hid ((((HB0.out V0 hb).setCell (p := ⟨s + 1 + 1, 0, none⟩) hle (.slice A7 ns c7)).setCell (p := ⟨s + 1 + 1, 1, none⟩) hle (.slice Aa1 m ca1)).setCell (p := ⟨s + 1 + 1, 2, none⟩) hle (.slice Aa2 m ca2))
      have HQ := Lib.hid (((hfr.set 0 (.slice A7 ns c7)).set 1 (.slice Aa1 m ca1)).set 2 (.slice Aa2 m ca2))
      have HLO : Hid (w.heap.size ≤ W0.heap.size) := Lib.hid (by omega)
      clear hb hfu hv hww hws hfr hlt hle hown
      go_wp2
      refine bodyPost_ret (results_cell_row rfl _ _ _ _ _ _ _ rfl HQ.out Tryz.underlying45 rfl (by kernel_rfl)) rfl ?_
      exact ⟨A7, c7, Aa1, ca1, Aa2, ca2, rfl, HOW.out.low HLO.out, HBE.out⟩
end Go.Proofs.YtkaedfgmhfefjaaGreatDoor
