/- The texts LgRefp Rfp LgText. -/
import Derived.Test.YtcaikkfcjeojiaaDoorM01
import Derived.Test.YtcaikkfcjeojiaaDoorM29
import Derived.Test.YtcaikkfcjeojiaaDoorM02
import Derived.Laws.BytesArg
import Derived.OwnWalk
namespace Go.Proofs.YtcaikkfcjeojiaaDoor.Lg

/-- how many of a list are x -/
def cnt (x : Int) : List Int → Nat
  | [] => 0
  | v :: l => (if v = x then 1 else 0) + cnt x l
def bitI (b : Bool) : Int := if b = true then 1 else 0
def chc (v : Int) (bus : Bool) : List Int :=
  if v = 0 then [0] else if v = 1 then [1] else if bus = true ∧ v = 3 then [2] else if bus = true then [0, 1, 2] else [0, 1]
/-- a kind's function of ones and zeros and of the inputs themselves -/
def fnK (q : Int) (ones zeros : Nat) (l : List Int) : Int :=
  if q = 1 then 0 else if q = 2 then 1
  else if q = 3 then bitI (l.getD 0 0 == 1) else if q = 4 then bitI (!(l.getD 0 0 == 1))
  else if q = 5 then bitI (zeros == 0) else if q = 6 then bitI (!(zeros == 0))
  else if q = 7 then bitI (decide (0 < ones)) else if q = 8 then bitI (!decide (0 < ones))
  else if q = 9 then bitI (ones % 2 == 1) else if q = 10 then bitI (!(ones % 2 == 1))
  else if q = 11 then (if l.getD 0 0 = 0 then l.getD 1 0 else l.getD 2 0)
  else if q = 12 then (if l.getD 0 0 = 0 then 2 else l.getD 1 0)
  else if q = 13 then (if ones + zeros = 0 then 2 else if 0 < ones ∧ 0 < zeros then 3 else bitI (decide (0 < ones)))
  else bitI (decide (0 < ones))
def fn (q : Int) (l : List Int) : Int := fnK q (cnt 1 l) (cnt 0 l) l
end Go.Proofs.YtcaikkfcjeojiaaDoor.Lg

namespace Go.Proofs.YtcaikkfcjeojiaaDoor
open Go.RowKit

/-- The addresses that the first k bits of an address may stand for. -/
def adS (ad : List Int) : Nat → List Int
  | 0 => [0]
  | k + 1 => (adS ad k).flatMap fun o => (Lg.chc (ad.getD k 0) false).map fun m => o + m * 2 ^ k
/-- What a bit of a word may be. -/
def bw (w : List Int) (b : Nat) : List Int := if w.length ≤ b then [0, 1] else Lg.chc (w.getD b 0) false
def rdb (w : List Int) (b : Nat) : Int := if w.length ≤ b then 2 else rd (w.getD b 0)
/-- The only value of a list, or X. -/
def valL (l : List Int) : Int := if (l.all fun x => x == l.getD 0 0) = true then (if l = [] then 2 else l.getD 0 0) else 2
def refS (word : List Int) (at_ : Int) (ad data : List Int) (en : Int) (b : Nat) : List Int :=
  (adS ad ad.length).flatMap fun a => (Lg.chc en false).flatMap fun e => if e = 1 ∧ a = at_ then bw data b else bw word b
theorem chc_u {v : Int} (h0 : v ≠ 0) (h1 : v ≠ 1) : Lg.chc v false = [0, 1] := by unfold Lg.chc; rw [if_neg h0, if_neg h1]; rfl
theorem chc_01 (v : Int) : Lg.chc v false = [0] ∨ Lg.chc v false = [1] ∨ Lg.chc v false = [0, 1] := by
  by_cases h0 : v = 0
  · exact .inl (by simp [Lg.chc, h0])
  · by_cases h1 : v = 1
    · exact .inr (.inl (by simp [Lg.chc, h1]))
    · exact .inr (.inr (chc_u h0 h1))
theorem bw_spec (w : List Int) (b : Nat) : (rdb w b = 2 ∧ bw w b = [0, 1]) ∨ (rdb w b = 0 ∧ bw w b = [0]) ∨ (rdb w b = 1 ∧ bw w b = [1]) := by
  unfold rdb bw
  by_cases h : w.length ≤ b
  · rw [if_pos h, if_pos h]; exact .inl ⟨rfl, rfl⟩
  · rw [if_neg h, if_neg h]
    rcases knw_cases (w.getD b 0) with ⟨h, -, hr, -⟩ | ⟨h, -, hr, -⟩ | ⟨h0, h1, -, hr⟩
    · rw [hr, h]; exact .inr (.inl ⟨rfl, rfl⟩)
    · rw [hr, h]; exact .inr (.inr ⟨rfl, rfl⟩)
    · exact .inl ⟨hr, chc_u h0 h1⟩
theorem valL_all {l : List Int} {c : Int} (h0 : l ≠ []) (h : ∀ x ∈ l, x = c) : valL l = c := by
  obtain ⟨a, t, rfl⟩ := List.exists_cons_of_ne_nil h0
  obtain rfl := h a List.mem_cons_self
  unfold valL
  rw [if_pos (List.all_eq_true.2 fun x hx => by simpa using h x hx), if_neg (by simp)]
  rfl
theorem valL_mix {l : List Int} {x y : Int} (hx : x ∈ l) (hy : y ∈ l) (h : x ≠ y) : valL l = 2 := by
  unfold valL
  rw [if_neg]
  intro ha
  have h1 := List.all_eq_true.1 ha x hx
  have h2 := List.all_eq_true.1 ha y hy
  simp only [beq_iff_eq] at h1 h2
  exact h (h1.trans h2.symm)
theorem valL_set {l w : List Int} {b : Nat} (h : ∀ x, x ∈ l ↔ x ∈ bw w b) : valL l = rdb w b := by
  rcases bw_spec w b with ⟨h1, h2⟩ | ⟨h1, h2⟩ | ⟨h1, h2⟩
  · rw [h1]
    exact valL_mix ((h 0).2 (by rw [h2]; simp)) ((h 1).2 (by rw [h2]; simp)) (by decide)
  · rw [h1]
    refine valL_all (fun e => ?_) fun x hx => ?_
    · have := (h 0).2 (by rw [h2]; simp)
      rw [e] at this; cases this
    · have := (h x).1 hx
      rw [h2] at this; simpa using this
  · rw [h1]
    refine valL_all (fun e => ?_) fun x hx => ?_
    · have := (h 1).2 (by rw [h2]; simp)
      rw [e] at this; cases this
    · have := (h x).1 hx
      rw [h2] at this; simpa using this
theorem valL_two {l w d : List Int} {b : Nat} (h : ∀ x, x ∈ l ↔ x ∈ bw w b ∨ x ∈ bw d b) : valL l = if rdb w b = rdb d b then rdb w b else 2 := by
  have key : ∀ x y, x ≠ y → (x ∈ bw w b ∨ x ∈ bw d b) → (y ∈ bw w b ∨ y ∈ bw d b) → valL l = 2 := fun x y hn hx hy => valL_mix ((h x).2 hx) ((h y).2 hy) hn
  have all : ∀ c, (∀ x, x ∈ bw w b ∨ x ∈ bw d b → x = c) → c ∈ bw w b → valL l = c := fun c hc h0 => valL_all (fun e => by
    have := (h c).2 (.inl h0)
    rw [e] at this; cases this) fun x hx => hc x ((h x).1 hx)
  rcases bw_spec w b with ⟨h1, h2⟩ | ⟨h1, h2⟩ | ⟨h1, h2⟩ <;> rcases bw_spec d b with ⟨h3, h4⟩ | ⟨h3, h4⟩ | ⟨h3, h4⟩ <;> rw [h1, h3]
  · exact key 0 1 (by decide) (by rw [h2]; simp) (by rw [h2]; simp)
  · exact key 0 1 (by decide) (by rw [h2]; simp) (by rw [h2]; simp)
  · exact key 0 1 (by decide) (by rw [h2]; simp) (by rw [h2]; simp)
  · exact key 0 1 (by decide) (by rw [h4]; simp) (by rw [h4]; simp)
  · exact all 0 (by rw [h2, h4]; simp) (by rw [h2]; simp)
  · exact key 0 1 (by decide) (by rw [h2]; simp) (by rw [h4]; simp)
  · exact key 0 1 (by decide) (by rw [h4]; simp) (by rw [h4]; simp)
  · exact key 0 1 (by decide) (by rw [h4]; simp) (by rw [h2]; simp)
  · exact all 1 (by rw [h2, h4]; simp) (by rw [h2]; simp)
theorem okA_cases (ad : List Int) (k : Nat) (m : Int) (hm : m ∈ Lg.chc (ad.getD k 0) false) (n : Nat) (hn : n.testBit k = decide (m = 1)) : okA ad n k := by
  unfold okA ibit
  intro hk
  rcases knw_cases (ad.getD k 0) with ⟨h, -, -, -⟩ | ⟨h, -, -, -⟩ | ⟨-, -, h, -⟩
  · rw [h] at hm ⊢
    have : m = 0 := by simpa [Lg.chc] using hm
    rw [hn, this]; rfl
  · rw [h] at hm ⊢
    have : m = 1 := by simpa [Lg.chc] using hm
    rw [hn, this]; rfl
  · rw [h] at hk; cases hk
theorem adS_mem (ad : List Int) (k : Nat) (x : Int) : x ∈ adS ad k ↔ ∃ n : Nat, x = n ∧ n < 2 ^ k ∧ ∀ j, j < k → okA ad n j := by
  induction k generalizing x with
  | zero =>
    unfold adS
    refine ⟨fun h => ⟨0, by simpa using h, by decide, fun j h => absurd h (Nat.not_lt_zero j)⟩, fun ⟨n, h, h1, _⟩ => ?_⟩
    have : n = 0 := by simp at h1; exact h1
    rw [h, this]; simp
  | succ k ih =>
    unfold adS
    simp only [List.mem_flatMap, List.mem_map]
    constructor
    · rintro ⟨o, ho, m, hm, rfl⟩
      obtain ⟨n, rfl, hn, hok⟩ := (ih o).1 ho
      obtain ⟨t, ht, ht2⟩ : ∃ t : Nat, m = t ∧ t < 2 := by
        rcases chc_01 (ad.getD k 0) with h | h | h <;> rw [h] at hm <;> simp at hm
        · exact ⟨0, hm, by decide⟩
        · exact ⟨1, hm, by decide⟩
        · rcases hm with h | h
          · exact ⟨0, h, by decide⟩
          · exact ⟨1, h, by decide⟩
      have hb : ∀ j, (2 ^ k * t + n).testBit j = if j < k then n.testBit j else t.testBit (j - k) := fun j => Nat.testBit_two_pow_mul_add t hn j
      refine ⟨2 ^ k * t + n, by rw [ht, Int.natCast_add, Int.natCast_mul, Int.natCast_pow, Int.add_comm, Int.mul_comm]; rfl, ?_, fun j hj => ?_⟩
      · have : t ≤ 1 := by omega
        have h2 := Nat.mul_le_mul_left (2 ^ k) this
        rw [Nat.pow_succ]; omega
      · by_cases hjk : j < k
        · have h := hok j hjk
          unfold okA ibit at h ⊢
          rw [hb j, if_pos hjk]; exact h
        · obtain rfl : j = k := by omega
          refine okA_cases ad j m hm _ ?_
          rw [hb j, if_neg hjk, Nat.sub_self, ht]
          have : t = 0 ∨ t = 1 := by omega
          rcases this with rfl | rfl <;> rfl
    · rintro ⟨n, rfl, hn, hok⟩
      have hn2 : n % 2 ^ k < 2 ^ k := Nat.mod_lt _ (Nat.two_pow_pos k)
      have hd : n / 2 ^ k < 2 := Nat.div_lt_of_lt_mul (by rw [Nat.pow_succ] at hn; exact hn)
      have he : 2 ^ k * (n / 2 ^ k) + n % 2 ^ k = n := Nat.div_add_mod n (2 ^ k)
      refine ⟨((n % 2 ^ k : Nat) : Int), (ih _).2 ⟨_, rfl, hn2, fun j hj => ?_⟩, ((n / 2 ^ k : Nat) : Int), ?_, ?_⟩
      · have h := hok j (by omega)
        unfold okA ibit at h ⊢
        rw [Nat.testBit_mod_two_pow, decide_eq_true hj, Bool.true_and]; exact h
      · have h := hok k (Nat.lt_succ_self k)
        unfold okA ibit at h
        rw [Nat.testBit_eq_decide_div_mod_eq, Nat.mod_eq_of_lt hd] at h
        have h01 : n / 2 ^ k = 0 ∨ n / 2 ^ k = 1 := by
          generalize n / 2 ^ k = q at hd
          omega
        rcases knw_cases (ad.getD k 0) with ⟨h1, h2, -, -⟩ | ⟨h1, h2, -, -⟩ | ⟨g0, g1, h2, -⟩
        · have := h h2
          rw [h1] at this ⊢
          rcases h01 with e | e <;> rw [e] at this ⊢
          · simp [Lg.chc]
          · simp at this
        · have := h h2
          rw [h1] at this ⊢
          rcases h01 with e | e <;> rw [e] at this ⊢
          · simp at this
          · simp [Lg.chc]
        · rw [chc_u g0 g1]
          rcases h01 with e | e <;> rw [e] <;> simp
      · conv => rhs; rw [← he]
        rw [Int.natCast_add, Int.natCast_mul, Int.natCast_pow, Int.add_comm, Int.mul_comm]
        rfl
theorem adS_mat (ad : List Int) (j : Nat) : ((j : Int) ∈ adS ad ad.length) ↔ mat ad j = true := by
  rw [adS_mem, mat_iff]
  constructor
  · rintro ⟨n, h, hn, hok⟩
    obtain rfl : j = n := by omega
    exact ⟨hok, by rw [Nat.shiftRight_eq_div_pow]; exact Nat.div_eq_of_lt hn⟩
  · rintro ⟨hok, h⟩
    refine ⟨j, rfl, ?_, hok⟩
    rw [Nat.shiftRight_eq_div_pow] at h
    rcases Nat.lt_or_ge j (2 ^ ad.length) with h1 | h1
    · exact h1
    · have := Nat.div_pos h1 (Nat.two_pow_pos _)
      omega
theorem adS_pos (ad : List Int) (k : Nat) : ∃ x, x ∈ adS ad k := by
  induction k with
  | zero => exact ⟨0, by unfold adS; simp⟩
  | succ k ih =>
    obtain ⟨o, ho⟩ := ih
    obtain ⟨m, hm⟩ : ∃ m, m ∈ Lg.chc (ad.getD k 0) false := by
      rcases chc_01 (ad.getD k 0) with h | h | h <;> rw [h]
      · exact ⟨0, by simp⟩
      · exact ⟨1, by simp⟩
      · exact ⟨0, by simp⟩
    exact ⟨_, by unfold adS; exact List.mem_flatMap.2 ⟨o, ho, List.mem_map.2 ⟨m, hm, rfl⟩⟩⟩
/-- With an unknown bit an address stands for another one besides. -/
theorem adS_other (ad : List Int) (j : Nat) (h : mat ad j = true) (hu : anyP unk ad = true) : ∃ n : Nat, n ≠ j ∧ (n : Int) ∈ adS ad ad.length := by
  obtain ⟨v, hv, hk⟩ := List.any_eq_true.1 hu
  obtain ⟨k, hk2, rfl⟩ := List.mem_iff_getElem.1 hv
  obtain ⟨hok, hz⟩ := (mat_iff ad j).1 h
  have hj : j < 2 ^ ad.length := by
    obtain ⟨n, e, h1, -⟩ := (adS_mem ad ad.length j).1 ((adS_mat ad j).2 h)
    omega
  refine ⟨j ^^^ 2 ^ k, fun e => ?_, (adS_mem ad ad.length _).2 ⟨_, rfl, Nat.xor_lt_two_pow hj (Nat.pow_lt_pow_right (by decide) hk2), fun i hi => ?_⟩⟩
  · have := congrArg (fun n => Nat.testBit n k) e
    simp [Nat.testBit_xor, Nat.testBit_two_pow] at this
  · by_cases hik : k = i
    · subst hik
      intro hkn
      unfold unk at hk
      rw [List.getD_eq_getElem?_getD, List.getElem?_eq_getElem hk2] at hkn
      simp at hkn hk
      rw [hkn] at hk; cases hk
    · have := hok i hi
      unfold okA ibit at this ⊢
      rw [Nat.testBit_xor, Nat.testBit_two_pow, decide_eq_false hik, Bool.xor_false]
      exact this
/-- Without one it stands for one alone. -/
theorem adS_one (ad : List Int) (j : Nat) (h : mat ad j = true) (hu : anyP unk ad = false) (x : Int) (hx : x ∈ adS ad ad.length) : x = j := by
  obtain ⟨n, rfl, hn, hok⟩ := (adS_mem ad ad.length x).1 hx
  obtain ⟨m, e, hm, hok2⟩ := (adS_mem ad ad.length j).1 ((adS_mat ad j).2 h)
  obtain rfl : j = m := by omega
  congr 1
  apply Nat.eq_of_testBit_eq
  intro i
  by_cases hi : i < ad.length
  · have hk : knw (ad.getD i 0) = true := by
      have := List.any_eq_false.1 hu ad[i] (List.getElem_mem hi)
      rw [List.getD_eq_getElem?_getD, List.getElem?_eq_getElem hi]
      simpa [unk] using this
    have h1 := hok i hi hk
    have h2 := hok2 i hi hk
    unfold ibit at h1 h2
    rw [h1] at h2
    cases e1 : n.testBit i <;> cases e2 : j.testBit i <;> rw [e1, e2] at h2 <;> simp at h2 <;> rfl
  · rw [Nat.testBit_lt_two_pow (Nat.lt_of_lt_of_le hn (Nat.pow_le_pow_right (by decide) (by omega))), Nat.testBit_lt_two_pow (Nat.lt_of_lt_of_le hm (Nat.pow_le_pow_right (by decide) (by omega)))]
theorem bitsL_at (w : List Int) (n b : Nat) (h : b < n) : (bitsL w n).getD b 0 = rdb w b := by
  unfold bitsL rdb cpyL
  rw [List.getD_eq_getElem?_getD, List.getElem?_map, List.getElem?_append]
  by_cases hb : w.length ≤ b
  · rw [if_neg (by rw [List.length_take]; omega), List.getElem?_replicate, if_pos (by rw [List.length_take]; omega), if_pos hb]
    rfl
  · rw [if_pos (by rw [List.length_take]; omega), List.getElem?_take_of_lt h, if_neg hb, List.getD_eq_getElem?_getD, List.getElem?_eq_getElem (by omega)]
    rfl
theorem agL_at (a b : List Int) (i : Nat) (h : i < a.length) : (agL a b).getD i 0 = agB a b i := by
  unfold agL
  rw [List.getD_eq_getElem?_getD, List.getElem?_map, List.getElem?_range h]; rfl
/-- P9.3: WHAT STORE LAYS is what all choices have in common. -/
theorem store_ref (ws : List (List Int)) (ad dt : List Int) (en : Int) (j b : Nat) (hb : b < (ws.getD j []).length) : (stW ws ad dt en j).getD b 0 = valL (refS (ws.getD j []) j ad dt en b) := by
  obtain ⟨w, hw⟩ : ∃ w, w = ws.getD j [] := ⟨_, rfl⟩
  have hmem : ∀ x, x ∈ refS w j ad dt en b ↔ ∃ a, a ∈ adS ad ad.length ∧ ∃ e, e ∈ Lg.chc en false ∧ x ∈ if e = 1 ∧ a = (j : Int) then bw dt b else bw w b := fun x => by
    unfold refS; simp only [List.mem_flatMap]
  unfold stW
  rw [← hw] at hb ⊢
  have hne : ∃ e, e ∈ Lg.chc en false := by
    rcases chc_01 en with h | h | h <;> rw [h]
    · exact ⟨0, by simp⟩
    · exact ⟨1, by simp⟩
    · exact ⟨0, by simp⟩
  obtain ⟨e0, he0⟩ := hne
  by_cases hA : en = 0 ∨ mat ad j = false
  · rw [if_pos hA, bitsL_at _ _ _ hb]
    refine (valL_set fun x => ?_).symm
    rw [hmem]
    constructor
    · rintro ⟨a, ha, e, he, hx⟩
      rw [if_neg] at hx
      · exact hx
      · rintro ⟨rfl, rfl⟩
        rcases hA with h | h
        · rw [h] at he; simp [Lg.chc] at he
        · rw [(adS_mat ad j).1 ha] at h; cases h
    · intro hx
      obtain ⟨a, ha⟩ := adS_pos ad ad.length
      refine ⟨a, ha, e0, he0, ?_⟩
      rw [if_neg]
      · exact hx
      · rintro ⟨rfl, rfl⟩
        rcases hA with h | h
        · rw [h] at he0; simp [Lg.chc] at he0
        · rw [(adS_mat ad j).1 ha] at h; cases h
  · have h0 : en ≠ 0 := fun h => hA (.inl h)
    have hm : mat ad j = true := by
      cases h : mat ad j
      · exact absurd (.inr h) hA
      · rfl
    have h1 : (1 : Int) ∈ Lg.chc en false := by
      unfold Lg.chc; rw [if_neg h0]
      split
      · simp
      · simp
    rw [if_neg hA]
    by_cases hc : certB en ad = true
    · rw [if_pos hc, bitsL_at _ _ _ hb]
      unfold certB at hc
      simp only [Bool.and_eq_true, decide_eq_true_eq, Bool.not_eq_true'] at hc
      refine (valL_set fun x => ?_).symm
      rw [hmem]
      constructor
      · rintro ⟨a, ha, e, he, hx⟩
        have ea := adS_one ad j hm hc.2 a ha
        have ee : e = 1 := by rw [hc.1] at he; simpa [Lg.chc] using he
        rw [if_pos ⟨ee, ea⟩] at hx
        exact hx
      · intro hx
        exact ⟨j, (adS_mat ad j).2 hm, 1, h1, by rw [if_pos ⟨rfl, rfl⟩]; exact hx⟩
    · rw [if_neg hc, agL_at _ _ _ (by rw [bitsL_len]; exact hb)]
      unfold agB
      rw [bitsL_at _ _ _ hb, bitsL_at _ _ _ hb]
      refine (valL_two fun x => ?_).symm
      rw [hmem]
      constructor
      · rintro ⟨a, ha, e, he, hx⟩
        split at hx
        · exact .inr hx
        · exact .inl hx
      · rintro (hx | hx)
        · by_cases he1 : en = 1
          · have hu : anyP unk ad = true := by
              cases h : anyP unk ad
              · exact absurd (by unfold certB; rw [h, he1]; rfl) hc
              · rfl
            obtain ⟨n, hn, hn2⟩ := adS_other ad j hm hu
            exact ⟨n, hn2, e0, he0, by rw [if_neg (fun h => hn (by omega))]; exact hx⟩
          · exact ⟨j, (adS_mat ad j).2 hm, 0, by rw [chc_u h0 he1]; simp, by rw [if_neg (by simp)]; exact hx⟩
        · exact ⟨j, (adS_mat ad j).2 hm, 1, h1, by rw [if_pos ⟨rfl, rfl⟩]; exact hx⟩
end Go.Proofs.YtcaikkfcjeojiaaDoor

namespace Go.Proofs.YtcaikkfcjeojiaaDoor.Lg
open Go.RowKit

def vof (c : Int) : Int := if c = 49 then 1 else if c = 88 then 2 else if c = 90 then 3 else 0
def isv (c : Int) : Bool := decide (c = 48 ∨ c = 49 ∨ c = 88 ∨ c = 90)

/-- The k-th byte of a string. -/
def chr (s : ByteArray) (k : Nat) : Int := ((s.data.toList.getD k 0).toNat : Int)
theorem chr_at (s : ByteArray) (k : Nat) (h : k < s.size) : ((s[k]'h).toNat : Int) = chr s k := by
  unfold chr
  rw [List.getD_eq_getElem?_getD, List.getElem?_eq_getElem (by simpa using h)]
  rfl

/-- A row of n cells, the first k of which are filled. -/
def fillL (f : Nat → Value) (z : Value) (n k : Nat) : List Value := (List.range n).map fun j => if j < k then f j else z
theorem fillL_len (f : Nat → Value) (z : Value) (n k : Nat) : (fillL f z n k).length = n := by simp [fillL]
theorem fillL_get (f : Nat → Value) (z : Value) (n k j : Nat) (h : j < n) : (fillL f z n k)[j]? = some (if j < k then f j else z) := by
  simp [fillL, List.getElem?_map, List.getElem?_range h]
theorem fillL_set (f : Nat → Value) (z : Value) (n k : Nat) : (fillL f z n k).set k (f k) = fillL f z n (k + 1) := by
  apply List.ext_getElem?
  intro j
  by_cases hj : j < n
  · rw [List.getElem?_set, fillL_get _ _ _ _ _ hj, fillL_get _ _ _ _ _ hj, fillL_len]
    by_cases hk : k = j
    · subst hk; simp [hj]
    · rw [if_neg hk]
      by_cases h1 : j < k
      · rw [if_pos h1, if_pos (by omega)]
      · rw [if_neg h1, if_neg (by omega)]
  · rw [List.getElem?_eq_none (by simp [fillL_len]; omega), List.getElem?_eq_none (by simp [fillL_len]; omega)]
theorem fillL_start (f : Nat → Value) (z : Value) (n : Nat) : (madeCells #[z] n).toList = fillL f z n 0 := by
  apply List.ext_getElem?
  intro j
  by_cases hj : j < n
  · rw [fillL_get _ _ _ _ _ hj]; simp [madeCells, hj, Nat.mod_one]
  · rw [List.getElem?_eq_none (by simp [madeCells]; omega), List.getElem?_eq_none (by simp [fillL_len]; omega)]

theorem info_value : (Tryd.prog.info? 24).map (fun i => (i.zero, i.size, i.bytes)) = some (some (.int .u8 0), 1, 1) := by kernel_rfl
theorem info_byte : (Tryd.prog.info? 5).map (fun i => (i.zero, i.size, i.bytes)) = some (some (.int .u8 0), 1, 1) := by kernel_rfl

def ParsePost (s : ByteArray) (w : World) (e : Ending) (w' : World) : Prop :=
  Below w.heap.size w w' ∧
  (((∀ k, k < s.size → isv (chr s k) = true) ∧ e = .returned (.tuple #[.slice (some ⟨w.heap.size, 0, none⟩) s.size s.size, .int .i64 0]) ∧
    w'.ownsRow w.heap.size 24 1 (.slice (some ⟨w.heap.size, 0, none⟩) s.size s.size) s.size (fillL (fun j => .int .u8 (vof (chr s j))) (.int .u8 0) s.size s.size)) ∨
   ((∃ k, k < s.size ∧ isv (chr s k) = false) ∧ e = .returned (.tuple #[.slice none 0 0, .int .i64 4])))

/-- The character of a value. -/
def tch (v : Int) : Int := charsL.getD (cln v).toNat 0

end Go.Proofs.YtcaikkfcjeojiaaDoor.Lg
