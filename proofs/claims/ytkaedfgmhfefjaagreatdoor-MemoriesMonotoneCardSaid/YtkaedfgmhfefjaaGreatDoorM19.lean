/- The texts Sro Sct. -/
import Derived.Test.YtkaedfgmhfefjaaGreatDoorM18
import Derived.Test.YtkaedfgmhfefjaaGreatDoorM13
namespace Go.Proofs.YtkaedfgmhfefjaaGreatDoor
open Go.RowKit

/-- Block D is a row of m slices, the first k of which are own words f, each in a block behind D and behind that of the one before it, below T. -/
def SRow (w : World) (D : Nat) (f : Nat → List Int) (m k T : Nat) : Prop :=
  ∃ (vs : List Value) (gf : Nat → Nat), Fr w D 41 vs ∧ vs.length = m ∧ (∀ j, j < k → vs[j]? = some (.slice (some ⟨gf j, 0, none⟩) (f j).length (f j).length) ∧ VRow w (gf j) (f j) ∧ D < gf j ∧ gf j < T) ∧ ∀ i j, i < j → j < k → gf i < gf j
section
variable {w w' : World} {D m k T T' : Nat} {f : Nat → List Int}
theorem SRow.lt (h : SRow w D f m k T) : D < w.heap.size := by obtain ⟨vs, gf, h1, -⟩ := h; exact h1.lt
theorem SRow.below (h : SRow w D f m k T) (hb : BelW w w') : SRow w' D f m k T := by
  obtain ⟨vs, gf, h1, h2, h3, h4⟩ := h
  exact ⟨vs, gf, h1.below hb, h2, fun j hj => by
    obtain ⟨e, v, n⟩ := h3 j hj
    exact ⟨e, v.below hb, n⟩, h4⟩
theorem SRow.frozen (h : SRow w D f m k T) (j : Nat) : w.frozen? ⟨D, j, none⟩ = false := by obtain ⟨vs, gf, h1, -⟩ := h; exact h1.frozen j
theorem SRow.there (h : SRow w D f m k T) {j : Nat} (hj : j < m) : ∃ u, w.cell? ⟨D, j, none⟩ = some u := by
  obtain ⟨vs, gf, h1, h2, -⟩ := h
  exact ⟨vs[j], by rw [h1.cell, List.getElem?_eq_getElem (by omega)]⟩
theorem SRow.at (h : SRow w D f m k T) {j : Nat} (hj : j < k) : ∃ g, w.cell? ⟨D, j, none⟩ = some (.slice (some ⟨g, 0, none⟩) (f j).length (f j).length) ∧ VRow w g (f j) ∧ g ≠ D := by
  obtain ⟨vs, gf, h1, h2, h3, -⟩ := h
  obtain ⟨e, v, n, -⟩ := h3 j hj
  exact ⟨gf j, by rw [h1.cell, e], v, Nat.ne_of_gt n⟩
/-- The blocks of the words, by name. -/
theorem SRow.open (h : SRow w D f m k T) : ∃ gf : Nat → Nat, (∀ j, j < k → w.cell? ⟨D, j, none⟩ = some (.slice (some ⟨gf j, 0, none⟩) (f j).length (f j).length) ∧ VRow w (gf j) (f j) ∧ D < gf j) ∧ ∀ i j, i < j → j < k → gf i < gf j := by
  obtain ⟨vs, gf, h1, h2, h3, h4⟩ := h
  exact ⟨gf, fun j hj => by
    obtain ⟨e, v, n, -⟩ := h3 j hj
    exact ⟨by rw [h1.cell, e], v, n⟩, h4⟩
/-- The next word is laid. -/
theorem SRow.step (h : SRow w D f m k T) (hT : T ≤ T') (hk : k < m) {g : Nat} (v : VRow w g (f k)) (n : D < g) (hg : g < T') (hg0 : T ≤ g) : SRow (w.setCell ⟨D, k, none⟩ (.slice (some ⟨g, 0, none⟩) (f k).length (f k).length)) D f m (k + 1) T' := by
  obtain ⟨vs, gf, h1, h2, h3, h4⟩ := h
  refine ⟨vs.set k (.slice (some ⟨g, 0, none⟩) (f k).length (f k).length), fun j => if j = k then g else gf j, h1.set _ _, by rw [List.length_set]; exact h2, fun j hj => ?_, fun i j hij hj => ?_⟩
  · by_cases e : j = k
    · subst e
      simp only [if_true]
      exact ⟨by rw [List.getElem?_set]; simp [h2, hk], v.other (a := ⟨D, _, none⟩) (Nat.ne_of_lt n) _, n, hg⟩
    · obtain ⟨e', v', n', t'⟩ := h3 j (by omega)
      simp only [if_neg e]
      exact ⟨by rw [List.getElem?_set, if_neg (by omega)]; exact e', v'.other (a := ⟨D, _, none⟩) (Nat.ne_of_lt n') _, n', Nat.lt_of_lt_of_le t' hT⟩
  · show (if i = k then g else gf i) < if j = k then g else gf j
    rw [if_neg (by omega : ¬ i = k)]
    by_cases e : j = k
    · rw [if_pos e]
      have := (h3 i (by omega)).2.2.2
      omega
    · rw [if_neg e]; exact h4 i j hij (by omega)
/-- A cell that is not counted yet is written. -/
theorem SRow.put (h : SRow w D f m k T) (x : Value) : SRow (w.setCell ⟨D, k, none⟩ x) D f m k T := by
  obtain ⟨vs, gf, h1, h2, h3, h4⟩ := h
  refine ⟨vs.set k x, gf, h1.set _ _, by rw [List.length_set]; exact h2, fun j hj => ?_, h4⟩
  obtain ⟨e', v', n', t'⟩ := h3 j hj
  exact ⟨by rw [List.getElem?_set, if_neg (by omega)]; exact e', v'.other (a := ⟨D, _, none⟩) (Nat.ne_of_lt n') _, n', t'⟩
/-- A row that is none of its words is turned. -/
theorem SRow.grown (h : SRow w D f m k T) {g : Nat} (hg : w.grownBy w' (some g)) (hT : T ≤ g) (hD : D ≠ g) : SRow w' D f m k T := by
  obtain ⟨vs, gf, h1, h2, h3, h4⟩ := h
  have hlt := h1.lt
  refine ⟨vs, gf, ?_, h2, fun j hj => ?_, h4⟩
  · unfold Fr at h1 ⊢
    rw [hg.block D hlt (fun e => hD (Option.some.inj e))]; exact h1
  · obtain ⟨e', v', n', t'⟩ := h3 j hj
    exact ⟨e', v'.kept hg (fun e => by have := Option.some.inj e; omega), n', t'⟩
/-- The word that stands in a cell is counted. -/
theorem SRow.count (h : SRow w D f m k T) (hT : T ≤ T') {g : Nat} (hc : w.cell? ⟨D, k, none⟩ = some (.slice (some ⟨g, 0, none⟩) (f k).length (f k).length)) (v : VRow w g (f k)) (n : D < g) (hg : g < T') (hg0 : T ≤ g) : SRow w D f m (k + 1) T' := by
  obtain ⟨vs, gf, h1, h2, h3, h4⟩ := h
  refine ⟨vs, fun j => if j = k then g else gf j, h1, h2, fun j hj => ?_, fun i j hij hj => ?_⟩
  · by_cases e : j = k
    · subst e
      simp only [if_true]
      exact ⟨by rw [← h1.cell]; exact hc, v, n, hg⟩
    · obtain ⟨e', v', n', t'⟩ := h3 j (by omega)
      simp only [if_neg e]
      exact ⟨e', v', n', Nat.lt_of_lt_of_le t' hT⟩
  · show (if i = k then g else gf i) < if j = k then g else gf j
    rw [if_neg (by omega : ¬ i = k)]
    by_cases e : j = k
    · rw [if_pos e]
      have := (h3 i (by omega)).2.2.2
      omega
    · rw [if_neg e]; exact h4 i j hij (by omega)
theorem SRow.of {B : Nat} (h : w.ownsRow B 41 1 (.slice (some ⟨D, 0, none⟩) m m) m (List.replicate m (.slice none 0 0))) : SRow w D f m 0 T := by
  rcases h.2 with ⟨e, -⟩ | ⟨g', cap, cur, e, hb', hg', hle, hmx, hs', ht'⟩
  · cases e
  · simp only [Value.slice.injEq, Option.some.injEq, Addr.mk.injEq] at e
    obtain ⟨⟨rfl, -⟩, -, rfl⟩ := e
    refine ⟨List.replicate m (.slice none 0 0), fun _ => 0, ?_, by simp, fun j hj => absurd hj (by omega), fun i j _ hj => absurd hj (by omega)⟩
    unfold Fr
    rw [hg']
    have e : cur.toList = List.replicate m (.slice none 0 0) := by rw [← ht', List.take_of_length_le (by simp [hs'])]
    rw [← e, Array.toArray_toList]
end
end Go.Proofs.YtkaedfgmhfefjaaGreatDoor

namespace Go.Proofs.YtkaedfgmhfefjaaGreatDoor
open Go.RowKit

def unk (v : Int) : Bool := !knw v
theorem unk_any (v : Int) (w : World) : Calls Tryz.prog 104 #[.int .u8 v] w fun e w' => e = .returned (.bool (unk v)) ∧ w = w' := by
  have HK := Lib.hid (Lg.known_any v w)
  obtain ⟨k, HKK⟩ := named (knw v)
  unfold unk
  rw [← HKK.out] at HK ⊢
  go_enter Tryz.func104, Tryz.ntmps104
  go_wp2_with (go_at_call 29; (with_reducible refine HK.out.mono ?_); rintro e w' ⟨rfl, rfl⟩)
  go_ret
  exact ⟨rfl, rfl⟩
set_option maxHeartbeats 1000000 in
theorem indexU_any (l : List Int) (s : Value) (w : World) (B : Nat) (hs : Ks w B s l) :
    Calls Tryz.prog 125 #[s, .func (.func 104) #[] #[]] w (IdxP (anyP unk l) w) := by
  obtain ⟨A, b, o, c, rfl, hA, -, hm, hc⟩ := hs.opens
  unfold maxLen at hm
  have HC := Lib.hid hc
  have HAA := Lib.hid hA
  clear hc hA hs
  obtain ⟨n, hn⟩ : ∃ n, n = l.length := ⟨_, rfl⟩
  rw [← hn] at hm
  rw [← hn]
  have HN := Lib.hid hn
  have HAB := Lib.hid unk_any
  clear hn
  go_enter Tryz.func125, Tryz.ntmps125
  go_wp2
  go_loopw [8] (fun i wr => wr = w ∧ ∃ k : Nat, k ≤ n ∧ i = .int .i64 k ∧ ∀ j, j < k → unk (l.getD j 0) = false) (fun i _ => n - (intOf i).toNat)
  case atStart => exact ⟨rfl, 0, Nat.zero_le _, rfl, fun j hj => absurd hj (by omega)⟩
  case round =>
    obtain ⟨rfl, k, hk, rfl, hno⟩ := hrel
    have HNO := Lib.hid hno
    clear hno
    by_cases hlt : k < n
    · obtain rfl := HAA.out (by rw [← HN.out]; omega)
      have hcell := (HC.out k (by rw [← HN.out]; omega)).2
      obtain ⟨y, HX⟩ := named (l.getD k 0)
      rw [← HX.out] at hcell
      have HA1 := Lib.hid (fun w => HAB.out y w)
      cases hv : unk y
      · have HV := Lib.hid hv
        rw [hv] at HA1
        go_wp2_with (go_at_call 104; (with_reducible refine (HA1.out _).mono ?_); rintro e w' ⟨rfl, rfl⟩)
        go_roundw
        case rel =>
          refine ⟨by trivial, k + 1, by omega, by go_num, fun j hj => ?_⟩
          by_cases hjk : j = k
          · rw [hjk, ← HX.out]; exact HV.out
          · exact HNO.out j (by omega)
        case measure => simp [intOf]; omega
      · have HV := Lib.hid hv
        rw [hv] at HA1
        go_wp2_with (go_at_call 104; (with_reducible refine (HA1.out _).mono ?_); rintro e w' ⟨rfl, rfl⟩)
        go_ret
        exact ⟨k, rfl, ⟨fun _ => anyP_yes k (by rw [← HN.out]; omega) (by rw [← HX.out]; exact HV.out), fun _ => by omega⟩, rfl⟩
    · go_wp2
      go_ret
      exact ⟨-1, rfl, ⟨fun h => absurd h (by omega), fun h => by rw [anyP_no (fun j hj => HNO.out j (by rw [← HN.out] at hj; omega))] at h; cases h⟩, rfl⟩
set_option maxHeartbeats 400000 in
theorem containsU_any (l : List Int) (s : Value) (w : World) (B : Nat) (hs : Ks w B s l) :
    Calls Tryz.prog 81 #[s, .func (.func 104) #[] #[]] w fun e w' => e = .returned (.bool (anyP unk l)) ∧ w = w' := by
  obtain ⟨y, HY⟩ := named (anyP unk l)
  rw [← HY.out]
  have HI := Lib.hid (indexU_any l s w B hs)
  clear hs
  rw [← HY.out] at HI
  go_enter Tryz.func81, Tryz.ntmps81
  go_wp2_with (go_at_call 125; (with_reducible refine HI.out.mono ?_); rintro e w' ⟨i, rfl, hi, rfl⟩; have HI2 := Lib.hid hi; clear hi)
  go_ret
  exact ⟨ret_bool (Bool.eq_iff_iff.2 (by simpa using HI2.out)), rfl⟩
end Go.Proofs.YtkaedfgmhfefjaaGreatDoor
