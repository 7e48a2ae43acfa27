/- NetlistsNames: Find, the references IsName and Comb, the law. -/
import Derived.Test.YtmghdeodkeenoaaDoorLvs
namespace Go.Proofs.YtmghdeodkeenoaaDoor
open Go.RowKit

/-- r is where s stands first, or -1. -/
def First (l : List ByteArray) (s : ByteArray) (r : Int) : Prop :=
  (r = -1 ∧ ∀ j : Nat, j < l.length → (s.toList == (l.getD j ByteArray.empty).toList) = false) ∨ ∃ k : Nat, k < l.length ∧ r = (k : Int) ∧ (s.toList == (l.getD k ByteArray.empty).toList) = true ∧ ∀ j : Nat, j < k → (s.toList == (l.getD j ByteArray.empty).toList) = false
theorem First.uniq {l : List ByteArray} {s : ByteArray} {r r' : Int} (h : First l s r) (h' : First l s r') : r = r' := by
  rcases h with ⟨rfl, h1⟩ | ⟨k, hk, rfl, h1, h2⟩ <;> rcases h' with ⟨rfl, h1'⟩ | ⟨k', hk', rfl, h1', h2'⟩
  · rfl
  · rw [h1 k' hk'] at h1'; cases h1'
  · rw [h1' k hk] at h1; cases h1
  · rcases Nat.lt_trichotomy k k' with h | h | h
    · rw [h2' k h] at h1; cases h1
    · rw [h]
    · rw [h2 k' h] at h1'; cases h1'
theorem First.ge {l : List ByteArray} {s : ByteArray} {r : Int} (h : First l s r) : -1 ≤ r ∧ r < l.length := by
  rcases h with ⟨rfl, _⟩ | ⟨k, hk, rfl, _⟩ <;> omega

set_option maxHeartbeats 1000000 in
theorem indexT_any (x : ByteArray) (l : List ByteArray) (s : Value) (w : World) (B : Nat) (hs : Ss w B s l) :
    Calls Tryd.prog 48 #[s, .string x] w fun e w' => (∃ r, e = .returned (.int .i64 r) ∧ First l x r) ∧ w = w' := by
  obtain ⟨A, b, o, c, rfl, hA, -, hm, hc⟩ := hs.opens
  unfold maxLen at hm
  have HC := Lib.hid hc
  have HAA := Lib.hid hA
  clear hc hA hs
  obtain ⟨n, hn⟩ : ∃ n, n = l.length := ⟨_, rfl⟩
  rw [← hn] at hm
  rw [← hn]
  have HN := Lib.hid hn
  clear hn
  go_enter Tryd.func48, Tryd.ntmps48
  go_wp2
  go_loopw [8] (fun i wr => wr = w ∧ ∃ k : Nat, k ≤ n ∧ i = .int .i64 k ∧ ∀ j, j < k → (x.toList == (l.getD j ByteArray.empty).toList) = false) (fun i _ => n - (intOf i).toNat)
  case atStart => exact ⟨rfl, 0, Nat.zero_le _, rfl, fun j hj => absurd hj (by omega)⟩
  case round =>
    obtain ⟨rfl, k, hk, rfl, hno⟩ := hrel
    have HNO := Lib.hid hno
    clear hno
    by_cases hlt : k < n
    · obtain rfl := HAA.out (by rw [← HN.out]; omega)
      have hcell := (HC.out k (by rw [← HN.out]; omega)).2.1
      obtain ⟨y, HX⟩ := named (l.getD k ByteArray.empty)
      rw [← HX.out] at hcell
      cases hv : x.toList == y.toList
      · have HV := Lib.hid hv
        go_wp2
        go_roundw
        case rel =>
          refine ⟨by trivial, k + 1, by omega, by go_num, fun j hj => ?_⟩
          by_cases hjk : j = k
          · rw [hjk, ← HX.out]; exact HV.out
          · exact HNO.out j (by omega)
        case measure => simp [intOf]; omega
      · have HV := Lib.hid hv
        go_wp2
        go_ret
        exact ⟨⟨k, rfl, .inr ⟨k, by rw [← HN.out]; omega, rfl, by rw [← HX.out]; exact HV.out, HNO.out⟩⟩, rfl⟩
    · go_wp2
      go_ret
      exact ⟨⟨-1, rfl, .inl ⟨rfl, fun j hj => HNO.out j (by rw [← HN.out] at hj; omega)⟩⟩, rfl⟩

set_option maxHeartbeats 1000000 in
theorem find_any (x : ByteArray) (l : List ByteArray) (s : Value) (w : World) (B : Nat) (hB : B ≤ w.heap.size) (hs : Ss w B s l) :
    Calls Tryd.prog 19 #[.agg #[.slice none 0 0, s, .slice none 0 0, .slice none 0 0], .string x] w fun e w' => (∃ r, e = .returned (.tuple #[.int .i64 (max r 0), .bool (decide (0 ≤ r))]) ∧ First l x r) ∧ Below w.heap.size w w' := by
  obtain ⟨A, b, o, c, rfl, -⟩ := id hs
  have hb : Below w.heap.size w (w.alloc (.cells #[.slice none 0 0, .slice A l.length c, .slice none 0 0, .slice none 0 0] 27)) := below_new (Below.refl _ _) _
  have hI := indexT_any x l _ _ _ (hs.below (hb.mono hB))
  generalize l.length = n at hI hb ⊢
  have HI := Lib.hid hI
  have HB := Lib.hid hb
  clear hI hs hb
  go_enter Tryd.func19, Tryd.ntmps19
  go_wp2_with (go_at_call 48; (with_reducible refine HI.out.mono ?_); rintro e w1 ⟨⟨r, rfl, hf⟩, rfl⟩; have HF := Lib.hid hf; clear hf)
  · have hr : max r 0 = 0 ∧ decide (0 ≤ r) = false := ⟨by omega, by simp; omega⟩
    go_ret2
    exact ⟨⟨r, by rw [hr.1, hr.2]; rfl, HF.out⟩, HB.out⟩
  · have hr : max r 0 = r ∧ decide (0 ≤ r) = true := ⟨by omega, by simp; omega⟩
    go_ret2
    exact ⟨⟨r, by rw [hr.1, hr.2]; rfl, HF.out⟩, HB.out⟩

theorem refComb_any (k : Int) (w : World) : Calls Tryd.prog 23 #[.int .u8 k] w fun e w' => e = .returned (.bool (cmb k)) ∧ w = w' := by
  obtain ⟨y, HY⟩ := named (cmb k)
  rw [← HY.out]
  by_cases h1 : 1 ≤ k
  all_goals
    go_enter Tryd.func23, Tryd.ntmps23
    go_wp2
    go_ret
    exact ⟨ret_bool (by rw [HY.out]; first | (simp [cmb, h1]; done) | (simp [cmb, h1]; omega)), rfl⟩

theorem nmb_cases (z : Int) : (nmb z = false ∧ (decide (z ≤ 32) = true ∨ (decide (z ≤ 32) = false ∧ decide (126 < z) = true) ∨ (decide (z ≤ 32) = false ∧ decide (126 < z) = false ∧ (z == 40) = true) ∨ (decide (z ≤ 32) = false ∧ decide (126 < z) = false ∧ (z == 40) = false ∧ (z == 41) = true) ∨
      (decide (z ≤ 32) = false ∧ decide (126 < z) = false ∧ (z == 40) = false ∧ (z == 41) = false ∧ (z == 61) = true) ∨ (decide (z ≤ 32) = false ∧ decide (126 < z) = false ∧ (z == 40) = false ∧ (z == 41) = false ∧ (z == 61) = false ∧ (z == 44) = true) ∨
      (decide (z ≤ 32) = false ∧ decide (126 < z) = false ∧ (z == 40) = false ∧ (z == 41) = false ∧ (z == 61) = false ∧ (z == 44) = false ∧ (z == 35) = true))) ∨
    (nmb z = true ∧ decide (z ≤ 32) = false ∧ decide (126 < z) = false ∧ (z == 40) = false ∧ (z == 41) = false ∧ (z == 61) = false ∧ (z == 44) = false ∧ (z == 35) = false) := by
  by_cases h1 : z ≤ 32
  · refine .inl ⟨?_, .inl (by simp [h1])⟩
    simp [nmb]; omega
  · by_cases h2 : 126 < z
    · refine .inl ⟨?_, .inr (.inl ⟨by simp [h1], by simp [h2]⟩)⟩
      simp [nmb]; omega
    · by_cases h3 : z = 40
      · subst h3; simp [nmb]
      · by_cases h4 : z = 41
        · subst h4; simp [nmb]
        · by_cases h5 : z = 61
          · subst h5; simp [nmb]
          · by_cases h6 : z = 44
            · subst h6; simp [nmb]
            · by_cases h7 : z = 35
              · subst h7; simp [nmb]
              · refine .inr ⟨?_, by simp [h1], by simp [h2], by simp [h3], by simp [h4], by simp [h5], by simp [h6], by simp [h7]⟩
                simp [nmb, h3, h4, h5, h6, h7]; omega

set_option maxHeartbeats 2000000 in
theorem refName_any (s : ByteArray) (hs100 : s.size ≤ 100) (w : World) : Calls Tryd.prog 21 #[.string s] w fun e w' => e = .returned (.bool (nameOk s.data.toList)) ∧ w = w' := by
  obtain ⟨y, HY⟩ := named (nameOk s.data.toList)
  rw [← HY.out]
  have hlen : s.data.toList.length = s.size := by simp
  have HL := Lib.hid hlen
  clear hlen
  go_enter Tryd.func21, Tryd.ntmps21
  go_wp2
  go_loopw [3] (fun i wr => wr = w ∧ ∃ k : Nat, k ≤ s.size ∧ i = .int .i64 k ∧ ∀ j, j < k → nmb ((s.data.toList.getD j 0).toNat : Int) = true) (fun i _ => s.size - (intOf i).toNat)
  case atStart => exact ⟨rfl, 0, Nat.zero_le _, rfl, fun j hj => absurd hj (by omega)⟩
  case round =>
    obtain ⟨rfl, k, hk, rfl, hno⟩ := hrel
    have HNO := Lib.hid hno
    clear hno
    by_cases hlt : k < s.size
    · have hb : (((s[k]'hlt).toNat : Nat) : Int) = ((s.data.toList.getD k 0).toNat : Int) := by
        rw [List.getD_eq_getElem?_getD, List.getElem?_eq_getElem (by simpa using hlt)]; rfl
      have HB := Lib.hid hb
      clear hb
      rcases nmb_cases ((s[k]'hlt).toNat : Int) with ⟨hv, hc⟩ | ⟨hv, q1, q2, q3, q4, q5, q6, q7⟩
      · have HV := Lib.hid hv
        clear hv
        rcases hc with q1 | ⟨q1, q2⟩ | ⟨q1, q2, q3⟩ | ⟨q1, q2, q3, q4⟩ | ⟨q1, q2, q3, q4, q5⟩ | ⟨q1, q2, q3, q4, q5, q6⟩ | ⟨q1, q2, q3, q4, q5, q6, q7⟩
        all_goals
          go_wp2
          go_ret
          exact ⟨ret_bool (by rw [HY.out]; exact (name_no k (by rw [HL.out]; exact hlt) (by rw [← HB.out]; exact HV.out)).symm), rfl⟩
      · have HV := Lib.hid hv
        clear hv
        go_wp2
        go_roundw
        case rel =>
          refine ⟨by trivial, k + 1, by omega, by go_num, fun j hj => ?_⟩
          by_cases hjk : j = k
          · rw [hjk, ← HB.out]; exact HV.out
          · exact HNO.out j (by omega)
        case measure => simp [intOf]; omega
    · have hall : ∀ j, j < s.data.toList.length → nmb ((s.data.toList.getD j 0).toNat : Int) = true := fun j hj => HNO.out j (by rw [HL.out] at hj; omega)
      have HA := Lib.hid hall
      clear hall
      by_cases hp : 0 < s.size
      · by_cases h32 : s.size ≤ 32
        · have hy : y = true := by rw [HY.out]; exact name_yes (by rw [HL.out]; exact hp) (by rw [HL.out]; exact h32) HA.out
          subst hy
          clear HY
          go_wp2
          go_ret
          exact ⟨ret_bool (by first | (simp; done) | (simp; omega)), rfl⟩
        · have hy : y = false := by rw [HY.out]; simp [nameOk, HL.out]; omega
          subst hy
          clear HY
          go_wp2
          go_ret
          exact ⟨ret_bool (by first | (simp; done) | (simp; omega)), rfl⟩
      · have hy : y = false := by rw [HY.out]; simp [nameOk, HL.out]; omega
        subst hy
        clear HY
        go_wp2
        go_ret
        exact ⟨ret_bool (by first | (simp; done) | (simp; omega)), rfl⟩

/-- What the search from behind keeps: r is where s stands first from k on, or -1. -/
def From (l : List ByteArray) (s : ByteArray) (k : Nat) (r : Int) : Prop :=
  (r = -1 ∧ ∀ j : Nat, k ≤ j → j < l.length → (s.toList == (l.getD j ByteArray.empty).toList) = false) ∨ ∃ m : Nat, k ≤ m ∧ m < l.length ∧ r = (m : Int) ∧ (s.toList == (l.getD m ByteArray.empty).toList) = true ∧ ∀ j : Nat, k ≤ j → j < m → (s.toList == (l.getD j ByteArray.empty).toList) = false
theorem From.first {l : List ByteArray} {s : ByteArray} {r : Int} (h : From l s 0 r) : First l s r := by
  rcases h with ⟨h1, h2⟩ | ⟨m, _, h1, h2, h3, h4⟩
  · exact .inl ⟨h1, fun j hj => h2 j (Nat.zero_le _) hj⟩
  · exact .inr ⟨m, h1, h2, h3, fun j hj => h4 j (Nat.zero_le _) hj⟩
theorem From.no {l : List ByteArray} {s : ByteArray} {r : Int} {k : Nat} (h : From l s (k + 1) r) (hk : (s.toList == (l.getD k ByteArray.empty).toList) = false) : From l s k r := by
  rcases h with ⟨h1, h2⟩ | ⟨m, h0, h1, h2, h3, h4⟩
  · refine .inl ⟨h1, fun j hj hl => ?_⟩
    by_cases e : j = k
    · rw [e]; exact hk
    · exact h2 j (by omega) hl
  · refine .inr ⟨m, by omega, h1, h2, h3, fun j hj hm => ?_⟩
    by_cases e : j = k
    · rw [e]; exact hk
    · exact h4 j (by omega) hm
theorem From.yes {l : List ByteArray} {s : ByteArray} {k : Nat} (hl : k < l.length) (hk : (s.toList == (l.getD k ByteArray.empty).toList) = true) : From l s k (k : Int) :=
  .inr ⟨k, Nat.le_refl _, hl, rfl, hk, fun j h1 h2 => by omega⟩

set_option maxHeartbeats 4000000 in
theorem names_law (s : ByteArray) (kd : Int) (l : List ByteArray) (v : Value) (w : World) (hT : Tabs w) (hs : Ss w w.heap.size v l) :
    Calls Tryd.prog 4 #[.string s, .int .u8 kd, v] w fun e w' => e = .returned (.bool true) ∧ Below w.heap.size w w' := by
  have HT := Lib.hid hT
  clear hT
  have HSS := Lib.hid hs
  obtain ⟨A, b, o, c, rfl, hA, -, hm, hc⟩ := hs.opens
  have HC := Lib.hid hc
  have HAA := Lib.hid hA
  clear hc hA hs
  obtain ⟨n, hn⟩ : ∃ n, n = l.length := ⟨_, rfl⟩
  rw [← hn] at hm HSS
  rw [← hn]
  unfold maxLen at hm
  have HN := Lib.hid hn
  clear hn
  by_cases h100 : 100 < s.size
  · go_enter Tryd.func4, Tryd.ntmps4
    go_wp2_with (go_at_call 12; (with_reducible refine (lives_any _ HT.out).mono ?_); rintro e w1 ⟨rfl, hb⟩; have HB := Lib.hid hb; clear hb)
    go_ret
    exact ⟨rfl, HB.out⟩
  · by_cases h24 : 24 < n
    · go_enter Tryd.func4, Tryd.ntmps4
      go_wp2_with (go_at_call 12; (with_reducible refine (lives_any _ HT.out).mono ?_); rintro e w1 ⟨rfl, hb⟩; have HB := Lib.hid hb; clear hb)
      go_ret
      exact ⟨rfl, HB.out⟩
    · have hfind := find_any s l _ w w.heap.size (Nat.le_refl _) HSS.out
      have HFI := Lib.hid hfind
      clear hfind
      go_enter Tryd.func4, Tryd.ntmps4
      go_wp2_with (go_at_call 19; (with_reducible refine HFI.out.mono ?_); rintro e w1 ⟨⟨r, rfl, hf⟩, hb⟩; have HF := Lib.hid hf; have HB := Lib.hid hb; clear hb hf)
      go_loopw [9, 10] (fun want i wr => wr = w1 ∧ ∃ (k : Nat) (q : Int), k ≤ n ∧ i = .int .i64 ((k : Int) - 1) ∧ want = .int .i64 q ∧ From l s k q) (fun _ i _ => (intOf i + 1).toNat)
      case atStart => exact ⟨rfl, n, -1, Nat.le_refl _, rfl, rfl, .inl ⟨rfl, fun j h1 h2 => by rw [← HN.out] at h2; omega⟩⟩
      case round =>
        obtain ⟨rfl, k, q, hk, rfl, rfl, hq⟩ := hrel
        have HQ := Lib.hid hq
        clear hq
        by_cases hk0 : 0 < k
        · obtain ⟨m, rfl⟩ : ∃ m, k = m + 1 := ⟨k - 1, by omega⟩
          obtain rfl := HAA.out (by rw [← HN.out]; omega)
          obtain ⟨hbB, hx0, -⟩ := HC.out m (by rw [← HN.out]; omega)
          have hx := (HB.out.cell (p := ⟨b, o + m, none⟩) hbB).trans hx0
          have hm1 : ((m + 1 : Nat) : Int) - 1 = (m : Int) := by omega
          rw [hm1]
          have hmn : m < n := by omega
          obtain ⟨y, HX⟩ := named (l.getD m ByteArray.empty)
          rw [← HX.out] at hx
          clear hx0 hk hk0
          cases hv : y.toList == s.toList
          · have HV := Lib.hid ((BEq.comm (a := s.toList) (b := y.toList)).trans hv)
            go_wp2
            go_roundw
            case rel => exact ⟨by trivial, m, q, by omega, by go_num, rfl, HQ.out.no (by rw [← HX.out]; exact HV.out)⟩
            case measure => simp [intOf]
          · have HV := Lib.hid ((BEq.comm (a := s.toList) (b := y.toList)).trans hv)
            go_wp2
            go_roundw
            case rel => exact ⟨by trivial, m, m, by omega, by go_num, rfl, From.yes (by rw [← HN.out]; omega) (by rw [← HX.out]; exact HV.out)⟩
            case measure => simp [intOf]
        · obtain rfl : k = 0 := by omega
          have hqr := HQ.out.first.uniq HF.out
          subst hqr
          have hq01 : (q = -1) ∨ ∃ m : Nat, q = (m : Int) := by
            rcases HF.out with ⟨h, -⟩ | ⟨m, -, h, -⟩
            · exact .inl h
            · exact .inr ⟨m, h⟩
          have HT1 := Lib.hid (HT.out.below HB.out)
          clear HQ HF
          have hnm := fun w => isName_any s w
          have hrn := fun w => refName_any s (by omega) w
          have hcb := fun w => comb_any kd w
          have hrc := fun w => refComb_any kd w
          obtain ⟨y1, HY1⟩ := named (nameOk s.data.toList)
          obtain ⟨y2, HY2⟩ := named (cmb kd)
          rw [← HY1.out] at hnm hrn
          rw [← HY2.out] at hcb hrc
          have H1 := Lib.hid hnm
          have H2 := Lib.hid hrn
          have H3 := Lib.hid hcb
          have H4 := Lib.hid hrc
          clear hnm hrn hcb hrc HY1 HY2
          rcases hq01 with rfl | ⟨m, rfl⟩ <;> cases y1 <;> cases y2
          all_goals
            go_wp2_with (first
              | (go_at_call 20; (with_reducible refine (H1.out _).mono ?_); rintro e w2 ⟨rfl, rfl⟩)
              | (go_at_call 21; (with_reducible refine (H2.out _).mono ?_); rintro e w2 ⟨rfl, rfl⟩)
              | (go_at_call 22; (with_reducible refine (H3.out _).mono ?_); rintro e w2 ⟨rfl, rfl⟩)
              | (go_at_call 23; (with_reducible refine (H4.out _).mono ?_); rintro e w2 ⟨rfl, rfl⟩)
              | (go_at_call 12; (with_reducible refine (lives_any _ HT1.out).mono ?_); rintro e w2 ⟨rfl, hb⟩; have HB2 := Lib.hid hb; clear hb))
            go_ret
            exact ⟨rfl, joinB HB.out HB2.out⟩

end Go.Proofs.YtmghdeodkeenoaaDoor
