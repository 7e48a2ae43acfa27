/- The texts Rl9. -/
import Derived.Test.YtcaikkfcjeojiaaDoorM21
namespace Go.Proofs.YtcaikkfcjeojiaaDoor
open Go.RowKit

def pq (q : Bool) (x y : Int) : Bool := if q = true then eqI x y else blw x y
theorem drew3 (W : World) (a b m : Nat) : (W.drewN (a + b)).drewN m = W.drewN (a + (b + m)) := by rw [World.drewN_drewN, Nat.add_assoc]
theorem pq_t : pq true = eqI := by funext x y; rfl
theorem pq_f : pq false = blw := by funext x y; rfl
set_option maxHeartbeats 2000000 in
theorem rel1_any (q : Bool) (l l' : List Int) (A A' : Option Addr) (n n' c c' g : Nat) (w : World) (B B' : Nat) (h : Ks w B (.slice A n c) l) (h' : Ks w B' (.slice A' n' c') l') (hq : w.cell? ⟨g, 0, none⟩ = some (.bool q)) :
    Calls Tryd.prog 29 #[.slice A n c, .slice A' n' c', .pointer (some ⟨g, 0, none⟩)] w fun e w' => e = .returned (.bool (relL (pq q) l l')) ∧ ∃ z, w' = w.drewN z := by
  obtain ⟨y, HY⟩ := named (relL (pq q) l l')
  rw [← HY.out]
  obtain ⟨A1, b, o, c1, e, hA, -, hm, hc⟩ := h.opens
  simp only [Value.slice.injEq] at e
  obtain ⟨rfl, hn, rfl⟩ := e
  obtain ⟨A2, b', o', c2, e, hA', -, hm', hc'⟩ := h'.opens
  simp only [Value.slice.injEq] at e
  obtain ⟨rfl, hn', rfl⟩ := e
  rw [← hn] at hA hc hm
  rw [← hn'] at hA' hc' hm'
  unfold maxLen at hm hm'
  have HC := Lib.hid hc
  have HC' := Lib.hid hc'
  have HAA := Lib.hid hA
  have HAA' := Lib.hid hA'
  have HN := Lib.hid hn
  have HN' := Lib.hid hn'
  clear hc hc' hA hA' h h' hn hn'
  by_cases hnn : n = n'
  rotate_left
  · have hv : y = false := by rw [HY.out]; unfold relL; rw [← HN.out, ← HN'.out, beq_eq_false_iff_ne.2 hnn]; rfl
    have hb : ((n : Int) != (n' : Int)) = true := by rw [bne_iff_ne]; omega
    have HV := Lib.hid hv
    clear hv hnn
    go_enter Tryd.func29, Tryd.ntmps29
    go_wp2
    go_ret
    exact ⟨ret_bool (by rw [HV.out]), 0, rfl⟩
  subst hnn
  go_enter Tryd.func29, Tryd.ntmps29
  go_wp2
  go_loopw [6] (fun i wr => ∃ k : Nat, k ≤ n ∧ i = .int .i64 k ∧ (∀ j, j < k → pq q (l.getD j 0) (l'.getD j 0) = true) ∧ ∃ z, wr = w.drewN z) (fun i _ => n - (intOf i).toNat)
  case atStart => exact ⟨0, Nat.zero_le _, rfl, fun j hj => absurd hj (by omega), 0, rfl⟩
  case round =>
    obtain ⟨k, hk, rfl, hno, z, rfl⟩ := hrel
    have HNO := Lib.hid hno
    clear hno
    by_cases hlt : k < n
    · obtain rfl := HAA.out (by omega)
      obtain rfl := HAA'.out (by omega)
      have e0 := (HC.out k hlt).2
      have e0' := (HC'.out k hlt).2
      obtain ⟨x, HX⟩ := named (l.getD k 0)
      obtain ⟨x', HX'⟩ := named (l'.getD k 0)
      rw [← HX.out] at e0
      rw [← HX'.out] at e0'
      have hk2 : (k : Int) < (n : Int) := by omega
      cases q
      · have HB0 := Lib.hid (fun W => mblw_any x x' W)
        obtain ⟨r, HR⟩ := named (blw x x')
        rw [← HR.out] at HB0
        have HP : Hid (pq false x x' = r) := Lib.hid (by rw [HR.out]; rfl)
        cases r
        · have HB := HB0
          go_wp2
          go_quiet ((go_at_call 28; exact (HB.out _).mono fun _ _ h => ⟨h.1, _, h.2⟩))
          go_wp2
          go_ret
          exact ⟨ret_bool (by rw [HY.out]; exact (allEq_not 0 (pq _) (j := k) (by rw [← HN.out]; omega) (HN.out.symm.trans HN'.out) (by rw [← HX.out, ← HX'.out]; exact HP.out)).symm), z + nq, by rw [World.drewN_drewN]⟩
        · have HB := HB0
          go_wp2
          go_quiet ((go_at_call 28; exact (HB.out _).mono fun _ _ h => ⟨h.1, _, h.2⟩))
          go_wp2
          go_roundw
          case rel =>
            refine ⟨k + 1, by omega, by go_num, fun j hj => ?_, _, rfl⟩
            by_cases hjk : j = k
            · rw [hjk, ← HX.out, ← HX'.out]; exact HP.out
            · exact HNO.out j (by omega)
          case measure => simp [intOf]; omega
      · by_cases hxx : x = x'
        · have HP : Hid (pq true x x' = true) := Lib.hid (by rw [hxx]; unfold pq eqI; simp)
          have t1 : (x != x') = false := by simp [hxx]
          clear hxx
          go_wp2
          go_quiet (fail)
          go_wp2
          go_roundw
          case rel =>
            refine ⟨k + 1, by omega, by go_num, fun j hj => ?_, _, rfl⟩
            by_cases hjk : j = k
            · rw [hjk, ← HX.out, ← HX'.out]; exact HP.out
            · exact HNO.out j (by omega)
          case measure => simp [intOf]; omega
        · have HP : Hid (pq true x x' = false) := Lib.hid (by unfold pq eqI; simpa using hxx)
          have t1 : (x != x') = true := by simpa using hxx
          clear hxx
          go_wp2
          go_quiet (fail)
          go_wp2
          go_ret
          exact ⟨ret_bool (by rw [HY.out]; exact (allEq_not 0 (pq _) (j := k) (by rw [← HN.out]; omega) (HN.out.symm.trans HN'.out) (by rw [← HX.out, ← HX'.out]; exact HP.out)).symm), z + nq, by rw [World.drewN_drewN]⟩
    · obtain rfl : n = k := by omega
      go_wp2
      go_ret
      exact ⟨ret_bool (by rw [HY.out]; exact (allEq_of 0 (pq q) l l' (HN.out.symm.trans HN'.out) (fun j hj => HNO.out j (by rw [← HN.out] at hj; omega))).symm), _, rfl⟩

set_option maxRecDepth 100000 in
set_option maxHeartbeats 8000000 in
theorem related_any (q : Bool) (a b : Stt) (A0a A1a A2a A0b A1b A2b : Option Addr) (n0a n1a n2a c0a c1a c2a n0b n1b n2b c0b c1b c2b : Nat) (w : World) (B : Nat) (hB : B ≤ w.heap.size) (ha : StR w B A0a A1a A2a n0a n1a n2a c0a c1a c2a a) (hb : StR w B A0b A1b A2b n0b n1b n2b c0b c1b c2b b) :
    Calls Tryd.prog 12 #[.agg #[.slice A0a n0a c0a, .slice A1a n1a c1a, .slice A2a n2a c2a], .agg #[.slice A0b n0b c0b, .slice A1b n1b c1b, .slice A2b n2b c2b], .bool q] w fun e w' => e = .returned (.bool (relS (pq q) a b)) ∧ BelW w w' := by
  obtain ⟨W3, HW3⟩ := named (((w.alloc (.cells #[.slice A0a n0a c0a, .slice A1a n1a c1a, .slice A2a n2a c2a] 36)).alloc (.cells #[.slice A0b n0b c0b, .slice A1b n1b c1b, .slice A2b n2b c2b] 36)).alloc (.cells #[.bool q] 4))
  have hb3 : BelW w W3 := by rw [HW3.out]; exact below_new (below_new (below_new (Below.refl _ _) _) _) _
  have hfa : Fr W3 w.heap.size 36 [.slice A0a n0a c0a, .slice A1a n1a c1a, .slice A2a n2a c2a] := by rw [HW3.out]; exact Fr.alloc (Fr.alloc (Fr.made _ [.slice A0a n0a c0a, .slice A1a n1a c1a, .slice A2a n2a c2a] _ rfl) _) _
  have hfb : Fr W3 (w.heap.size + 1) 36 [.slice A0b n0b c0b, .slice A1b n1b c1b, .slice A2b n2b c2b] := by rw [HW3.out]; exact Fr.alloc (Fr.made _ [.slice A0b n0b c0b, .slice A1b n1b c1b, .slice A2b n2b c2b] _ (by simp)) _
  have hfq : Fr W3 (w.heap.size + 2) 4 [.bool q] := by rw [HW3.out]; exact Fr.made _ [.bool q] _ (by simp)
  have sa := ha.keep hB hb3 (Nat.le_trans hB (Below.size hb3))
  have sb := hb.keep hB hb3 (Nat.le_trans hB (Below.size hb3))
  have HCL : Hid (∀ l l' A n c A' n' c' z, Ks W3 B (.slice A n c) l → Ks W3 B (.slice A' n' c') l' → Calls Tryd.prog 29 #[.slice A n c, .slice A' n' c', .pointer (some ⟨w.heap.size + 2, 0, none⟩)] (W3.drewN z) fun e w' => e = .returned (.bool (relL (pq q) l l')) ∧ ∃ m, w' = (W3.drewN z).drewN m) := Lib.hid fun l l' A n c A' n' c' z h h' => rel1_any q l l' A A' n n' c c' _ _ B B (Arr.keep stays_u8 h (Nat.le_refl _) fun _ _ => rfl) (Arr.keep stays_u8 h' (Nat.le_refl _) fun _ _ => rfl) (hfq.cell 0)
  have hB3 : B ≤ W3.heap.size := Nat.le_trans hB (Below.size hb3)
  replace sa := ha.keep hB hb3 (Nat.le_refl _)
  replace sb := hb.keep hB hb3 (Nat.le_refl _)
  obtain ⟨r1, H1⟩ := named (relL (pq q) a.dff b.dff)
  obtain ⟨r, HR⟩ := named (relS (pq q) a b)
  have HRS : Hid (r = (r1 && relV (pq q) a.words b.words && relW (pq q) a.read b.read)) := Lib.hid (by rw [HR.out, H1.out]; rfl)
  have HC1 : Hid (∀ z, Calls Tryd.prog 29 #[.slice A0a n0a c0a, .slice A0b n0b c0b, .pointer (some ⟨w.heap.size + 2, 0, none⟩)] (W3.drewN z) fun e w' => e = .returned (.bool r1) ∧ ∃ m, w' = (W3.drewN z).drewN m) := Lib.hid fun z => by rw [H1.out]; exact HCL.out _ _ _ _ _ _ _ _ z sa.sd sb.sd
  obtain ⟨Ax, bra, ora, cx, e, hAra, -, hmr, hcra⟩ := sa.sr
  simp only [Value.slice.injEq] at e
  obtain ⟨rfl, hn2a, rfl⟩ := e
  obtain ⟨Ay, brb, orb, cy, e, hArb, -, -, hcrb⟩ := sb.sr
  simp only [Value.slice.injEq] at e
  obtain ⟨rfl, hn2b, rfl⟩ := e
  obtain ⟨Az, bwa, owa, cz, e, hAwa, -, hmw, hcwa⟩ := sa.sw
  simp only [Value.slice.injEq] at e
  obtain ⟨rfl, hn1a, rfl⟩ := e
  obtain ⟨Au, bwb, owb, cu, e, hAwb, -, -, hcwb⟩ := sb.sw
  simp only [Value.slice.injEq] at e
  obtain ⟨rfl, hn1b, rfl⟩ := e
  rw [← hn2a] at hAra hcra hmr
  rw [← hn2b] at hArb hcrb
  rw [← hn1a] at hAwa hcwa hmw
  have hmax : maxLen = 9223372036854775807 := rfl
  rw [hmax] at hmr hmw
  rw [← hn1b] at hAwb hcwb
  have HAR := Lib.hid (And.intro (And.intro hAra hArb) (And.intro hAwa hAwb))
  have HRD : Hid (∀ k, k < n2a → n2a = n2b → ∃ A n c A' n' c', W3.cell? ⟨bra, ora + k, none⟩ = some (.slice A n c) ∧ W3.cell? ⟨brb, orb + k, none⟩ = some (.slice A' n' c') ∧ ∀ z, Calls Tryd.prog 29 #[.slice A n c, .slice A' n' c', .pointer (some ⟨w.heap.size + 2, 0, none⟩)] (W3.drewN z) fun e w' => e = .returned (.bool (relL (pq q) (a.read.getD k []) (b.read.getD k []))) ∧ ∃ m, w' = (W3.drewN z).drewN m) := Lib.hid fun k hk hnn => by
    obtain ⟨-, A, c, h1, h2⟩ := hcra k hk
    obtain ⟨-, A', c', h1', h2'⟩ := hcrb k (by omega)
    rw [Nat.mul_one] at h1 h1'
    exact ⟨A, _, c, A', _, c', h1, h1', fun z => HCL.out _ _ _ _ _ _ _ _ z h2 h2'⟩
  have HWD : Hid (∀ k, k < n1a → n1a = n1b → ∃ A n c A' n' c' b1 o1 b2 o2, W3.cell? ⟨bwa, owa + k, none⟩ = some (.slice A n c) ∧ W3.cell? ⟨bwb, owb + k, none⟩ = some (.slice A' n' c') ∧ n = (a.words.getD k []).length ∧ n' = (b.words.getD k []).length ∧ n ≤ 9223372036854775807 ∧ (0 < n → A = some ⟨b1, o1, none⟩) ∧ (0 < n' → A' = some ⟨b2, o2, none⟩) ∧ ∀ j, j < n → n = n' → ∃ Aj nj cj Aj' nj' cj', W3.cell? ⟨b1, o1 + j, none⟩ = some (.slice Aj nj cj) ∧ W3.cell? ⟨b2, o2 + j, none⟩ = some (.slice Aj' nj' cj') ∧ ∀ z, Calls Tryd.prog 29 #[.slice Aj nj cj, .slice Aj' nj' cj', .pointer (some ⟨w.heap.size + 2, 0, none⟩)] (W3.drewN z) fun e w' => e = .returned (.bool (relL (pq q) ((a.words.getD k []).getD j []) ((b.words.getD k []).getD j []))) ∧ ∃ m, w' = (W3.drewN z).drewN m) := Lib.hid fun k hk hnn => by
    obtain ⟨-, A, c, h1, h2⟩ := hcwa k hk
    obtain ⟨-, A', c', h1', h2'⟩ := hcwb k (by omega)
    rw [Nat.mul_one] at h1 h1'
    obtain ⟨A9, b1, o1, c9, e, hA1, -, hm9, hj1⟩ := h2
    simp only [Value.slice.injEq, true_and] at e
    obtain ⟨rfl, rfl⟩ := e
    obtain ⟨A8, b2, o2, c8, e, hA2, -, -, hj2⟩ := h2'
    simp only [Value.slice.injEq, true_and] at e
    obtain ⟨rfl, rfl⟩ := e
    refine ⟨A, _, c, A', _, c', b1, o1, b2, o2, h1, h1', rfl, rfl, hm9, hA1, hA2, fun j hj hne => ?_⟩
    obtain ⟨-, Aj, cj, g1, g2⟩ := hj1 j hj
    obtain ⟨-, Aj', cj', g1', g2'⟩ := hj2 j (by omega)
    rw [Nat.mul_one] at g1 g1'
    exact ⟨Aj, _, cj, Aj', _, cj', g1, g1', fun z => HCL.out _ _ _ _ _ _ _ _ z g2 g2'⟩
  have HNR := Lib.hid (And.intro hn2a hn2b)
  have HNW := Lib.hid (And.intro hn1a hn1b)
  have HFR : Hid (∀ k, k < a.read.length → a.read.length = b.read.length → relL (pq q) (a.read.getD k []) (b.read.getD k []) = false → r = false) := Lib.hid fun k hk hl h => by
    rw [HRS.out, show relW (pq q) a.read b.read = false from allEq_not [] (relL (pq q)) hk hl h, Bool.and_false]
  have HFW : Hid (∀ k, k < a.words.length → a.words.length = b.words.length → relW (pq q) (a.words.getD k []) (b.words.getD k []) = false → r = false) := Lib.hid fun k hk hl h => by
    rw [HRS.out, show relV (pq q) a.words b.words = false from allEq_not [] (relW (pq q)) hk hl h, Bool.and_false, Bool.false_and]
  have HFN : Hid (a.read.length ≠ b.read.length ∨ a.words.length ≠ b.words.length → r = false) := Lib.hid fun h => by
    rw [HRS.out]
    rcases h with h | h
    · rw [show relW (pq q) a.read b.read = false by unfold relW relX; rw [beq_eq_false_iff_ne.2 h]; rfl, Bool.and_false]
    · rw [show relV (pq q) a.words b.words = false by unfold relV relX; rw [beq_eq_false_iff_ne.2 h]; rfl, Bool.and_false, Bool.false_and]
  have HTR : Hid (r1 = true → a.read.length = b.read.length → a.words.length = b.words.length → (∀ k, k < a.read.length → relL (pq q) (a.read.getD k []) (b.read.getD k []) = true) → (∀ k, k < a.words.length → relW (pq q) (a.words.getD k []) (b.words.getD k []) = true) → r = true) := Lib.hid fun h1 h2 h3 h4 h5 => by
    rw [HRS.out, h1, show relW (pq q) a.read b.read = true from allEq_of [] _ _ _ h2 h4, show relV (pq q) a.words b.words = true from allEq_of [] _ _ _ h3 h5]; rfl
  have x0 := hfa.cell 0
  have x1 := hfa.cell 1
  have x2 := hfa.cell 2
  have y0 := hfb.cell 0
  have y1 := hfb.cell 1
  have y2 := hfb.cell 2
  have HB3 : Hid (∀ z, BelW w (W3.drewN z)) := Lib.hid fun z => below_drewN hb3 z
  clear ha hb hfa hfb hfq hb3 sa sb HCL hAra hArb hAwa hAwb hcra hcrb hcwa hcwb hn2a hn2b hn1a hn1b hB3
  rw [← HR.out]
  go_enter Tryd.func12, Tryd.ntmps12
  go_upto_region 1 with (fail)
  rw [← HW3.out]
  have HC0 := Lib.hid (HC1.out 0)
  change Hid (Calls _ _ _ W3 _) at HC0
  cases r1
  · have HRF : Hid (r = false) := Lib.hid (by rw [HRS.out]; rfl)
    go_wp2_with (go_at_call 29; (with_reducible refine HC0.out.mono ?_); rintro e w5 ⟨rfl, z1, rfl⟩)
    go_ret
    exact ⟨by rw [HRF.out]; rfl, HB3.out _⟩
  by_cases h1 : n1a = n1b
  rotate_left
  · have t1 : ((n1a : Int) != (n1b : Int)) = true := by rw [bne_iff_ne]; omega
    have HRF : Hid (r = false) := Lib.hid (HFN.out (.inr (by rw [← HNW.out.1, ← HNW.out.2]; exact h1)))
    clear h1
    go_wp2_with (go_at_call 29; (with_reducible refine HC0.out.mono ?_); rintro e w5 ⟨rfl, z1, rfl⟩)
    go_ret
    exact ⟨by rw [HRF.out]; rfl, HB3.out _⟩
  subst h1
  by_cases h2 : n2a = n2b
  rotate_left
  · have t1 : ((n2a : Int) != (n2b : Int)) = true := by rw [bne_iff_ne]; omega
    have HRF : Hid (r = false) := Lib.hid (HFN.out (.inl (by rw [← HNR.out.1, ← HNR.out.2]; exact h2)))
    clear h2
    go_wp2_with (go_at_call 29; (with_reducible refine HC0.out.mono ?_); rintro e w5 ⟨rfl, z1, rfl⟩)
    go_ret
    exact ⟨by rw [HRF.out]; rfl, HB3.out _⟩
  subst h2
  go_wp2_with (go_at_call 29; (with_reducible refine HC0.out.mono ?_); rintro e w5 ⟨rfl, z1, rfl⟩)
  go_loopw [8] (fun i wr => ∃ k : Nat, k ≤ n2a ∧ i = .int .i64 k ∧ (∀ j, j < k → relL (pq q) (a.read.getD j []) (b.read.getD j []) = true) ∧ ∃ z, wr = W3.drewN z) (fun i _ => n2a - (intOf i).toNat)
  case atStart => exact ⟨0, Nat.zero_le _, rfl, fun j hj => absurd hj (by omega), _, rfl⟩
  case round =>
    obtain ⟨k, hk, rfl, hno, z, rfl⟩ := hrel
    have HNO := Lib.hid hno
    clear hno
    by_cases hlt : k < n2a
    · obtain rfl := HAR.out.1.1 (by omega)
      obtain rfl := HAR.out.1.2 (by omega)
      obtain ⟨A, n, c, A', n', c', e1, e2, hcl⟩ := HRD.out k hlt (by trivial)
      have hk2 : (k : Int) < (n2a : Int) := by omega
      obtain ⟨s, HS⟩ := named (relL (pq q) (a.read.getD k []) (b.read.getD k []))
      rw [← HS.out] at hcl
      have HCK := Lib.hid hcl
      clear hcl
      cases s
      · have HRF : Hid (r = false) := Lib.hid (HFR.out k (by rw [← HNR.out.1]; exact hlt) (by rw [← HNR.out.1, ← HNR.out.2]) HS.out.symm)
        go_wp2
        go_quiet ((go_at_call 29; exact (HCK.out _).mono fun _ _ ⟨h1, m, h2⟩ => ⟨h1, _, h2.trans (drew3 _ _ _ _)⟩))
        go_wp2
        go_ret
        exact ⟨by rw [HRF.out]; rfl, below_drewN (HB3.out _) _⟩
      · go_wp2
        go_quiet ((go_at_call 29; exact (HCK.out _).mono fun _ _ ⟨h1, m, h2⟩ => ⟨h1, _, h2.trans (drew3 _ _ _ _)⟩))
        go_wp2
        go_roundw
        case rel =>
          refine ⟨k + 1, by omega, by go_num, fun j hj => ?_, _, rfl⟩
          by_cases hjk : j = k
          · rw [hjk]; exact HS.out.symm
          · exact HNO.out j (by omega)
        case measure => simp [intOf]; omega
    · obtain rfl : n2a = k := by omega
      have HRA := HNO
      go_wp2
      go_loopw [9] (fun i wr => ∃ k : Nat, k ≤ n1a ∧ i = .int .i64 k ∧ (∀ j, j < k → relW (pq q) (a.words.getD j []) (b.words.getD j []) = true) ∧ ∃ z, wr = W3.drewN z) (fun i _ => n1a - (intOf i).toNat)
      case atStart => exact ⟨0, Nat.zero_le _, rfl, fun j hj => absurd hj (by omega), _, rfl⟩
      case round =>
        obtain ⟨k, hk, rfl, hno, z, rfl⟩ := hrel
        have HNO := Lib.hid hno
        clear hno
        by_cases hlt : k < n1a
        · obtain rfl := HAR.out.2.1 (by omega)
          obtain rfl := HAR.out.2.2 (by omega)
          obtain ⟨A, n, c, A', n', c', b1, o1, b2, o2, e1, e2, hn, hn', hmn, hA1, hA2, hj⟩ := HWD.out k hlt (by trivial)
          have HNN := Lib.hid (And.intro hn hn')
          have HAN := Lib.hid (And.intro hA1 hA2)
          have HJ := Lib.hid hj
          clear hn hn' hA1 hA2 hj
          have hk2 : (k : Int) < (n1a : Int) := by omega
          by_cases hne : n = n'
          rotate_left
          · have t1 : ((n : Int) != (n' : Int)) = true := by rw [bne_iff_ne]; omega
            have HRF : Hid (r = false) := Lib.hid (HFW.out k (by rw [← HNW.out.1]; exact hlt) (by rw [← HNW.out.1, ← HNW.out.2]) (by unfold relW relX; rw [← HNN.out.1, ← HNN.out.2, beq_eq_false_iff_ne.2 hne]; rfl))
            clear hne
            go_wp2
            go_quiet (fail)
            go_wp2
            go_ret
            exact ⟨by rw [HRF.out]; rfl, below_drewN (HB3.out _) _⟩
          subst hne
          have t1 : ((n : Int) != (n : Int)) = false := by simp
          go_wp2
          go_quiet (fail)
          go_wp2
          go_loopw [10] (fun i wr => ∃ j : Nat, j ≤ n ∧ i = .int .i64 j ∧ (∀ t, t < j → relL (pq q) ((a.words.getD k []).getD t []) ((b.words.getD k []).getD t []) = true) ∧ ∃ z, wr = W3.drewN z) (fun i _ => n - (intOf i).toNat)
          case atStart => exact ⟨0, Nat.zero_le _, rfl, fun j hj => absurd hj (by omega), z + nq, by rw [World.drewN_drewN]⟩
          case round =>
            obtain ⟨j, hj, rfl, hnj, z, rfl⟩ := hrel
            have HNJ := Lib.hid hnj
            clear hnj
            by_cases hlj : j < n
            · obtain rfl := HAN.out.1 (by omega)
              obtain rfl := HAN.out.2 (by omega)
              obtain ⟨Aj, nj, cj, Aj', nj', cj', f1, f2, hcl⟩ := HJ.out j hlj (by trivial)
              have hj2 : (j : Int) < (n : Int) := by omega
              obtain ⟨s, HS⟩ := named (relL (pq q) ((a.words.getD k []).getD j []) ((b.words.getD k []).getD j []))
              rw [← HS.out] at hcl
              have HCK := Lib.hid hcl
              clear hcl
              cases s
              · have HRF : Hid (r = false) := Lib.hid (HFW.out k (by rw [← HNW.out.1]; exact hlt) (by rw [← HNW.out.1, ← HNW.out.2]) (allEq_not [] (relL (pq q)) (by rw [← HNN.out.1]; exact hlj) (by rw [← HNN.out.1, ← HNN.out.2]) HS.out.symm))
                go_wp2
                go_quiet ((go_at_call 29; exact (HCK.out _).mono fun _ _ ⟨h1, m, h2⟩ => ⟨h1, _, h2.trans (drew3 _ _ _ _)⟩))
                go_wp2
                go_ret
                exact ⟨by rw [HRF.out]; rfl, below_drewN (HB3.out _) _⟩
              · go_wp2
                go_quiet ((go_at_call 29; exact (HCK.out _).mono fun _ _ ⟨h1, m, h2⟩ => ⟨h1, _, h2.trans (drew3 _ _ _ _)⟩))
                go_wp2
                go_roundw
                case rel =>
                  refine ⟨j + 1, by omega, by go_num, fun t ht => ?_, _, rfl⟩
                  by_cases htj : t = j
                  · rw [htj]; exact HS.out.symm
                  · exact HNJ.out t (by omega)
                case measure => simp [intOf]; omega
            · obtain rfl : n = j := by omega
              go_wp2
              go_roundw
              case rel =>
                refine ⟨k + 1, by omega, by go_num, fun t ht => ?_, _, rfl⟩
                by_cases htk : t = k
                · rw [htk]
                  exact allEq_of [] _ _ _ (by rw [← HNN.out.1, ← HNN.out.2]) (fun t ht => HNJ.out t (by rw [HNN.out.1]; exact ht))
                · exact HNO.out t (by omega)
              case measure => simp [intOf]; omega
        · obtain rfl : n1a = k := by omega
          have HRT : Hid (r = true) := Lib.hid (HTR.out (by trivial) (by rw [← HNR.out.1, ← HNR.out.2]) (by rw [← HNW.out.1, ← HNW.out.2]) (fun t ht => HRA.out t (by rw [HNR.out.1]; exact ht)) (fun t ht => HNO.out t (by rw [HNW.out.1]; exact ht)))
          go_wp2
          go_ret
          exact ⟨by rw [HRT.out]; rfl, HB3.out _⟩
end Go.Proofs.YtcaikkfcjeojiaaDoor
