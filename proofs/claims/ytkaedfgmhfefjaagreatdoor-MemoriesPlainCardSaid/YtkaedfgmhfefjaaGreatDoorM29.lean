/- The texts Eq2. -/
import Derived.Test.YtkaedfgmhfefjaaGreatDoorM28
namespace Go.Proofs.YtkaedfgmhfefjaaGreatDoor
open Go.RowKit
def relX {α : Type} (f : List α → List α → Bool) (l l' : List (List α)) : Bool := l.length == l'.length && (l.zip l').all fun q => f q.1 q.2
def relW (p : Int → Int → Bool) (l l' : List (List Int)) : Bool := relX (relL p) l l'
def relV (p : Int → Int → Bool) (l l' : List (List (List Int))) : Bool := relX (relW p) l l'
def WwsAt (w : World) (B b p : Nat) (x : List (List Int)) : Prop := ∃ A c, w.cell? ⟨b, p, none⟩ = some (.slice A x.length c) ∧ Wrds w B (.slice A x.length c) x
def Wwss (w : World) (B : Nat) (v : Value) (l : List (List (List Int))) : Prop := Arr [] 1 WwsAt w B v l
theorem stays_wws : Stays WwsAt := fun w w' B B' b p x hb hB ⟨A, c, h1, h2⟩ hk => ⟨A, c, (hk ⟨b, p, none⟩ hb).trans h1, Arr.keep stays_wds h2 hB hk⟩
def Fits1 (fit : Value) (p : Int → Int → Bool) : Prop := ∀ (l l' : List Int) (s s' : Value) (w : World) (B B' : Nat), Ks w B s l → Ks w B' s' l' → Calls Tryz.prog 96 #[s, s', fit] w fun e w' => e = .returned (.bool (relL p l l')) ∧ w' = w
theorem lists_any (fit : Value) (p : Int → Int → Bool) (hf : Fits1 fit p) (l l' : List Int) (s s' : Value) (q : Nat) (w : World) (B B' : Nat) (h : Ks w B s l) (h' : Ks w B' s' l') (hq : w.cell? ⟨q, 0, none⟩ = some fit) :
    Calls Tryz.prog 95 #[s, s', .pointer (some ⟨q, 0, none⟩)] w fun e w' => e = .returned (.bool (relL p l l')) ∧ w' = w := by
  have HF := Lib.hid (hf l l' s s' w B B' h h')
  obtain ⟨r, HR⟩ := named (relL p l l')
  rw [← HR.out] at HF ⊢
  clear hf h h'
  go_enter Tryz.func95, Tryz.ntmps95
  go_wp2_with (go_at_call 96; (with_reducible refine HF.out.mono ?_); rintro e w1 ⟨rfl, rfl⟩)
  go_ret
  exact ⟨rfl, rfl⟩
set_option maxHeartbeats 2000000 in
theorem eqW_any (p : Int → Int → Bool) (l l' : List (List Int)) (s s' : Value) (q : Nat) (w : World) (B B' : Nat) (hB : B ≤ w.heap.size) (hB' : B' ≤ w.heap.size) (h : Wrds w B s l) (h' : Wrds w B' s' l')
    (HCL : Hid (∀ x x' A n c A' n' c' W, BelW w W → Ks W W.heap.size (.slice A n c) x → Ks W W.heap.size (.slice A' n' c') x' → Calls Tryz.prog 95 #[.slice A n c, .slice A' n' c', .pointer (some ⟨q, 0, none⟩)] W fun e w' => e = .returned (.bool (relL p x x')) ∧ BelW W w')) :
    Calls Tryz.prog 98 #[s, s', .func (.func 95) #[] #[.pointer (some ⟨q, 0, none⟩)]] w fun e w' => e = .returned (.bool (relX (relL p) l l')) ∧ BelW w w' := by
  obtain ⟨y, HY⟩ := named (relX (relL p) l l')
  rw [← HY.out]
  obtain ⟨A, b, o, c, rfl, hA, -, hm, hc⟩ := h
  obtain ⟨A', b', o', c', rfl, hA', -, hm', hc'⟩ := h'
  unfold maxLen at hm hm'
  have HC := Lib.hid hc
  have HC' := Lib.hid hc'
  have HAA := Lib.hid hA
  have HAA' := Lib.hid hA'
  have HBB := Lib.hid (And.intro hB hB')
  clear hc hc' hA hA' hB hB'
  obtain ⟨n, hn⟩ : ∃ n, n = l.length := ⟨_, rfl⟩
  obtain ⟨n', hn'⟩ : ∃ n', n' = l'.length := ⟨_, rfl⟩
  rw [← hn] at hm
  rw [← hn'] at hm'
  rw [← hn, ← hn']
  have HN := Lib.hid hn
  have HN' := Lib.hid hn'
  clear hn hn'
  by_cases hnn : n = n'
  rotate_left
  · have hv : y = false := by rw [HY.out]; unfold relX; rw [← HN.out, ← HN'.out, beq_eq_false_iff_ne.2 hnn]; rfl
    have hb : ((n : Int) != (n' : Int)) = true := by rw [bne_iff_ne]; omega
    have HV := Lib.hid hv
    clear hv hnn
    go_enter Tryz.func98, Tryz.ntmps98
    go_wp2
    go_ret
    exact ⟨ret_bool (by rw [HV.out]), Below.refl _ _⟩
  subst hnn
  go_enter Tryz.func98, Tryz.ntmps98
  go_wp2
  go_loopw [17] (fun i wr => BelW w wr ∧ ∃ k : Nat, k ≤ n ∧ i = .int .i64 k ∧ ∀ j, j < k → relL p (l.getD j []) (l'.getD j []) = true) (fun i _ => n - (intOf i).toNat)
  case atStart => exact ⟨Below.refl _ _, 0, Nat.zero_le _, rfl, fun j hj => absurd hj (by omega)⟩
  case round =>
    obtain ⟨hbr, k, hk, rfl, hno⟩ := hrel
    have HNO := Lib.hid hno
    clear hno
    by_cases hlt : k < n
    · obtain rfl := HAA.out (by rw [← HN.out]; omega)
      obtain rfl := HAA'.out (by rw [← HN'.out]; omega)
      obtain ⟨hlb, A4, c4, h0, h1⟩ := HC.out k (by rw [← HN.out]; omega)
      obtain ⟨hlb', A5, c5, h0', h1'⟩ := HC'.out k (by rw [← HN'.out]; omega)
      rw [Nat.mul_one] at h0 h0'
      have e0 := (Below.cell hbr (p := ⟨b, o + k, none⟩) (Nat.lt_of_lt_of_le hlb HBB.out.1)).trans h0
      have e0' := (Below.cell hbr (p := ⟨b', o' + k, none⟩) (Nat.lt_of_lt_of_le hlb' HBB.out.2)).trans h0'
      have k1 : Ks wr wr.heap.size (.slice A4 (l.getD k []).length c4) (l.getD k []) := Arr.keep stays_u8 h1 (Nat.le_trans HBB.out.1 (Below.size hbr)) fun _ hp => Below.cell hbr (Nat.lt_of_lt_of_le hp HBB.out.1)
      have k1' : Ks wr wr.heap.size (.slice A5 (l'.getD k []).length c5) (l'.getD k []) := Arr.keep stays_u8 h1' (Nat.le_trans HBB.out.2 (Below.size hbr)) fun _ hp => Below.cell hbr (Nat.lt_of_lt_of_le hp HBB.out.2)
      have HCALL := Lib.hid (HCL.out _ _ A4 _ c4 A5 _ c5 wr hbr k1 k1')
      clear h0 h0' h1 h1' k1 k1'
      generalize hx : l.getD k [] = x at e0 HCALL
      generalize hx' : l'.getD k [] = x' at e0' HCALL
      have HX := Lib.hid hx
      have HX' := Lib.hid hx'
      clear hx hx'
      obtain ⟨r, HR⟩ := named (relL p x x')
      rw [← HR.out] at HCALL
      generalize x.length = nx at e0 HCALL
      generalize x'.length = nx' at e0' HCALL
      have HBR := Lib.hid hbr
      clear hbr
      cases r
      · go_wp2_with (go_at_call 95; (with_reducible refine HCALL.out.mono ?_); rintro e w1 ⟨rfl, hb⟩; have HB1 : Hid (BelW wr w1) := Lib.hid hb; clear hb)
        go_ret
        exact ⟨ret_bool (by rw [HY.out]; exact (allEq_not [] (relL p) (j := k) (by rw [← HN.out]; omega) (HN.out.symm.trans HN'.out) (by rw [HX.out, HX'.out]; exact HR.out.symm)).symm), joinB HBR.out HB1.out⟩
      · go_wp2_with (go_at_call 95; (with_reducible refine HCALL.out.mono ?_); rintro e w1 ⟨rfl, hb⟩; have HB1 : Hid (BelW wr w1) := Lib.hid hb; clear hb)
        go_roundw
        case rel =>
          refine ⟨joinB HBR.out HB1.out, k + 1, by omega, by go_num, fun j hj => ?_⟩
          by_cases hjk : j = k
          · rw [hjk, HX.out, HX'.out]; exact HR.out.symm
          · exact HNO.out j (by omega)
        case measure => simp [intOf]; omega
    · go_wp2
      go_ret
      exact ⟨ret_bool (by rw [HY.out]; exact (allEq_of [] (relL p) l l' (HN.out.symm.trans HN'.out) (fun j hj => HNO.out j (by rw [← HN.out] at hj; omega))).symm), hbr⟩
theorem words_any (fit : Value) (p : Int → Int → Bool) (hf : Fits1 fit p) (l l' : List (List Int)) (s s' : Value) (q qf : Nat) (w : World) (B B' : Nat) (hB : B ≤ w.heap.size) (hB' : B' ≤ w.heap.size) (h : Wrds w B s l) (h' : Wrds w B' s' l') (hq : w.cell? ⟨q, 0, none⟩ = some (.func (.func 95) #[] #[.pointer (some ⟨qf, 0, none⟩)])) (hqf : w.cell? ⟨qf, 0, none⟩ = some fit) :
    Calls Tryz.prog 97 #[s, s', .pointer (some ⟨q, 0, none⟩)] w fun e w' => e = .returned (.bool (relW p l l')) ∧ BelW w w' := by
  have HF := Lib.hid (eqW_any p l l' s s' qf w B B' hB hB' h h' (Lib.hid fun x x' A n c A' n' c' W hb k k' => (lists_any fit p hf x x' _ _ qf W _ _ k k' ((Below.cell hb (p := ⟨qf, 0, none⟩) (cell_lt hqf)).trans hqf)).mono fun e w' h => ⟨h.1, by rw [h.2]; exact Below.refl _ _⟩))
  change Hid (Calls _ _ _ _ fun e w' => e = .returned (.bool (relW p l l')) ∧ BelW w w') at HF
  obtain ⟨r, HR⟩ := named (relW p l l')
  rw [← HR.out] at HF ⊢
  clear hf h h'
  go_enter Tryz.func97, Tryz.ntmps97
  go_wp2_with (go_at_call 98; (with_reducible refine HF.out.mono ?_); rintro e w1 ⟨rfl, hb⟩; have HB : Hid (BelW w w1) := Lib.hid hb; clear hb)
  go_ret
  exact ⟨rfl, HB.out⟩
set_option maxHeartbeats 2000000 in
theorem eqV_any (p : Int → Int → Bool) (l l' : List (List (List Int))) (s s' : Value) (q : Nat) (w : World) (B B' : Nat) (hB : B ≤ w.heap.size) (hB' : B' ≤ w.heap.size) (h : Wwss w B s l) (h' : Wwss w B' s' l')
    (HCL : Hid (∀ x x' A n c A' n' c' W, BelW w W → Wrds W W.heap.size (.slice A n c) x → Wrds W W.heap.size (.slice A' n' c') x' → Calls Tryz.prog 97 #[.slice A n c, .slice A' n' c', .pointer (some ⟨q, 0, none⟩)] W fun e w' => e = .returned (.bool (relW p x x')) ∧ BelW W w')) :
    Calls Tryz.prog 99 #[s, s', .func (.func 97) #[] #[.pointer (some ⟨q, 0, none⟩)]] w fun e w' => e = .returned (.bool (relX (relW p) l l')) ∧ BelW w w' := by
  obtain ⟨y, HY⟩ := named (relX (relW p) l l')
  rw [← HY.out]
  obtain ⟨A, b, o, c, rfl, hA, -, hm, hc⟩ := h
  obtain ⟨A', b', o', c', rfl, hA', -, hm', hc'⟩ := h'
  unfold maxLen at hm hm'
  have HC := Lib.hid hc
  have HC' := Lib.hid hc'
  have HAA := Lib.hid hA
  have HAA' := Lib.hid hA'
  have HBB := Lib.hid (And.intro hB hB')
  clear hc hc' hA hA' hB hB'
  obtain ⟨n, hn⟩ : ∃ n, n = l.length := ⟨_, rfl⟩
  obtain ⟨n', hn'⟩ : ∃ n', n' = l'.length := ⟨_, rfl⟩
  rw [← hn] at hm
  rw [← hn'] at hm'
  rw [← hn, ← hn']
  have HN := Lib.hid hn
  have HN' := Lib.hid hn'
  clear hn hn'
  by_cases hnn : n = n'
  rotate_left
  · have hv : y = false := by rw [HY.out]; unfold relX; rw [← HN.out, ← HN'.out, beq_eq_false_iff_ne.2 hnn]; rfl
    have hb : ((n : Int) != (n' : Int)) = true := by rw [bne_iff_ne]; omega
    have HV := Lib.hid hv
    clear hv hnn
    go_enter Tryz.func99, Tryz.ntmps99
    go_wp2
    go_ret
    exact ⟨ret_bool (by rw [HV.out]), Below.refl _ _⟩
  subst hnn
  go_enter Tryz.func99, Tryz.ntmps99
  go_wp2
  go_loopw [17] (fun i wr => BelW w wr ∧ ∃ k : Nat, k ≤ n ∧ i = .int .i64 k ∧ ∀ j, j < k → relW p (l.getD j []) (l'.getD j []) = true) (fun i _ => n - (intOf i).toNat)
  case atStart => exact ⟨Below.refl _ _, 0, Nat.zero_le _, rfl, fun j hj => absurd hj (by omega)⟩
  case round =>
    obtain ⟨hbr, k, hk, rfl, hno⟩ := hrel
    have HNO := Lib.hid hno
    clear hno
    by_cases hlt : k < n
    · obtain rfl := HAA.out (by rw [← HN.out]; omega)
      obtain rfl := HAA'.out (by rw [← HN'.out]; omega)
      obtain ⟨hlb, A4, c4, h0, h1⟩ := HC.out k (by rw [← HN.out]; omega)
      obtain ⟨hlb', A5, c5, h0', h1'⟩ := HC'.out k (by rw [← HN'.out]; omega)
      rw [Nat.mul_one] at h0 h0'
      have e0 := (Below.cell hbr (p := ⟨b, o + k, none⟩) (Nat.lt_of_lt_of_le hlb HBB.out.1)).trans h0
      have e0' := (Below.cell hbr (p := ⟨b', o' + k, none⟩) (Nat.lt_of_lt_of_le hlb' HBB.out.2)).trans h0'
      have k1 : Wrds wr wr.heap.size (.slice A4 (l.getD k []).length c4) (l.getD k []) := Arr.keep stays_wds h1 (Nat.le_trans HBB.out.1 (Below.size hbr)) fun _ hp => Below.cell hbr (Nat.lt_of_lt_of_le hp HBB.out.1)
      have k1' : Wrds wr wr.heap.size (.slice A5 (l'.getD k []).length c5) (l'.getD k []) := Arr.keep stays_wds h1' (Nat.le_trans HBB.out.2 (Below.size hbr)) fun _ hp => Below.cell hbr (Nat.lt_of_lt_of_le hp HBB.out.2)
      have HCALL := Lib.hid (HCL.out _ _ A4 _ c4 A5 _ c5 wr hbr k1 k1')
      clear h0 h0' h1 h1' k1 k1'
      generalize hx : l.getD k [] = x at e0 HCALL
      generalize hx' : l'.getD k [] = x' at e0' HCALL
      have HX := Lib.hid hx
      have HX' := Lib.hid hx'
      clear hx hx'
      obtain ⟨r, HR⟩ := named (relW p x x')
      rw [← HR.out] at HCALL
      generalize x.length = nx at e0 HCALL
      generalize x'.length = nx' at e0' HCALL
      have HBR := Lib.hid hbr
      clear hbr
      cases r
      · go_wp2_with (go_at_call 97; (with_reducible refine HCALL.out.mono ?_); rintro e w1 ⟨rfl, hb⟩; have HB1 : Hid (BelW wr w1) := Lib.hid hb; clear hb)
        go_ret
        exact ⟨ret_bool (by rw [HY.out]; exact (allEq_not [] (relW p) (j := k) (by rw [← HN.out]; omega) (HN.out.symm.trans HN'.out) (by rw [HX.out, HX'.out]; exact HR.out.symm)).symm), joinB HBR.out HB1.out⟩
      · go_wp2_with (go_at_call 97; (with_reducible refine HCALL.out.mono ?_); rintro e w1 ⟨rfl, hb⟩; have HB1 : Hid (BelW wr w1) := Lib.hid hb; clear hb)
        go_roundw
        case rel =>
          refine ⟨joinB HBR.out HB1.out, k + 1, by omega, by go_num, fun j hj => ?_⟩
          by_cases hjk : j = k
          · rw [hjk, HX.out, HX'.out]; exact HR.out.symm
          · exact HNO.out j (by omega)
        case measure => simp [intOf]; omega
    · go_wp2
      go_ret
      exact ⟨ret_bool (by rw [HY.out]; exact (allEq_of [] (relW p) l l' (HN.out.symm.trans HN'.out) (fun j hj => HNO.out j (by rw [← HN.out] at hj; omega))).symm), hbr⟩
end Go.Proofs.YtkaedfgmhfefjaaGreatDoor
