/- The texts Ag9. -/
import Derived.Test.YtcaikkfcjeojiaaDoorM20
import Derived.Laws.EntriesVeiled
namespace Go.Proofs.YtcaikkfcjeojiaaDoor
open Go.RowKit

/-- A state of a circuit with memories. -/
structure Stt where
  dff : List Int
  words : List (List (List Int))
  read : List (List Int)
/-- Three slice values read as the parts of a state. -/
structure StR (w : World) (B : Nat) (A0 A1 A2 : Option Addr) (n0 n1 n2 c0 c1 c2 : Nat) (s : Stt) : Prop where
  sd : Ks w B (.slice A0 n0 c0) s.dff
  sw : Wwss w B (.slice A1 n1 c1) s.words
  sr : Wrds w B (.slice A2 n2 c2) s.read
theorem StR.keep {w w' : World} {B B' : Nat} {A0 A1 A2 : Option Addr} {n0 n1 n2 c0 c1 c2 : Nat} {s : Stt} (h : StR w B A0 A1 A2 n0 n1 n2 c0 c1 c2 s) (hB : B ≤ w.heap.size) (hb : BelW w w') (hB' : B ≤ B') : StR w' B' A0 A1 A2 n0 n1 n2 c0 c1 c2 s :=
  ⟨Arr.keep stays_u8 h.sd hB' fun _ hp => Below.cell hb (Nat.lt_of_lt_of_le hp hB), Arr.keep stays_wws h.sw hB' fun _ hp => Below.cell hb (Nat.lt_of_lt_of_le hp hB), Arr.keep stays_wds h.sr hB' fun _ hp => Below.cell hb (Nat.lt_of_lt_of_le hp hB)⟩
def relS (p : Int → Int → Bool) (a b : Stt) : Bool := relL p a.dff b.dff && relV p a.words b.words && relW p a.read b.read
theorem relL_refl (p : Int → Int → Bool) (h : ∀ x, p x x = true) (l : List Int) : relL p l l = true := allEq_of 0 p l l rfl fun _ _ => h _
theorem relW_refl (p : Int → Int → Bool) (h : ∀ x, p x x = true) (l : List (List Int)) : relW p l l = true := allEq_of [] (relL p) l l rfl fun _ _ => relL_refl p h _
theorem relV_refl (p : Int → Int → Bool) (h : ∀ x, p x x = true) (l : List (List (List Int))) : relV p l l = true := allEq_of [] (relW p) l l rfl fun _ _ => relW_refl p h _
theorem relS_refl (p : Int → Int → Bool) (h : ∀ x, p x x = true) (a : Stt) : relS p a a = true := by unfold relS; rw [relL_refl p h, relW_refl p h, relV_refl p h]; rfl
set_option maxRecDepth 100000 in
set_option maxHeartbeats 4000000 in
theorem agree_any (fn : Nat) (p : Int → Int → Bool) (hf : Fits1 (.func (.func fn) #[] #[]) p) (a b : Stt) (A0a A1a A2a A0b A1b A2b : Option Addr) (n0a n1a n2a c0a c1a c2a n0b n1b n2b c0b c1b c2b : Nat) (w : World) (B : Nat) (hB : B ≤ w.heap.size) (ha : StR w B A0a A1a A2a n0a n1a n2a c0a c1a c2a a) (hb : StR w B A0b A1b A2b n0b n1b n2b c0b c1b c2b b) :
    Calls Tryd.prog 27 #[.agg #[.slice A0a n0a c0a, .slice A1a n1a c1a, .slice A2a n2a c2a], .agg #[.slice A0b n0b c0b, .slice A1b n1b c1b, .slice A2b n2b c2b], .func (.func fn) #[] #[]] w fun e w' => e = .returned (.bool (relS p a b)) ∧ BelW w w' := by
  obtain ⟨W4, HW4⟩ := named ((((w.alloc (.cells #[.slice A0a n0a c0a, .slice A1a n1a c1a, .slice A2a n2a c2a] 36)).alloc (.cells #[.slice A0b n0b c0b, .slice A1b n1b c1b, .slice A2b n2b c2b] 36)).alloc (.cells #[.func (.func fn) #[] #[]] 54)).alloc (.cells #[.func (.func 37) #[] #[.pointer (some ⟨w.heap.size + 2, 0, none⟩)]] 55))
  have hb4 : BelW w W4 := by rw [HW4.out]; exact below_new (below_new (below_new (below_new (Below.refl _ _) _) _) _) _
  have hfa : Fr W4 w.heap.size 36 [.slice A0a n0a c0a, .slice A1a n1a c1a, .slice A2a n2a c2a] := by rw [HW4.out]; exact Fr.alloc (Fr.alloc (Fr.alloc (Fr.made _ [.slice A0a n0a c0a, .slice A1a n1a c1a, .slice A2a n2a c2a] _ rfl) _) _) _
  have hfb : Fr W4 (w.heap.size + 1) 36 [.slice A0b n0b c0b, .slice A1b n1b c1b, .slice A2b n2b c2b] := by rw [HW4.out]; exact Fr.alloc (Fr.alloc (Fr.made _ [.slice A0b n0b c0b, .slice A1b n1b c1b, .slice A2b n2b c2b] _ (by simp)) _) _
  have hff : Fr W4 (w.heap.size + 2) 54 [.func (.func fn) #[] #[]] := by rw [HW4.out]; exact Fr.alloc (Fr.made _ [.func (.func fn) #[] #[]] _ (by simp)) _
  have hfl : Fr W4 (w.heap.size + 3) 55 [.func (.func 37) #[] #[.pointer (some ⟨w.heap.size + 2, 0, none⟩)]] := by rw [HW4.out]; exact Fr.made _ [.func (.func 37) #[] #[.pointer (some ⟨w.heap.size + 2, 0, none⟩)]] _ (by simp)
  have HSA := Lib.hid (fun W (h : BelW W4 W) => ha.keep hB (joinB hb4 h) (Nat.le_trans hB (Below.size (joinB hb4 h))))
  have HSB := Lib.hid (fun W (h : BelW W4 W) => hb.keep hB (joinB hb4 h) (Nat.le_trans hB (Below.size (joinB hb4 h))))
  obtain ⟨r1, H1⟩ := named (relL p a.dff b.dff)
  obtain ⟨r2, H2⟩ := named (relV p a.words b.words)
  obtain ⟨r3, H3⟩ := named (relW p a.read b.read)
  have HRS : Hid (relS p a b = (r1 && r2 && r3)) := Lib.hid (by rw [H1.out, H2.out, H3.out]; rfl)
  have HC1 : Hid (∀ W, BelW W4 W → Calls Tryd.prog 37 #[.slice A0a n0a c0a, .slice A0b n0b c0b, .pointer (some ⟨w.heap.size + 2, 0, none⟩)] W fun e w' => e = .returned (.bool r1) ∧ w' = W) := Lib.hid fun W h => by
    rw [H1.out]
    exact lists_any _ p hf a.dff b.dff _ _ _ W _ _ (HSA.out W h).sd (HSB.out W h).sd ((hff.below h).cell 0)
  have HC3 : Hid (∀ W, BelW W4 W → Calls Tryd.prog 39 #[.slice A2a n2a c2a, .slice A2b n2b c2b, .pointer (some ⟨w.heap.size + 3, 0, none⟩)] W fun e w' => e = .returned (.bool r3) ∧ BelW W w') := Lib.hid fun W h => by
    rw [H3.out]
    exact words_any _ p hf a.read b.read _ _ _ _ W W.heap.size W.heap.size (Nat.le_refl _) (Nat.le_refl _) (HSA.out W h).sr (HSB.out W h).sr ((hfl.below h).cell 0) ((hff.below h).cell 0)
  have HC2 : Hid (∀ W, BelW W4 W → Calls Tryd.prog 41 #[.slice A1a n1a c1a, .slice A1b n1b c1b, .func (.func 39) #[] #[.pointer (some ⟨w.heap.size + 3, 0, none⟩)]] W fun e w' => e = .returned (.bool r2) ∧ BelW W w') := Lib.hid fun W h => by
    rw [H2.out]
    exact eqV_any p a.words b.words _ _ _ W W.heap.size W.heap.size (Nat.le_refl _) (Nat.le_refl _) (HSA.out W h).sw (HSB.out W h).sw (Lib.hid fun x x' A n c A' n' c' W' hb' k k' => words_any _ p hf x x' _ _ _ _ W' W'.heap.size W'.heap.size (Nat.le_refl _) (Nat.le_refl _) k k' ((hfl.below (joinB h hb')).cell 0) ((hff.below (joinB h hb')).cell 0))
  have x0 := hfa.cell 0
  have x1 := hfa.cell 1
  have x2 := hfa.cell 2
  have y0 := hfb.cell 0
  have y1 := hfb.cell 1
  have y2 := hfb.cell 2
  have z0 := hfl.cell 0
  have HCE : Hid (∀ W, BelW W4 W → W.cell? ⟨w.heap.size, 2, none⟩ = some (.slice A2a n2a c2a) ∧ W.cell? ⟨w.heap.size + 1, 2, none⟩ = some (.slice A2b n2b c2b)) := Lib.hid fun W h => ⟨(hfa.below h).cell 2, (hfb.below h).cell 2⟩
  have HB4 := Lib.hid hb4
  have h40 : BelW W4 W4 := Below.refl _ _
  clear hf ha hb hfa hfb hff hfl hb4 HSA HSB
  rw [HRS.out]
  go_enter Tryd.func27, Tryd.ntmps27
  go_upto_region 3 with (fail)
  rw [← HW4.out]
  cases r1
  · go_wp2_with (go_at_call 37; (with_reducible refine (HC1.out _ h40).mono ?_); rintro e w5 ⟨rfl, hw5⟩; obtain rfl : W4 = w5 := hw5.symm)
    go_ret
    exact ⟨rfl, HB4.out⟩
  · cases r2
    · go_wp2_with (first
        | (go_at_call 37; (with_reducible refine (HC1.out _ h40).mono ?_); rintro e w5 ⟨rfl, hw5⟩; obtain rfl : W4 = w5 := hw5.symm)
        | (go_at_call 41; (with_reducible refine (HC2.out _ h40).mono ?_); rintro e w6 ⟨rfl, hb6⟩; have HB6 : Hid (BelW W4 w6) := Lib.hid hb6; clear hb6))
      go_ret
      exact ⟨rfl, joinB HB4.out HB6.out⟩
    · go_wp2_with (first
        | (go_at_call 37; (with_reducible refine (HC1.out _ h40).mono ?_); rintro e w5 ⟨rfl, hw5⟩; obtain rfl : W4 = w5 := hw5.symm)
        | (go_at_call 41; (with_reducible refine (HC2.out _ h40).mono ?_); rintro e w6 ⟨rfl, hb6⟩; have HB6 : Hid (BelW W4 w6) := Lib.hid hb6; obtain ⟨u1, u2⟩ := HCE.out w6 hb6; clear hb6)
        | (go_at_call 39; (with_reducible refine (HC3.out _ HB6.out).mono ?_); rintro e w7 ⟨rfl, hb7⟩; have HB7 : Hid (BelW w6 w7) := Lib.hid hb7; clear hb7))
      go_ret
      exact ⟨by first | rfl | (cases r3 <;> rfl), joinB HB4.out (joinB HB6.out HB7.out)⟩

/-- The program's Below of two states. -/
theorem mbelow_any (a b : Stt) (A0a A1a A2a A0b A1b A2b : Option Addr) (n0a n1a n2a c0a c1a c2a n0b n1b n2b c0b c1b c2b : Nat) (w : World) (B : Nat) (hB : B ≤ w.heap.size) (ha : StR w B A0a A1a A2a n0a n1a n2a c0a c1a c2a a) (hb : StR w B A0b A1b A2b n0b n1b n2b c0b c1b c2b b) :
    Calls Tryd.prog 11 #[.agg #[.slice A0a n0a c0a, .slice A1a n1a c1a, .slice A2a n2a c2a], .agg #[.slice A0b n0b c0b, .slice A1b n1b c1b, .slice A2b n2b c2b]] w fun e w' => e = .returned (.bool (relS blw a b)) ∧ BelW w w' := by
  have hb2 : BelW w ((w.alloc (.cells #[.slice A0a n0a c0a, .slice A1a n1a c1a, .slice A2a n2a c2a] 36)).alloc (.cells #[.slice A0b n0b c0b, .slice A1b n1b c1b, .slice A2b n2b c2b] 36)) := below_new (below_new (Below.refl _ _) _) _
  have HC := Lib.hid (agree_any 28 blw (fun l l' s s' w B B' h h' => meqB_any l l' s s' w B B' h h') a b A0a A1a A2a A0b A1b A2b n0a n1a n2a c0a c1a c2a n0b n1b n2b c0b c1b c2b _ B (Nat.le_trans hB (Below.size hb2)) (ha.keep hB hb2 (Nat.le_refl _)) (hb.keep hB hb2 (Nat.le_refl _)))
  have HB2 := Lib.hid hb2
  obtain ⟨r, HR⟩ := named (relS blw a b)
  rw [← HR.out] at HC ⊢
  clear ha hb hb2
  go_enter Tryd.func11, Tryd.ntmps11
  go_wp2_with (go_at_call 27; (with_reducible refine HC.out.mono ?_); rintro e w5 ⟨rfl, hb⟩; have HB : Hid (BelW w w5) := Lib.hid (joinB HB2.out hb); clear hb)
  go_ret
  exact ⟨rfl, HB.out⟩

/-- The program's Same of two states. -/
theorem msame_any (a b : Stt) (A0a A1a A2a A0b A1b A2b : Option Addr) (n0a n1a n2a c0a c1a c2a n0b n1b n2b c0b c1b c2b : Nat) (w : World) (B : Nat) (hB : B ≤ w.heap.size) (ha : StR w B A0a A1a A2a n0a n1a n2a c0a c1a c2a a) (hb : StR w B A0b A1b A2b n0b n1b n2b c0b c1b c2b b) :
    Calls Tryd.prog 13 #[.agg #[.slice A0a n0a c0a, .slice A1a n1a c1a, .slice A2a n2a c2a], .agg #[.slice A0b n0b c0b, .slice A1b n1b c1b, .slice A2b n2b c2b]] w fun e w' => e = .returned (.bool (relS eqI a b)) ∧ BelW w w' := by
  have hb2 : BelW w ((w.alloc (.cells #[.slice A0a n0a c0a, .slice A1a n1a c1a, .slice A2a n2a c2a] 36)).alloc (.cells #[.slice A0b n0b c0b, .slice A1b n1b c1b, .slice A2b n2b c2b] 36)) := below_new (below_new (Below.refl _ _) _) _
  have HC := Lib.hid (agree_any 30 eqI (fun l l' s s' w B B' h h' => meqS_any l l' s s' w B B' h h') a b A0a A1a A2a A0b A1b A2b n0a n1a n2a c0a c1a c2a n0b n1b n2b c0b c1b c2b _ B (Nat.le_trans hB (Below.size hb2)) (ha.keep hB hb2 (Nat.le_refl _)) (hb.keep hB hb2 (Nat.le_refl _)))
  have HB2 := Lib.hid hb2
  obtain ⟨r, HR⟩ := named (relS eqI a b)
  rw [← HR.out] at HC ⊢
  clear ha hb hb2
  go_enter Tryd.func13, Tryd.ntmps13
  go_wp2_with (go_at_call 27; (with_reducible refine HC.out.mono ?_); rintro e w5 ⟨rfl, hb⟩; have HB : Hid (BelW w w5) := Lib.hid (joinB HB2.out hb); clear hb)
  go_ret
  exact ⟨rfl, HB.out⟩
end Go.Proofs.YtcaikkfcjeojiaaDoor
