/- The texts Wft. -/
import Derived.Test.YtemogllidmgbfaaGreatDoorM24
import Derived.Test.YtemogllidmgbfaaGreatDoorM15
namespace Go.Proofs.YtemogllidmgbfaaGreatDoor
open Go.RowKit

theorem abf_any (v : Int) (w : World) : Calls Tryz.prog 100 #[.int .u8 v] w fun e w' => e = .returned (.bool (abv v)) ∧ w = w' := by
  by_cases h : 3 < v
  · have hv : abv v = true := decide_eq_true h
    rw [hv]
    go_enter Tryz.func100, Tryz.ntmps100
    go_wp2
    go_ret
    exact ⟨ret_bool (by simp), rfl⟩
  · have hv : abv v = false := decide_eq_false h
    rw [hv]
    go_enter Tryz.func100, Tryz.ntmps100
    go_wp2
    go_ret
    exact ⟨ret_bool (by simp), rfl⟩
set_option maxHeartbeats 1000000 in
theorem indexF_any (l : List Int) (s : Value) (w : World) (B : Nat) (hs : Ks w B s l) :
    Calls Tryz.prog 107 #[s, .func (.func 100) #[] #[]] w (IdxP (anyP abv l) w) := by
  obtain ⟨A, b, o, c, rfl, hA, -, hm, hc⟩ := hs.opens
  unfold maxLen at hm
  have HC := Lib.hid hc
  have HAA := Lib.hid hA
  clear hc hA hs
  obtain ⟨n, hn⟩ : ∃ n, n = l.length := ⟨_, rfl⟩
  rw [← hn] at hm
  rw [← hn]
  have HN := Lib.hid hn
  have HAB := Lib.hid abf_any
  clear hn
  go_enter Tryz.func107, Tryz.ntmps107
  go_wp2
  go_loopw [8] (fun i wr => wr = w ∧ ∃ k : Nat, k ≤ n ∧ i = .int .i64 k ∧ ∀ j, j < k → abv (l.getD j 0) = false) (fun i _ => n - (intOf i).toNat)
  case atStart => exact ⟨rfl, 0, Nat.zero_le _, rfl, fun j hj => absurd hj (by omega)⟩
  case round =>
    obtain ⟨rfl, k, hk, rfl, hno⟩ := hrel
    have HNO := Lib.hid hno
    clear hno
    by_cases hlt : k < n
    · obtain rfl := HAA.out (by rw [← HN.out]; omega)
      have hcell := (HC.out k (by rw [← HN.out]; omega)).2
      obtain ⟨y, HX⟩ := named (l.getD k 0)
      rw [← HX.out] at hcell
      have HA1 := Lib.hid (fun w => HAB.out y w)
      cases hv : abv y
      · have HV := Lib.hid hv
        rw [hv] at HA1
        go_wp2_with (go_at_call 100; (with_reducible refine (HA1.out _).mono ?_); rintro e w' ⟨rfl, rfl⟩)
        go_roundw
        case rel =>
          refine ⟨by trivial, k + 1, by omega, by go_num, fun j hj => ?_⟩
          by_cases hjk : j = k
          · rw [hjk, ← HX.out]; exact HV.out
          · exact HNO.out j (by omega)
        case measure => simp [intOf]; omega
      · have HV := Lib.hid hv
        rw [hv] at HA1
        go_wp2_with (go_at_call 100; (with_reducible refine (HA1.out _).mono ?_); rintro e w' ⟨rfl, rfl⟩)
        go_ret
        exact ⟨k, rfl, ⟨fun _ => anyP_yes k (by rw [← HN.out]; omega) (by rw [← HX.out]; exact HV.out), fun _ => by omega⟩, rfl⟩
    · go_wp2
      go_ret
      exact ⟨-1, rfl, ⟨fun h => absurd h (by omega), fun h => by rw [anyP_no (fun j hj => HNO.out j (by rw [← HN.out] at hj; omega))] at h; cases h⟩, rfl⟩
set_option maxHeartbeats 400000 in
theorem containsF_any (l : List Int) (s : Value) (w : World) (B : Nat) (hs : Ks w B s l) :
    Calls Tryz.prog 92 #[s, .func (.func 100) #[] #[]] w fun e w' => e = .returned (.bool (anyP abv l)) ∧ w = w' := by
  obtain ⟨y, HY⟩ := named (anyP abv l)
  rw [← HY.out]
  have HI := Lib.hid (indexF_any l s w B hs)
  clear hs
  rw [← HY.out] at HI
  go_enter Tryz.func92, Tryz.ntmps92
  go_wp2_with (go_at_call 107; (with_reducible refine HI.out.mono ?_); rintro e w' ⟨i, rfl, hi, rfl⟩; have HI2 := Lib.hid hi; clear hi)
  go_ret
  exact ⟨ret_bool (Bool.eq_iff_iff.2 (by simpa using HI2.out)), rfl⟩

/-- Values fit m others. -/
def fitB (l : List Int) (n m : Nat) : Bool := decide (n = m) && !anyP abv l
theorem fit_any (l : List Int) (A A2 : Option Addr) (n cl m c2 : Nat) (w : World) (B : Nat) (hs : Ks w B (.slice A n cl) l) :
    Calls Tryz.prog 81 #[.slice A n cl, .slice A2 m c2] w fun e w' => e = .returned (.bool (fitB l n m)) ∧ w = w' := by
  have HI := Lib.hid (containsF_any l _ w B hs)
  clear hs
  by_cases hnm : n = m
  · have he : fitB l n m = !anyP abv l := by unfold fitB; rw [decide_eq_true hnm, Bool.true_and]
    rw [he]
    subst hnm
    cases hv : anyP abv l
    all_goals
      rw [hv] at HI
      go_enter Tryz.func81, Tryz.ntmps81
      go_wp2_with (go_at_call 92; (with_reducible refine HI.out.mono ?_); rintro e w' ⟨rfl, rfl⟩)
      go_ret
      exact ⟨rfl, rfl⟩
  · have he : fitB l n m = false := by unfold fitB; rw [decide_eq_false hnm, Bool.false_and]
    rw [he]
    clear he
    go_enter Tryz.func81, Tryz.ntmps81
    go_wp2
    go_ret
    exact ⟨rfl, rfl⟩
/-- The pattern does not fit mi inputs and ms states. -/
def misB (x : List Int × List Int) (mi ms : Nat) : Bool := !fitB x.1 x.1.length mi || !fitB x.2 x.2.length ms
set_option maxRecDepth 100000 in
set_option maxHeartbeats 4000000 in
theorem misfit_any (x : List Int × List Int) (Ai As Bi Bs : Option Addr) (ci cs di ds mi ms q : Nat) (w : World) (B : Nat) (hB : B ≤ w.heap.size) (h1 : Ks w B (.slice Ai x.1.length ci) x.1) (h2 : Ks w B (.slice As x.2.length cs) x.2)
    (hq0 : w.cell? ⟨q, 0, none⟩ = some (.slice Bi mi di)) (hq1 : w.cell? ⟨q, 1, none⟩ = some (.slice Bs ms ds)) :
    Calls Tryz.prog 80 #[.agg #[.slice Ai x.1.length ci, .slice As x.2.length cs], .pointer (some ⟨q, 0, none⟩)] w fun e w' => e = .returned (.bool (misB x mi ms)) ∧ BelW w w' := by
  have hk : ∀ {W}, BelW w W → ∀ {v l}, Ks w B v l → Ks W B v l := fun {W} h {v l} hh => Arr.keep stays_u8 hh (Nat.le_refl _) fun _ hp => Below.cell h (Nat.lt_of_lt_of_le hp hB)
  have hF1 : ∀ W, BelW w W → Calls Tryz.prog 81 #[.slice Ai x.1.length ci, .slice Bi mi di] W fun e w' => e = .returned (.bool (fitB x.1 x.1.length mi)) ∧ W = w' := fun W h => fit_any x.1 Ai Bi _ ci mi di W B (hk h h1)
  have hF2 : ∀ W, BelW w W → Calls Tryz.prog 81 #[.slice As x.2.length cs, .slice Bs ms ds] W fun e w' => e = .returned (.bool (fitB x.2 x.2.length ms)) ∧ W = w' := fun W h => fit_any x.2 As Bs _ cs ms ds W B (hk h h2)
  obtain ⟨y, HY⟩ := named (misB x mi ms)
  have HYE : Hid (y = (!fitB x.1 x.1.length mi || !fitB x.2 x.2.length ms)) := Lib.hid HY.out
  rw [← HY.out]
  obtain ⟨ni, HNI⟩ := named x.1.length
  obtain ⟨ns, HNS⟩ := named x.2.length
  rw [← HNI.out] at hF1 HYE
  rw [← HNS.out] at hF2 HYE
  rw [← HNI.out, ← HNS.out]
  obtain ⟨W1, HW1⟩ := named (w.alloc (.cells #[.slice Ai ni ci, .slice As ns cs] 50))
  have hb1 : BelW w W1 := by rw [HW1.out]; exact below_new (Below.refl _ _) _
  have hfp : Fr W1 w.heap.size 50 [.slice Ai ni ci, .slice As ns cs] := by rw [HW1.out]; exact Fr.made _ _ _ rfl
  have f0 : W1.cell? ⟨q, 0, none⟩ = some (.slice Bi mi di) := (Below.cell hb1 (p := ⟨q, 0, none⟩) (cell_lt hq0)).trans hq0
  have f1 : W1.cell? ⟨q, 1, none⟩ = some (.slice Bs ms ds) := (Below.cell hb1 (p := ⟨q, 1, none⟩) (cell_lt hq1)).trans hq1
  obtain ⟨r, HR⟩ := named w.heap.size
  rw [← HR.out] at hfp
  have f2 := hfp.cell 0
  have f3 := hfp.cell 1
  have HF1 := Lib.hid (hF1 W1 hb1)
  have HF2 := Lib.hid (hF2 W1 hb1)
  have HB1 := Lib.hid hb1
  obtain ⟨p1, HP1⟩ := named (fitB x.1 ni mi)
  obtain ⟨p2, HP2⟩ := named (fitB x.2 ns ms)
  rw [← HP1.out] at HF1 HYE
  rw [← HP2.out] at HF2 HYE
  clear hb1 hfp hF1 hF2 hk h1 h2 hq0 hq1 HY HP1 HP2
  cases p1
  · have hy : y = true := HYE.out
    rw [hy]
    clear hy HYE
    go_enter Tryz.func80, Tryz.ntmps80
    go_upto_region 1 with (fail)
    rw [← HW1.out, ← HR.out]
    go_wp2_with (go_at_call 81; (with_reducible refine HF1.out.mono ?_); rintro e w' ⟨rfl, rfl⟩)
    go_ret
    exact ⟨rfl, HB1.out⟩
  · have hy : y = !p2 := HYE.out
    rw [hy]
    clear hy HYE
    cases p2
    all_goals
      go_enter Tryz.func80, Tryz.ntmps80
      go_upto_region 1 with (fail)
      rw [← HW1.out, ← HR.out]
      go_wp2_with (first
        | (go_at_call 81; (with_reducible refine HF1.out.mono ?_); rintro e w' ⟨rfl, rfl⟩)
        | (go_at_call 81; (with_reducible refine HF2.out.mono ?_); rintro e w' ⟨rfl, rfl⟩))
      go_ret
      exact ⟨rfl, HB1.out⟩
/-- The place of the first pattern that does not fit, or -1. -/
def FirstBad (ps : List (List Int × List Int)) (n mi ms : Nat) (i : Int) : Prop :=
  (i = -1 ∧ ∀ k, k < n → misB (ps.getD k ([], [])) mi ms = false) ∨ (∃ k : Nat, k < n ∧ i = (k : Int) ∧ misB (ps.getD k ([], [])) mi ms = true ∧ ∀ j, j < k → misB (ps.getD j ([], [])) mi ms = false)
set_option maxRecDepth 100000 in
set_option maxHeartbeats 4000000 in
theorem indexP_any (ps : List (List Int × List Int)) (A Bi Bs : Option Addr) (n cl di ds mi ms q : Nat) (w : World) (B : Nat) (hB : B ≤ w.heap.size) (hs : Pts w B (.slice A n cl) ps) (hsz : n ≤ 64)
    (hq0 : w.cell? ⟨q, 0, none⟩ = some (.slice Bi mi di)) (hq1 : w.cell? ⟨q, 1, none⟩ = some (.slice Bs ms ds)) :
    Calls Tryz.prog 79 #[.slice A n cl, .func (.func 80) #[] #[.pointer (some ⟨q, 0, none⟩)]] w fun e w' => ∃ i, e = .returned (.int .i64 i) ∧ FirstBad ps n mi ms i ∧ BelW w w' := by
  obtain ⟨A', b, o, c', e, hA, -, -, hc⟩ := id hs
  simp only [Value.slice.injEq] at e
  obtain ⟨rfl, hml, rfl⟩ := e
  rw [← hml] at hA hc
  have HA := Lib.hid hA
  have HC : Hid (∀ W, BelW w W → ∀ k, k < n → ∃ Ai As ni ns ci cs, W.cell? ⟨b, o + k * 2, none⟩ = some (.slice Ai ni ci) ∧ W.cell? ⟨b, o + k * 2 + 1, none⟩ = some (.slice As ns cs) ∧ ∀ W2, BelW W W2 → Calls Tryz.prog 80 #[.agg #[.slice Ai ni ci, .slice As ns cs], .pointer (some ⟨q, 0, none⟩)] W2 fun e w' => e = .returned (.bool (misB (ps.getD k ([], [])) mi ms)) ∧ BelW W2 w') := Lib.hid fun W h k hk => by
    obtain ⟨hb, Ai, As, ci, cs, h1, h2, h3, h4⟩ := hc k hk
    refine ⟨Ai, As, _, _, ci, cs, (Below.cell h (p := ⟨b, _, none⟩) (Nat.lt_of_lt_of_le hb hB)).trans h1, (Below.cell h (p := ⟨b, _, none⟩) (Nat.lt_of_lt_of_le hb hB)).trans h2, fun W2 hW2 => ?_⟩
    have hw2 := joinB h hW2
    exact misfit_any _ Ai As Bi Bs ci cs di ds mi ms q W2 B (Nat.le_trans hB (Below.size hw2)) (Arr.keep stays_u8 h3 (Nat.le_refl _) fun _ hp => Below.cell hw2 (Nat.lt_of_lt_of_le hp hB)) (Arr.keep stays_u8 h4 (Nat.le_refl _) fun _ hp => Below.cell hw2 (Nat.lt_of_lt_of_le hp hB)) ((Below.cell hw2 (p := ⟨q, 0, none⟩) (cell_lt hq0)).trans hq0) ((Below.cell hw2 (p := ⟨q, 1, none⟩) (cell_lt hq1)).trans hq1)
  obtain ⟨bad, HBAD⟩ : ∃ bad : Nat → Bool, Hid (∀ k, bad k = misB (ps.getD k ([], [])) mi ms) := ⟨_, Lib.hid fun k => rfl⟩
  clear hs hA hc hml hq0 hq1
  go_enter Tryz.func79, Tryz.ntmps79
  go_wp2
  go_loopw [8] (fun i wr => ∃ k : Nat, k ≤ n ∧ i = .int .i64 k ∧ (∀ j, j < k → bad j = false) ∧ BelW w wr) (fun i _ => n - (intOf i).toNat)
  case atStart => exact ⟨0, Nat.zero_le _, rfl, fun j hj => absurd hj (by omega), Below.refl _ _⟩
  case round =>
    obtain ⟨k, hk, rfl, hno, hb⟩ := hrel
    have HNO := Lib.hid hno
    have HBR := Lib.hid hb
    clear hno
    by_cases hlt : k < n
    · obtain rfl := HA.out (by omega)
      obtain ⟨Ai, As, ni, ns, ci, cs, f0, f1, hpk⟩ := HC.out wr hb k hlt
      have hpk2 := hpk wr (Below.refl _ _)
      rw [← HBAD.out] at hpk2
      have HPK := Lib.hid hpk2
      clear hpk hpk2 hb
      cases hv : bad k
      · have HV := Lib.hid hv
        rw [hv] at HPK
        clear hv
        go_wp2_with (go_at_call 80; (with_reducible refine HPK.out.mono ?_); rintro e w' ⟨rfl, hb5⟩; have HB5 : Hid (BelW w w') := Lib.hid (joinB HBR.out hb5); clear hb5)
        go_roundw
        case rel =>
          refine ⟨k + 1, by omega, by go_num, fun j hj => ?_, HB5.out⟩
          by_cases hjk : j = k
          · rw [hjk]; exact HV.out
          · exact HNO.out j (by omega)
        case measure => simp [intOf]; omega
      · have HV := Lib.hid hv
        rw [hv] at HPK
        clear hv
        go_wp2_with (go_at_call 80; (with_reducible refine HPK.out.mono ?_); rintro e w' ⟨rfl, hb5⟩; have HB5 : Hid (BelW w w') := Lib.hid (joinB HBR.out hb5); clear hb5)
        go_ret
        exact ⟨k, rfl, .inr ⟨k, hlt, rfl, (HBAD.out k).symm.trans HV.out, fun j hj => (HBAD.out j).symm.trans (HNO.out j hj)⟩, HB5.out⟩
    · clear hb
      go_wp2
      go_ret
      exact ⟨-1, rfl, .inl ⟨rfl, fun j hj => (HBAD.out j).symm.trans (HNO.out j (by omega))⟩, HBR.out⟩
end Go.Proofs.YtemogllidmgbfaaGreatDoor
