/- MemoriesOrder: the law's walk. -/
import Derived.Test.YtcaikkfcjeojiaaDoorM29
import Derived.Test.YtcaikkfcjeojiaaDoorM28
namespace Go.Proofs.YtcaikkfcjeojiaaDoor
open Go.RowKit

theorem blw_refl (x : Int) : blw x x = true := by unfold blw; simp
theorem eqI_refl (x : Int) : eqI x x = true := by unfold eqI; simp
set_option maxRecDepth 100000 in
set_option maxHeartbeats 8000000 in
theorem mord_law (a b : Stt) (A0a A1a A2a A0b A1b A2b : Option Addr) (n0a n1a n2a c0a c1a c2a n0b n1b n2b c0b c1b c2b : Nat) (w : World) (hT : Ch.Cht w) (ha : StR w w.heap.size A0a A1a A2a n0a n1a n2a c0a c1a c2a a) (hb : StR w w.heap.size A0b A1b A2b n0b n1b n2b c0b c1b c2b b) :
    Calls Tryd.prog 4 #[.agg #[.slice A0a n0a c0a, .slice A1a n1a c1a, .slice A2a n2a c2a], .agg #[.slice A0b n0b c0b, .slice A1b n1b c1b, .slice A2b n2b c2b]] w fun e w' => e = .returned (.bool true) ∧ Below w.heap.size w w' := by
  obtain ⟨W2, HW2⟩ := named ((w.alloc (.cells #[.slice A0a n0a c0a, .slice A1a n1a c1a, .slice A2a n2a c2a] 36)).alloc (.cells #[.slice A0b n0b c0b, .slice A1b n1b c1b, .slice A2b n2b c2b] 36))
  have hb2 : BelW w W2 := by rw [HW2.out]; exact below_new (below_new (Below.refl _ _) _) _
  have hfa : Fr W2 w.heap.size 36 [.slice A0a n0a c0a, .slice A1a n1a c1a, .slice A2a n2a c2a] := by rw [HW2.out]; exact Fr.alloc (Fr.made _ [.slice A0a n0a c0a, .slice A1a n1a c1a, .slice A2a n2a c2a] _ rfl) _
  have hfb : Fr W2 (w.heap.size + 1) 36 [.slice A0b n0b c0b, .slice A1b n1b c1b, .slice A2b n2b c2b] := by rw [HW2.out]; exact Fr.made _ [.slice A0b n0b c0b, .slice A1b n1b c1b, .slice A2b n2b c2b] _ (by simp)
  have HSA : ∀ W, BelW W2 W → StR W W.heap.size A0a A1a A2a n0a n1a n2a c0a c1a c2a a := fun W h => ha.keep (Nat.le_refl _) (joinB hb2 h) (Below.size (joinB hb2 h))
  have HSB : ∀ W, BelW W2 W → StR W W.heap.size A0b A1b A2b n0b n1b n2b c0b c1b c2b b := fun W h => hb.keep (Nat.le_refl _) (joinB hb2 h) (Below.size (joinB hb2 h))
  obtain ⟨r1, H1⟩ := named (relS blw a b)
  obtain ⟨r2, H2⟩ := named (relS eqI a b)
  have HP1 : Hid (∀ x : Beh W2, Calls Tryd.prog 11 #[.agg #[.slice A0a n0a c0a, .slice A1a n1a c1a, .slice A2a n2a c2a], .agg #[.slice A0b n0b c0b, .slice A1b n1b c1b, .slice A2b n2b c2b]] x.x fun e w' => e = .returned (.bool r1) ∧ Below W2.heap.size W2 w') := Lib.hid fun x => by
    rw [H1.out]
    exact (mbelow_any a b _ _ _ _ _ _ _ _ _ _ _ _ _ _ _ _ _ _ x.x _ (Nat.le_refl _) (HSA _ x.below) (HSB _ x.below)).mono fun e w' h => ⟨h.1, joinB x.below h.2⟩
  have HP2 : Hid (∀ x : Beh W2, Calls Tryd.prog 13 #[.agg #[.slice A0a n0a c0a, .slice A1a n1a c1a, .slice A2a n2a c2a], .agg #[.slice A0b n0b c0b, .slice A1b n1b c1b, .slice A2b n2b c2b]] x.x fun e w' => e = .returned (.bool r2) ∧ Below W2.heap.size W2 w') := Lib.hid fun x => by
    rw [H2.out]
    exact (msame_any a b _ _ _ _ _ _ _ _ _ _ _ _ _ _ _ _ _ _ x.x _ (Nat.le_refl _) (HSA _ x.below) (HSB _ x.below)).mono fun e w' h => ⟨h.1, joinB x.below h.2⟩
  have HP3 : Hid (∀ x : Beh W2, Calls Tryd.prog 13 #[.agg #[.slice A0b n0b c0b, .slice A1b n1b c1b, .slice A2b n2b c2b], .agg #[.slice A0b n0b c0b, .slice A1b n1b c1b, .slice A2b n2b c2b]] x.x fun e w' => e = .returned (.bool true) ∧ Below W2.heap.size W2 w') := Lib.hid fun x => by
    rw [← relS_refl eqI eqI_refl b]
    exact (msame_any b b _ _ _ _ _ _ _ _ _ _ _ _ _ _ _ _ _ _ x.x _ (Nat.le_refl _) (HSB _ x.below) (HSB _ x.below)).mono fun e w' h => ⟨h.1, joinB x.below h.2⟩
  have HP4 : Hid (∀ x : Beh W2, Calls Tryd.prog 11 #[.agg #[.slice A0a n0a c0a, .slice A1a n1a c1a, .slice A2a n2a c2a], .agg #[.slice A0a n0a c0a, .slice A1a n1a c1a, .slice A2a n2a c2a]] x.x fun e w' => e = .returned (.bool true) ∧ Below W2.heap.size W2 w') := Lib.hid fun x => by
    rw [← relS_refl blw blw_refl a]
    exact (mbelow_any a a _ _ _ _ _ _ _ _ _ _ _ _ _ _ _ _ _ _ x.x _ (Nat.le_refl _) (HSA _ x.below) (HSA _ x.below)).mono fun e w' h => ⟨h.1, joinB x.below h.2⟩
  have HR1 : Hid (∀ x : Beh W2, Calls Tryd.prog 12 #[.agg #[.slice A0a n0a c0a, .slice A1a n1a c1a, .slice A2a n2a c2a], .agg #[.slice A0b n0b c0b, .slice A1b n1b c1b, .slice A2b n2b c2b], .bool false] x.x fun e w' => e = .returned (.bool r1) ∧ Below W2.heap.size W2 w') := Lib.hid fun x => by
    rw [H1.out, ← pq_f]
    exact (related_any false a b _ _ _ _ _ _ _ _ _ _ _ _ _ _ _ _ _ _ x.x _ (Nat.le_refl _) (HSA _ x.below) (HSB _ x.below)).mono fun e w' h => ⟨h.1, joinB x.below h.2⟩
  have HR2 : Hid (∀ x : Beh W2, Calls Tryd.prog 12 #[.agg #[.slice A0a n0a c0a, .slice A1a n1a c1a, .slice A2a n2a c2a], .agg #[.slice A0b n0b c0b, .slice A1b n1b c1b, .slice A2b n2b c2b], .bool true] x.x fun e w' => e = .returned (.bool r2) ∧ Below W2.heap.size W2 w') := Lib.hid fun x => by
    rw [H2.out, ← pq_t]
    exact (related_any true a b _ _ _ _ _ _ _ _ _ _ _ _ _ _ _ _ _ _ x.x _ (Nat.le_refl _) (HSA _ x.below) (HSB _ x.below)).mono fun e w' h => ⟨h.1, joinB x.below h.2⟩
  have HLV : Hid (∀ x : Beh W2, Calls Tryd.prog 6 #[] x.x fun e w' => e = .returned (.bool true) ∧ Below W2.heap.size W2 w') := Lib.hid fun x =>
    (lives9_any x.x (hT.below (joinB hb2 x.below))).mono fun e w' h => ⟨h.1, joinB x.below h.2⟩
  have HL2 : Hid (Calls Tryd.prog 6 #[] W2 fun e w' => e = .returned (.bool true) ∧ BelW W2 w') := Lib.hid (lives9_any W2 (hT.below hb2))
  obtain ⟨Aza, bwa, owa, cza, e, hAwa, -, hmwa, hcwa⟩ := (HSA W2 (Below.refl _ _)).sw
  simp only [Value.slice.injEq] at e
  obtain ⟨rfl, hn1a, rfl⟩ := e
  rw [← hn1a] at hAwa hmwa hcwa
  have HNa : Hid (∀ k, k < n1a → ∃ A n c, W2.cell? ⟨bwa, owa + k, none⟩ = some (.slice A n c)) := Lib.hid fun k hk => by
    obtain ⟨-, A, c, h1, -⟩ := hcwa k hk
    rw [Nat.mul_one] at h1
    exact ⟨A, _, c, h1⟩
  have HAa := Lib.hid hAwa
  obtain ⟨Azb, bwb, owb, czb, e, hAwb, -, hmwb, hcwb⟩ := (HSB W2 (Below.refl _ _)).sw
  simp only [Value.slice.injEq] at e
  obtain ⟨rfl, hn1b, rfl⟩ := e
  rw [← hn1b] at hAwb hmwb hcwb
  have HNb : Hid (∀ k, k < n1b → ∃ A n c, W2.cell? ⟨bwb, owb + k, none⟩ = some (.slice A n c)) := Lib.hid fun k hk => by
    obtain ⟨-, A, c, h1, -⟩ := hcwb k hk
    rw [Nat.mul_one] at h1
    exact ⟨A, _, c, h1⟩
  have HAb := Lib.hid hAwb
  have hmax : maxLen = 9223372036854775807 := rfl
  rw [hmax] at hmwa hmwb
  have x0 := hfa.cell 0
  have x1 := hfa.cell 1
  have x2 := hfa.cell 2
  have y0 := hfb.cell 0
  have y1 := hfb.cell 1
  have y2 := hfb.cell 2
  have HGa0 : Hid (∀ xx : Beh W2, xx.x.cell? ⟨w.heap.size, 0, none⟩ = some (.slice A0a n0a c0a)) := Lib.hid fun xx => beh_cell hfa.lt (hfa.cell 0) xx
  have HGa1 : Hid (∀ xx : Beh W2, xx.x.cell? ⟨w.heap.size, 1, none⟩ = some (.slice A1a n1a c1a)) := Lib.hid fun xx => beh_cell hfa.lt (hfa.cell 1) xx
  have HGa2 : Hid (∀ xx : Beh W2, xx.x.cell? ⟨w.heap.size, 2, none⟩ = some (.slice A2a n2a c2a)) := Lib.hid fun xx => beh_cell hfa.lt (hfa.cell 2) xx
  have HGb0 : Hid (∀ xx : Beh W2, xx.x.cell? ⟨w.heap.size + 1, 0, none⟩ = some (.slice A0b n0b c0b)) := Lib.hid fun xx => beh_cell hfb.lt (hfb.cell 0) xx
  have HGb1 : Hid (∀ xx : Beh W2, xx.x.cell? ⟨w.heap.size + 1, 1, none⟩ = some (.slice A1b n1b c1b)) := Lib.hid fun xx => beh_cell hfb.lt (hfb.cell 1) xx
  have HGb2 : Hid (∀ xx : Beh W2, xx.x.cell? ⟨w.heap.size + 1, 2, none⟩ = some (.slice A2b n2b c2b)) := Lib.hid fun xx => beh_cell hfb.lt (hfb.cell 2) xx
  obtain ⟨s1, hs1⟩ : ∃ s, IntKind.i64.wrap ((n1a : Int) + (n1b : Int)) = s := ⟨_, rfl⟩
  obtain ⟨s2, hs2⟩ : ∃ s, IntKind.i64.wrap (s1 + (n2a : Int)) = s := ⟨_, rfl⟩
  obtain ⟨s3, hs3⟩ : ∃ s, IntKind.i64.wrap (s2 + (n2b : Int)) = s := ⟨_, rfl⟩
  obtain ⟨s4, hs4⟩ : ∃ s, IntKind.i64.wrap (s3 + (n0a : Int)) = s := ⟨_, rfl⟩
  obtain ⟨s5, hs5⟩ : ∃ s, IntKind.i64.wrap (s4 + (n0b : Int)) = s := ⟨_, rfl⟩
  have HSM := Lib.hid (And.intro hs1 (And.intro hs2 (And.intro hs3 (And.intro hs4 hs5))))
  have HB2 := Lib.hid hb2
  clear hT ha hb hfa hfb hb2 HSA HSB hAwa hAwb hcwa hcwb hn1a hn1b hs1 hs2 hs3 hs4 hs5
  go_enter Tryd.func4, Tryd.ntmps4
  go_upto_region 1 with (fail)
  rw [← HW2.out]
  go_upto_block 0 with (fail)
  go_cut [5, 6] (fun nv _ wx => wx = W2 ∧ ∃ q : Int, nv = .int .i64 q)
  case first =>
    go_wp2
    go_loopw [5, 6] (fun nv i wr => wr = W2 ∧ ∃ (k : Nat) (q : Int), k ≤ n1a ∧ i = .int .i64 k ∧ nv = .int .i64 q) (fun _ i _ => n1a - (intOf i).toNat)
    case atStart => exact ⟨rfl, 0, _, Nat.zero_le _, rfl, rfl⟩
    case round =>
      obtain ⟨hwr, k, q, hk, rfl, rfl⟩ := hrel
      obtain rfl : W2 = wr := hwr.symm
      by_cases hlt : k < n1a
      · by_cases hl4 : k < 40
        · obtain rfl := HAa.out (by omega)
          obtain ⟨A4, n4, c4, e4⟩ := HNa.out k hlt
          have hk2 : (k : Int) < (n1a : Int) := by omega
          have hk4 : (k : Int) < 40 := by omega
          obtain ⟨s, hs⟩ : ∃ s, IntKind.i64.wrap (q + (n4 : Int)) = s := ⟨_, rfl⟩
          go_wp2
          go_roundw
          case rel => exact ⟨by trivial, k + 1, _, by omega, by go_num, rfl⟩
          case measure => simp [intOf]; omega
        · have hk2 : (k : Int) < (n1a : Int) := by omega
          have hk4 : ¬ (k : Int) < 40 := by omega
          go_wp2
          go_meet
          case rel => exact ⟨by trivial, _, rfl⟩
      · have hk2 : ¬ (k : Int) < (n1a : Int) := by omega
        go_wp2
        go_meet
        case rel => exact ⟨by trivial, _, rfl⟩
  obtain ⟨hwc, qa, rfl⟩ := hcut
  obtain rfl : W2 = wc := hwc.symm
  go_upto_block 2 with (fail)
  go_cut [5, 7] (fun nv _ wx => wx = W2 ∧ ∃ q : Int, nv = .int .i64 q)
  case first =>
    go_wp2
    go_loopw [5, 7] (fun nv i wr => wr = W2 ∧ ∃ (k : Nat) (q : Int), k ≤ n1b ∧ i = .int .i64 k ∧ nv = .int .i64 q) (fun _ i _ => n1b - (intOf i).toNat)
    case atStart => exact ⟨rfl, 0, _, Nat.zero_le _, rfl, rfl⟩
    case round =>
      obtain ⟨hwr, k, q, hk, rfl, rfl⟩ := hrel
      obtain rfl : W2 = wr := hwr.symm
      by_cases hlt : k < n1b
      · by_cases hl4 : k < 40
        · obtain rfl := HAb.out (by omega)
          obtain ⟨A4, n4, c4, e4⟩ := HNb.out k hlt
          have hk2 : (k : Int) < (n1b : Int) := by omega
          have hk4 : (k : Int) < 40 := by omega
          obtain ⟨s, hs⟩ : ∃ s, IntKind.i64.wrap (q + (n4 : Int)) = s := ⟨_, rfl⟩
          go_wp2
          go_roundw
          case rel => exact ⟨by trivial, k + 1, _, by omega, by go_num, rfl⟩
          case measure => simp [intOf]; omega
        · have hk2 : (k : Int) < (n1b : Int) := by omega
          have hk4 : ¬ (k : Int) < 40 := by omega
          go_wp2
          go_meet
          case rel => exact ⟨by trivial, _, rfl⟩
      · have hk2 : ¬ (k : Int) < (n1b : Int) := by omega
        go_wp2
        go_meet
        case rel => exact ⟨by trivial, _, rfl⟩
  obtain ⟨hwc, qb, rfl⟩ := hcut
  obtain rfl : W2 = wc := hwc.symm
  obtain ⟨h1, h2, h3, h4, h5⟩ := HSM.out
  by_cases t1 : 40 < qb
  · go_wp2_with (go_at_call 6; (with_reducible refine HL2.out.mono ?_); rintro e w5 ⟨rfl, hb⟩; have HB := Lib.hid (joinB HB2.out hb); clear hb)
    go_ret
    exact ⟨rfl, HB.out⟩
  by_cases t2 : 100 < s5
  · go_wp2_with (go_at_call 6; (with_reducible refine HL2.out.mono ?_); rintro e w5 ⟨rfl, hb⟩; have HB := Lib.hid (joinB HB2.out hb); clear hb)
    go_ret
    exact ⟨rfl, HB.out⟩
  go_upto_region 12 with (fail)
  clear h1 h2 h3 h4 h5
  have ga0 := HGa0.out
  have ga1 := HGa1.out
  have ga2 := HGa2.out
  have gb0 := HGb0.out
  have gb1 := HGb1.out
  have gb2 := HGb2.out
  cases r1 <;> cases r2
  all_goals
    refine region_class (w0 := _) (Below.refl _ _) (by kernel_rfl) (by kernel_rfl) ?_
    repeat (first
      | go_big_quiet_skip
      | (go_big_quiet_want; go_big_quiet_op; first
        | go_big_quiet_on
        | (apply Exists.intro
           refine ⟨fun xx => ?_, ?_⟩
           focus first
            | (go_at_call 11; with_reducible exact beh_of (HP1.out xx))
            | (go_at_call 11; with_reducible exact beh_of (HP4.out xx))
            | (go_at_call 13; with_reducible exact beh_of (HP2.out xx))
            | (go_at_call 13; with_reducible exact beh_of (HP3.out xx))
            | (go_at_call 12; with_reducible exact beh_of (HR1.out xx))
            | (go_at_call 12; with_reducible exact beh_of (HR2.out xx))
            | (go_at_call 6; with_reducible exact beh_of (HLV.out xx))
           go_big_quiet_on)))
    refine wpQuiet_nil ?_
    rintro wz ⟨⟨wz', hz⟩, rfl⟩
    go_wp2
    go_ret
    exact ⟨rfl, joinB HB2.out hz⟩
end Go.Proofs.YtcaikkfcjeojiaaDoor
