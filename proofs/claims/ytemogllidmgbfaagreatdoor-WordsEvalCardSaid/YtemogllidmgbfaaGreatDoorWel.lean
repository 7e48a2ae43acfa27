/- WordsEval: the walk. -/
import Derived.Test.YtemogllidmgbfaaGreatDoorM40
import Derived.Test.YtemogllidmgbfaaGreatDoorM42
namespace Go.Proofs.YtemogllidmgbfaaGreatDoor
open Go.RowKit

theorem one_cell (w : World) (u : Value) (t : TypeId) : ∀ (j : Nat) (x : Value), [u][j]? = some x → (w.alloc (.cells #[u] t)).cell? ((⟨w.heap.size, 0, none⟩ : Addr).add j) = some x := by
  intro j x hj
  match j, hj with
  | 0, hj =>
    rw [show (⟨w.heap.size, 0, none⟩ : Addr).add 0 = ⟨w.heap.size, 0, none⟩ from rfl, World.cell?_alloc_at _ _ _ _ rfl]
    simpa using hj
  | j + 1, hj => simp at hj
set_option maxRecDepth 100000 in
set_option maxHeartbeats 4000000 in
theorem wevl_law (kd : Int) (hkd : 0 ≤ kd) (l : Wls) (A : Option Addr) (n cl : Nat) (w : World) (hT : Lg.Tabs w) (hf : Ft w) (hs : Wd w w.heap.size (.slice A n cl) l) :
    Calls Tryz.prog 3 #[.int .u8 kd, .slice A n cl] w fun e w' => e = .returned (.bool true) ∧ Below w.heap.size w w' := by
  have hw := wd_w hs
  obtain ⟨A', b, o, c', e, hA, hle, hm, hc⟩ := id hs
  simp only [Value.slice.injEq] at e
  obtain ⟨rfl, hnl, rfl⟩ := e
  rw [← hnl] at hA hc hm
  unfold maxLen at hm
  have HLV : Hid (∀ W, BelW w W → Calls Tryz.prog 7 #[] W fun e w' => e = .returned (.bool true) ∧ BelW W w') := Lib.hid fun W h => lives7_any W (hT.below h) (hf.below h)
  have HA := Lib.hid hA
  have HC : Hid (∀ W, BelW w W → ∀ k, k < n → W.cell? ⟨b, o + k * 2, none⟩ = some (.int .u64 ((l.getD k (0, 0)).1 : Int)) ∧ W.cell? ⟨b, o + k * 2 + 1, none⟩ = some (.int .u64 ((l.getD k (0, 0)).2 : Int))) := Lib.hid fun W h k hk =>
    ⟨(Below.cell h (p := ⟨b, o + k * 2, none⟩) (hc k hk).1).trans (hc k hk).2.1, (Below.cell h (p := ⟨b, o + k * 2 + 1, none⟩) (hc k hk).1).trans (hc k hk).2.2.1⟩
  have HAT : Hid (∀ W (k i : Nat), k < n → i < 64 → Calls Tryz.prog 9 #[.agg #[.int .u64 ((l.getD k (0, 0)).1 : Int), .int .u64 ((l.getD k (0, 0)).2 : Int)], .int .i64 (i : Int)] W fun e w' => e = .returned (.int .u8 (lnV (l.getD k (0, 0)).1 (l.getD k (0, 0)).2 i)) ∧ BelW W w') := Lib.hid fun W k i _ hi => lat7_any _ _ i (hw k).1 (hw k).2 hi W
  have HSN : Hid (∀ (i k : Nat), k < n → (lanes l i).take (k + 1) = (lanes l i).take k ++ [lnV (l.getD k (0, 0)).1 (l.getD k (0, 0)).2 i]) := Lib.hid fun i k hk => by
    rw [snocT (d := 0) (by rw [lanes_len]; omega), lanes_at (by omega)]; rfl
  have HTA : Hid (∀ i : Nat, (lanes l i).take n = lanes l i) := Lib.hid fun i => by rw [List.take_of_length_le (by rw [lanes_len]; omega)]
  have HWE : Hid (Calls Tryz.prog 8 #[.int .u8 kd, .slice A n cl] w fun e w' => e = .returned (.agg #[.int .u64 ((evW kd l).1 : Int), .int .u64 ((evW kd l).2 : Int)]) ∧ BelW w w') := Lib.hid (weval_any kd hkd l A n cl w w.heap.size (Nat.le_refl _) hT hf hs)
  have hew := evW_w hw kd
  have HAE : Hid (∀ W (i : Nat), i < 64 → Calls Tryz.prog 9 #[.agg #[.int .u64 ((evW kd l).1 : Int), .int .u64 ((evW kd l).2 : Int)], .int .i64 (i : Int)] W fun e w' => e = .returned (.int .u8 (evalL kd (lanes l i))) ∧ BelW W w') := Lib.hid fun W i hi => by
    rw [← evW_ln hw hi kd]
    exact lat7_any _ _ i hew.1 hew.2 hi W
  have HLE : Hid (∀ W B mo (i : Nat), BelW w W → W.ownsRow B 30 1 mo n ((lanes l i).map (Value.int .u8)) → Calls Tryz.prog 10 #[.int .u8 kd, mo] W fun e w' => e = .returned (.int .u8 (evalL kd (lanes l i))) ∧ BelW W w') := Lib.hid fun W B mo i h ho => by
    have hv := (Lg.Vs.of_own ho).1
    exact Lg.eval_any kd hkd (Nat.le_refl _) hv (hT.below h)
  obtain ⟨p1, HP1⟩ := named (evW kd l).1
  obtain ⟨p2, HP2⟩ := named (evW kd l).2
  rw [← HP1.out, ← HP2.out] at HWE HAE
  obtain ⟨i0, hi0, hz0, hz1, hz2⟩ := info_parts info_val
  have HI := Lib.hid (And.intro hi0 (And.intro hz0 (And.intro hz1 hz2)))
  have hs0 : BelW w w := Below.refl _ _
  clear hi0 hz0 hz1 hz2 hs hA hc hw hew hnl hT hf
  by_cases hn : 20 < n
  · have hn2 : (20 : Int) < (n : Int) := by omega
    go_enter Tryz.func3, Tryz.ntmps3
    go_wp2_with (go_at_call 7; (with_reducible refine (HLV.out _ hs0).mono ?_); rintro e w2 ⟨rfl, hb⟩; have HB := Lib.hid hb; clear hb)
    go_ret
    exact ⟨rfl, HB.out⟩
  have hn2 : ¬ (20 : Int) < (n : Int) := by omega
  go_enter Tryz.func3, Tryz.ntmps3
  go_upto_region 4 with (go_at_call 8; (with_reducible refine HWE.out.mono ?_); rintro e w2 ⟨rfl, hb⟩; have hs2 : BelW w w2 := hb; clear hb)
  obtain ⟨V, HV⟩ := named (w2.alloc (.cells #[.int .u64 (p1 : Int), .int .u64 (p2 : Int)] 27))
  have hnV : BelW w2 V := by rw [HV.out]; exact below_new (Below.refl _ _) _
  have hfV : Fr V w2.heap.size 27 [.int .u64 (p1 : Int), .int .u64 (p2 : Int)] := by rw [HV.out]; exact Fr.made _ _ _ rfl
  have hsV : BelW w V := hs2.trans hnV
  obtain ⟨q, HQ⟩ := named w2.heap.size
  rw [← HQ.out] at hfV
  rw [← HV.out, ← HQ.out]
  have HKV : Hid (∀ W, BelW V W → W.cell? ⟨q, 0, none⟩ = some (.int .u64 (p1 : Int)) ∧ W.cell? ⟨q, 1, none⟩ = some (.int .u64 (p2 : Int))) := Lib.hid fun W h => ⟨(hfV.below h).cell 0, (hfV.below h).cell 1⟩
  have HSV := Lib.hid hsV
  have hwV := Below.size hsV
  clear hnV hfV hs2 hsV
  go_wp2
  go_loopw [6] (fun i wr => BelW V wr ∧ ∃ k : Nat, k ≤ 64 ∧ i = .int .i64 k) (fun i _ => 64 - (intOf i).toNat)
  case atStart => exact ⟨Below.refl _ _, 0, by omega, rfl⟩
  case round =>
    obtain ⟨hbr, i, hi, rfl⟩ := hrel
    obtain ⟨V3, rfl⟩ : ∃ V0 : World, V0 = wr := ⟨_, rfl⟩
    have HB3 := Lib.hid hbr
    by_cases hlt : i < 64
    · have hlt2 : (i : Int) < 64 := by omega
      have HATi := Lib.hid (fun W k hk => HAT.out W k i hk hlt)
      have HSNi := Lib.hid (fun k hk => HSN.out i k hk)
      have HAEi := Lib.hid (fun W => HAE.out W i hlt)
      have HLEi := Lib.hid (fun W B mo => HLE.out W B mo i)
      have HTAi := Lib.hid (HTA.out i)
      have HLN : Hid ((lanes l i).take 0 = []) := Lib.hid rfl
      obtain ⟨ll, HLL⟩ := named (lanes l i)
      rw [← HLL.out] at HSNi HAEi HLEi HTAi HLN
      obtain ⟨ev, HEV⟩ := named (evalL kd ll)
      rw [← HEV.out] at HAEi HLEi
      go_wp2
      go_loopw [7, 8] (fun mo j wr => BelW V3 wr ∧ ∃ k : Nat, k ≤ n ∧ j = .int .i64 k ∧ wr.ownsRow V3.heap.size 30 1 mo k ((ll.take k).map (Value.int .u8))) (fun _ j _ => n - (intOf j).toNat)
      case atStart => exact ⟨Below.refl _ _, 0, Nat.zero_le _, rfl, by rw [HLN.out]; exact World.ownsRow_nil _ _ _ _⟩
      case round =>
        obtain ⟨hb4, k, hk, rfl, hown⟩ := hrel
        have HB4 := Lib.hid hb4
        have HO := Lib.hid hown
        clear hown
        by_cases hkn : k < n
        · obtain rfl := HA.out (by omega)
          obtain ⟨f0, f1⟩ := HC.out wr ((HSV.out.trans HB3.out).trans hb4) k hkn
          have HTK := Lib.hid (fun W => HATi.out W k hkn)
          have HSK := Lib.hid (HSNi.out k hkn)
          obtain ⟨u, HU⟩ := named (l.getD k (0, 0)).1
          obtain ⟨v, HV'⟩ := named (l.getD k (0, 0)).2
          rw [← HU.out, ← HV'.out] at HTK HSK
          rw [← HU.out] at f0
          rw [← HV'.out] at f1
          obtain ⟨z, HZ⟩ := named (lnV u v i)
          rw [← HZ.out] at HTK HSK
          have hk2 : (k : Int) < (n : Int) := by omega
          go_wp2_with (first
            | (go_at_call 9; (with_reducible refine (HTK.out _).mono ?_); rintro e w1 ⟨rfl, hb1⟩; have HB1 : Hid (BelW wr w1) := Lib.hid hb1; have HO1 := Lib.hid (own_bel HO.out hb1); clear hb1)
            | (at_builtin; refine wpList_append_own _ rfl _ _ 29 rfl V3.heap.size 30 i0 (.int .u8 0) 1 1 Tryz.underlying29 HI.out.1 HI.out.2.1 HI.out.2.2.1 HI.out.2.2.2 rfl (by decide) _ _ _ rfl (HO1.out.alloc _) ⟨w1.heap.size, 0, none⟩ 1 1 [.int .u8 z] rfl rfl (one_cell _ _ _) ?c1 ?c2 ?c3 ?c4 ?_))
          case c1 => intro q hq; simp only [List.mem_cons, List.not_mem_nil, or_false] at hq; rw [hq]; rfl
          case c2 => unfold maxLen; omega
          case c3 => omega
          case c4 => have h1 := Below.size HB4.out; have h2 := Below.size HB1.out; simp; omega
          intro mo' w3 hown' hgrow hnil
          have hb3 : BelW V3 w3 := bel_own (HO1.out.alloc _) ((HB4.out.trans HB1.out).alloc _) hgrow
          have HO3 : Hid (w3.ownsRow V3.heap.size 30 1 mo' (k + 1) ((ll.take (k + 1)).map (Value.int .u8))) := Lib.hid (by
            rw [HSK.out, List.map_append, List.map_take]; exact hown')
          clear hown' hgrow hnil
          go_wp2
          go_roundw
          case rel => exact ⟨hb3, k + 1, by omega, by go_num, HO3.out⟩
          case measure => simp [intOf]; omega
        · obtain rfl : n = k := by omega
          have hs4 : BelW w wr := (HSV.out.trans HB3.out).trans hb4
          have HLX := Lib.hid (HLEi.out wr _ _ hs4 (by have := HO.out; rw [HTAi.out] at this; exact this))
          obtain ⟨y0, y1⟩ := HKV.out wr (HB3.out.trans hb4)
          go_wp2_with (first
            | (go_at_call 9; (with_reducible refine (HAEi.out _).mono ?_); rintro e w5 ⟨rfl, hb5⟩; have HB5 : Hid (BelW wr w5) := Lib.hid hb5; have HLX5 := Lib.hid (HLEi.out w5 _ _ (hs4.trans hb5) (by have := HO.out; rw [HTAi.out] at this; exact own_bel this hb5)); clear hb5)
            | (go_at_call 10; (with_reducible refine (HLX5.out).mono ?_); rintro e w6 ⟨rfl, hb6⟩; have HB6 : Hid (BelW V3 w6) := Lib.hid (hb4.trans (HB5.out.trans hb6)); clear hb6))
          go_roundw
          case rel => exact ⟨HB3.out.trans HB6.out, i + 1, by omega, by go_num⟩
          case measure => simp [intOf]; omega
    · have hs4 : BelW w V3 := HSV.out.trans hbr
      go_wp2_with (go_at_call 7; (with_reducible refine (HLV.out _ hs4).mono ?_); rintro e w7 ⟨rfl, hb7⟩; have hs7 : BelW w w7 := hs4.trans hb7; clear hb7)
      go_ret
      exact ⟨rfl, hs7⟩
end Go.Proofs.YtemogllidmgbfaaGreatDoor
