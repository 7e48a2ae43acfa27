/- WordsTurned: the walk. -/
import Derived.Test.YtemogllidmgbfaaDoorM44
import Derived.Test.YtemogllidmgbfaaDoorWow
import Derived.Test.YtemogllidmgbfaaDoorWtu
namespace Go.Proofs.YtemogllidmgbfaaDoor
open Go.RowKit

def rotL (l : Wls) (s k : Nat) : Wls := (l.take k).map fun x => rotW x s
set_option maxRecDepth 100000 in
set_option maxHeartbeats 4000000 in
theorem wturn_law (kd : Int) (hkd : 0 ≤ kd) (l : Wls) (A : Option Addr) (n cl y : Nat) (hy : y < 256) (w : World) (hT : Lg.Tabs w) (hf : Ft w) (hs : Wd w w.heap.size (.slice A n cl) l) :
    Calls Tryd.prog 4 #[.int .u8 kd, .slice A n cl, .int .u8 (y : Int)] w fun e w' => e = .returned (.bool true) ∧ Below w.heap.size w w' := by
  have hw := wd_w hs
  obtain ⟨A', b, o, c', e, hA, hle, hm, hc⟩ := id hs
  simp only [Value.slice.injEq] at e
  obtain ⟨rfl, hnl, rfl⟩ := e
  rw [← hnl] at hA hc hm
  unfold maxLen at hm
  have HLV : Hid (∀ W, BelW w W → Calls Tryd.prog 6 #[] W fun e w' => e = .returned (.bool true) ∧ BelW W w') := Lib.hid fun W h => lives7_any W (hT.below h) (hf.below h)
  obtain ⟨s, HS⟩ := named (y % 64)
  have hsl : s < 64 := by rw [HS.out]; omega
  have HA := Lib.hid hA
  have HC : Hid (∀ W, BelW w W → ∀ k, k < n → W.cell? ⟨b, o + k * 2, none⟩ = some (.int .u64 ((l.getD k (0, 0)).1 : Int)) ∧ W.cell? ⟨b, o + k * 2 + 1, none⟩ = some (.int .u64 ((l.getD k (0, 0)).2 : Int))) := Lib.hid fun W h k hk =>
    ⟨(Below.cell h (p := ⟨b, o + k * 2, none⟩) (hc k hk).1).trans (hc k hk).2.1, (Below.cell h (p := ⟨b, o + k * 2 + 1, none⟩) (hc k hk).1).trans (hc k hk).2.2.1⟩
  have HTU : Hid (∀ W k, BelW w W → k < n → Calls Tryd.prog 13 #[.agg #[.int .u64 ((l.getD k (0, 0)).1 : Int), .int .u64 ((l.getD k (0, 0)).2 : Int)], .int .u64 (y : Int)] W fun e w' => e = .returned (.agg #[.int .u64 ((rotW (l.getD k (0, 0)) s).1 : Int), .int .u64 ((rotW (l.getD k (0, 0)) s).2 : Int)]) ∧ BelW W w') := Lib.hid fun W k h hk => by
    have := turned_any _ _ y (hw k).1 (hw k).2 hy W
    rw [← HS.out] at this
    exact this
  have HSN : Hid (∀ k, k < n → rotL l s (k + 1) = rotL l s k ++ [rotW (l.getD k (0, 0)) s]) := Lib.hid fun k hk => by unfold rotL; rw [snocT (d := (0, 0)) (by omega), List.map_append]; rfl
  have HLN : Hid (∀ k, k ≤ n → (rotL l s k).length = k) := Lib.hid fun k hk => by unfold rotL; rw [List.length_map, List.length_take]; omega
  have hfull : rotL l s n = l.map fun x => rotW x s := by unfold rotL; rw [hnl, List.take_of_length_le (Nat.le_refl _)]
  have hwr : ∀ k, W64 ((rotL l s n).getD k (0, 0)).1 ∧ W64 ((rotL l s n).getD k (0, 0)).2 := fun k => by
    rw [hfull, getD_map_rot]
    split
    · exact ⟨rotN_w (hw k).1, rotN_w (hw k).2⟩
    · exact ⟨w_zero, w_zero⟩
  have HWD : Hid (∀ W mo, W.ownsRow w.heap.size 25 2 mo n (flatW (rotL l s n)) → ∃ A c, mo = .slice A n c ∧ Wd W W.heap.size (.slice A n c) (rotL l s n)) := Lib.hid fun W mo h => wd_own h (HLN.out n (Nat.le_refl _)) hwr
  have HE1 : Hid (∀ W A c, BelW w W → Wd W W.heap.size (.slice A n c) (rotL l s n) → Calls Tryd.prog 14 #[.int .u8 kd, .slice A n c] W fun e w' => e = .returned (.agg #[.int .u64 ((rotW (evW kd l) s).1 : Int), .int .u64 ((rotW (evW kd l) s).2 : Int)]) ∧ BelW W w') := Lib.hid fun W A c h hd => by
    have := weval_any kd hkd _ A n c W W.heap.size (Nat.le_refl _) (hT.below h) (hf.below h) hd
    rw [hfull, evW_rot hw kd hsl] at this
    exact this
  have HE2 : Hid (∀ W, BelW w W → Calls Tryd.prog 14 #[.int .u8 kd, .slice A n cl] W fun e w' => e = .returned (.agg #[.int .u64 ((evW kd l).1 : Int), .int .u64 ((evW kd l).2 : Int)]) ∧ BelW W w') := Lib.hid fun W h => weval_any kd hkd l A n cl W W.heap.size (Nat.le_refl _) (hT.below h) (hf.below h) (wd_keep hs (Nat.le_refl _) h)
  have hew := evW_w hw kd
  have HT2 : Hid (∀ W, Calls Tryd.prog 13 #[.agg #[.int .u64 ((evW kd l).1 : Int), .int .u64 ((evW kd l).2 : Int)], .int .u64 (y : Int)] W fun e w' => e = .returned (.agg #[.int .u64 ((rotW (evW kd l) s).1 : Int), .int .u64 ((rotW (evW kd l) s).2 : Int)]) ∧ BelW W w') := Lib.hid fun W => by
    have := turned_any _ _ y hew.1 hew.2 hy W
    rw [← HS.out] at this
    exact this
  obtain ⟨p1, HP1⟩ := named (evW kd l).1
  obtain ⟨p2, HP2⟩ := named (evW kd l).2
  rw [← HP1.out, ← HP2.out] at HE2 HT2
  obtain ⟨r1, HR1⟩ := named (rotW (evW kd l) s).1
  obtain ⟨r2, HR2⟩ := named (rotW (evW kd l) s).2
  rw [← HR1.out, ← HR2.out] at HE1 HT2
  obtain ⟨i0, hi0, hz0, hz1, hz2⟩ := info_parts info_word
  have HI := Lib.hid (And.intro hi0 (And.intro hz0 (And.intro hz1 hz2)))
  have hcv : IntKind.u64.wrap (y : Int) = (y : Int) := by rw [IntKind.wrap_u64]; omega
  have hs0 : BelW w w := Below.refl _ _
  clear hi0 hz0 hz1 hz2 hs hA hc hw hwr hfull hew hnl hT hf
  by_cases hn : 20 < n
  · have hn2 : (20 : Int) < (n : Int) := by omega
    go_enter Tryd.func4, Tryd.ntmps4
    go_wp2_with (go_at_call 6; (with_reducible refine (HLV.out _ hs0).mono ?_); rintro e w2 ⟨rfl, hb⟩; have HB := Lib.hid hb; clear hb)
    go_ret
    exact ⟨rfl, HB.out⟩
  have hn2 : ¬ (20 : Int) < (n : Int) := by omega
  go_enter Tryd.func4, Tryd.ntmps4
  go_wp2
  go_loopw [7, 8] (fun mo i wr => BelW w wr ∧ ∃ k : Nat, k ≤ n ∧ i = .int .i64 k ∧ wr.ownsRow w.heap.size 25 2 mo k (flatW (rotL l s k))) (fun _ i _ => n - (intOf i).toNat)
  case atStart => exact ⟨hs0, 0, Nat.zero_le _, rfl, by
    have : rotL l s 0 = [] := by unfold rotL; rfl
    rw [this]; exact World.ownsRow_nil _ _ _ _⟩
  case round =>
    obtain ⟨hbr, k, hk, rfl, hown⟩ := hrel
    have HBR := Lib.hid hbr
    have HO := Lib.hid hown
    clear hown
    by_cases hlt : k < n
    · obtain rfl := HA.out (by omega)
      obtain ⟨f0, f1⟩ := HC.out wr hbr k hlt
      have HTK := Lib.hid (fun W h => HTU.out W k h hlt)
      have HSK := Lib.hid (HSN.out k hlt)
      obtain ⟨u, HU⟩ := named (l.getD k (0, 0)).1
      obtain ⟨v, HV⟩ := named (l.getD k (0, 0)).2
      rw [← HU.out, ← HV.out] at HTK
      rw [← HU.out] at f0
      rw [← HV.out] at f1
      obtain ⟨z, HZ⟩ := named (rotW (l.getD k (0, 0)) s)
      rw [← HZ.out] at HTK HSK
      obtain ⟨z1, HZ1⟩ := named z.1
      obtain ⟨z2, HZ2⟩ := named z.2
      rw [← HZ1.out, ← HZ2.out] at HTK
      have hk2 : (k : Int) < (n : Int) := by omega
      go_wp2_with (first
        | (go_at_call 13; (with_reducible refine (HTK.out _ hbr).mono ?_); rintro e w1 ⟨rfl, hb1⟩; have HB1 : Hid (BelW wr w1) := Lib.hid hb1; have HO1 := Lib.hid (own_bel HO.out hb1); clear hb1)
        | (at_builtin; refine wpList_append_own _ rfl _ _ 37 rfl w.heap.size 25 i0 (.agg #[.int .u64 0, .int .u64 0]) 2 16 Tryd.underlying37 HI.out.1 HI.out.2.1 HI.out.2.2.1 HI.out.2.2.2 rfl (by decide) _ _ _ rfl (HO1.out.alloc _) ⟨w1.heap.size, 0, none⟩ 1 1 [.int .u64 (z1 : Int), .int .u64 (z2 : Int)] rfl rfl (two_cells _ _ _ _) ?c1 ?c2 ?c3 ?c4 ?_))
      case c1 => intro q hq; simp only [List.mem_cons, List.not_mem_nil, or_false] at hq; rcases hq with rfl | rfl <;> rfl
      case c2 => unfold maxLen; omega
      case c3 => omega
      case c4 => have h1 := Below.size HBR.out; have h2 := Below.size HB1.out; simp; omega
      intro mo' w3 hown' hgrow hnil
      have hb3 : BelW w w3 := bel_own (HO1.out.alloc _) ((HBR.out.trans HB1.out).alloc _) hgrow
      have HO3 : Hid (w3.ownsRow w.heap.size 25 2 mo' (k + 1) (flatW (rotL l s (k + 1)))) := Lib.hid (by
        rw [HSK.out, ← flatW_app, ← HZ1.out, ← HZ2.out]; exact hown')
      clear hown' hgrow hnil
      go_wp2
      go_roundw
      case rel => exact ⟨hb3, k + 1, by omega, by go_num, HO3.out⟩
      case measure => simp [intOf]; omega
    · obtain rfl : n = k := by omega
      obtain ⟨Am, cm, rfl, hwd⟩ := HWD.out _ _ HO.out
      have HD := Lib.hid hwd
      clear hwd
      go_wp2_with (first
        | (go_at_call 14; (with_reducible refine (HE1.out _ _ _ hbr HD.out).mono ?_); rintro e w4 ⟨rfl, hb4⟩; have hs4 : BelW w w4 := HBR.out.trans hb4; clear hb4)
        | (go_at_call 14; (with_reducible refine (HE2.out _ hs4).mono ?_); rintro e w5 ⟨rfl, hb5⟩; have hs5 : BelW w w5 := hs4.trans hb5; clear hb5)
        | (go_at_call 13; (with_reducible refine (HT2.out _).mono ?_); rintro e w6 ⟨rfl, hb6⟩; have hs6 : BelW w w6 := hs5.trans hb6; clear hb6)
        | (go_at_call 6; (with_reducible refine (HLV.out _ hs6).mono ?_); rintro e w7 ⟨rfl, hb7⟩; have hs7 : BelW w w7 := hs6.trans hb7; clear hb7))
      go_ret
      exact ⟨rfl, hs7⟩
end Go.Proofs.YtemogllidmgbfaaDoor
