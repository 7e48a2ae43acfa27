/- The walk of the law on texts, way by way. -/
import Derived.Test.YtdanmepbdjfpfaaDoorTexts
namespace Go.Proofs.YtdanmepbdjfpfaaDoor
open Go.RowKit

theorem lives_at {w0 w : World} (ht : Tabs w0) (hb : Below w0.heap.size w0 w) : Calls Tryd.prog 11 #[] w fun e w' => e = .returned (.bool true) ∧ Below w0.heap.size w0 w' := rel (lives_any w (ht.below hb)) hb

set_option maxHeartbeats 400000 in
theorem texts_long (s : ByteArray) (A : Option Addr) (n c : Nat) (w : World) (ht : Tabs w) (h : 300 < s.size ∨ (¬ 300 < s.size ∧ 300 < n)) :
    Calls Tryd.prog 10 #[.string s, .slice A n c] w fun e w' => e = .returned (.bool true) ∧ Below w.heap.size w w' := by
  have HT := Lib.hid ht
  clear ht
  have hb0 := Below.refl w.heap.size w
  rcases h with h | ⟨h, h'⟩
  all_goals
    go_enter Tryd.func10, Tryd.ntmps10
    go_wp2_with (go_at_call 11; (with_reducible refine (lives_at HT.out (by assumption)).mono ?_); rintro e w' ⟨rfl, hb⟩)
    go_ret
    exact ⟨rfl, by assumption⟩

set_option maxHeartbeats 1000000 in
set_option maxRecDepth 100000 in
theorem texts_good (s : ByteArray) (l : List Int) (v : Value) (w : World) (B : Nat) (hB : B ≤ w.heap.size) (hs : Vs w B v l) (hpos : ∀ k, k < l.length → 0 ≤ l.getD k 0) (ht : Tabs w)
    (A : Option Addr) (n m c b o : Nat) (hv : v = .slice A m c) (hA : 0 < m → A = some ⟨b, o, none⟩) (hc : ∀ k, k < m → b < B ∧ w.cell? ⟨b, o + k, none⟩ = some (.int .u8 (l.getD k 0)))
    (hn : s.size = n) (hm : m = l.length) (h1 : n ≤ 300) (h2 : m ≤ 300) (hgood : ∀ k, k < n → isv (chr s k) = true) :
    Calls Tryd.prog 10 #[.string s, v] w fun e w' => e = .returned (.bool true) ∧ Below w.heap.size w w' := by
  have HT := Lib.hid ht
  have HB := Lib.hid hB
  have HS := Lib.hid hs
  have HP := Lib.hid hpos
  have HA := Lib.hid hA
  have HC := Lib.hid hc
  have HM := Lib.hid hm
  have HG := Lib.hid hgood
  have HTB := Lib.hid (text_back s (by rw [hn]; exact hgood))
  have HN := Lib.hid hn
  obtain ⟨t, HTX⟩ := named (strOfNums (l.map tch))
  have hts : t.size = m := by rw [HTX.out, strOfNums_size, List.length_map, hm]
  subst hv
  clear ht hB hs hpos hA hc hm hgood
  have hb0 := Below.refl w.heap.size w
  go_enter Tryd.func10, Tryd.ntmps10
  go_wp2_with fail
  refine (parse_good s n HN.out _ (by omega) HT.out HG.out).mono ?_
  rintro e w1 ⟨g, rfl, hb1, hvs, hcs⟩
  have HVS := Lib.hid hvs
  clear hvs hcs hb0
  go_wp2_with fail
  go_loop [7, 8] (fun x i => ∃ k : Nat, k ≤ n ∧ i = .int .i64 k ∧ x = .int .i64 0) (fun _ i => n - (intOf i).toNat)
  case atStart => exact ⟨0, Nat.zero_le _, rfl, rfl⟩
  case round =>
    obtain ⟨k, hk, rfl, rfl⟩ := hrel
    by_cases hlt : k < n
    · have hks : k < s.size := by rw [HN.out]; exact hlt
      have hv := HG.out k hlt
      rw [← chr_at s k hks] at hv
      rcases chr_ways ((s[k]'hks).toNat : Int) with ⟨c1, c2⟩ | ⟨c1, c2, c3⟩ | ⟨c1, c2, c3, c4⟩ | ⟨c1, c2, c3, c4, c5⟩ | ⟨c1, c2, c3, c4, c5⟩
      all_goals first
        | (rw [c5] at hv; cases hv; done)
        | (clear hv
           go_wp2
           go_round
           case rel => exact ⟨k + 1, by omega, by go_num, rfl⟩
           case measure => simp [intOf]; omega)
    · obtain rfl : n = k := by omega
      go_wp2_with fail
      refine (text_any (Nat.le_refl _) HVS.out (by rw [vals_len]; omega) (fun k hk => by rw [vals_get s n k (by rw [vals_len] at hk; exact hk)]; unfold vof; repeat (first | omega | split)) (HT.out.below hb1)).mono ?_
      rintro e w2 ⟨rfl, hb2⟩
      rw [show strOfNums ((vals s n).map tch) = s by rw [← HN.out]; exact HTB.out]
      have hb2 := join hb1 hb2
      clear hb1
      go_wp2_with fail
      refine (text_any (Nat.le_trans HB.out hb2.size) (HS.out.below (hb2.mono HB.out)) (by rw [← HM.out]; omega) HP.out (HT.out.below hb2)).mono ?_
      rintro e w3 ⟨rfl, hb3⟩
      rw [← HTX.out]
      have hb3 := join hb2 hb3
      clear hb2
      go_wp2_with fail
      refine (parse_good t m hts _ (by omega) (HT.out.below hb3) (fun k hk => by rw [HTX.out, chr_text l HP.out k (by rw [← HM.out]; exact hk)]; exact (vof_tch (HP.out k (by rw [← HM.out]; exact hk))).2.1)).mono ?_
      rintro e w4 ⟨g2, rfl, hb4, -, hcs⟩
      have HCS := Lib.hid hcs
      have hb4 := join hb3 hb4
      clear hb3 hcs
      go_wp2_with fail
      have HW4 := Lib.hid hb4
      clear hb4
      go_loopw [12] (fun i wr => ∃ k : Nat, k ≤ m ∧ i = .int .i64 k ∧ wr.heap = w4.heap ∧ Below w.heap.size w wr) (fun i _ => m - (intOf i).toNat)
      case atStart => exact ⟨0, Nat.zero_le _, rfl, rfl, HW4.out⟩
      case round =>
        clear HW4
        obtain ⟨k, hk, rfl, hh, hb⟩ := hrel
        have HH := Lib.hid hh
        have HBW := Lib.hid hb
        clear hh hb
        by_cases hlt : k < m
        · obtain rfl := HA.out (by omega)
          have hcu : wr.cell? ⟨g2, k, none⟩ = some (.int .u8 (cln (l.getD k 0))) := by
            rw [show wr.cell? ⟨g2, k, none⟩ = w4.cell? ⟨g2, k, none⟩ from World.cell?_of_block (w := w4) (by rw [HH.out]), HCS.out k hlt, HTX.out, chr_text l HP.out k (by rw [← HM.out]; exact hlt), (vof_tch (HP.out k (by rw [← HM.out]; exact hlt))).1]
          have hcl : wr.cell? ⟨b, o + k, none⟩ = some (.int .u8 (l.getD k 0)) :=
            (HBW.out.cell (p := ⟨b, o + k, none⟩) (Nat.lt_of_lt_of_le (HC.out k hlt).1 HB.out)).trans (HC.out k hlt).2
          obtain ⟨x, HX⟩ := named (l.getD k 0)
          rw [← HX.out] at hcu hcl
          go_wp2
          go_quiet ((go_at_call 25; exact Calls.quiet_of_same ((clean_any _ _).mono fun _ _ h => ⟨h.1, h.2.symm⟩)))
          go_wp2
          go_roundw
          case rel => exact ⟨k + 1, by omega, by go_num, HH.out, below_drewN HBW.out _⟩
          case measure => simp [intOf]; omega
        · obtain rfl : m = k := by omega
          have hbw := HBW.out
          go_wp2_with (go_at_call 11; (with_reducible refine (lives_at HT.out hbw).mono ?_); rintro e w' ⟨rfl, hb⟩)
          go_ret
          exact ⟨rfl, by assumption⟩

set_option maxHeartbeats 1000000 in
set_option maxRecDepth 100000 in
theorem texts_bad (s : ByteArray) (l : List Int) (v : Value) (w : World) (B : Nat) (hB : B ≤ w.heap.size) (hs : Vs w B v l) (hpos : ∀ k, k < l.length → 0 ≤ l.getD k 0) (ht : Tabs w)
    (A : Option Addr) (n m c b o : Nat) (hv : v = .slice A m c) (hA : 0 < m → A = some ⟨b, o, none⟩) (hc : ∀ k, k < m → b < B ∧ w.cell? ⟨b, o + k, none⟩ = some (.int .u8 (l.getD k 0)))
    (hn : s.size = n) (hm : m = l.length) (h1 : n ≤ 300) (h2 : m ≤ 300) (hbad : ∃ k, k < n ∧ isv (chr s k) = false) :
    Calls Tryd.prog 10 #[.string s, v] w fun e w' => e = .returned (.bool true) ∧ Below w.heap.size w w' := by
  have HT := Lib.hid ht
  have HB := Lib.hid hB
  have HS := Lib.hid hs
  have HP := Lib.hid hpos
  have HA := Lib.hid hA
  have HC := Lib.hid hc
  have HM := Lib.hid hm
  have HG := Lib.hid hbad
  have HN := Lib.hid hn
  obtain ⟨t, HTX⟩ := named (strOfNums (l.map tch))
  have hts : t.size = m := by rw [HTX.out, strOfNums_size, List.length_map, hm]
  subst hv
  clear ht hB hs hpos hA hc hm hbad
  have hb0 := Below.refl w.heap.size w
  go_enter Tryd.func10, Tryd.ntmps10
  go_wp2_with fail
  refine (parse_bad s _ (by omega) HT.out (by rw [HN.out]; exact HG.out)).mono ?_
  rintro e w1 ⟨rfl, hb1⟩
  clear hb0
  go_wp2_with fail
  go_loop [7, 8] (fun x i => ∃ k : Nat, k ≤ n ∧ i = .int .i64 k ∧ x = .int .i64 (wnt s k)) (fun _ i => n - (intOf i).toNat)
  case atStart => exact ⟨0, Nat.zero_le _, rfl, rfl⟩
  case round =>
    obtain ⟨k, hk, rfl, rfl⟩ := hrel
    by_cases hlt : k < n
    · have hks : k < s.size := by rw [HN.out]; exact hlt
      have HK := Lib.hid (chr_at s k hks)
      have HW : Hid (wnt s (k + 1) = if isv (chr s k) = true then wnt s k else 4) := Lib.hid rfl
      rcases chr_ways ((s[k]'hks).toNat : Int) with ⟨c1, c2⟩ | ⟨c1, c2, c3⟩ | ⟨c1, c2, c3, c4⟩ | ⟨c1, c2, c3, c4, c5⟩ | ⟨c1, c2, c3, c4, c5⟩
      · have HV := Lib.hid c2
        clear c2
        go_wp2
        go_round
        case rel => exact ⟨k + 1, by omega, by go_num, by rw [HW.out, if_pos (by rw [← HK.out]; exact HV.out)]⟩
        case measure => simp [intOf]; omega
      · have HV := Lib.hid c3
        clear c3
        go_wp2
        go_round
        case rel => exact ⟨k + 1, by omega, by go_num, by rw [HW.out, if_pos (by rw [← HK.out]; exact HV.out)]⟩
        case measure => simp [intOf]; omega
      · have HV := Lib.hid c4
        clear c4
        go_wp2
        go_round
        case rel => exact ⟨k + 1, by omega, by go_num, by rw [HW.out, if_pos (by rw [← HK.out]; exact HV.out)]⟩
        case measure => simp [intOf]; omega
      · have HV := Lib.hid c5
        clear c5
        go_wp2
        go_round
        case rel => exact ⟨k + 1, by omega, by go_num, by rw [HW.out, if_pos (by rw [← HK.out]; exact HV.out)]⟩
        case measure => simp [intOf]; omega
      · have HV := Lib.hid c5
        clear c5
        go_wp2
        go_round
        case rel => exact ⟨k + 1, by omega, by go_num, by rw [HW.out, if_neg (by rw [← HK.out, HV.out]; decide)]⟩
        case measure => simp [intOf]; omega
    · obtain rfl : n = k := by omega
      have hw4 : wnt s n = 4 := wnt_bad s n HG.out
      go_wp2_with fail
      refine (text_any (Nat.le_trans HB.out hb1.size) (HS.out.below (hb1.mono HB.out)) (by rw [← HM.out]; omega) HP.out (HT.out.below hb1)).mono ?_
      rintro e w3 ⟨rfl, hb3⟩
      rw [← HTX.out]
      have hb3 := join hb1 hb3
      clear hb1
      go_wp2_with fail
      refine (parse_good t m hts _ (by omega) (HT.out.below hb3) (fun k hk => by rw [HTX.out, chr_text l HP.out k (by rw [← HM.out]; exact hk)]; exact (vof_tch (HP.out k (by rw [← HM.out]; exact hk))).2.1)).mono ?_
      rintro e w4 ⟨g2, rfl, hb4, -, hcs⟩
      have HCS := Lib.hid hcs
      have hb4 := join hb3 hb4
      clear hb3 hcs
      go_wp2_with fail
      have HW4 := Lib.hid hb4
      clear hb4
      go_loopw [12] (fun i wr => ∃ k : Nat, k ≤ m ∧ i = .int .i64 k ∧ wr.heap = w4.heap ∧ Below w.heap.size w wr) (fun i _ => m - (intOf i).toNat)
      case atStart => exact ⟨0, Nat.zero_le _, rfl, rfl, HW4.out⟩
      case round =>
        clear HW4
        obtain ⟨k, hk, rfl, hh, hb⟩ := hrel
        have HH := Lib.hid hh
        have HBW := Lib.hid hb
        clear hh hb
        by_cases hlt : k < m
        · obtain rfl := HA.out (by omega)
          have hcu : wr.cell? ⟨g2, k, none⟩ = some (.int .u8 (cln (l.getD k 0))) := by
            rw [show wr.cell? ⟨g2, k, none⟩ = w4.cell? ⟨g2, k, none⟩ from World.cell?_of_block (w := w4) (by rw [HH.out]), HCS.out k hlt, HTX.out, chr_text l HP.out k (by rw [← HM.out]; exact hlt), (vof_tch (HP.out k (by rw [← HM.out]; exact hlt))).1]
          have hcl : wr.cell? ⟨b, o + k, none⟩ = some (.int .u8 (l.getD k 0)) :=
            (HBW.out.cell (p := ⟨b, o + k, none⟩) (Nat.lt_of_lt_of_le (HC.out k hlt).1 HB.out)).trans (HC.out k hlt).2
          obtain ⟨x, HX⟩ := named (l.getD k 0)
          rw [← HX.out] at hcu hcl
          go_wp2
          go_quiet ((go_at_call 25; exact Calls.quiet_of_same ((clean_any _ _).mono fun _ _ h => ⟨h.1, h.2.symm⟩)))
          go_wp2
          go_roundw
          case rel => exact ⟨k + 1, by omega, by go_num, HH.out, below_drewN HBW.out _⟩
          case measure => simp [intOf]; omega
        · obtain rfl : m = k := by omega
          have hbw := HBW.out
          go_wp2_with (go_at_call 11; (with_reducible refine (lives_at HT.out hbw).mono ?_); rintro e w' ⟨rfl, hb⟩)
          go_ret
          exact ⟨rfl, by assumption⟩

theorem texts_any (s : ByteArray) (l : List Int) (v : Value) (w : World) (B : Nat) (hB : B ≤ w.heap.size) (hs : Vs w B v l) (hpos : ∀ k, k < l.length → 0 ≤ l.getD k 0) (ht : Tabs w)
    (A : Option Addr) (c b o : Nat) (hv : v = .slice A l.length c) (hA : 0 < l.length → A = some ⟨b, o, none⟩) (hc : ∀ k, k < l.length → b < B ∧ w.cell? ⟨b, o + k, none⟩ = some (.int .u8 (l.getD k 0))) :
    Calls Tryd.prog 10 #[.string s, v] w fun e w' => e = .returned (.bool true) ∧ Below w.heap.size w w' := by
  by_cases h1 : 300 < s.size
  · subst hv; exact texts_long s A _ c w ht (.inl h1)
  by_cases h2 : 300 < l.length
  · subst hv; exact texts_long s A _ c w ht (.inr ⟨h1, h2⟩)
  by_cases h : ∀ k, k < s.size → isv (chr s k) = true
  · exact texts_good s l v w B hB hs hpos ht A s.size l.length c b o hv hA hc rfl rfl (by omega) (by omega) h
  · refine texts_bad s l v w B hB hs hpos ht A s.size l.length c b o hv hA hc rfl rfl (by omega) (by omega) ?_
    rcases Classical.not_forall.1 h with ⟨k, hk⟩
    rcases Classical.not_imp.1 hk with ⟨hk, hb⟩
    exact ⟨k, hk, by simpa using hb⟩

end Go.Proofs.YtdanmepbdjfpfaaDoor
