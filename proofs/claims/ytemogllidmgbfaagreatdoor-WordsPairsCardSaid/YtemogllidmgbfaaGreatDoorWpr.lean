/- WordsPairs: the walk. -/
import Derived.Test.YtemogllidmgbfaaGreatDoorM40
import Derived.Test.YtemogllidmgbfaaGreatDoorWpe
import Derived.Test.YtemogllidmgbfaaGreatDoorWpp
import Derived.StillTailTactics
namespace Go.Proofs.YtemogllidmgbfaaGreatDoor
open Go.RowKit

def PrAt (w : World) (_B b p : Nat) (x : Int × Int) : Prop := w.cell? ⟨b, p, none⟩ = some (.int .u8 x.1) ∧ w.cell? ⟨b, p + 1, none⟩ = some (.int .u8 x.2) ∧ (0 ≤ x.1 ∧ x.1 ≤ 255) ∧ (0 ≤ x.2 ∧ x.2 ≤ 255)
/-- The slice value v reads as the list l of pairs of bytes. -/
def Prs7 (w : World) (B : Nat) (v : Value) (l : List (Int × Int)) : Prop := Arr (0, 0) 2 PrAt w B v l
theorem Prs7.pl {w : World} {B : Nat} {v : Value} {l : List (Int × Int)} (h : Prs7 w B v l) : Pl w B v l := by
  obtain ⟨A, b, o, c, rfl, hA, hle, hm, hc⟩ := h
  refine ⟨b, o, c, ?_, hm, fun k hk => ⟨(hc k hk).1, (hc k hk).2.1, (hc k hk).2.2.1⟩⟩
  by_cases h0 : 0 < l.length
  · rw [hA h0]; exact .inl rfl
  · have : l = [] := List.eq_nil_of_length_eq_zero (by omega)
    subst this
    exact .inr ⟨rfl, A, rfl⟩
theorem Prs7.pos {w : World} {B : Nat} {v : Value} {l : List (Int × Int)} (h : Prs7 w B v l) : ∀ x ∈ l, 0 ≤ x.1 ∧ 0 ≤ x.2 := fun x hx => by
  obtain ⟨A, b, o, c, e, hA, hle, hm, hc⟩ := h
  obtain ⟨k, hk, rfl⟩ := List.mem_iff_getElem.1 hx
  have := (hc k hk).2
  rw [List.getD_eq_getElem?_getD, List.getElem?_eq_getElem hk] at this
  exact ⟨this.2.2.1.1, this.2.2.2.1⟩
theorem pack_two (x y : Int) (hx : 0 ≤ x) (hy : 0 ≤ y) (w : World) (hf : Ft w) : Calls Tryz.prog 19 #[.slice (some ⟨w.heap.size, 0, none⟩) 2 2] (w.alloc (.cells #[.int .u8 x, .int .u8 y] 30)).drew fun e w' => e = .returned (.agg #[.int .u64 ((pw (x, y)).1 : Int), .int .u64 ((pw (x, y)).2 : Int)]) ∧ BelW w w' := by
  have hb : BelW w (w.alloc (.cells #[.int .u8 x, .int .u8 y] 30)).drew := BelW.drew (below_new (Below.refl _ _) _)
  have hk : Ks (w.alloc (.cells #[.int .u8 x, .int .u8 y] 30)).drew (w.alloc (.cells #[.int .u8 x, .int .u8 y] 30)).drew.heap.size (.slice (some ⟨w.heap.size, 0, none⟩) 2 2) [x, y] :=
    Arr.keep stays_u8 (ks_new w [x, y] 30 (by unfold maxLen; simp)) (Nat.le_refl _) fun _ _ => rfl
  refine (pack_any [x, y] _ 2 2 _ _ (Nat.le_refl _) (hf.below hb) hk (fun z hz => by
    simp only [List.mem_cons, List.not_mem_nil, or_false] at hz
    rcases hz with rfl | rfl
    · exact hx
    · exact hy)).mono fun e w' ⟨h1, h2⟩ => ⟨h1, joinB hb h2⟩
theorem step_ownW {P : Program} {ops : Array Oper} {o : Oper} {a : Act} {w : World} {K : Act → World → Prop} {Q : Exit → Act → World → Prop} {E : Prop} (hgd : o.guard = none) (s x : Operand) (t : TypeId)
    (ho : o.op = .call { callee := .builtin .append, args := #[s, x], argTypes := #[t, t] })
    (base : Nat) (e : TypeId) (i : TypeInfo) (z : Value) (ht : P.underlying t = some (.slice e)) (hi : P.info? e = some i) (hz : i.zero = some z) (hsize : i.size = 2) (hby : i.bytes = 16) (hzs : z.cells.size = 2)
    (v : Value) (n : Nat) (xs : List Value) (hs : a.eval s = v) (hown : w.ownsRow base e 2 v n xs) (ad : Addr) (m c : Nat) (news : List Value) (hx : a.eval x = .slice (some ad) m c)
    (hl : news.length = m * 2) (hnews : ∀ j u, news[j]? = some u → w.cell? (ad.add j) = some u) (h1 : ∀ u ∈ news, u.oneCell' = true) (hnm : n + m ≤ 1000) (hbase : base ≤ w.heap.size)
    (h : ∀ v' w', w'.ownsRow base e 2 v' (n + m) (xs ++ news) → w.grownBy w' v.ownBlock → K (a.put o.dst v') w') :
    if Region.wanted o (yielded ops a.tmps) = true then Oper.wp P o a w K Q else E := by
  have hw : Region.wanted o (yielded ops a.tmps) = true := by simp [Region.wanted, hgd]
  rw [if_pos hw]
  exact wp_append_own w s x t ho base e i z 2 16 ht hi hz hsize hby hzs (by decide) v n xs hs hown ad m c news hx hl hnews h1 (by unfold maxLen; omega) (by omega) hbase fun v' w' h2 h3 _ => h v' w' h2 h3
theorem two_one {x y : Nat} : ∀ u ∈ [Value.int .u64 (x : Int), .int .u64 (y : Int)], u.oneCell' = true := fun q hq => by
  simp only [List.mem_cons, List.not_mem_nil, or_false] at hq
  rcases hq with rfl | rfl <;> rfl
set_option maxRecDepth 100000 in
set_option maxHeartbeats 4000000 in
theorem wpair_law (kd : Int) (hkd : 0 ≤ kd) (l : List (Int × Int)) (A : Option Addr) (n cl : Nat) (w : World) (hT : Lg.Tabs w) (hf : Ft w) (hs : Prs7 w w.heap.size (.slice A n cl) l) :
    Calls Tryz.prog 6 #[.int .u8 kd, .slice A n cl] w fun e w' => e = .returned (.bool true) ∧ Below w.heap.size w w' := by
  have hpl := hs.pl
  have hpos := hs.pos
  obtain ⟨A', b, o, c', e, hA, hle, hm, hc⟩ := id hs
  simp only [Value.slice.injEq] at e
  obtain ⟨rfl, hnl, rfl⟩ := e
  rw [← hnl] at hA hc hm
  unfold maxLen at hm
  have HLV : Hid (∀ W, BelW w W → Calls Tryz.prog 7 #[] W fun e w' => e = .returned (.bool true) ∧ BelW W w') := Lib.hid fun W h => lives7_any W (hT.below h) (hf.below h)
  have HA := Lib.hid hA
  have HC : Hid (∀ W, BelW w W → ∀ k, k < n → W.cell? ⟨b, o + k * 2, none⟩ = some (.int .u8 (l.getD k (0, 0)).1) ∧ W.cell? ⟨b, o + k * 2 + 1, none⟩ = some (.int .u8 (l.getD k (0, 0)).2)) := Lib.hid fun W h k hk =>
    ⟨(Below.cell h (p := ⟨b, o + k * 2, none⟩) (hc k hk).1).trans (hc k hk).2.1, (Below.cell h (p := ⟨b, o + k * 2 + 1, none⟩) (hc k hk).1).trans (hc k hk).2.2.1⟩
  have HPK : Hid (∀ W k, BelW w W → k < n → Calls Tryz.prog 19 #[.slice (some ⟨W.heap.size, 0, none⟩) 2 2] (W.alloc (.cells #[.int .u8 (l.getD k (0, 0)).1, .int .u8 (l.getD k (0, 0)).2] 30)).drew fun e w' => e = .returned (.agg #[.int .u64 ((pw (l.getD k (0, 0))).1 : Int), .int .u64 ((pw (l.getD k (0, 0))).2 : Int)]) ∧ BelW W w') := Lib.hid fun W k h hk => pack_two _ _ (hc k hk).2.2.2.1.1 (hc k hk).2.2.2.2.1 W (hf.below h)
  have HSN : Hid (∀ k, k < n → (l.take (k + 1)).map pw = (l.take k).map pw ++ [pw (l.getD k (0, 0))]) := Lib.hid fun k hk => by rw [snocT (d := (0, 0)) (by omega), List.map_append]; rfl
  have hfull : l.take n = l := by rw [hnl, List.take_of_length_le (Nat.le_refl _)]
  have HPE : Hid (n ≤ 20 → ∀ W, BelW w W → Calls Tryz.prog 20 #[.int .u8 kd, .slice A n cl] W fun e w' => e = .returned (.agg #[.int .u8 (evP1 kd l), .int .u8 (evP2 kd l)]) ∧ BelW W w') := Lib.hid fun h20 W h => evalP_any kd hkd (Below.size h) (hpl.below h) (by omega) (hT.below h)
  have HWE : Hid (∀ W mo, BelW w W → W.ownsRow w.heap.size 27 2 mo n (flatW ((l.take n).map pw)) → Calls Tryz.prog 8 #[.int .u8 kd, mo] W fun e w' => e = .returned (.agg #[.int .u64 ((evW kd (l.map pw)).1 : Int), .int .u64 ((evW kd (l.map pw)).2 : Int)]) ∧ BelW W w') := Lib.hid fun W mo h ho => by
    rw [hfull] at ho
    obtain ⟨A2, c2, rfl, hwd⟩ := wd_own ho (by rw [List.length_map, hnl]) (pws_w l)
    exact weval_any kd hkd _ A2 n c2 W W.heap.size (Nat.le_refl _) (hT.below h) (hf.below h) hwd
  have hew := evW_w (pws_w l) kd
  have hev := pws_ev hpos kd
  have HA0 : Hid (∀ W, BelW w W → Calls Tryz.prog 21 #[.agg #[.int .u64 ((evW kd (l.map pw)).1 : Int), .int .u64 ((evW kd (l.map pw)).2 : Int)], .int .i64 0] W fun e w' => e = .returned (.int .u8 (evP1 kd l)) ∧ BelW W w') := Lib.hid fun W h => by
    have := wat_any _ _ 0 hew.1 hew.2 (by decide) W (hf.below h)
    rw [hev.1] at this
    exact this
  have HA1 : Hid (∀ W, BelW w W → Calls Tryz.prog 21 #[.agg #[.int .u64 ((evW kd (l.map pw)).1 : Int), .int .u64 ((evW kd (l.map pw)).2 : Int)], .int .i64 1] W fun e w' => e = .returned (.int .u8 (evP2 kd l)) ∧ BelW W w') := Lib.hid fun W h => by
    have := wat_any _ _ 1 hew.1 hew.2 (by decide) W (hf.below h)
    rw [hev.2] at this
    exact this
  obtain ⟨p1, HP1⟩ := named (evW kd (l.map pw)).1
  obtain ⟨p2, HP2⟩ := named (evW kd (l.map pw)).2
  rw [← HP1.out, ← HP2.out] at HWE HA0 HA1
  obtain ⟨y1, HY1⟩ := named (evP1 kd l)
  obtain ⟨y2, HY2⟩ := named (evP2 kd l)
  rw [← HY1.out] at HPE HA0
  rw [← HY2.out] at HPE HA1
  obtain ⟨i0, hi0, hz0, hz1, hz2⟩ := info_parts info_word
  have HI := Lib.hid (And.intro hi0 (And.intro hz0 (And.intro hz1 hz2)))
  have hs0 : BelW w w := Below.refl _ _
  clear hi0 hz0 hz1 hz2 hs hA hc hpl hpos hfull hew hev hnl hT hf
  by_cases hn : 20 < n
  · have hn2 : (20 : Int) < (n : Int) := by omega
    go_enter Tryz.func6, Tryz.ntmps6
    go_wp2_with (go_at_call 7; (with_reducible refine (HLV.out _ hs0).mono ?_); rintro e w2 ⟨rfl, hb⟩; have HB := Lib.hid hb; clear hb)
    go_ret
    exact ⟨rfl, HB.out⟩
  have hn2 : ¬ (20 : Int) < (n : Int) := by omega
  have HPE2 := Lib.hid (HPE.out (by omega))
  clear HPE
  go_enter Tryz.func6, Tryz.ntmps6
  go_wp2
  go_loopw [5, 6] (fun mo i wr => BelW w wr ∧ ∃ k : Nat, k ≤ n ∧ i = .int .i64 k ∧ wr.ownsRow w.heap.size 27 2 mo k (flatW ((l.take k).map pw))) (fun _ i _ => n - (intOf i).toNat)
  case atStart => exact ⟨hs0, 0, Nat.zero_le _, rfl, World.ownsRow_nil _ _ _ _⟩
  case round =>
    obtain ⟨hbr, k, hk, rfl, hown⟩ := hrel
    have HBR := Lib.hid hbr
    have HO := Lib.hid hown
    clear hown
    by_cases hlt : k < n
    · obtain rfl := HA.out (by omega)
      obtain ⟨f0, f1⟩ := HC.out wr hbr k hlt
      have HPX := Lib.hid (fun W h => HPK.out W k h hlt)
      have HSK := Lib.hid (HSN.out k hlt)
      obtain ⟨z, HZ⟩ := named (pw (l.getD k (0, 0)))
      rw [← HZ.out] at HPX HSK
      obtain ⟨u, HU⟩ := named (l.getD k (0, 0)).1
      obtain ⟨v, HV⟩ := named (l.getD k (0, 0)).2
      rw [← HU.out, ← HV.out] at HPX
      rw [← HU.out] at f0
      rw [← HV.out] at f1
      obtain ⟨z1, HZ1⟩ := named z.1
      obtain ⟨z2, HZ2⟩ := named z.2
      rw [← HZ1.out, ← HZ2.out] at HPX
      have hk2 : (k : Int) < (n : Int) := by omega
      have HKE : Hid (∀ w', BelW w w' → BelW w w' ∧ w'.cell? ⟨b, o + k * 2, none⟩ = some (.int .u8 u) ∧ w'.cell? ⟨b, o + k * 2 + 1, none⟩ = some (.int .u8 v)) := Lib.hid fun w' h => by
        obtain ⟨g0, g1⟩ := HC.out w' h k hlt
        exact ⟨h, by rw [HU.out]; exact g0, by rw [HV.out]; exact g1⟩
      have hk9 : k + 1 ≤ 1000 := by omega
      go_wp2
      go_region_held3 (fun w' => BelW w w' ∧ w'.cell? ⟨b, o + k * 2, none⟩ = some (.int .u8 u) ∧ w'.cell? ⟨b, o + k * 2 + 1, none⟩ = some (.int .u8 v))
        ((refine HKE.out _ ?_; (repeat (first | (with_reducible assumption) | (with_reducible refine BelW.drew ?_) | (with_reducible refine BelW.alloc ?_ _))); done))
        (first
          | (refine step_ownW rfl (.tmp 19) (.tmp 32) 23 rfl w.heap.size 27 i0 (.agg #[.int .u64 0, .int .u64 0]) Tryz.underlying23 HI.out.1 HI.out.2.1 HI.out.2.2.1 HI.out.2.2.2 rfl _ k _ rfl (ho1.alloc _) ⟨w1.heap.size, 0, none⟩ 1 1 [.int .u64 (z1 : Int), .int .u64 (z2 : Int)] rfl rfl (two_cells _ _ _ _) two_one hk9 (Below.size (hs1.alloc _)) ?_
             intro mo' w3 hown' hgrow
             have hs3 : BelW w w3 := bel_own (ho1.alloc _) (hs1.alloc _) hgrow)
          | (go_at_call 19; (with_reducible refine Calls.mono (HPX.out _ ?_) ?_); · (repeat (first | (with_reducible assumption) | (with_reducible refine BelW.drew ?_) | (with_reducible refine BelW.alloc ?_ _)))
             rintro e w1 ⟨rfl, hb1⟩
             have ho1 := own_bel HO.out hb1
             have hs1 : BelW w w1 := BelW.next hbr hb1))
      have HO3 : Hid (w3.ownsRow w.heap.size 27 2 mo' (k + 1) (flatW ((l.take (k + 1)).map pw))) := Lib.hid (by
        rw [HSK.out, ← flatW_app, ← HZ1.out, ← HZ2.out]; exact hown')
      have HS3 := Lib.hid hs3
      clear hown' hgrow hs3 hs1 ho1 hb1
      go_wp2
      go_roundw
      case rel => exact ⟨HS3.out, k + 1, by omega, by go_num, HO3.out⟩
      case measure => simp [intOf]; omega
    · obtain rfl : n = k := by omega
      have HWX := Lib.hid (fun W (h : BelW wr W) => HWE.out W _ (HBR.out.trans h) (own_bel HO.out h))
      go_upto_region 9 with (go_at_call 20; (with_reducible refine (HPE2.out _ hbr).mono ?_); rintro e w4 ⟨rfl, hb⟩; have hb4 : BelW wr w4 := hb; clear hb)
      obtain ⟨V4, HV4⟩ := named (w4.alloc (.cells #[.int .u8 y1, .int .u8 y2] 72))
      have hn4 : BelW w4 V4 := by rw [HV4.out]; exact below_new (Below.refl _ _) _
      have hf4 : Fr V4 w4.heap.size 72 [.int .u8 y1, .int .u8 y2] := by rw [HV4.out]; exact Fr.made _ _ _ rfl
      obtain ⟨q1, HQ1⟩ := named w4.heap.size
      rw [← HQ1.out] at hf4
      rw [← HV4.out, ← HQ1.out]
      have hb5 : BelW wr V4 := hb4.trans hn4
      have HF4 := Lib.hid hf4
      have HB5 := Lib.hid hb5
      clear hn4 hf4 hb4
      go_upto_region 10 with (go_at_call 8; (with_reducible refine (HWX.out _ hb5).mono ?_); rintro e w6 ⟨rfl, hb⟩; have hb6 : BelW V4 w6 := hb; clear hb)
      obtain ⟨V6, HV6⟩ := named (w6.alloc (.cells #[.int .u64 (p1 : Int), .int .u64 (p2 : Int)] 27))
      have hn6 : BelW w6 V6 := by rw [HV6.out]; exact below_new (Below.refl _ _) _
      have hf6 : Fr V6 w6.heap.size 27 [.int .u64 (p1 : Int), .int .u64 (p2 : Int)] := by rw [HV6.out]; exact Fr.made _ _ _ rfl
      have hf4' := HF4.out.below (hb6.trans hn6)
      obtain ⟨q2, HQ2⟩ := named w6.heap.size
      rw [← HQ2.out] at hf6
      rw [← HV6.out, ← HQ2.out]
      have HS6 : Hid (BelW w V6) := Lib.hid (HBR.out.trans (HB5.out.trans (hb6.trans hn6)))
      have HKE : Hid (∀ w', BelW V6 w' → BelW V6 w' ∧ w'.cell? ⟨q1, 0, none⟩ = some (.int .u8 y1) ∧ w'.cell? ⟨q1, 1, none⟩ = some (.int .u8 y2) ∧ w'.cell? ⟨q2, 0, none⟩ = some (.int .u64 (p1 : Int)) ∧ w'.cell? ⟨q2, 1, none⟩ = some (.int .u64 (p2 : Int))) := Lib.hid fun w' h => ⟨h, (hf4'.below h).cell 0, (hf4'.below h).cell 1, (hf6.below h).cell 0, (hf6.below h).cell 1⟩
      have HX0 : Hid (∀ W, BelW V6 W → Calls Tryz.prog 21 #[.agg #[.int .u64 (p1 : Int), .int .u64 (p2 : Int)], .int .i64 0] W fun e w' => e = .returned (.int .u8 y1) ∧ BelW W w') := Lib.hid fun W h => HA0.out W (HS6.out.trans h)
      have HX1 : Hid (∀ W, BelW V6 W → Calls Tryz.prog 21 #[.agg #[.int .u64 (p1 : Int), .int .u64 (p2 : Int)], .int .i64 1] W fun e w' => e = .returned (.int .u8 y2) ∧ BelW W w') := Lib.hid fun W h => HA1.out W (HS6.out.trans h)
      have HX2 : Hid (∀ W, BelW V6 W → Calls Tryz.prog 7 #[] W fun e w' => e = .returned (.bool true) ∧ BelW W w') := Lib.hid fun W h => HLV.out W (HS6.out.trans h)
      have hs6 : BelW V6 V6 := Below.refl _ _
      obtain ⟨-, g0, g1, g2, g3⟩ := HKE.out V6 hs6
      clear hn6 hf6 hf4' hb6 hb5
      go_region_held3 (fun w' => BelW V6 w' ∧ w'.cell? ⟨q1, 0, none⟩ = some (.int .u8 y1) ∧ w'.cell? ⟨q1, 1, none⟩ = some (.int .u8 y2) ∧ w'.cell? ⟨q2, 0, none⟩ = some (.int .u64 (p1 : Int)) ∧ w'.cell? ⟨q2, 1, none⟩ = some (.int .u64 (p2 : Int)))
        ((refine HKE.out _ ?_; first | (with_reducible assumption) | (refine BelW.drew ?_; with_reducible assumption)))
        (first
          | (go_at_call 21; (with_reducible refine Calls.mono (HX0.out _ ?_) ?_); · (first | (with_reducible assumption) | (refine BelW.drew ?_; with_reducible assumption))
             rintro e wA ⟨rfl, hbA⟩
             have hsA : BelW V6 wA := (by refine BelW.next ?_ hbA; first | (with_reducible assumption) | (refine BelW.drew ?_; with_reducible assumption)))
          | (go_at_call 21; (with_reducible refine Calls.mono (HX1.out _ hsA) ?_)
             rintro e wB ⟨rfl, hbB⟩
             have hsB : BelW V6 wB := hsA.trans hbB)
          | (go_at_call 7; (with_reducible refine Calls.mono (HX2.out _ hsB) ?_)
             rintro e wC ⟨rfl, hbC⟩
             have hsC : BelW V6 wC := hsB.trans hbC))
      go_wp2
      go_ret
      exact ⟨rfl, HS6.out.trans hsC⟩
end Go.Proofs.YtemogllidmgbfaaGreatDoor
