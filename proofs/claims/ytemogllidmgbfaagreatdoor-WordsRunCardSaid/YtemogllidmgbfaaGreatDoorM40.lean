/- The texts Wun Lq7. -/
import Derived.Test.YtemogllidmgbfaaGreatDoorM20
import Derived.Test.YtemogllidmgbfaaGreatDoorM16
import Derived.Deep.DeepCutAuto
import Derived.Test.YtemogllidmgbfaaGreatDoorM18
import Derived.Test.YtemogllidmgbfaaGreatDoorM37
import Derived.Test.YtemogllidmgbfaaGreatDoorM39
namespace Go.Proofs.YtemogllidmgbfaaGreatDoor
open Go.RowKit

/-- The first k of m values unpacked. -/
def unp (a b m k : Nat) : List Int := (List.range m).map fun i => if i < k then lnV a b i else 0
theorem unp_len (a b m k : Nat) : (unp a b m k).length = m := by simp [unp]
theorem unp_zero (a b m : Nat) : unp a b m 0 = List.replicate m 0 := by
  apply List.ext_getElem?
  intro i
  by_cases h : i < m
  · simp [unp, h]
  · rw [List.getElem?_eq_none (by rw [unp_len]; omega), List.getElem?_eq_none (by simp; omega)]
theorem unp_succ {a b m k : Nat} (hk : k < m) : unp a b m (k + 1) = (unp a b m k).set k (lnV a b k) := by
  apply List.ext_getElem?
  intro i
  rw [List.getElem?_set, unp_len]
  by_cases h : i < m
  · by_cases e : k = i
    · subst e; simp [unp, h]
    · rw [if_neg e]
      have : (i < k + 1) = (i < k) := by rw [eq_iff_iff]; omega
      simp [unp, h, this]
  · rw [List.getElem?_eq_none (by rw [unp_len]; omega)]
    by_cases e : k = i
    · omega
    · rw [if_neg e, List.getElem?_eq_none (by rw [unp_len]; omega)]
theorem unp_all (a b m : Nat) : unp a b m m = (List.range m).map (lnV a b) := by
  unfold unp
  exact List.map_congr_left fun i hi => by rw [if_pos (List.mem_range.1 hi)]
set_option maxRecDepth 100000 in
set_option maxHeartbeats 4000000 in
theorem unpack_any (a b : Nat) (ha : W64 a) (hb : W64 b) (z : Int) (m : Nat) (hm : m ≤ 64) (hz : (z < 0 ∧ m = 0) ∨ z = (m : Int) ∨ (64 < z ∧ m = 64)) (w : World) (hf : Ft w) :
    Calls Tryz.prog 24 #[wv a b, .int .i64 z] w fun e w' => ∃ g, e = .returned (.slice (some ⟨g, 0, none⟩) m m) ∧ VRow w' g ((List.range m).map (lnV a b)) ∧ BelW w w' := by
  obtain ⟨W1, HW1⟩ := named (w.alloc (.cells #[.int .u64 (a : Int), .int .u64 (b : Int)] 27))
  have hb1 : BelW w W1 := by rw [HW1.out]; exact below_new (Below.refl _ _) _
  have hfp : Fr W1 w.heap.size 27 [.int .u64 (a : Int), .int .u64 (b : Int)] := by rw [HW1.out]; exact Fr.made _ _ _ rfl
  obtain ⟨q, HQ⟩ := named w.heap.size
  rw [← HQ.out] at hfp
  have HFP := Lib.hid hfp
  have HB1 := Lib.hid hb1
  have HAT : Hid (∀ W, BelW w W → ∀ k : Nat, k < 64 → Calls Tryz.prog 21 #[wv a b, .int .i64 (k : Int)] W fun e w' => e = .returned (.int .u8 (lnV a b k)) ∧ BelW W w') := Lib.hid fun W h k hk => wat_any a b k ha hb hk W (hf.below h)
  obtain ⟨i0, hi0, hz0, hz1, hz2⟩ := info_parts info_val
  have HI := Lib.hid (And.intro hi0 (And.intro hz0 (And.intro hz1 hz2)))
  clear hi0 hz0 hz1 hz2 hb1 hfp hf
  unfold wv at *
  go_enter Tryz.func24, Tryz.ntmps24
  go_upto_region 1 with (fail)
  rw [← HW1.out, ← HQ.out]
  go_cut [5] (fun s wx => ∃ g, s = .slice (some ⟨g, 0, none⟩) m m ∧ VRow wx g (List.replicate m 0) ∧ BelW W1 wx ∧ W1.heap.size ≤ g)
  case first =>
    rcases hz with ⟨h1, rfl⟩ | rfl | ⟨h1, rfl⟩
    · have h2 : ¬ 0 < z := by omega
      go_wp2_with (at_make; refine wpList_make_full _ rfl _ _ 29 rfl W1.heap.size 30 i0 (.int .u8 0) 1 Tryz.underlying29 HI.out.1 HI.out.2.1 HI.out.2.2.1 .i64 .i64 _ _ 0 rfl rfl rfl rfl (by rw [HI.out.2.2.2]; omega) (by unfold maxLen; omega) (Nat.le_refl _) ?_; intro w4 hown hgr)
      rw [show (Value.int .u8 0).cells = #[Value.int .u8 0] from rfl, Nat.mul_one, made_vals] at hown
      go_wp2
      go_meet
      case rel => exact ⟨W1.heap.size, rfl, VRow.of hown (by simp), (Below.refl _ _).grown hgr (Nat.le_refl _) (fun k h => by cases h), Nat.le_refl _⟩
    · have h2 : ¬ (64 : Int) < (m : Int) := by omega
      go_wp2_with (at_make; refine wpList_make_full _ rfl _ _ 29 rfl W1.heap.size 30 i0 (.int .u8 0) 1 Tryz.underlying29 HI.out.1 HI.out.2.1 HI.out.2.2.1 .i64 .i64 _ _ m rfl rfl rfl rfl (by rw [HI.out.2.2.2]; omega) (by unfold maxLen; omega) (Nat.le_refl _) ?_; intro w4 hown hgr)
      rw [show (Value.int .u8 0).cells = #[Value.int .u8 0] from rfl, Nat.mul_one, made_vals] at hown
      go_wp2
      go_meet
      case rel => exact ⟨W1.heap.size, rfl, VRow.of hown (by simp), (Below.refl _ _).grown hgr (Nat.le_refl _) (fun k h => by cases h), Nat.le_refl _⟩
    · have h2 : ¬ z < 64 := by omega
      have h3 : ¬ z < 0 := by omega
      go_wp2_with (at_make; refine wpList_make_full _ rfl _ _ 29 rfl W1.heap.size 30 i0 (.int .u8 0) 1 Tryz.underlying29 HI.out.1 HI.out.2.1 HI.out.2.2.1 .i64 .i64 _ _ 64 rfl rfl rfl rfl (by rw [HI.out.2.2.2]; omega) (by unfold maxLen; omega) (Nat.le_refl _) ?_; intro w4 hown hgr)
      rw [show (Value.int .u8 0).cells = #[Value.int .u8 0] from rfl, Nat.mul_one, made_vals] at hown
      go_wp2
      go_meet
      case rel => exact ⟨W1.heap.size, rfl, VRow.of hown (by simp), (Below.refl _ _).grown hgr (Nat.le_refl _) (fun k h => by cases h), Nat.le_refl _⟩
  case rest =>
    obtain ⟨g, rfl, hrow, hbx, hgl⟩ := hcut
    obtain ⟨V2, rfl⟩ : ∃ V0 : World, V0 = wc := ⟨_, rfl⟩
    have HROW := Lib.hid hrow
    have HBX := Lib.hid hbx
    clear hrow hbx
    go_wp2
    go_loopw [13] (fun i wr => ∃ k : Nat, k ≤ m ∧ i = .int .i64 k ∧ BelW W1 wr ∧ VRow wr g (unp a b m k)) (fun i _ => m - (intOf i).toNat)
    case atStart => exact ⟨0, Nat.zero_le _, rfl, HBX.out, by rw [unp_zero]; exact HROW.out⟩
    case round =>
      obtain ⟨k, hk, rfl, hb, hrow⟩ := hrel
      have HB := Lib.hid hb
      have HRO := Lib.hid hrow
      by_cases hlt : k < m
      · have x0 := (HFP.out.below hb).cell 0
        have x1 := (HFP.out.below hb).cell 1
        have HA := Lib.hid (HAT.out wr (joinB HB1.out hb) k (by omega))
        have HSU : Hid (unp a b m (k + 1) = (unp a b m k).set k (lnV a b k)) := Lib.hid (unp_succ hlt)
        obtain ⟨y, HY⟩ := named (lnV a b k)
        rw [← HY.out] at HA HSU
        have hkl : k < (unp a b m k).length := by rw [unp_len]; exact hlt
        clear hb hrow
        go_wp2_with (go_at_call 21; (with_reducible refine HA.out.mono ?_); rintro e w3 ⟨rfl, hb3⟩; have HB3 : Hid (BelW wr w3) := Lib.hid hb3; have hr3 := HRO.out.below hb3; have z0 := hr3.cell hkl; have z1 := hr3.frozen k; have HR3 := Lib.hid hr3; clear hb3 hr3)
        go_roundw
        case rel => exact ⟨k + 1, by omega, by go_num, Below.setCell (joinB HB.out HB3.out) hgl _, by rw [HSU.out]; exact HR3.out.set k y⟩
        case measure => simp [intOf]; omega
      · obtain rfl : m = k := by omega
        clear hb hrow
        go_wp2
        go_ret
        exact ⟨g, rfl, by rw [← unp_all]; exact HRO.out, joinB HB1.out HB.out⟩
end Go.Proofs.YtemogllidmgbfaaGreatDoor

namespace Go.Proofs.YtemogllidmgbfaaGreatDoor
open Go.RowKit

theorem pack_new (l : List Int) {n a b : Nat} (hn : n = l.length) (hn64 : n ≤ 64) (h0 : ∀ y ∈ l, 0 ≤ y) (he : (pkA l n, pkB l n) = (a, b)) {v : Value} (hv : wv a b = v) (w : World) (hf : Ft w) (cs : Array Value) (hcs : cs = (l.map (Value.int .u8)).toArray) :
    Calls Tryz.prog 19 #[.slice (some ⟨w.heap.size, 0, none⟩) n n] (w.alloc (.cells cs 30)) fun e w' => e = .returned v ∧ BelW w w' := by
  subst hcs hn hv
  have hb : BelW w (w.alloc (.cells (l.map (Value.int .u8)).toArray 30)) := below_new (Below.refl _ _) _
  refine (pack_any l _ _ _ _ _ (Nat.le_refl _) (hf.below hb) (ks_new w l _ (by unfold maxLen; omega)) h0).mono fun e w' ⟨h1, h2⟩ => ?_
  rw [Nat.min_eq_left hn64] at h1
  rw [(Prod.mk.inj he).1, (Prod.mk.inj he).2] at h1
  exact ⟨h1, joinB hb h2⟩
theorem weval_new (k : Int) (hk : 0 ≤ k) (l : Wls) {n a b : Nat} (hn : n = l.length) (hn64 : n ≤ 64) (hw : ∀ k, k < l.length → W64 (l.getD k (0, 0)).1 ∧ W64 (l.getD k (0, 0)).2) (he : evW k l = (a, b)) {v : Value} (hv : wv a b = v) (w : World) (hT : Lg.Tabs w) (hf : Ft w) (cs : Array Value) (hcs : cs = (flatW l).toArray) :
    Calls Tryz.prog 8 #[.int .u8 k, .slice (some ⟨w.heap.size, 0, none⟩) n n] (w.alloc (.cells cs 27)) fun e w' => e = .returned v ∧ BelW w w' := by
  subst hcs hn hv
  have hb : BelW w (w.alloc (.cells (flatW l).toArray 27)) := below_new (Below.refl _ _) _
  have hr : WRow (w.alloc (.cells (flatW l).toArray 27)) w.heap.size l := ⟨Fr.made _ _ _ rfl, by unfold maxLen; omega⟩
  refine (weval_any k hk l _ _ _ _ _ (Nat.le_refl _) (hT.below hb) (hf.below hb) (hr.wd hw)).mono fun e w' ⟨h1, h2⟩ => ?_
  rw [he] at h1
  exact ⟨h1, joinB hb h2⟩
theorem sevenW (w W : World) (o0 o1 o2 o3 o4 o5 o6 : Obj) (h : W = ((((((w.alloc o0).alloc o1).alloc o2).alloc o3).alloc o4).alloc o5).alloc o6) :
    W.heap.size = w.heap.size + 7 ∧ W.heap[w.heap.size]? = some o0 ∧ W.heap[w.heap.size + 1]? = some o1 ∧ W.heap[w.heap.size + 1 + 1]? = some o2 ∧ W.heap[w.heap.size + 1 + 1 + 1]? = some o3 ∧ W.heap[w.heap.size + 1 + 1 + 1 + 1]? = some o4 ∧ W.heap[w.heap.size + 1 + 1 + 1 + 1 + 1]? = some o5 ∧ W.heap[w.heap.size + 1 + 1 + 1 + 1 + 1 + 1]? = some o6 ∧ Below w.heap.size w W := by
  subst h
  refine ⟨by simp, ?_, ?_, ?_, ?_, ?_, ?_, ?_, ?_⟩
  any_goals (simp only [World.alloc, Array.getElem?_push, Array.size_push, if_true] <;> (repeat' split) <;> first | rfl | omega)
  exact below_new (below_new (below_new (below_new (below_new (below_new (below_new (Below.refl _ _) _) _) _) _) _) _) _
/-- What Run returns for the example. -/
theorem run7_any (A0 A1 A3 Al : Option Addr) (c0 c1 c3 cl : Nat) (w : World) (hT : Lg.Tabs w) (hf : Ft w) (hc : Cir w w.heap.size (.agg #[.slice A0 6 c0, .slice A1 6 c1, .slice none 0 0, .slice A3 2 c3]) E6) (hp : Pts w w.heap.size (.slice Al 3 cl) P7) :
    Calls Tryz.prog 13 #[.agg #[.slice A0 6 c0, .slice A1 6 c1, .slice none 0 0, .slice A3 2 c3], .slice Al 3 cl] w fun e w' => ∃ gr g a, e = .returned (.tuple #[.slice (some ⟨gr, 0, none⟩) 3 3, .slice (some ⟨g, 0, none⟩) 6 6, .int .i64 0]) ∧ w'.cell? ⟨g, 8, none⟩ = some (.int .u64 1) ∧ w'.cell? ⟨g, 9, none⟩ = some (.int .u64 3) ∧ w'.cell? ⟨gr, 0, none⟩ = some (.slice (some ⟨a, 0, none⟩) 2 2) ∧ VRow w' a [1, 3] ∧ BelW w w' := by
  have hsim : ∀ W, BelW w W → Calls Tryz.prog 42 #[.agg #[.slice A0 6 c0, .slice A1 6 c1, .slice none 0 0, .slice A3 2 c3], .slice Al 3 cl] W fun e w' => ∃ g out, e = .returned (.slice (some ⟨g, 0, none⟩) 6 6) ∧ WRow w' g out ∧ WOk out ∧ out.length = 6 ∧ out = W7 ∧ W.heap.size ≤ g ∧ BelW W w' := fun W h =>
    (simw_any E6 P7 A0 A1 none A3 Al c0 c1 0 c3 3 cl W W.heap.size (Nat.le_refl _) (hT.below h) (hf.below h) ((hc.below h).more (Below.size h)) (Arr.keep stays_pat hp (Below.size h) fun _ hp => Below.cell h hp) (by decide) e6_ok (by decide) p7_fits).mono fun e w' ⟨g, L, P, out, he, hr, hl, hs, hP, hg, hb⟩ =>
      ⟨g, out, he, hr, hs.ok, hs.len, w7_out (P := P) (by
        have e : baseW E6.nodes.length (ofTo E6.nodes [0] E6.nodes.length) (ofTo E6.nodes [14] E6.nodes.length) (rowW (P7.map (·.1)) (ofTo E6.nodes [0] E6.nodes.length).length) (rowW (P7.map (·.2)) (ofTo E6.nodes [14] E6.nodes.length).length) = B7 := by decide
        rw [e] at hs
        exact hs) hP, hg, hb⟩
  refine (wrun_gen E6 P7 A0 A1 none A3 Al c0 c1 0 c3 3 cl w w.heap.size (Nat.le_refl _) hT hf hc hp (by decide) (by decide) p7_ok (by decide) (fun out => out = W7) hsim).mono fun e w' ⟨gr, g, out, he, hq, hr, _, _, hrr, hb⟩ => ?_
  subst hq
  obtain ⟨a, b, h1, -, h3, -⟩ := hrr.at (j := 0) (by decide)
  have hv : (respW E6 W7 0).1 = [1, 3] := by decide
  rw [hv] at h1 h3
  have h8 := hr.cell (k := 4) (by decide)
  exact ⟨gr, g, a, he, h8.1, h8.2, h1, h3, hb⟩

theorem l7_pa (W : World) (h : Ft W) : Calls Tryz.prog 19 #[.slice (some ⟨W.heap.size, 0, none⟩) 4 4] (W.alloc (.cells #[.int .u8 1, .int .u8 0, .int .u8 2, .int .u8 3] 30)) fun e w' => e = .returned (.agg #[.int .u64 9, .int .u64 10]) ∧ BelW W w' :=
  pack_new [1, 0, 2, 3] (n := 4) (a := 9) (b := 10) rfl (by decide) (by decide) pk7a (v := .agg #[.int .u64 9, .int .u64 10]) rfl W h _ rfl
theorem l7_pb (W : World) (h : Ft W) : Calls Tryz.prog 19 #[.slice (some ⟨W.heap.size, 0, none⟩) 3 3] (W.alloc (.cells #[.int .u8 1, .int .u8 1, .int .u8 0] 30)) fun e w' => e = .returned (.agg #[.int .u64 3, .int .u64 4]) ∧ BelW W w' :=
  pack_new [1, 1, 0] (n := 3) (a := 3) (b := 4) rfl (by decide) (by decide) pk7b (v := .agg #[.int .u64 3, .int .u64 4]) rfl W h _ rfl
theorem l7_pc (W : World) (h : Ft W) : Calls Tryz.prog 19 #[.slice (some ⟨W.heap.size, 0, none⟩) 3 3] (W.alloc (.cells #[.int .u8 1, .int .u8 2, .int .u8 2] 30)) fun e w' => e = .returned (.agg #[.int .u64 1, .int .u64 0]) ∧ BelW W w' :=
  pack_new [1, 2, 2] (n := 3) (a := 1) (b := 0) rfl (by decide) (by decide) pk7c (v := .agg #[.int .u64 1, .int .u64 0]) rfl W h _ rfl
theorem l7_pd (W : World) (h : Ft W) : Calls Tryz.prog 19 #[.slice (some ⟨W.heap.size, 0, none⟩) 2 2] (W.alloc (.cells #[.int .u8 0, .int .u8 1] 30)) fun e w' => e = .returned (.agg #[.int .u64 2, .int .u64 1]) ∧ BelW W w' :=
  pack_new [0, 1] (n := 2) (a := 2) (b := 1) rfl (by decide) (by decide) pk7d (v := .agg #[.int .u64 2, .int .u64 1]) rfl W h _ rfl
theorem l7_pe (W : World) (h : Ft W) : Calls Tryz.prog 19 #[.slice (some ⟨W.heap.size, 0, none⟩) 2 2] (W.alloc (.cells #[.int .u8 1, .int .u8 1] 30)) fun e w' => e = .returned (.agg #[.int .u64 3, .int .u64 0]) ∧ BelW W w' :=
  pack_new [1, 1] (n := 2) (a := 3) (b := 0) rfl (by decide) (by decide) pk7e (v := .agg #[.int .u64 3, .int .u64 0]) rfl W h _ rfl
theorem w4_ok {a b c d : Nat} (ha : W64 a) (hb : W64 b) (hc : W64 c) (hd : W64 d) : ∀ k, k < ([(a, b), (c, d)] : Wls).length → W64 (([(a, b), (c, d)] : Wls).getD k (0, 0)).1 ∧ W64 (([(a, b), (c, d)] : Wls).getD k (0, 0)).2 := fun k hk => by
  have : k = 0 ∨ k = 1 := by simp at hk; omega
  rcases this with rfl | rfl
  · exact ⟨ha, hb⟩
  · exact ⟨hc, hd⟩
theorem small_w {a : Nat} (h : a < 8) : W64 a := Nat.lt_of_lt_of_le h (by decide)
theorem l7_ea (W : World) (hT : Lg.Tabs W) (h : Ft W) : Calls Tryz.prog 8 #[.int .u8 5, .slice (some ⟨W.heap.size, 0, none⟩) 2 2] (W.alloc (.cells #[.int .u64 3, .int .u64 4, .int .u64 1, .int .u64 0] 27)) fun e w' => e = .returned (.agg #[.int .u64 1, .int .u64 4]) ∧ BelW W w' :=
  weval_new 5 (by decide) [(3, 4), (1, 0)] (n := 2) (a := 1) (b := 4) rfl (by decide) (w4_ok (small_w (by decide)) (small_w (by decide)) (small_w (by decide)) (small_w (by decide))) ev7a (v := .agg #[.int .u64 1, .int .u64 4]) rfl W hT h _ rfl
theorem l7_eb (W : World) (hT : Lg.Tabs W) (h : Ft W) : Calls Tryz.prog 8 #[.int .u8 12, .slice (some ⟨W.heap.size, 0, none⟩) 2 2] (W.alloc (.cells #[.int .u64 2, .int .u64 1, .int .u64 3, .int .u64 0] 27)) fun e w' => e = .returned (.agg #[.int .u64 3, .int .u64 1]) ∧ BelW W w' :=
  weval_new 12 (by decide) [(2, 1), (3, 0)] (n := 2) (a := 3) (b := 1) rfl (by decide) (w4_ok (small_w (by decide)) (small_w (by decide)) (small_w (by decide)) (small_w (by decide))) ev7b (v := .agg #[.int .u64 3, .int .u64 1]) rfl W hT h _ rfl
theorem fw_1 : wv (fA (cln 1)) (fB (cln 1)) = .agg #[.int .u64 18446744073709551615, .int .u64 0] := by
  have h1 : fA (cln 1) = 18446744073709551615 := by decide
  have h2 : fB (cln 1) = 0 := by decide
  rw [h1, h2]; rfl
theorem fw_3 : wv (fA (cln 3)) (fB (cln 3)) = .agg #[.int .u64 18446744073709551615, .int .u64 18446744073709551615] := by
  have h1 : fA (cln 3) = 18446744073709551615 := by decide
  have h2 : fB (cln 3) = 18446744073709551615 := by decide
  rw [h1, h2]; rfl
theorem l7_f1 (W : World) (h : Ft W) : Calls Tryz.prog 22 #[.int .u8 1] W fun e w' => e = .returned (.agg #[.int .u64 18446744073709551615, .int .u64 0]) ∧ BelW W w' := by
  have := fill_any 1 (by decide) W h
  rw [fw_1] at this
  exact this
theorem l7_f3 (W : World) (h : Ft W) : Calls Tryz.prog 22 #[.int .u8 3] W fun e w' => e = .returned (.agg #[.int .u64 18446744073709551615, .int .u64 18446744073709551615]) ∧ BelW W w' := by
  have := fill_any 3 (by decide) W h
  rw [fw_3] at this
  exact this
theorem w9 : wv 9 10 = .agg #[.int .u64 9, .int .u64 10] := rfl
theorem l7_un (W : World) (h : Ft W) : Calls Tryz.prog 24 #[.agg #[.int .u64 9, .int .u64 10], .int .i64 5] W fun e w' => ∃ g, e = .returned (.slice (some ⟨g, 0, none⟩) 5 5) ∧ VRow w' g [1, 0, 2, 3, 2] ∧ BelW W w' := by
  have := unpack_any 9 10 (by unfold W64; decide) (by unfold W64; decide) 5 5 (by decide) (.inr (.inl rfl)) W h
  rw [un7, w9] at this
  exact this
theorem l7_a3 (W : World) (h : Ft W) : Calls Tryz.prog 21 #[.agg #[.int .u64 9, .int .u64 10], .int .i64 3] W fun e w' => e = .returned (.int .u8 3) ∧ BelW W w' := by
  have := wat_any 9 10 3 (by unfold W64; decide) (by unfold W64; decide) (by decide) W h
  rw [at7, w9] at this
  exact this
theorem l7_a6 (W : World) : Calls Tryz.prog 21 #[.agg #[.int .u64 9, .int .u64 10], .int .i64 64] W fun e w' => e = .returned (.int .u8 2) ∧ BelW W w' := by
  have := wat_out 9 10 64 (by decide) W
  rw [w9] at this
  exact this
theorem l7_tx (W : World) (g : Nat) (hT : Lg.Tabs W) (hv : VRow W g [1, 0, 2, 3, 2]) : Calls Tryz.prog 23 #[.slice (some ⟨g, 0, none⟩) 5 5] W fun e w' => e = .returned (.string ⟨#[49, 48, 88, 90, 88]⟩) ∧ BelW W w' := by
  have := text_vr (l := [1, 0, 2, 3, 2]) hv tv7a hT
  exact this
theorem l7_ty (W : World) (g : Nat) (hT : Lg.Tabs W) (hv : VRow W g [1, 3]) : Calls Tryz.prog 23 #[.slice (some ⟨g, 0, none⟩) 2 2] W fun e w' => e = .returned (.string ⟨#[49, 90]⟩) ∧ BelW W w' := by
  have := text_vr (l := [1, 3]) hv tv7b hT
  exact this
theorem ks_at {W : World} {g B : Nat} {t : TypeId} (l : List Int) (h : W.heap[g]? = some (.cells (l.map (Value.int .u8)).toArray t (0, 0))) (hm : l.length ≤ maxLen) (hB : g < B) : Ks W B (.slice (some ⟨g, 0, none⟩) l.length l.length) l :=
  ⟨_, g, 0, _, rfl, fun _ => rfl, Nat.le_refl _, hm, fun k hk => ⟨hB, by
    unfold U8At
    rw [cell_of_row _ g _ _ t _ h]
    simp [hk, List.getD_eq_getElem?_getD]⟩⟩
end Go.Proofs.YtemogllidmgbfaaGreatDoor
