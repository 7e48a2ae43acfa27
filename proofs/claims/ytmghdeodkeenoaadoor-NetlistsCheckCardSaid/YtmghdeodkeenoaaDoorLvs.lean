/- The walk of lives. -/
import Derived.Test.YtmghdeodkeenoaaDoorLvf
import Derived.Deep.LoopGhost
import Derived.Deep.DeepCutAuto
import Derived.Deep.CutBlock
import Derived.Deep.RegionHeld3
namespace Go.Proofs.YtmghdeodkeenoaaDoor
open Go.RowKit

theorem ex_shape_of {w : World} {B : Nat} {v : Value} (h : Cir w B v Ex) : ∃ A0 A1 A2 A3 c0 c1 c2 c3, v = .agg #[.slice A0 4 c0, .slice A1 4 c1, .slice A2 0 c2, .slice A3 1 c3] := by
  obtain ⟨v0, v1, v2, v3, rfl, h1, h2, h3, h4⟩ := h
  obtain ⟨A0, _, _, c0, rfl, -⟩ := h1
  obtain ⟨A1, _, _, c1, rfl, -⟩ := h2
  obtain ⟨A2, _, _, c2, rfl, -⟩ := h3
  obtain ⟨A3, _, _, c3, rfl, -⟩ := h4
  exact ⟨A0, A1, A2, A3, c0, c1, c2, c3, rfl⟩
theorem LW.start {w w1 : World} {A0 A1 A2 A3 : Option Addr} {c0 c1 c2 c3 : Nat} (hT : Tabs w) (hb : Below w.heap.size w w1) (hc : Cir w1 w1.heap.size (.agg #[.slice A0 4 c0, .slice A1 4 c1, .slice A2 0 c2, .slice A3 1 c3]) Ex) :
    LW w w1.heap.size A0 A1 A2 A3 c0 c1 c2 c3 (w1.alloc (.cells #[.slice A0 4 c0, .slice A1 4 c1, .slice A2 0 c2, .slice A3 1 c3] 27)) :=
  ⟨below_new hb _, hb.size, (hT.below hb).below (below_new (Below.refl _ _) _), hc.below (below_new (Below.refl _ _) _), heap_alloc_new _ _⟩

theorem int_ex4 {w w1 : World} {q : Nat} {A0 A1 A2 A3 : Option Addr} {c0 c1 c2 c3 : Nat} (h : LW w q A0 A1 A2 A3 c0 c1 c2 c3 w1) {A : Option Addr} {x0 x1 x2 x3 : Int} (hi : Is w1 w1.heap.size (.slice A 4 4) [x0, x1, x2, x3]) :
    Calls Tryd.prog 25 #[.slice A 4 4, .slice (some ⟨w1.heap.size, 0, none⟩) 4 4] (w1.alloc (.cells #[.int .i64 x0, .int .i64 x1, .int .i64 x2, .int .i64 x3] 3))
    fun e w' => e = .returned (.int .i64 0) ∧ Below w1.heap.size w1 w' ∧ LW w q A0 A1 A2 A3 c0 c1 c2 c3 w' :=
  int_ex (n := 4) (c := 4) (l := [x0, x1, x2, x3]) h (by simp) (by simp) hi w1.heap.size (by simp) 3 #[.int .i64 x0, .int .i64 x1, .int .i64 x2, .int .i64 x3] (by simp)
theorem int_ex1 {w w1 : World} {q : Nat} {A0 A1 A2 A3 : Option Addr} {c0 c1 c2 c3 : Nat} (h : LW w q A0 A1 A2 A3 c0 c1 c2 c3 w1) {A : Option Addr} {x0 : Int} (hi : Is w1 w1.heap.size (.slice A 1 1) [x0]) :
    Calls Tryd.prog 25 #[.slice A 1 1, .slice (some ⟨w1.heap.size, 0, none⟩) 1 1] (w1.alloc (.cells #[.int .i64 x0] 3))
    fun e w' => e = .returned (.int .i64 0) ∧ Below w1.heap.size w1 w' ∧ LW w q A0 A1 A2 A3 c0 c1 c2 c3 w' :=
  int_ex (n := 1) (c := 1) (l := [x0]) h (by simp) (by simp) hi w1.heap.size (by simp) 3 #[.int .i64 x0] (by simp)

theorem fos_at {w : World} {B g n c : Nat} {l : List (List (Int × Int))} (h : Fos w B (.slice (some ⟨g, 0, none⟩) n c) l) (k : Nat) (hk : k < l.length) (p : Int × Int) (e : l.getD k [] = [p]) :
    ∃ b o c, w.cell? ⟨g, k, none⟩ = some (.slice (some ⟨b, o, none⟩) 1 c) ∧ w.cell? ⟨b, o, none⟩ = some (.int .i64 p.1) ∧ w.cell? ⟨b, o + 1, none⟩ = some (.int .i64 p.2) ∧ b < B ∧ g < B := by
  obtain ⟨A, b, o, c', e1, hA, -, -, hc⟩ := h
  simp only [Value.slice.injEq] at e1
  obtain ⟨rfl, rfl, rfl⟩ := e1
  have := hA (by omega)
  simp only [Option.some.injEq, Addr.mk.injEq, and_true] at this
  obtain ⟨rfl, rfl⟩ := this
  obtain ⟨h1, s, h2, h3⟩ := hc k hk
  rw [Nat.zero_add, Nat.mul_one] at h2
  rw [e] at h2 h3
  obtain ⟨A', b', o', c'', e3, hA', -, -, hc'⟩ := h3
  simp only [Value.slice.injEq] at e3
  obtain ⟨rfl, -, -⟩ := e3
  obtain rfl := hA' (by simp)
  obtain ⟨k1, k2, k3⟩ := hc' 0 (by simp)
  rw [Nat.zero_mul, Nat.add_zero] at k2 k3
  exact ⟨b', o', 1, h2, k2, k3, k1, h1⟩

set_option maxRecDepth 100000 in
set_option maxHeartbeats 4000000 in
theorem lives_any (w : World) (hT : Tabs w) : Calls Tryd.prog 12 #[] w fun e w' => e = .returned (.bool true) ∧ Below w.heap.size w w' := by
  have HT := Lib.hid hT
  clear hT
  go_enter Tryd.func12, Tryd.ntmps12
  go_wp2_with (first
    | (go_at_call 36; (with_reducible refine (example_any _).mono ?_); rintro e w1 ⟨⟨v, rfl, hc⟩, hb⟩; obtain ⟨A0, A1, A2, A3, c0, c1, c2, c3, rfl⟩ := ex_shape_of hc; have HL1 := Lib.hid (LW.start HT.out hb hc); clear hb hc)
    | (go_at_call 15; (with_reducible refine (lvl_ex HL1.out (Below.refl _ _)).mono ?_); rintro e w2 ⟨⟨gl, rfl, hi⟩, hb, hl⟩; obtain ⟨x20, x21, x22, x23⟩ := hl.cells; have HI2 := Lib.hid hi; have HL2 := Lib.hid hl; clear hi hb hl)
    | (go_at_call 16; (with_reducible refine (ord_ex HL2.out (Below.refl _ _)).mono ?_); rintro e w3 ⟨⟨go, rfl, hi⟩, hb, hl⟩; obtain ⟨x30, x31, x32, x33⟩ := hl.cells; have HI3 := Lib.hid (And.intro (HI2.out.on hb) hi); have HL3 := Lib.hid hl; clear hi hb hl x20 x21 x22 x23)
    | (go_at_call 24; (with_reducible refine (fan_ex HL3.out (Below.refl _ _)).mono ?_); rintro e w4 ⟨⟨gf, rfl, hi⟩, hb, hl⟩; obtain ⟨x40, x41, x42, x43⟩ := hl.cells; have HI4 := Lib.hid (And.intro (HI3.out.1.on hb) (And.intro (HI3.out.2.on hb) hi)); have HL4 := Lib.hid hl; clear hi hb hl x30 x31 x32 x33)
    | (go_at_call 14; (with_reducible refine (chk_ex HL4.out (Below.refl _ _)).mono ?_); rintro e w5 ⟨rfl, hb, hl⟩; obtain ⟨x50, x51, x52, x53⟩ := hl.cells; have HI5 := Lib.hid (And.intro (HI4.out.1.on hb) (And.intro (HI4.out.2.1.on hb) (HI4.out.2.2.on hb))); have HL5 := Lib.hid hl; clear hb hl x40 x41 x42 x43)
    | (go_at_call_of 25 gl; (with_reducible refine (int_ex4 HL5.out HI5.out.1).mono ?_); rintro e w6 ⟨rfl, hb, hl⟩; obtain ⟨x60, x61, x62, x63⟩ := hl.cells; have HI6 := Lib.hid (And.intro (HI5.out.2.1.on hb) (HI5.out.2.2.on hb)); have HL6 := Lib.hid hl; clear hb hl x50 x51 x52 x53)
    | (go_at_call_of 25 go; (with_reducible refine (int_ex4 HL6.out HI6.out.1).mono ?_); rintro e w7 ⟨rfl, hb, hl⟩; obtain ⟨x70, x71, x72, x73⟩ := hl.cells; have HI7 := Lib.hid (HI6.out.2.on hb); have HL7 := Lib.hid hl; clear hb hl x60 x61 x62 x63))
  go_loopw [7] (fun i wr => ∃ k : Nat, k ≤ 4 ∧ i = .int .i64 k ∧ LW w w1.heap.size A0 A1 A2 A3 c0 c1 c2 c3 wr ∧ Fos wr wr.heap.size (.slice (some ⟨gf, 0, none⟩) 4 4) [[(2, 0)], [(3, 0)], [(3, 1)], [(1, 0)]]) (fun i _ => 4 - (intOf i).toNat)
  case atStart => exact ⟨0, by omega, rfl, HL7.out, HI7.out⟩
  case round =>
    clear HL7 HI7 x70 x71 x72 x73
    obtain ⟨k, hk, rfl, hl, hf⟩ := hrel
    by_cases hk4 : k < 4
    · have hcase : k = 0 ∨ k = 1 ∨ k = 2 ∨ k = 3 := by omega
      rcases hcase with rfl | rfl | rfl | rfl
      · obtain ⟨b, o, c, f0, f1, f2, f3, f4⟩ := fos_at hf 0 (by decide) _ rfl
        have HL := Lib.hid hl
        have HF := Lib.hid hf
        have hgn : gf ≠ wr.heap.size := by omega
        have hbn : b ≠ wr.heap.size := by omega
        clear hl hf
        go_wp2
        go_region
        all_goals go_wp2
        all_goals go_roundw
        case rel =>
          have hb : Below wr.heap.size wr (wr.alloc (.cells #[.int .i64 2, .int .i64 0, .int .i64 3, .int .i64 0, .int .i64 3, .int .i64 1, .int .i64 1, .int .i64 0] 54)).drew := (below_new (Below.refl _ _) _).drew
          exact ⟨1, by omega, rfl, HL.out.next hb, HF.out.on hb⟩
        case measure => simp [intOf]
      · obtain ⟨b, o, c, f0, f1, f2, f3, f4⟩ := fos_at hf 1 (by decide) _ rfl
        have HL := Lib.hid hl
        have HF := Lib.hid hf
        have hgn : gf ≠ wr.heap.size := by omega
        have hbn : b ≠ wr.heap.size := by omega
        clear hl hf
        go_wp2
        go_region
        all_goals go_wp2
        all_goals go_roundw
        case rel =>
          have hb : Below wr.heap.size wr (wr.alloc (.cells #[.int .i64 2, .int .i64 0, .int .i64 3, .int .i64 0, .int .i64 3, .int .i64 1, .int .i64 1, .int .i64 0] 54)).drew := (below_new (Below.refl _ _) _).drew
          exact ⟨2, by omega, rfl, HL.out.next hb, HF.out.on hb⟩
        case measure => simp [intOf]
      · obtain ⟨b, o, c, f0, f1, f2, f3, f4⟩ := fos_at hf 2 (by decide) _ rfl
        have HL := Lib.hid hl
        have HF := Lib.hid hf
        have hgn : gf ≠ wr.heap.size := by omega
        have hbn : b ≠ wr.heap.size := by omega
        clear hl hf
        go_wp2
        go_region
        all_goals go_wp2
        all_goals go_roundw
        case rel =>
          have hb : Below wr.heap.size wr (wr.alloc (.cells #[.int .i64 2, .int .i64 0, .int .i64 3, .int .i64 0, .int .i64 3, .int .i64 1, .int .i64 1, .int .i64 0] 54)).drew := (below_new (Below.refl _ _) _).drew
          exact ⟨3, by omega, rfl, HL.out.next hb, HF.out.on hb⟩
        case measure => simp [intOf]
      · obtain ⟨b, o, c, f0, f1, f2, f3, f4⟩ := fos_at hf 3 (by decide) _ rfl
        have HL := Lib.hid hl
        have HF := Lib.hid hf
        have hgn : gf ≠ wr.heap.size := by omega
        have hbn : b ≠ wr.heap.size := by omega
        clear hl hf
        go_wp2
        go_region
        all_goals go_wp2
        all_goals go_roundw
        case rel =>
          have hb : Below wr.heap.size wr (wr.alloc (.cells #[.int .i64 2, .int .i64 0, .int .i64 3, .int .i64 0, .int .i64 3, .int .i64 1, .int .i64 1, .int .i64 0] 54)).drew := (below_new (Below.refl _ _) _).drew
          exact ⟨4, by omega, rfl, HL.out.next hb, HF.out.on hb⟩
        case measure => simp [intOf]
    · obtain rfl : k = 4 := by omega
      obtain ⟨x0, x1, x2, x3⟩ := hl.cells
      have HL := Lib.hid hl
      clear hf hl
      go_wp2
      refine wp_region_held_drew (S := fun w' => LW w w1.heap.size A0 A1 A2 A3 c0 c1 c2 c3 w') (by kernel_rfl) (HL.out.next (Below.refl _ _).drew) (fun hHeld => ?_)
      refine wpAnyH_take (i := 0) (oi := ⟨some 79, _, _, _, _, _⟩) (v := .agg #[.slice A0 4 c0, .slice A1 4 c1, .slice A2 0 c2, .slice A3 1 c3]) rfl (by kernel_rfl) (by kernel_rfl) (by kernel_rfl) (fun _ _ _ h => h) (Or.inl ⟨by rfl, ?_⟩) hHeld ?_
      · intro w' hSw; obtain ⟨y0, y1, y2, y3⟩ := LW.cells hSw; first | (go_simp; done) | (go_simp; with_reducible rfl)
      simp only [Act.put, List.setIfInBounds_toArray, List.set_cons_zero, List.set_cons_succ]
      refine wpAnyH_take (i := 2) (oi := ⟨some 81, _, _, _, _, _⟩) (v := .agg #[.slice A0 4 c0, .slice A1 4 c1, .slice A2 0 c2, .slice A3 1 c3]) rfl (by kernel_rfl) (by kernel_rfl) (by kernel_rfl) (fun _ _ _ h => h) (Or.inl ⟨by rfl, ?_⟩) hHeld ?_
      · intro w' hSw; obtain ⟨y0, y1, y2, y3⟩ := LW.cells hSw; first | (go_simp; done) | (go_simp; with_reducible rfl)
      simp only [Act.put, List.setIfInBounds_toArray, List.set_cons_zero, List.set_cons_succ]
      refine wpAnyH_take (i := 4) (oi := ⟨some 83, _, _, _, _, _⟩) (v := .agg #[.slice A0 4 c0, .slice A1 4 c1, .slice A2 0 c2, .slice A3 1 c3]) rfl (by kernel_rfl) (by kernel_rfl) (by kernel_rfl) (fun _ _ _ h => h) (Or.inl ⟨by rfl, ?_⟩) hHeld ?_
      · intro w' hSw; obtain ⟨y0, y1, y2, y3⟩ := LW.cells hSw; first | (go_simp; done) | (go_simp; with_reducible rfl)
      simp only [Act.put, List.setIfInBounds_toArray, List.set_cons_zero, List.set_cons_succ]
      refine lvs_reg (w1 := wr) (w0 := w) (q := w1.heap.size) (A0 := A0) (A1 := A1) (A2 := A2) (A3 := A3) (c0 := c0) (c1 := c1) (c2 := c2) (c3 := c3) _ rfl (by kernel_rfl) ⟨_, rfl, rfl, rfl, rfl, by kernel_rfl⟩ ⟨_, rfl, rfl, rfl, rfl, by kernel_rfl⟩ ⟨_, rfl, rfl, rfl, rfl, by kernel_rfl⟩ ⟨_, rfl, rfl, rfl, rfl, by kernel_rfl⟩ ⟨_, rfl, rfl, rfl, rfl, by kernel_rfl⟩ ⟨_, rfl, rfl, rfl, rfl, by kernel_rfl⟩
        ⟨_, rfl, rfl, rfl, rfl, by kernel_rfl⟩ ⟨_, rfl, rfl, rfl, rfl, by kernel_rfl⟩ ⟨_, rfl, rfl, rfl, rfl, by kernel_rfl⟩ (Nat.le_of_ble_eq_true (by rfl)) rfl rfl rfl ?_ (fun _ h => h) ?_ _ (Below.refl _ _).drew hHeld HL.out.box.lt
      · rfl
      intro v8 v9 v10 v80 v82 v84 g8 g9 g10 G1 H1 G3 H3 G5 H5 wx I
      obtain ⟨e0, e1, e2, e3, f0, f1, f2, f3, r0, r1, r2, r3, k, rfl, rfl, rfl, rfl, rfl, rfl, ⟨y0, y1, y2, y3, y4, y5, y6⟩, ⟨z0, z1, z2⟩, ⟨n0, n1, n2, n3, n4, n5⟩, hfin⟩ := fin_of HL.out.box.lt I
      have HF := Lib.hid hfin
      clear hfin I x0 x1 x2 x3 hHeld
      simp only [Gr, Act.put, List.setIfInBounds_toArray, List.set_cons_zero, List.set_cons_succ]
      go_upto_region 18 with fail
      obtain ⟨W3, HW3⟩ := named (((wx.setCell ⟨k, 0, none⟩ (.int .i64 3)).setCell ⟨f0, 8, none⟩ (.int .u8 13)).setCell ⟨r1, 2, none⟩ (.string ⟨#[103]⟩))
      rw [← HW3.out] at HF
      rw [← HW3.out]
      clear HW3 y0 y1 y2 y3 y4 y5 y6 z0 z1 z2 n0 n1 n2 n3 n4 n5
      obtain ⟨y0, y1, y2, y3⟩ := HF.out.m6.cells
      go_wp2_with (first
        | (go_at_call_of 14 e0; (with_reducible refine (chk_bx ok6 HF.out.lw.tabs HF.out.m6 (Below.refl _ _)).mono ?_); rintro e wa ⟨rfl, hb⟩; have HFA := Lib.hid (HF.out.below hb); obtain ⟨ya0, ya1, ya2, ya3⟩ := HFA.out.m7.cells; clear hb y0 y1 y2 y3)
        | (go_at_call_of 14 f0; (with_reducible refine (chk_bx ok7 HFA.out.lw.tabs HFA.out.m7 (Below.refl _ _)).mono ?_); rintro e wb ⟨rfl, hb⟩; have HFB := Lib.hid (HFA.out.below hb); obtain ⟨yb0, yb1, yb2, yb3⟩ := HFB.out.m5.cells; clear hb ya0 ya1 ya2 ya3)
        | (go_at_call_of 14 r0; (with_reducible refine (chk_bx ok5 HFB.out.lw.tabs HFB.out.m5 (Below.refl _ _)).mono ?_); rintro e wd ⟨rfl, hb⟩; have HLD := Lib.hid (HFB.out.lw.next hb); obtain ⟨yc0, yc1, yc2, yc3⟩ := HLD.out.cells; clear hb yb0 yb1 yb2 yb3)
        | (go_at_call 28; (with_reducible refine (ins_ex HLD.out (Below.refl _ _)).mono ?_); rintro e we ⟨⟨Ai, rfl, hi⟩, hb, hl⟩; have HIE := Lib.hid hi; have HLE := Lib.hid hl; clear hi hb hl yc0 yc1 yc2 yc3)
        | (go_at_call_of 25 we; (with_reducible refine (int_ex1 HLE.out HIE.out).mono ?_); rintro e wf ⟨rfl, hb, hl⟩; obtain ⟨yd0, yd1, yd2, yd3⟩ := hl.cells; have HLF := Lib.hid hl; clear hb hl)
        | (go_at_call 29; (with_reducible refine (sts_ex HLF.out (Below.refl _ _)).mono ?_); rintro e wg ⟨⟨As, rfl, hi⟩, hb, hl⟩; have HIG := Lib.hid hi; have HLG := Lib.hid hl; clear hi hb hl yd0 yd1 yd2 yd3)
        | (go_at_call_of 25 wg; (with_reducible refine (int_ex1 HLG.out HIG.out).mono ?_); rintro e wh ⟨rfl, hb, hl⟩; have HLH := Lib.hid hl; clear hb hl))
      go_ret
      exact ⟨rfl, HLH.out.bel⟩

end Go.Proofs.YtmghdeodkeenoaaDoor
