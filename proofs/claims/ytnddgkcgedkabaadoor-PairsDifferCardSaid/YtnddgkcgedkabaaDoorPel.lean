/- The walk of the law of Eval of pairs. -/
import Derived.Test.YtnddgkcgedkabaaDoorOwn
import Derived.Test.YtnddgkcgedkabaaDoorPord
import Derived.Deep.RegionHeld3
namespace Go.Proofs.YtnddgkcgedkabaaDoor
open Go.RowKit

def swapL (l : List (Int × Int)) : List (Int × Int) := l.map fun p => (p.2, p.1)
theorem swap_fst (l : List (Int × Int)) : (swapL l).map Prod.fst = l.map Prod.snd := by simp [swapL]
theorem swap_snd (l : List (Int × Int)) : (swapL l).map Prod.snd = l.map Prod.fst := by simp [swapL]
theorem swap_take (l : List (Int × Int)) (k : Nat) (h : k < l.length) : swapL (l.take (k + 1)) = swapL (l.take k) ++ [((l.getD k (0, 0)).2, (l.getD k (0, 0)).1)] := by
  rw [take_snoc2 l k h]; simp [swapL]
theorem fst_take (l : List (Int × Int)) (k : Nat) (h : k < l.length) : (l.take (k + 1)).map Prod.fst = (l.take k).map Prod.fst ++ [(l.getD k (0, 0)).1] := by
  rw [take_snoc2 l k h]; simp
theorem snd_take (l : List (Int × Int)) (k : Nat) (h : k < l.length) : (l.take (k + 1)).map Prod.snd = (l.take k).map Prod.snd ++ [(l.getD k (0, 0)).2] := by
  rw [take_snoc2 l k h]; simp

/-- The three rows that the loop fills. -/
structure Rows3 (g : Nat) (w w' : World) (x y z : Value) (k : Nat) (l : List (Int × Int)) : Prop where
  own : Own g w w'
  px : w'.ownsRow g 26 1 x k (((l.take k).map Prod.fst).map (Value.int .u8))
  py : w'.ownsRow g 26 1 y k (((l.take k).map Prod.snd).map (Value.int .u8))
  pz : w'.ownsRow g 28 2 z k (flat2 (swapL (l.take k)))
  xy : Apart x y
  xz : Apart x z
  yz : Apart y z

theorem one_cell1 (x : Int) : ∀ u ∈ [Value.int .u8 x], u.oneCell' = true := by intro u hu; obtain rfl := List.mem_singleton.1 hu; rfl
theorem le_max {n : Nat} (h : n ≤ 1000) : n ≤ maxLen := by unfold maxLen; omega

set_option maxHeartbeats 400000 in
theorem pel_long (q : Int) (A : Option Addr) (n c : Nat) (w : World) (ht : Tabs w) (h : 20 < n) :
    Calls Tryd.prog 3 #[.int .u8 q, .slice A n c] w fun e w' => e = .returned (.bool true) ∧ Below w.heap.size w w' := by
  have HT := Lib.hid ht
  clear ht
  have h' : (20 : Int) < (n : Int) := by omega
  go_enter Tryd.func3, Tryd.ntmps3
  go_wp2_with (go_at_call 10; (with_reducible refine (livesP_any _ HT.out).mono ?_); rintro e w' ⟨rfl, hb⟩)
  go_ret
  exact ⟨rfl, by assumption⟩

set_option maxHeartbeats 2000000 in
set_option maxRecDepth 100000 in
theorem pel_main (q : Int) (hq : 0 ≤ q) (l : List (Int × Int)) (s : Value) (w : World) (ht : Tabs w) (hs : Pl w w.heap.size s l) (A : Option Addr) (n c b o : Nat) (hv : s = .slice A n c) (hA : 0 < n → A = some ⟨b, o, none⟩)
    (hc : ∀ k, k < n → b < w.heap.size ∧ w.cell? ⟨b, o + k * 2, none⟩ = some (.int .u8 (l.getD k (0, 0)).1) ∧ w.cell? ⟨b, o + k * 2 + 1, none⟩ = some (.int .u8 (l.getD k (0, 0)).2))
    (hn : n = l.length) (h1 : n ≤ 20) :
    Calls Tryd.prog 3 #[.int .u8 q, s] w fun e w' => e = .returned (.bool true) ∧ Below w.heap.size w w' := by
  obtain ⟨i0, hi, hz0, hz1, hz2⟩ := info_parts info_value
  obtain ⟨j0, hj, hy0, hy1, hy2⟩ := info_parts info_pair
  have HT := Lib.hid ht
  have HC := Lib.hid hc
  have HN := Lib.hid hn
  have HI := Lib.hid hi
  have HZ0 := Lib.hid hz0
  have HZ1 := Lib.hid hz1
  have HZ2 := Lib.hid hz2
  have HJ := Lib.hid hj
  have HY0 := Lib.hid hy0
  have HY1 := Lib.hid hy1
  have HY2 := Lib.hid hy2
  have HS := Lib.hid hs
  have HA := Lib.hid hA
  have HQ := Lib.hid hq
  subst hv
  clear ht hc hn hi hz0 hz1 hz2 hj hy0 hy1 hy2 hs hA hq
  obtain ⟨g, hg⟩ : ∃ g, g = w.heap.size := ⟨_, rfl⟩
  have HG := Lib.hid hg
  clear hg
  have d1 : decide ((20 : Int) < (n : Int)) = false := by simp; omega
  go_enter Tryd.func3, Tryd.ntmps3
  go_wp2_with fail
  go_loopw [5, 6, 7, 8] (fun vx vy vz i wr => ∃ k : Nat, k ≤ n ∧ i = .int .i64 k ∧ Rows3 g w wr vx vy vz k l) (fun _ _ _ i _ => n - (intOf i).toNat)
  case atStart => exact ⟨0, Nat.zero_le _, rfl, ⟨Below.refl _ _, by rw [HG.out]; exact Nat.le_refl _⟩, ⟨rfl, .inl ⟨rfl, rfl⟩⟩, ⟨rfl, .inl ⟨rfl, rfl⟩⟩, ⟨rfl, .inl ⟨rfl, rfl⟩⟩, Apart.nil _ _ _, Apart.nil _ _ _, Apart.nil _ _ _⟩
  case round =>
    obtain ⟨k, hk, rfl, hrows⟩ := hrel
    have HR := Lib.hid hrows
    clear hrows
    by_cases hlt : k < n
    · obtain rfl := HA.out (by omega)
      have hkl : k < l.length := by rw [← HN.out]; exact hlt
      have hbl : b < w.heap.size := (HC.out k hlt).1
      have HBL := Lib.hid hbl
      have c0 : wr.cell? ⟨b, o + k * 2, none⟩ = some (.int .u8 (l.getD k (0, 0)).1) := (HR.out.own.below.cell (p := ⟨b, o + k * 2, none⟩) (by rw [HG.out]; exact hbl)).trans (HC.out k hlt).2.1
      have c1 : wr.cell? ⟨b, o + k * 2 + 1, none⟩ = some (.int .u8 (l.getD k (0, 0)).2) := (HR.out.own.below.cell (p := ⟨b, o + k * 2 + 1, none⟩) (by rw [HG.out]; exact hbl)).trans (HC.out k hlt).2.2
      have E1 := Lib.hid (fst_take l k hkl)
      have E2 := Lib.hid (snd_take l k hkl)
      have E3 := Lib.hid (swap_take l k hkl)
      obtain ⟨rx, HRX⟩ := named (((l.take k).map Prod.fst).map (Value.int .u8))
      obtain ⟨ry, HRY⟩ := named (((l.take k).map Prod.snd).map (Value.int .u8))
      obtain ⟨rz, HRZ⟩ := named (flat2 (swapL (l.take k)))
      have hpx := HR.out.px
      have hpy := HR.out.py
      have hpz := HR.out.pz
      rw [← HRX.out] at hpx
      rw [← HRY.out] at hpy
      rw [← HRZ.out] at hpz
      have HPX := Lib.hid hpx
      have HPY := Lib.hid hpy
      have HPZ := Lib.hid hpz
      clear hpx hpy hpz
      obtain ⟨x0, HX0⟩ := named (l.getD k (0, 0)).1
      obtain ⟨x1, HX1⟩ := named (l.getD k (0, 0)).2
      rw [← HX0.out] at c0 E1 E3
      rw [← HX1.out] at c1 E2 E3
      clear hkl hbl
      go_wp2_with (at_builtin; refine wpList_append_own_at _ rfl (.tmp 21) (.tmp 27) 25 rfl g 26 i0 (.int .u8 0) 1 1 Tryd.underlying25 HI.out HZ0.out HZ1.out HZ2.out rfl (by decide) _ _ _ rfl (HPX.out.alloc _) ⟨wr.heap.size, 0, none⟩ 1 1 [.int .u8 x0] rfl rfl (one_new _ _ _) (one_cell1 _) (le_max (by omega)) (by omega) (Nat.le_trans HR.out.own.size (by simp)) ?_)
      intro vx' w1 hown' hgrow _ hat
      have HO1 := Lib.hid ((HR.out.own.alloc (.cells #[.int .u8 x0] 26)).grown hgrow (fun q hq => own_from HPX.out hq))
      have HX1' := Lib.hid hown'
      have HY1' := Lib.hid ((HPY.out.alloc (.cells #[.int .u8 x0] 26)).kept hgrow HR.out.xy.symm)
      have HZ1' := Lib.hid ((HPZ.out.alloc (.cells #[.int .u8 x0] 26)).kept hgrow HR.out.xz.symm)
      have HXY := Lib.hid (Apart.grown HR.out.xy.symm HPY.out (by simp) hat)
      have HXZ := Lib.hid (Apart.grown HR.out.xz.symm HPZ.out (by simp) hat)
      have HYZ := Lib.hid HR.out.yz
      have c0' : w1.cell? ⟨b, o + k * 2, none⟩ = some (.int .u8 x0) := (HO1.out.below.cell (p := ⟨b, o + k * 2, none⟩) (by rw [HG.out]; exact HBL.out)).trans ((HC.out k hlt).2.1.trans (by rw [HX0.out]))
      have c1' : w1.cell? ⟨b, o + k * 2 + 1, none⟩ = some (.int .u8 x1) := (HO1.out.below.cell (p := ⟨b, o + k * 2 + 1, none⟩) (by rw [HG.out]; exact HBL.out)).trans ((HC.out k hlt).2.2.trans (by rw [HX1.out]))
      clear hown' hgrow hat c0 c1
      go_wp2_with (at_builtin; refine wpList_append_own_at _ rfl (.tmp 29) (.tmp 35) 25 rfl g 26 i0 (.int .u8 0) 1 1 Tryd.underlying25 HI.out HZ0.out HZ1.out HZ2.out rfl (by decide) _ _ _ rfl (HY1'.out.alloc _) ⟨w1.heap.size, 0, none⟩ 1 1 [.int .u8 x1] rfl rfl (one_new _ _ _) (one_cell1 _) (le_max (by omega)) (by omega) (Nat.le_trans HO1.out.size (by simp)) ?_)
      intro vy' w2 hown' hgrow _ hat
      have HO2 := Lib.hid ((HO1.out.alloc (.cells #[.int .u8 x1] 26)).grown hgrow (fun q hq => own_from HY1'.out hq))
      have HY2' := Lib.hid hown'
      have HX2' := Lib.hid ((HX1'.out.alloc (.cells #[.int .u8 x1] 26)).kept hgrow HXY.out.symm)
      have HZ2' := Lib.hid ((HZ1'.out.alloc (.cells #[.int .u8 x1] 26)).kept hgrow HYZ.out.symm)
      have HXY2 := Lib.hid (Apart.grown HXY.out.symm HX1'.out (by simp) hat)
      have HYZ2 := Lib.hid (Apart.grown HYZ.out.symm HZ1'.out (by simp) hat)
      clear hown' hgrow hat c0' c1'
      have HXC : Hid (∀ w', Own g w w' → Own g w w' ∧ w'.cell? ⟨b, o + k * 2, none⟩ = some (.int .u8 x0) ∧ w'.cell? ⟨b, o + k * 2 + 1, none⟩ = some (.int .u8 x1)) :=
        Lib.hid fun w' h => ⟨h, (h.below.cell (p := ⟨b, o + k * 2, none⟩) (by rw [HG.out]; exact HBL.out)).trans ((HC.out k hlt).2.1.trans (by rw [HX0.out])), (h.below.cell (p := ⟨b, o + k * 2 + 1, none⟩) (by rw [HG.out]; exact HBL.out)).trans ((HC.out k hlt).2.2.trans (by rw [HX1.out]))⟩
      have ho2 : Own g w w2 := HO2.out
      have hk0 : (0 : Int) ≤ (k : Int) := by omega
      have hk1 : (k : Int) < (n : Int) := by omega
      go_wp2_with fail
      go_region_held3 (fun w' => Own g w w' ∧ w'.cell? ⟨b, o + k * 2, none⟩ = some (.int .u8 x0) ∧ w'.cell? ⟨b, o + k * 2 + 1, none⟩ = some (.int .u8 x1))
        ((first | assumption | (refine HXC.out _ ?_; first | assumption | exact And.left (by assumption) | exact Own.drew (by assumption) | exact Own.alloc (by assumption) _ | exact Own.alloc (And.left (by assumption)) _ | exact (Own.alloc (by assumption) _).drew | exact (Own.alloc (And.left (by assumption)) _).drew)))
        (first
          | (refine step_own_at rfl (.tmp 37) (.tmp 49) 23 rfl g 28 j0 (.agg #[.int .u8 0, .int .u8 0]) 2 2 Tryd.underlying23 HJ.out HY0.out HY1.out HY2.out rfl (by decide) (by decide) u7 k _ rfl (by first | exact (HZ2'.out.alloc _).drew | exact HZ2'.out.drew.alloc _ | exact HZ2'.out.alloc _) ⟨w2.heap.size, 0, none⟩ 1 1 [.int .u8 x1, .int .u8 x0] rfl rfl (two_new _ _ _ _) (by simp [Value.oneCell']) (by omega) (by have := HO2.out.size; simp; omega) ?_
             intro vz' w3 ho3 hg3 hat3
             have hs3 : Own g w w3 := Own.grown (by first | exact (HO2.out.alloc _).drew | exact HO2.out.alloc _) hg3 (fun q hq => own_from HZ2'.out hq)))
      have HX3 : Hid (w3.ownsRow g 26 1 vx' (k + 1) (rx ++ [.int .u8 x0])) := Lib.hid (World.ownsRow.kept (by first | exact (HX2'.out.alloc _).drew | exact HX2'.out.drew.alloc _ | exact HX2'.out.alloc _) hg3 HXZ.out.symm)
      have HY3 : Hid (w3.ownsRow g 26 1 vy' (k + 1) (ry ++ [.int .u8 x1])) := Lib.hid (World.ownsRow.kept (by first | exact (HY2'.out.alloc _).drew | exact HY2'.out.drew.alloc _ | exact HY2'.out.alloc _) hg3 HYZ2.out.symm)
      have HXZ3 : Hid (Apart vx' vz') := Lib.hid (Apart.grown HXZ.out.symm HX2'.out (by simp) hat3)
      have HYZ3 : Hid (Apart vy' vz') := Lib.hid (Apart.grown HYZ2.out.symm HY2'.out (by simp) hat3)
      have HZ3 := Lib.hid ho3
      have HS3 := Lib.hid hs3
      clear ho2 hk0 hk1 hg3 ho3 hat3
      go_wp2_with fail
      go_roundw
      case rel =>
        refine ⟨k + 1, by omega, by go_num, HS3.out, ?_, ?_, ?_, HXY2.out, HXZ3.out, HYZ3.out⟩
        · rw [E1.out, List.map_append, ← HRX.out]; exact HX3.out
        · rw [E2.out, List.map_append, ← HRY.out]; exact HY3.out
        · rw [E3.out, flat2_snoc, ← HRZ.out]; exact HZ3.out
      case measure => simp [intOf]; omega
    · obtain rfl : n = k := by omega
      obtain ⟨X, rfl⟩ : ∃ X : World, X = wr := ⟨_, rfl⟩
      have hbX : Below w.heap.size w X := by have := HR.out.own.below; rw [HG.out] at this; exact this
      have htk : l.take n = l := List.take_of_length_le (by rw [HN.out]; exact Nat.le_refl _)
      have HV1 : Hid (Vs X X.heap.size u5 (l.map Prod.fst)) := Lib.hid (by have h := HR.out.px; rw [htk] at h; exact (Vs.of_own h).1)
      have HV2 : Hid (Vs X X.heap.size u6 (l.map Prod.snd)) := Lib.hid (by have h := HR.out.py; rw [htk] at h; exact (Vs.of_own h).1)
      have HV3 : Hid (Pl X X.heap.size u7 (swapL l)) := Lib.hid (by have h := HR.out.pz; rw [htk] at h; exact (Pl.of_own h).1)
      have HBX := Lib.hid hbX
      have HTX := Lib.hid (HT.out.below hbX)
      have hll : l.length ≤ 1000 := by rw [← HN.out]; omega
      have HP := Lib.hid (fun (w' : World) (hb : Below X.heap.size X w') => evalP_any q HQ.out (w := w') (B := w.heap.size) (s := .slice A n c) (l := l) (Nat.le_trans hbX.size hb.size) (HS.out.below (hbX.trans (hb.mono hbX.size))) hll (HTX.out.below hb))
      have HQ2 := Lib.hid (fun (w' : World) (hb : Below X.heap.size X w') => evalP_any q HQ.out (w := w') (B := X.heap.size) (s := u7) (l := swapL l) hb.size (HV3.out.below hb) (by rw [swapL, List.length_map]; exact hll) (HTX.out.below hb))
      have HE1 := Lib.hid (fun (w' : World) (hb : Below X.heap.size X w') => eval_any q HQ.out (w := w') (B := X.heap.size) (s := u5) (l := l.map Prod.fst) hb.size (HV1.out.below hb) (HTX.out.below hb))
      have HE2 := Lib.hid (fun (w' : World) (hb : Below X.heap.size X w') => eval_any q HQ.out (w := w') (B := X.heap.size) (s := u6) (l := l.map Prod.snd) hb.size (HV2.out.below hb) (HTX.out.below hb))
      rw [show evP1 q (swapL l) = evalL q (l.map Prod.snd) by rw [evP1, swap_fst], show evP2 q (swapL l) = evalL q (l.map Prod.fst) by rw [evP2, swap_snd]] at HQ2
      rw [show evP1 q l = evalL q (l.map Prod.fst) from rfl, show evP2 q l = evalL q (l.map Prod.snd) from rfl] at HP
      obtain ⟨y1, HW1⟩ := named (evalL q (l.map Prod.fst))
      obtain ⟨y2, HW2⟩ := named (evalL q (l.map Prod.snd))
      rw [← HW1.out] at HP HQ2 HE1
      rw [← HW2.out] at HP HQ2 HE2
      have hb0 := Below.refl X.heap.size X
      clear HR HV1 HV2 HV3 hbX htk hll hlt hk HC HA
      have eg := eg_pair
      have e1 := eq_same y1 y2
      have e2 := eq_same y2 y1
      go_wp2_with (go_at_call 11; first
        | ((with_reducible refine (HP.out _ hb0).mono ?_); rintro e w1 ⟨rfl, hb1⟩; have HB1 := Lib.hid hb1; clear hb1 hb0)
        | ((with_reducible refine (HQ2.out _ (belowA HB1.out)).mono ?_); rintro e w2 ⟨rfl, hb2⟩; have HB2 := Lib.hid (joinB (belowA HB1.out) hb2); have HBP := Lib.hid ((Box.new w1 (.int .u8 y1) (.int .u8 y2) 28).below hb2); clear hb2))
      obtain ⟨w3, hw3⟩ : ∃ x, x = w2.alloc (.cells #[.int .u8 y2, .int .u8 y1] 28) := ⟨_, rfl⟩
      rw [← hw3]
      have HBP3 : Hid (Box w1.heap.size (.int .u8 y1) (.int .u8 y2) w3) := Lib.hid (by rw [hw3]; exact HBP.out.alloc _)
      have HBQ3 : Hid (Box w2.heap.size (.int .u8 y2) (.int .u8 y1) w3) := Lib.hid (by rw [hw3]; exact Box.new' _ _ _ _ rfl)
      have HB3 : Hid (Below X.heap.size X w3) := Lib.hid (by rw [hw3]; exact belowA HB2.out)
      clear hw3
      have l0 : ∀ x : Beh w3, x.x.cell? ⟨w1.heap.size, 0, none⟩ = some (.int .u8 y1) := beh_cell HBP3.out.1 HBP3.out.2.1
      have l1 : ∀ x : Beh w3, x.x.cell? ⟨w1.heap.size, 1, none⟩ = some (.int .u8 y2) := beh_cell HBP3.out.1 HBP3.out.2.2.1
      have l2 : ∀ x : Beh w3, x.x.cell? ⟨w2.heap.size, 0, none⟩ = some (.int .u8 y2) := beh_cell HBQ3.out.1 HBQ3.out.2.1
      have l3 : ∀ x : Beh w3, x.x.cell? ⟨w2.heap.size, 1, none⟩ = some (.int .u8 y1) := beh_cell HBQ3.out.1 HBQ3.out.2.2.1
      refine region_class (w0 := w3) (Below.refl _ _) (by kernel_rfl) (by kernel_rfl) ?_
      repeat (first
        | go_big_quiet_skip
        | (go_big_quiet_want; go_big_quiet_op; first
          | go_big_quiet_on
          | (apply Exists.intro
             refine ⟨fun xx => ?_, ?_⟩
             focus first
              | (go_at_call 12; with_reducible exact beh_of (rel (HE1.out _ (joinB HB3.out xx.below)) xx.below))
              | (go_at_call 12; with_reducible exact beh_of (rel (HE2.out _ (joinB HB3.out xx.below)) xx.below))
              | (go_at_call 10; with_reducible exact beh_of (rel (livesP_any _ (HTX.out.below (joinB HB3.out xx.below))) xx.below))
             go_big_quiet_on)))
      refine wpQuiet_nil ?_
      rintro w4 ⟨⟨_, hx⟩, rfl⟩
      go_wp2_with fail
      go_ret
      exact ⟨rfl, joinB HBX.out (joinB HB3.out hx)⟩

theorem pel_any (q : Int) (hq : 0 ≤ q) (l : List (Int × Int)) (s : Value) (w : World) (ht : Tabs w) (hs : Pl w w.heap.size s l) (A : Option Addr) (c b o : Nat) (hv : s = .slice A l.length c) (hA : 0 < l.length → A = some ⟨b, o, none⟩)
    (hc : ∀ k, k < l.length → b < w.heap.size ∧ w.cell? ⟨b, o + k * 2, none⟩ = some (.int .u8 (l.getD k (0, 0)).1) ∧ w.cell? ⟨b, o + k * 2 + 1, none⟩ = some (.int .u8 (l.getD k (0, 0)).2)) :
    Calls Tryd.prog 3 #[.int .u8 q, s] w fun e w' => e = .returned (.bool true) ∧ Below w.heap.size w w' := by
  by_cases h : 20 < l.length
  · subst hv; exact pel_long q A _ c w ht h
  · exact pel_main q hq l s w ht hs A l.length c b o hv hA hc rfl (by omega)

end Go.Proofs.YtnddgkcgedkabaaDoor
