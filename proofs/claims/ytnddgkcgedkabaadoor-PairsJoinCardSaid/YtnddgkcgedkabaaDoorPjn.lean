/- The walk of the law of Join. -/
import Derived.Test.YtnddgkcgedkabaaDoorPjr
import Derived.Test.YtnddgkcgedkabaaDoorPlv
import Derived.Test.YtnddgkcgedkabaaDoorPord
import Derived.Test.YtnddgkcgedkabaaDoorMono
import Derived.Deep.CutBlock
namespace Go.Proofs.YtnddgkcgedkabaaDoor
open Go.RowKit

/-- A block whose first six cells are known. -/
def Six (n : Nat) (x0 x1 x2 x3 x4 x5 : Int) (w : World) : Prop :=
  n < w.heap.size ∧ w.cell? ⟨n, 0, none⟩ = some (.int .u8 x0) ∧ w.cell? ⟨n, 1, none⟩ = some (.int .u8 x1) ∧ w.cell? ⟨n, 2, none⟩ = some (.int .u8 x2) ∧ w.cell? ⟨n, 3, none⟩ = some (.int .u8 x3) ∧ w.cell? ⟨n, 4, none⟩ = some (.int .u8 x4) ∧ w.cell? ⟨n, 5, none⟩ = some (.int .u8 x5)
theorem Six.keep {n : Nat} {x0 x1 x2 x3 x4 x5 : Int} {w w' : World} (h : Six n x0 x1 x2 x3 x4 x5 w) (hz : n < w'.heap.size) (hb : ∀ i, w'.cell? ⟨n, i, none⟩ = w.cell? ⟨n, i, none⟩) : Six n x0 x1 x2 x3 x4 x5 w' := by
  obtain ⟨h1, h2, h3, h4, h5, h6, h7⟩ := h
  exact ⟨hz, (hb _).trans h2, (hb _).trans h3, (hb _).trans h4, (hb _).trans h5, (hb _).trans h6, (hb _).trans h7⟩
theorem Six.below {n : Nat} {x0 x1 x2 x3 x4 x5 : Int} {w w' : World} (h : Six n x0 x1 x2 x3 x4 x5 w) (hb : Below w.heap.size w w') : Six n x0 x1 x2 x3 x4 x5 w' :=
  h.keep (Nat.lt_of_lt_of_le h.1 hb.size) fun i => hb.cell (p := ⟨n, i, none⟩) h.1
theorem Six.new (w : World) (x0 x1 x2 x3 x4 x5 : Int) (t : TypeId) : Six w.heap.size x0 x1 x2 x3 x4 x5 (w.alloc (.cells #[.int .u8 x0, .int .u8 x1, .int .u8 x2, .int .u8 x3, .int .u8 x4, .int .u8 x5] t)) :=
  ⟨by simp, by rw [World.cell?_alloc_at _ _ _ _ rfl]; rfl, by rw [World.cell?_alloc_at _ _ _ _ rfl]; rfl, by rw [World.cell?_alloc_at _ _ _ _ rfl]; rfl, by rw [World.cell?_alloc_at _ _ _ _ rfl]; rfl, by rw [World.cell?_alloc_at _ _ _ _ rfl]; rfl, by rw [World.cell?_alloc_at _ _ _ _ rfl]; rfl⟩

/-- What stands behind the law's first statement. -/
structure St (w0 : World) (a0 b0 a1 b1 a2 b2 : Int) (g3 g4 g5 : Nat) (p0 p1 q0 q1 r0 r1 : Int) (w : World) : Prop where
  below : Below w0.heap.size w0 w
  six : Six w0.heap.size a0 b0 a1 b1 a2 b2 w
  p : Box g3 (.int .u8 p0) (.int .u8 p1) w
  q : Box g4 (.int .u8 q0) (.int .u8 q1) w
  r : Box g5 (.int .u8 r0) (.int .u8 r1) w
theorem St.next {w0 w w' : World} {a0 b0 a1 b1 a2 b2 : Int} {g3 g4 g5 : Nat} {p0 p1 q0 q1 r0 r1 : Int} (h : St w0 a0 b0 a1 b1 a2 b2 g3 g4 g5 p0 p1 q0 q1 r0 r1 w) (hb : Below w.heap.size w w') : St w0 a0 b0 a1 b1 a2 b2 g3 g4 g5 p0 p1 q0 q1 r0 r1 w' :=
  ⟨joinB h.below hb, h.six.below hb, h.p.below hb, h.q.below hb, h.r.below hb⟩

set_option maxHeartbeats 4000000 in
set_option maxRecDepth 100000 in
theorem pjn_main (a0 b0 a1 b1 a2 b2 : Int) (w : World) (ht : Tabs w) (p0 p1 q0 q1 r0 r1 j0 j1 : Int) (is pr qr : Bool)
    (hp0 : cln a0 = p0) (hp1 : cln b0 = p1) (hq0 : cln a1 = q0) (hq1 : cln b1 = q1) (hr0 : cln a2 = r0) (hr1 : cln b2 = r1)
    (hJ1 : ∀ w, Calls Tryd.prog 25 #[.agg #[.int .u8 a0, .int .u8 b0], .agg #[.int .u8 a1, .int .u8 b1]] w fun e w' => e = .returned (.tuple #[.agg #[.int .u8 j0, .int .u8 j1], .bool is]) ∧ Below w.heap.size w w')
    (hJ2 : ∀ w, Calls Tryd.prog 25 #[.agg #[.int .u8 a1, .int .u8 b1], .agg #[.int .u8 a0, .int .u8 b0]] w fun e w' => e = .returned (.tuple #[.agg #[.int .u8 j0, .int .u8 j1], .bool is]) ∧ Below w.heap.size w w')
    (hJ3 : ∀ w, Calls Tryd.prog 25 #[.agg #[.int .u8 p0, .int .u8 p1], .agg #[.int .u8 p0, .int .u8 p1]] w fun e w' => e = .returned (.tuple #[.agg #[.int .u8 p0, .int .u8 p1], .bool true]) ∧ Below w.heap.size w w')
    (hpr : ∀ w, Calls Tryd.prog 24 #[.agg #[.int .u8 p0, .int .u8 p1], .agg #[.int .u8 r0, .int .u8 r1]] w fun e w' => e = .returned (.bool pr) ∧ Below w.heap.size w w')
    (hqr : ∀ w, Calls Tryd.prog 24 #[.agg #[.int .u8 q0, .int .u8 q1], .agg #[.int .u8 r0, .int .u8 r1]] w fun e w' => e = .returned (.bool qr) ∧ Below w.heap.size w w')
    (hpj : is = true → ∀ w, Calls Tryd.prog 24 #[.agg #[.int .u8 p0, .int .u8 p1], .agg #[.int .u8 j0, .int .u8 j1]] w fun e w' => e = .returned (.bool true) ∧ Below w.heap.size w w')
    (hqj : is = true → ∀ w, Calls Tryd.prog 24 #[.agg #[.int .u8 q0, .int .u8 q1], .agg #[.int .u8 j0, .int .u8 j1]] w fun e w' => e = .returned (.bool true) ∧ Below w.heap.size w w')
    (hjr : pr = true → qr = true → is = true ∧ ∀ w, Calls Tryd.prog 24 #[.agg #[.int .u8 j0, .int .u8 j1], .agg #[.int .u8 r0, .int .u8 r1]] w fun e w' => e = .returned (.bool true) ∧ Below w.heap.size w w')
    (hno : is = false → j0 = 0 ∧ j1 = 0) (hsame : is = (((p0 == q0) || (p0 == 2) || (q0 == 2)) && ((p1 == q1) || (p1 == 2) || (q1 == 2)))) :
    Calls Tryd.prog 7 #[.agg #[.int .u8 a0, .int .u8 b0, .int .u8 a1, .int .u8 b1, .int .u8 a2, .int .u8 b2]] w fun e w' => e = .returned (.bool true) ∧ Below w.heap.size w w' := by
  have eg := eg_pair
  have HT := Lib.hid ht
  have HJ1 := Lib.hid hJ1
  have HJ2 := Lib.hid hJ2
  have HJ3 := Lib.hid hJ3
  have HPR := Lib.hid hpr
  have HQR := Lib.hid hqr
  have HPJ := Lib.hid hpj
  have HQJ := Lib.hid hqj
  have HJR := Lib.hid hjr
  have HNO := Lib.hid hno
  have HSA := Lib.hid hsame
  have HCP := Lib.hid (And.intro hp0 (And.intro hp1 (And.intro hq0 (And.intro hq1 (And.intro hr0 hr1)))))
  clear ht hJ1 hJ2 hJ3 hpr hqr hpj hqj hjr hno hsame hp0 hp1 hq0 hq1 hr0 hr1
  go_enter Tryd.func7, Tryd.ntmps7
  go_upto_region 1 with fail
  obtain ⟨w1, hw1⟩ : ∃ x, x = w.alloc (.cells #[.int .u8 a0, .int .u8 b0, .int .u8 a1, .int .u8 b1, .int .u8 a2, .int .u8 b2] 43) := ⟨_, rfl⟩
  rw [← hw1]
  have HS1 : Hid (Six w.heap.size a0 b0 a1 b1 a2 b2 w1) := Lib.hid (by rw [hw1]; exact Six.new w _ _ _ _ _ _ _)
  have HW1 : Hid (Below w.heap.size w w1) := Lib.hid (by rw [hw1]; exact belowA (Below.refl _ _))
  clear hw1
  have HXC : Hid (∀ w', Below w1.heap.size w1 w' → w'.cell? ⟨w.heap.size, 0, none⟩ = some (.int .u8 a0) ∧ w'.cell? ⟨w.heap.size, 1, none⟩ = some (.int .u8 b0) ∧ w'.cell? ⟨w.heap.size, 2, none⟩ = some (.int .u8 a1) ∧ w'.cell? ⟨w.heap.size, 3, none⟩ = some (.int .u8 b1) ∧ w'.cell? ⟨w.heap.size, 4, none⟩ = some (.int .u8 a2) ∧ w'.cell? ⟨w.heap.size, 5, none⟩ = some (.int .u8 b2)) := Lib.hid fun w' h => (HS1.out.below h).2
  refine wp_region_held_drew (S := fun w' => w'.cell? ⟨w.heap.size, 0, none⟩ = some (.int .u8 a0) ∧ w'.cell? ⟨w.heap.size, 1, none⟩ = some (.int .u8 b0) ∧ w'.cell? ⟨w.heap.size, 2, none⟩ = some (.int .u8 a1) ∧ w'.cell? ⟨w.heap.size, 3, none⟩ = some (.int .u8 b1) ∧ w'.cell? ⟨w.heap.size, 4, none⟩ = some (.int .u8 a2) ∧ w'.cell? ⟨w.heap.size, 5, none⟩ = some (.int .u8 b2)) (by kernel_rfl) (HXC.out _ (Below.refl _ _).drew) (fun hHeld => ?_)
  refine wpAnyH_take (i := 0) (oi := ⟨some 13, _, _, _, _, _⟩) (v := .pointer (some ⟨w.heap.size, 0, none⟩)) rfl (by kernel_rfl) (by kernel_rfl) (by kernel_rfl) (fun _ _ _ h => h) (Or.inl ⟨by rfl, ?_⟩) hHeld ?_
  · intro w hSw; (try dsimp only at hSw); first | (go_simp; done) | (go_simp; with_reducible rfl)
  simp only [Act.put, List.setIfInBounds_toArray, List.set_cons_zero, List.set_cons_succ]
  refine wpAnyH_take (i := 1) (oi := ⟨some 14, _, _, _, _, _⟩) (v := .agg #[.int .u8 a0, .int .u8 b0]) rfl (by kernel_rfl) (by kernel_rfl) (by kernel_rfl) (fun _ _ _ h => h) (Or.inl ⟨by rfl, ?_⟩) hHeld ?_
  · intro w hSw; (try dsimp only at hSw); first | (go_simp; done) | (go_simp; with_reducible rfl)
  simp only [Act.put, List.setIfInBounds_toArray, List.set_cons_zero, List.set_cons_succ]
  refine wpAnyH_take (i := 3) (oi := ⟨some 16, _, _, _, _, _⟩) (v := .pointer (some ⟨w.heap.size, 2, none⟩)) rfl (by kernel_rfl) (by kernel_rfl) (by kernel_rfl) (fun _ _ _ h => h) (Or.inl ⟨by rfl, ?_⟩) hHeld ?_
  · intro w hSw; (try dsimp only at hSw); first | (go_simp; done) | (go_simp; with_reducible rfl)
  simp only [Act.put, List.setIfInBounds_toArray, List.set_cons_zero, List.set_cons_succ]
  refine wpAnyH_take (i := 4) (oi := ⟨some 17, _, _, _, _, _⟩) (v := .agg #[.int .u8 a1, .int .u8 b1]) rfl (by kernel_rfl) (by kernel_rfl) (by kernel_rfl) (fun _ _ _ h => h) (Or.inl ⟨by rfl, ?_⟩) hHeld ?_
  · intro w hSw; (try dsimp only at hSw); first | (go_simp; done) | (go_simp; with_reducible rfl)
  simp only [Act.put, List.setIfInBounds_toArray, List.set_cons_zero, List.set_cons_succ]
  refine wpAnyH_take (i := 6) (oi := ⟨some 19, _, _, _, _, _⟩) (v := .pointer (some ⟨w.heap.size, 4, none⟩)) rfl (by kernel_rfl) (by kernel_rfl) (by kernel_rfl) (fun _ _ _ h => h) (Or.inl ⟨by rfl, ?_⟩) hHeld ?_
  · intro w hSw; (try dsimp only at hSw); first | (go_simp; done) | (go_simp; with_reducible rfl)
  simp only [Act.put, List.setIfInBounds_toArray, List.set_cons_zero, List.set_cons_succ]
  refine wpAnyH_take (i := 7) (oi := ⟨some 20, _, _, _, _, _⟩) (v := .agg #[.int .u8 a2, .int .u8 b2]) rfl (by kernel_rfl) (by kernel_rfl) (by kernel_rfl) (fun _ _ _ h => h) (Or.inl ⟨by rfl, ?_⟩) hHeld ?_
  · intro w hSw; (try dsimp only at hSw); first | (go_simp; done) | (go_simp; with_reducible rfl)
  simp only [Act.put, List.setIfInBounds_toArray, List.set_cons_zero, List.set_cons_succ]
  refine pjn_reg (w1 := w1) _ a0 b0 a1 b1 a2 b2 rfl (by kernel_rfl) ⟨_, rfl, rfl, rfl, rfl, by kernel_rfl⟩ ⟨_, rfl, rfl, rfl, rfl, by kernel_rfl⟩ ⟨_, rfl, rfl, rfl, rfl, by kernel_rfl⟩ ⟨_, rfl, rfl, rfl, rfl, by kernel_rfl⟩ ⟨_, rfl, rfl, rfl, rfl, by kernel_rfl⟩ ⟨_, rfl, rfl, rfl, rfl, by kernel_rfl⟩
    ⟨_, rfl, rfl, rfl, rfl, by kernel_rfl⟩ ⟨_, rfl, rfl, rfl, rfl, by kernel_rfl⟩ ⟨_, rfl, rfl, rfl, rfl, by kernel_rfl⟩ (Nat.le_of_ble_eq_true (by rfl)) rfl rfl rfl rfl HXC.out ?_ _ (Below.refl _ _).drew
  obtain ⟨h1, h2, h3, h4, h5, h6⟩ := HCP.out
  rw [h1, h2, h3, h4, h5, h6]
  clear h1 h2 h3 h4 h5 h6 hHeld
  intro g3 g4 g5 w2 hb X3 X4 X5
  have HST : Hid (St w a0 b0 a1 b1 a2 b2 g3 g4 g5 p0 p1 q0 q1 r0 r1 w2) := Lib.hid ⟨joinB HW1.out hb, HS1.out.below hb, X3, X4, X5⟩
  clear hb X3 X4 X5
  simp only [Fr, Act.put, List.setIfInBounds_toArray, List.set_cons_zero, List.set_cons_succ]
  go_upto_region 2 with fail
  go_cut [6, 7] (fun s6 s7 wx => ∃ g6, s6 = .pointer (some ⟨g6, 0, none⟩) ∧ s7 = .bool is ∧ St w a0 b0 a1 b1 a2 b2 g3 g4 g5 p0 p1 q0 q1 r0 r1 wx ∧ Box g6 (.int .u8 j0) (.int .u8 j1) wx)
  case first =>
    obtain ⟨z0, k0, k1, k2, k3, k4, k5⟩ := HST.out.six
    go_wp2_with (go_at_call 25; (with_reducible refine (HJ1.out _).mono ?_); rintro e wb ⟨rfl, hb⟩; have HSN := Lib.hid (HST.out.next hb); clear hb k0 k1 k2 k3 k4 k5)
    go_meet
    exact ⟨wb.heap.size, rfl, rfl, HSN.out.next (belowA (Below.refl _ _)), Box.new wb _ _ _⟩
  case rest =>
    obtain ⟨g6, rfl, rfl, hst, hx6⟩ := hcut
    obtain ⟨w3, rfl⟩ : ∃ x : World, x = wc := ⟨_, rfl⟩
    have HS3 := Lib.hid hst
    have HX6 := Lib.hid hx6
    clear hst hx6
    go_upto_region 3 with fail
    go_cut [8, 9] (fun s8 s9 wx => ∃ g8, s8 = .pointer (some ⟨g8, 0, none⟩) ∧ s9 = .bool is ∧ St w a0 b0 a1 b1 a2 b2 g3 g4 g5 p0 p1 q0 q1 r0 r1 wx ∧ Box g6 (.int .u8 j0) (.int .u8 j1) wx ∧ Box g8 (.int .u8 j0) (.int .u8 j1) wx)
    case first =>
      obtain ⟨z0, k0, k1, k2, k3, k4, k5⟩ := HS3.out.six
      go_wp2_with (go_at_call 25; (with_reducible refine (HJ2.out _).mono ?_); rintro e wb ⟨rfl, hb⟩; have HSN := Lib.hid (HS3.out.next hb); have HX6N := Lib.hid (HX6.out.below hb); clear hb k0 k1 k2 k3 k4 k5)
      go_meet
      exact ⟨wb.heap.size, rfl, rfl, HSN.out.next (belowA (Below.refl _ _)), HX6N.out.alloc _, Box.new wb _ _ _⟩
    case rest =>
      obtain ⟨g8, rfl, rfl, hst, hx6, hx8⟩ := hcut
      obtain ⟨w4, rfl⟩ : ∃ x : World, x = wc := ⟨_, rfl⟩
      have HS4 := Lib.hid hst
      have HY6 := Lib.hid hx6
      have HX8 := Lib.hid hx8
      clear hst hx6 hx8
      go_upto_region 4 with fail
      go_cut [69] (fun s69 wx => s69 = .bool false ∧ St w a0 b0 a1 b1 a2 b2 g3 g4 g5 p0 p1 q0 q1 r0 r1 wx ∧ Box g6 (.int .u8 j0) (.int .u8 j1) wx)
      case first =>
        obtain ⟨y1, l0, l1, -⟩ := HY6.out
        obtain ⟨y2, m0, m1, -⟩ := HX8.out
        obtain ⟨y3, n0, n1, -⟩ := HS4.out.p
        have e1 := ne_same j0 j1
        cases is
        · obtain ⟨rfl, rfl⟩ := HNO.out rfl
          go_wp2_with fail
          go_meet
          exact ⟨rfl, HS4.out, HY6.out⟩
        · have HPJ2 := Lib.hid (HPJ.out rfl)
          have HQJ2 := Lib.hid (HQJ.out rfl)
          clear HPJ HQJ
          go_wp2_with (go_at_call 24; first
            | ((with_reducible refine (HPJ2.out _).mono ?_); rintro e wb ⟨rfl, hb⟩; have HS5 := Lib.hid (HS4.out.next hb); have HZ6 := Lib.hid (HY6.out.below hb); clear l0 l1 m0 m1 n0 n1 hb; obtain ⟨y1', l0, l1, -⟩ := HZ6.out; obtain ⟨y3', n0, n1, -⟩ := HS5.out.q)
            | ((with_reducible refine (HQJ2.out _).mono ?_); rintro e wd ⟨rfl, hb⟩; have HS6 := Lib.hid (HS5.out.next hb); have HU6 := Lib.hid (HZ6.out.below hb); clear l0 l1 n0 n1 hb))
          go_meet
          exact ⟨rfl, HS6.out, HU6.out⟩
      case rest =>
        obtain ⟨rfl, hst, hx6⟩ := hcut
        obtain ⟨w5, rfl⟩ : ∃ x : World, x = wc := ⟨_, rfl⟩
        have HS5 := Lib.hid hst
        have HZ6 := Lib.hid hx6
        clear hst hx6
        go_upto_region 6 with fail
        go_cut [87] (fun s87 wx => s87 = .bool false ∧ St w a0 b0 a1 b1 a2 b2 g3 g4 g5 p0 p1 q0 q1 r0 r1 wx)
        case first =>
          obtain ⟨y1, l0, l1, -⟩ := HZ6.out
          obtain ⟨y2, m0, m1, -⟩ := HS5.out.r
          obtain ⟨y3, n0, n1, -⟩ := HS5.out.p
          cases pr
          · go_wp2_with (go_at_call 24; (with_reducible refine (HPR.out _).mono ?_); rintro e wb ⟨rfl, hb⟩; have HS6 := Lib.hid (HS5.out.next hb); clear l0 l1 m0 m1 n0 n1 hb)
            go_meet
            exact ⟨rfl, HS6.out⟩
          · cases qr
            · go_wp2_with (go_at_call 24; first
                | ((with_reducible refine (HPR.out _).mono ?_); rintro e wb ⟨rfl, hb⟩; have HS6 := Lib.hid (HS5.out.next hb); clear l0 l1 m0 m1 n0 n1 hb; obtain ⟨y2', m0, m1, -⟩ := HS6.out.r; obtain ⟨y3', n0, n1, -⟩ := HS6.out.q)
                | ((with_reducible refine (HQR.out _).mono ?_); rintro e wd ⟨rfl, hb⟩; have HS7 := Lib.hid (HS6.out.next hb); clear m0 m1 n0 n1 hb))
              go_meet
              exact ⟨rfl, HS7.out⟩
            · obtain ⟨rfl, hjr⟩ := HJR.out rfl rfl
              have HJRR := Lib.hid hjr
              clear hjr
              go_wp2_with (go_at_call 24; first
                | ((with_reducible refine (HPR.out _).mono ?_); rintro e wb ⟨rfl, hb⟩; have HS6 := Lib.hid (HS5.out.next hb); have HU6 := Lib.hid (HZ6.out.below hb); clear l0 l1 m0 m1 n0 n1 hb; obtain ⟨y2', m0, m1, -⟩ := HS6.out.r; obtain ⟨y3', n0, n1, -⟩ := HS6.out.q)
                | ((with_reducible refine (HQR.out _).mono ?_); rintro e wd ⟨rfl, hb⟩; have HS7 := Lib.hid (HS6.out.next hb); have HV6 := Lib.hid (HU6.out.below hb); clear m0 m1 n0 n1 hb; obtain ⟨y2', m0, m1, -⟩ := HS7.out.r; obtain ⟨y3', n0, n1, -⟩ := HV6.out)
                | ((with_reducible refine (HJRR.out _).mono ?_); rintro e wd ⟨rfl, hb⟩; have HS8 := Lib.hid (HS7.out.next hb); clear m0 m1 n0 n1 hb))
              go_meet
              exact ⟨rfl, HS8.out⟩
        case rest =>
          obtain ⟨rfl, hst⟩ := hcut
          obtain ⟨w6, rfl⟩ : ∃ x : World, x = wc := ⟨_, rfl⟩
          have HS6 := Lib.hid hst
          clear hst
          go_upto_region 8 with fail
          go_cut [10] (fun s10 wx => s10 = .bool is ∧ St w a0 b0 a1 b1 a2 b2 g3 g4 g5 p0 p1 q0 q1 r0 r1 wx)
          case first =>
            obtain ⟨y1, l0, l1, -⟩ := HS6.out.p
            obtain ⟨y2, m0, m1, -⟩ := HS6.out.q
            have hs := HSA.out
            have HS7 := Lib.hid hs
            clear hs
            have hw : ∃ c1 c2 c3 d1 d2 d3 : Bool, (p0 == q0) = c1 ∧ (p0 == 2) = c2 ∧ (q0 == 2) = c3 ∧ (p1 == q1) = d1 ∧ (p1 == 2) = d2 ∧ (q1 == 2) = d3 ∧ is = ((c1 || c2 || c3) && (d1 || d2 || d3)) := ⟨_, _, _, _, _, _, rfl, rfl, rfl, rfl, rfl, rfl, HS7.out⟩
            obtain ⟨c1, c2, c3, d1, d2, d3, e1, e2, e3, e4, e5, e6, rfl⟩ := hw
            have hc : c1 = true ∨ (c1 = false ∧ c2 = true) ∨ (c1 = false ∧ c2 = false ∧ c3 = true) ∨ (c1 = false ∧ c2 = false ∧ c3 = false) := by cases c1 <;> cases c2 <;> cases c3 <;> simp
            have hd : d1 = true ∨ (d1 = false ∧ d2 = true) ∨ (d1 = false ∧ d2 = false ∧ d3 = true) ∨ (d1 = false ∧ d2 = false ∧ d3 = false) := by cases d1 <;> cases d2 <;> cases d3 <;> simp
            rcases hc with rfl | ⟨rfl, rfl⟩ | ⟨rfl, rfl, rfl⟩ | ⟨rfl, rfl, rfl⟩
            case inr.inr.inr =>
              go_wp2_with fail
              go_meet
              exact ⟨rfl, HS6.out⟩
            all_goals
              rcases hd with rfl | ⟨rfl, rfl⟩ | ⟨rfl, rfl, rfl⟩ | ⟨rfl, rfl, rfl⟩
              all_goals
                go_wp2_with fail
                go_meet
                exact ⟨by simp, HS6.out⟩
          case rest =>
            obtain ⟨rfl, hst⟩ := hcut
            obtain ⟨w7, rfl⟩ : ∃ x : World, x = wc := ⟨_, rfl⟩
            have HS7 := Lib.hid hst
            clear hst
            go_upto_region 9 with fail
            go_cut [11, 12] (fun s11 s12 wx => ∃ g11, s11 = .pointer (some ⟨g11, 0, none⟩) ∧ s12 = .bool true ∧ St w a0 b0 a1 b1 a2 b2 g3 g4 g5 p0 p1 q0 q1 r0 r1 wx ∧ Box g11 (.int .u8 p0) (.int .u8 p1) wx)
            case first =>
              obtain ⟨y1, l0, l1, -⟩ := HS7.out.p
              go_wp2_with (go_at_call 25; (with_reducible refine (HJ3.out _).mono ?_); rintro e wb ⟨rfl, hb⟩; have HSN := Lib.hid (HS7.out.next hb); clear hb l0 l1)
              go_meet
              exact ⟨wb.heap.size, rfl, rfl, HSN.out.next (belowA (Below.refl _ _)), Box.new wb _ _ _⟩
            case rest =>
              obtain ⟨g11, rfl, rfl, hst, hx⟩ := hcut
              obtain ⟨w8, rfl⟩ : ∃ x : World, x = wc := ⟨_, rfl⟩
              have HS8 := Lib.hid hst
              have HXB := Lib.hid hx
              clear hst hx
              have HT8 := Lib.hid (HT.out.below HS8.out.below)
              obtain ⟨y1, l0, l1, -⟩ := HS8.out.p
              obtain ⟨y2, m0, m1, -⟩ := HXB.out
              have e1 := eq_same p0 p1
              go_wp2_with (go_at_call 10; (with_reducible refine (livesP_any _ HT8.out).mono ?_); rintro e wz ⟨rfl, hb⟩; have HEND := Lib.hid (joinB HS8.out.below hb))
              go_ret
              exact ⟨rfl, HEND.out⟩

theorem cln_idemJ (a : Int) : cln (cln a) = cln a := by
  by_cases h : 3 < a
  · rw [show cln a = 2 by simp [cln, h]]; decide
  · rw [show cln a = a by simp [cln, h], show cln a = a by simp [cln, h]]

theorem jnb_comm (a b : Int) : jnb a b = jnb b a := by simp [jnb, Bool.or_comm]
theorem jnb2_comm (a b c d : Int) : jnb2 a b c d = jnb2 c d a b := by rw [jnb2, jnb2, jnb_comm a c, jnb_comm b d]
theorem blw_both {a b : Int} (h : blw a b = true) (k : blw b a = true) : cln a = cln b := by
  rcases (blw_iff a b).1 h with h | h
  · exact h
  · rcases (blw_iff b a).1 k with k | k
    · exact k.symm
    · rw [h, k]
theorem jn_comm (a b : Int) : jn a b = jn b a := by
  unfold jn
  by_cases h : blw a b = true
  · by_cases k : blw b a = true
    · rw [if_pos h, if_pos k, blw_both h k]
    · rw [if_pos h, if_neg k, if_pos h]
  · by_cases k : blw b a = true
    · rw [if_neg h, if_pos k, if_pos k]
    · rw [if_neg h, if_neg k, if_neg k, if_neg h]
theorem jn1_comm (a b c d : Int) : jn1 a b c d = jn1 c d a b := by rw [jn1, jn1, jnb2_comm, jn_comm]
theorem jn2_comm (a b c d : Int) : jn2 a b c d = jn2 c d a b := by rw [jn2, jn2, jnb2_comm, jn_comm]
theorem blw_cl2 (a b : Int) : blw (cln a) (cln b) = blw a b := by rw [blw, blw, cln_idemJ, cln_idemJ]
theorem jn_above {a b : Int} (h : jnb a b = true) : blw (cln a) (jn a b) = true ∧ blw (cln b) (jn a b) = true := by
  unfold jn
  by_cases k : blw a b = true
  · rw [if_pos k, blw_cl2, blw_cl2]; exact ⟨k, blw_refl b⟩
  · have k' : blw b a = true := by
      rw [jnb, Bool.or_eq_true] at h
      exact h.resolve_left k
    rw [if_neg k, if_pos k', blw_cl2, blw_cl2]; exact ⟨blw_refl a, k'⟩
theorem jn_least {a b c : Int} (h : blw (cln a) (cln c) = true) (k : blw (cln b) (cln c) = true) : jnb a b = true ∧ blw (jn a b) (cln c) = true := by
  rw [blw_cl2] at h k
  have hj : jnb a b = true := by
    rw [jnb, Bool.or_eq_true, blw_iff, blw_iff]
    rw [blw_iff] at h k
    rcases h with h | h
    · rcases k with k | k
      · exact .inl (.inl (h.trans k.symm))
      · exact .inr (.inr k)
    · exact .inl (.inr h)
  refine ⟨hj, ?_⟩
  unfold jn
  by_cases q : blw a b = true
  · rw [if_pos q, blw_cl2]; exact k
  · have k' : blw b a = true := by
      rw [jnb, Bool.or_eq_true] at hj
      exact hj.resolve_left q
    rw [if_neg q, if_pos k', blw_cl2]; exact h
theorem jnb_same (a b : Int) : jnb a b = ((cln a == cln b) || (cln a == 2) || (cln b == 2)) := by
  rw [jnb, blw, blw]
  cases h1 : (cln a == cln b)
  · have h2 : (cln b == cln a) = false := by rw [beq_eq_false_iff_ne] at h1 ⊢; exact fun e => h1 e.symm
    rw [h2]; simp
  · simp

theorem pjn_any (a0 b0 a1 b1 a2 b2 : Int) (w : World) (ht : Tabs w) : Calls Tryd.prog 7 #[.agg #[.int .u8 a0, .int .u8 b0, .int .u8 a1, .int .u8 b1, .int .u8 a2, .int .u8 b2]] w fun e w' => e = .returned (.bool true) ∧ Below w.heap.size w w' := by
  refine pjn_main a0 b0 a1 b1 a2 b2 w ht (cln a0) (cln b0) (cln a1) (cln b1) (cln a2) (cln b2) (jn1 a0 b0 a1 b1) (jn2 a0 b0 a1 b1) (jnb2 a0 b0 a1 b1) (blw2 (cln a0) (cln b0) (cln a2) (cln b2)) (blw2 (cln a1) (cln b1) (cln a2) (cln b2)) rfl rfl rfl rfl rfl rfl
    (fun w => joinP_any _ _ _ _ w) (fun w => ?_) (fun w => ?_) (fun w => belowP_any _ _ _ _ w) (fun w => belowP_any _ _ _ _ w) (fun h w => ?_) (fun h w => ?_) (fun h k => ?_) (fun h => ?_) ?_
  · rw [jn1_comm, jn2_comm, jnb2_comm]; exact joinP_any _ _ _ _ w
  · have hb : ∀ a : Int, blw (cln a) (cln a) = true := fun a => blw_refl _
    have h0 : ∀ a : Int, jnb (cln a) (cln a) = true := fun a => by rw [jnb, hb]; rfl
    have h2 : jnb2 (cln a0) (cln b0) (cln a0) (cln b0) = true := by rw [jnb2, h0, h0]; rfl
    have j1 : jn1 (cln a0) (cln b0) (cln a0) (cln b0) = cln a0 := by rw [jn1, if_pos h2, jn, if_pos (hb a0), cln_idemJ]
    have j2 : jn2 (cln a0) (cln b0) (cln a0) (cln b0) = cln b0 := by rw [jn2, if_pos h2, jn, if_pos (hb b0), cln_idemJ]
    have := joinP_any (cln a0) (cln b0) (cln a0) (cln b0) w
    rwa [h2, j1, j2] at this
  · have hh : jnb a0 a1 = true ∧ jnb b0 b1 = true := by rw [jnb2, Bool.and_eq_true] at h; exact h
    have := belowP_any (cln a0) (cln b0) (jn1 a0 b0 a1 b1) (jn2 a0 b0 a1 b1) w
    rwa [show blw2 (cln a0) (cln b0) (jn1 a0 b0 a1 b1) (jn2 a0 b0 a1 b1) = true by rw [blw2, jn1, jn2, if_pos h, if_pos h, (jn_above hh.1).1, (jn_above hh.2).1]; rfl] at this
  · have hh : jnb a0 a1 = true ∧ jnb b0 b1 = true := by rw [jnb2, Bool.and_eq_true] at h; exact h
    have := belowP_any (cln a1) (cln b1) (jn1 a0 b0 a1 b1) (jn2 a0 b0 a1 b1) w
    rwa [show blw2 (cln a1) (cln b1) (jn1 a0 b0 a1 b1) (jn2 a0 b0 a1 b1) = true by rw [blw2, jn1, jn2, if_pos h, if_pos h, (jn_above hh.1).2, (jn_above hh.2).2]; rfl] at this
  · rw [blw2, Bool.and_eq_true] at h k
    have e1 := jn_least h.1 k.1
    have e2 := jn_least h.2 k.2
    have hi : jnb2 a0 b0 a1 b1 = true := by rw [jnb2, e1.1, e2.1]; rfl
    refine ⟨hi, fun w => ?_⟩
    have := belowP_any (jn1 a0 b0 a1 b1) (jn2 a0 b0 a1 b1) (cln a2) (cln b2) w
    rwa [show blw2 (jn1 a0 b0 a1 b1) (jn2 a0 b0 a1 b1) (cln a2) (cln b2) = true by rw [blw2, jn1, jn2, if_pos hi, if_pos hi, e1.2, e2.2]; rfl] at this
  · have hn : ¬ jnb2 a0 b0 a1 b1 = true := by rw [h]; simp
    exact ⟨by rw [jn1, if_neg hn], by rw [jn2, if_neg hn]⟩
  · rw [jnb2, jnb_same, jnb_same]

end Go.Proofs.YtnddgkcgedkabaaDoor
