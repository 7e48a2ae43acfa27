/- The walk of the law of the texts of pairs. -/
import Derived.Test.YtnddgkcgedkabaaDoorPcl
import Derived.Deep.DeepCutAuto
import Derived.Deep.CutBlock
namespace Go.Proofs.YtnddgkcgedkabaaDoor
open Go.RowKit

theorem txt_cln (a b : Int) (ha : 0 ≤ a) (hb : 0 ≤ b) : txtS (cln a) (cln b) = txtS a b := by
  unfold txtS txtL
  rw [(Cl.of a ha).cln, (Cl.of b hb).cln]
/-- The text of a pair is parsed back. -/
theorem parse_back (a b : Int) (ha : 0 ≤ a) (hb : 0 ≤ b) (w : World) (ht : Tabs w) : Calls Tryd.prog 29 #[.string (txtS a b)] w fun e w' => e = .returned (.tuple #[.agg #[.int .u8 (cln a), .int .u8 (cln b)], .int .i64 0]) ∧ Below w.heap.size w w' := by
  refine (parseP_any (txtS a b) w ht).mono fun e w' ⟨hbl, h⟩ => ?_
  rcases h with ⟨g, b', hg, hb', he, rfl⟩ | ⟨h, -⟩
  · obtain ⟨rfl, rfl⟩ := txtS_inj hg hb' (Cl.of a ha) (Cl.of b hb) (he.trans (txt_cln a b ha hb).symm)
    exact ⟨rfl, hbl⟩
  · exact absurd (txt_cln a b ha hb) (h _ _ (Cl.of a ha) (Cl.of b hb))
/-- logic.Text of one value. -/
theorem text_val {w0 w : World} (a : Int) (h0 : 0 ≤ a) (g : Nat) (hg : g < w.heap.size) (hc : w.cell? ⟨g, 0, none⟩ = some (.int .u8 a)) (ht : Tabs w0) (hb : Below w0.heap.size w0 w) : Calls Tryd.prog 31 #[.slice (some ⟨g, 0, none⟩) 1 1] w fun e w' => e = .returned (.string ⟨#[tcb (cln a)]⟩) ∧ Below w.heap.size w w' := by
  have h := text_any (l := [a]) (Nat.le_refl _) (⟨g, 0, 1, .inl rfl, by simp [maxLen], fun k hk => by (obtain rfl : k = 0 := (by simpa using hk)); exact ⟨hg, hc⟩⟩ : Vs w w.heap.size (.slice (some ⟨g, 0, none⟩) 1 1) [a]) (by simp) (fun k hk => by (obtain rfl : k = 0 := (by simpa using hk)); exact h0) (ht.below hb)
  have e : strOfNums ([a].map tch) = ⟨#[tcb (cln a)]⟩ := by
    have : tch a = tch (cln a) := by unfold tch; rw [(Cl.of a h0).cln]
    rw [List.map_cons, List.map_nil, this]
    rcases Cl.of a h0 with h | h | h | h <;> rw [h] <;> rfl
  rw [e] at h
  exact h
theorem text_new {w : World} (a : Int) (h0 : 0 ≤ a) (ht : Tabs w) : Calls Tryd.prog 31 #[.slice (some ⟨w.heap.size, 0, none⟩) 1 1] (w.alloc (.cells #[.int .u8 a] 26)) fun e w' => e = .returned (.string ⟨#[tcb (cln a)]⟩) ∧ Below w.heap.size w w' :=
  rel (text_val a h0 _ (by simp) (by rw [World.cell?_alloc_at _ _ _ _ rfl]; rfl) ht (belowA (Below.refl _ _))) (belowA (Below.refl _ _))
theorem txtS_c (a b : Int) : txtS a b = ⟨(txtC (cln a) (cln b)).toArray⟩ := rfl
theorem txt_same (a b c d : Int) (ha : 0 ≤ a) (hb : 0 ≤ b) (hc : 0 ≤ c) (hd : 0 ≤ d) : ((txtS a b).toList == (txtS c d).toList) = (cln a == cln c && cln b == cln d) := by
  rw [Bool.eq_iff_iff]
  constructor
  · intro h
    have h' := bytes_ext (eq_of_beq h)
    rw [← txt_cln a b ha hb, ← txt_cln c d hc hd] at h'
    obtain ⟨h1, h2⟩ := txtS_inj (Cl.of a ha) (Cl.of b hb) (Cl.of c hc) (Cl.of d hd) h'
    simp [h1, h2]
  · intro h
    simp at h
    rw [txtS_c, txtS_c, h.1, h.2]
    simp

set_option maxHeartbeats 400000 in
theorem ptext_long (s : ByteArray) (a b c d : Int) (w : World) (ht : Tabs w) (h : 20 < s.size) :
    Calls Tryd.prog 9 #[.string s, .agg #[.int .u8 a, .int .u8 b], .agg #[.int .u8 c, .int .u8 d]] w fun e w' => e = .returned (.bool true) ∧ Below w.heap.size w w' := by
  have HT := Lib.hid ht
  have HB := Lib.hid (belowA (o := .cells #[.int .u8 c, .int .u8 d] 28) (belowA (o := .cells #[.int .u8 a, .int .u8 b] 28) (Below.refl w.heap.size w)))
  clear ht
  have h' : (20 : Int) < (s.size : Int) := by omega
  go_enter Tryd.func9, Tryd.ntmps9
  go_wp2_with (go_at_call 10; (with_reducible refine (livesP_any _ (HT.out.below HB.out)).mono ?_); rintro e w' ⟨rfl, hb⟩)
  go_ret
  exact ⟨rfl, joinB HB.out (by assumption)⟩

/-- The two boxed arguments, in a world in which nothing older has changed. -/
structure TwoBox (n : Nat) (a b c d : Int) (w w' : World) : Prop where
  below : Below w.heap.size w w'
  p : Box n (.int .u8 a) (.int .u8 b) w'
  q : Box (n + 1) (.int .u8 c) (.int .u8 d) w'
theorem TwoBox.next {n : Nat} {a b c d : Int} {w w' w'' : World} (h : TwoBox n a b c d w w') (hb : Below w'.heap.size w' w'') : TwoBox n a b c d w w'' := ⟨joinB h.below hb, h.p.below hb, h.q.below hb⟩
theorem TwoBox.alloc {n : Nat} {a b c d : Int} {w w' : World} (h : TwoBox n a b c d w w') (o : Obj) : TwoBox n a b c d w (w'.alloc o) := h.next (belowA (Below.refl _ _))
theorem TwoBox.new (w : World) (a b c d : Int) (t : TypeId) : TwoBox w.heap.size a b c d w ((w.alloc (.cells #[.int .u8 a, .int .u8 b] t)).alloc (.cells #[.int .u8 c, .int .u8 d] t)) :=
  ⟨belowA (belowA (Below.refl _ _)), (Box.new w _ _ _).alloc _, Box.new' _ _ _ _ (by simp)⟩

set_option maxHeartbeats 2000000 in
set_option maxRecDepth 100000 in
theorem ptext_main (s : ByteArray) (a b c d : Int) (w : World) (ht : Tabs w) (h : ¬ 20 < s.size) (h0 : 0 ≤ a) (h1 : 0 ≤ b) (h2 : 0 ≤ c) (h3 : 0 ≤ d) (e0 : Int) (x0 x1 : Int) (hx0 : 0 ≤ x0) (hx1 : 0 ≤ x1) (hway : (e0 = 0 ∧ txtS x0 x1 = s) ∨ (e0 = 4 ∧ x0 = 0 ∧ x1 = 0)) (hP : ∀ w, Tabs w → Calls Tryd.prog 29 #[.string s] w fun e w' => e = .returned (.tuple #[.agg #[.int .u8 x0, .int .u8 x1], .int .i64 e0]) ∧ Below w.heap.size w w') :
    Calls Tryd.prog 9 #[.string s, .agg #[.int .u8 a, .int .u8 b], .agg #[.int .u8 c, .int .u8 d]] w fun e w' => e = .returned (.bool true) ∧ Below w.heap.size w w' := by
  have eg := eg_pair
  have fd0 : ∀ (x y : Int) (w : World), (Instr.field 28 (.agg #[.int .u8 x, .int .u8 y]) 0).run Tryd.prog w = .ok (.int .u8 x) w := fun _ _ _ => by kernel_rfl
  have fd1 : ∀ (x y : Int) (w : World), (Instr.field 28 (.agg #[.int .u8 x, .int .u8 y]) 1).run Tryd.prog w = .ok (.int .u8 y) w := fun _ _ _ => by kernel_rfl
  have HT := Lib.hid ht
  have H0 := Lib.hid h0
  have H1 := Lib.hid h1
  have d0 : decide ((20 : Int) < (s.size : Int)) = false := by simp; omega
  have E0 := Lib.hid (txtS_c a b)
  have E1 := Lib.hid (txt_same a b c d h0 h1 h2 h3)
  have HTP := Lib.hid (fun w (ht : Tabs w) => textP_any a b h0 h1 w ht)
  have HTQ := Lib.hid (fun w (ht : Tabs w) => textP_any c d h2 h3 w ht)
  have HTX := Lib.hid (fun w (ht : Tabs w) => textP_any x0 x1 hx0 hx1 w ht)
  have HBK := Lib.hid (fun w (ht : Tabs w) => parse_back a b h0 h1 w ht)
  have HCP := Lib.hid (fun w => lclean_any a b w)
  have HCQ := Lib.hid (fun w => lclean_any c d w)
  have HPZ := Lib.hid hP
  obtain ⟨t, HTT⟩ := named (txtS a b)
  obtain ⟨t2, HTT2⟩ := named (txtS c d)
  obtain ⟨ca, HCA⟩ := named (cln a)
  obtain ⟨cb, HCB⟩ := named (cln b)
  obtain ⟨cc, HCC⟩ := named (cln c)
  obtain ⟨cd, HCD⟩ := named (cln d)
  rw [← HTT.out] at E0 E1 HTP HBK
  rw [← HTT2.out] at E1 HTQ
  rw [← HCA.out, ← HCB.out] at E0 E1 HBK HCP
  rw [← HCC.out, ← HCD.out] at E1 HCQ
  have HN0 := Lib.hid (TwoBox.new w a b c d 28)
  clear ht h0 h1 h2 h3 h hP hx0 hx1
  have e9 := eq_same ca cb
  have e8 := ne_same 0 0
  go_enter Tryd.func9, Tryd.ntmps9
  rcases hway with ⟨rfl, hs⟩ | ⟨rfl, rfl, rfl⟩
  · rw [hs] at HTX
    clear hs
    go_upto_region 8 with (first
      | (go_at_call 29; first
        | ((with_reducible refine (HPZ.out _ (HT.out.below HN0.out.below)).mono ?_); rintro e w1 ⟨rfl, hb⟩; have HN1 := Lib.hid (HN0.out.next hb); clear hb; obtain ⟨z1, p0, p1, f0, f1⟩ := HN1.out.p; obtain ⟨z2, q0, q1, g0, g1⟩ := HN1.out.q)
        | ((with_reducible refine (HBK.out _ (HT.out.below HN3.out.below)).mono ?_); rintro e w4 ⟨rfl, hb⟩; have HN4 := Lib.hid (HN3.out.next hb); have HU := Lib.hid (Box.new w4 (.int .u8 ca) (.int .u8 cb) 28); have HN5 := Lib.hid (HN4.out.alloc (.cells #[.int .u8 ca, .int .u8 cb] 28)); clear hb; clear z1 p0 p1 f0 f1 z2 q0 q1 g0 g1; obtain ⟨z1, p0, p1, f0, f1⟩ := HN4.out.p; obtain ⟨z2, q0, q1, g0, g1⟩ := HN4.out.q))
      | (go_at_call 30; first
        | ((with_reducible refine (HTX.out _ (HT.out.below (HN1.out.alloc (.cells #[.int .u8 x0, .int .u8 x1] 28)).below)).mono ?_); rintro e w2 ⟨rfl, hb⟩; have HN2 := Lib.hid ((HN1.out.alloc (.cells #[.int .u8 x0, .int .u8 x1] 28)).next hb); clear hb; clear z1 p0 p1 f0 f1 z2 q0 q1 g0 g1; obtain ⟨z1, p0, p1, f0, f1⟩ := HN2.out.p; obtain ⟨z2, q0, q1, g0, g1⟩ := HN2.out.q)
        | ((with_reducible refine (HTP.out _ (HT.out.below HN2.out.below)).mono ?_); rintro e w3 ⟨rfl, hb⟩; have HN3 := Lib.hid (HN2.out.next hb); clear hb; clear z1 p0 p1 f0 f1 z2 q0 q1 g0 g1; obtain ⟨z1, p0, p1, f0, f1⟩ := HN3.out.p; obtain ⟨z2, q0, q1, g0, g1⟩ := HN3.out.q)
        | ((with_reducible refine (HTP.out _ (HT.out.below (HN1.out.alloc (.cells #[.int .u8 x0, .int .u8 x1] 28)).below)).mono ?_); rintro e w3 ⟨rfl, hb⟩; have HN3 := Lib.hid ((HN1.out.alloc (.cells #[.int .u8 x0, .int .u8 x1] 28)).next hb); clear hb; clear z1 p0 p1 f0 f1 z2 q0 q1 g0 g1; obtain ⟨z1, p0, p1, f0, f1⟩ := HN3.out.p; obtain ⟨z2, q0, q1, g0, g1⟩ := HN3.out.q)))
    obtain ⟨w5, hw5⟩ : ∃ x, x = w4.alloc (.cells #[.int .u8 ca, .int .u8 cb] 28) := ⟨_, rfl⟩
    rw [← hw5]
    have HN5' : Hid (TwoBox w.heap.size a b c d w w5) := Lib.hid (by rw [hw5]; exact HN4.out.alloc _)
    have HU5 : Hid (Box w4.heap.size (.int .u8 ca) (.int .u8 cb) w5) := Lib.hid (by rw [hw5]; exact HU.out)
    have HT5 := Lib.hid (HT.out.below HN5'.out.below)
    clear hw5
    clear z1 p0 p1 f0 f1 z2 q0 q1 g0 g1
    go_cut [12] (fun v wx => v = .string ⟨#[tcb ca, 47, tcb cb]⟩ ∧ TwoBox w.heap.size a b c d w wx ∧ Box w4.heap.size (.int .u8 ca) (.int .u8 cb) wx)
    case first =>
      have HXC : Hid (∀ w', Below w5.heap.size w5 w' → Below w5.heap.size w5 w' ∧ w'.cell? ⟨w.heap.size, 0, none⟩ = some (.int .u8 a) ∧ w'.cell? ⟨w.heap.size, 1, none⟩ = some (.int .u8 b)) :=
        Lib.hid fun w' h => ⟨h, (h.cell (p := ⟨w.heap.size, 0, none⟩) HN5'.out.p.1).trans HN5'.out.p.2.1, (h.cell (p := ⟨w.heap.size, 1, none⟩) HN5'.out.p.1).trans HN5'.out.p.2.2.1⟩
      have hb0 := Below.refl w5.heap.size w5
      go_region_held3 (fun w' => Below w5.heap.size w5 w' ∧ w'.cell? ⟨w.heap.size, 0, none⟩ = some (.int .u8 a) ∧ w'.cell? ⟨w.heap.size, 1, none⟩ = some (.int .u8 b))
        ((first | assumption | (refine HXC.out _ ?_; (repeat (first | assumption | exact And.left (by assumption) | refine Below.drew ?_ | refine belowA ?_ | refine joinB ?_ (by assumption))))))
        (first
          | (go_at_call 31; first
             | ((with_reducible refine Calls.mono (text_val a H0.out _ ?_ ?_ HT5.out ?_) ?_); (focus (first | (simp; done) | (simp; omega) | (have hq := hb.size; (try simp at hq ⊢); first | done | omega))); (focus (first | (simp [go_sem]; done) | (rw [hb.cell (p := ⟨_, _, none⟩) (by (first | (simp; done) | (simp; omega)))]; simp [go_sem]; done))); (focus (repeat (first | assumption | exact And.left (by assumption) | refine Below.drew ?_ | refine belowA ?_ | refine joinB ?_ (by assumption)))); rintro e w' ⟨rfl, hb⟩; rw [← HCA.out])
             | ((with_reducible refine Calls.mono (text_val b H1.out _ ?_ ?_ HT5.out ?_) ?_); (focus (first | (simp; done) | (simp; omega) | (have hq := hb.size; (try simp at hq ⊢); first | done | omega))); (focus (first | (simp [go_sem]; done) | (rw [hb.cell (p := ⟨_, _, none⟩) (by (first | (simp; done) | (simp; omega)))]; simp [go_sem]; done))); (focus (repeat (first | assumption | exact And.left (by assumption) | refine Below.drew ?_ | refine belowA ?_ | refine joinB ?_ (by assumption)))); rintro e w' ⟨rfl, hb⟩; rw [← HCB.out])))
      all_goals
        go_wp2_with fail
        go_meet
        exact ⟨rfl, HN5'.out.next (And.left (by assumption)), HU5.out.below (And.left (by assumption))⟩
    case rest =>
      obtain ⟨rfl, hn, hu⟩ := hcut
      obtain ⟨w6, rfl⟩ : ∃ x : World, x = wc := ⟨_, rfl⟩
      have HN6 := Lib.hid hn
      have HU6 := Lib.hid hu
      clear hn hu
      go_upto_block 0 with fail
      go_cut [12] (fun v wx => v = .string t ∧ TwoBox w.heap.size a b c d w wx ∧ Box w4.heap.size (.int .u8 ca) (.int .u8 cb) wx)
      case first =>
        have e1 := eq_pair ca cb 1 0
        have e2 := eq_pair ca cb 0 1
        obtain ⟨z1, p0, p1, f0, f1⟩ := HN6.out.p
        cases c1 : (ca == 1 && cb == 0)
        · rw [c1] at e1
          cases c2 : (ca == 0 && cb == 1)
          · rw [c2] at e2
            have n1 : ¬ (ca = 1 ∧ cb = 0) := fun h => by simp [h] at c1
            have n2 : ¬ (ca = 0 ∧ cb = 1) := fun h => by simp [h] at c2
            cases c3 : (ca == cb)
            · have ht : t = ⟨#[tcb ca, 47, tcb cb]⟩ := by rw [E0.out, txtC, if_neg n1, if_neg n2, if_neg (fun h => by simp [h] at c3)]
              have HYY := Lib.hid ht
              clear ht n1 n2 c1 c2
              go_wp2_with (first
                | (go_at_call 22; first
                  | ((with_reducible refine (HCP.out _).mono ?_); rintro e w7 ⟨rfl, hb⟩; have HN7 := Lib.hid (HN6.out.next hb); have HU7 := Lib.hid (HU6.out.below hb); clear hb z1 p0 p1 f0 f1; obtain ⟨z1, p0, p1, f0, f1⟩ := HN7.out.p))
                | (go_at_call 19; (with_reducible refine (dP_any _).mono ?_); rintro e w8 ⟨rfl, hb⟩; have HN6 := Lib.hid (HN7.out.next hb); have HU6 := Lib.hid (HU7.out.below hb); clear hb z1 p0 p1 f0 f1; obtain ⟨z1, p0, p1, f0, f1⟩ := HN6.out.p)
                | (go_at_call 21; (with_reducible refine (bP_any _).mono ?_); rintro e w8 ⟨rfl, hb⟩; have HN8 := Lib.hid (HN7.out.next hb); have HU8 := Lib.hid (HU7.out.below hb); clear hb z1 p0 p1 f0 f1; obtain ⟨z1, p0, p1, f0, f1⟩ := HN8.out.p))
              have l0 : ∀ x : Beh w8, x.x.cell? ⟨w.heap.size, 0, none⟩ = some (.int .u8 a) := beh_cell z1 p0
              have l1 : ∀ x : Beh w8, x.x.cell? ⟨w.heap.size, 1, none⟩ = some (.int .u8 b) := beh_cell z1 p1
              clear z1 p0 p1 f0 f1
              refine region_class (w0 := w8) (Below.refl _ _) (by kernel_rfl) (by kernel_rfl) ?_
              repeat (first
                | go_big_quiet_skip
                | (go_big_quiet_want; go_big_quiet_op; first
                  | go_big_quiet_on
                  | (apply Exists.intro
                     refine ⟨fun xx => ?_, ?_⟩
                     focus first
                      | (go_at_call 22; with_reducible exact beh_of (rel (HCP.out _) xx.below))
                     go_big_quiet_on)))
              refine wpQuiet_nil ?_
              rintro w9 ⟨⟨_, hx8⟩, rfl⟩
              have HN9 := Lib.hid (HN8.out.next hx8)
              have HU9 := Lib.hid (HU8.out.below hx8)
              clear l0 l1 hx8
              go_wp2_with fail
              go_meet
              exact ⟨by rw [HYY.out], HN9.out, HU9.out⟩
            · have ht : t = ⟨#[tcb ca]⟩ := by rw [E0.out, txtC, if_neg n1, if_neg n2, if_pos (by simpa using c3)]
              have HYY := Lib.hid ht
              clear ht n1 n2 c1 c2
              go_wp2_with (first
                | (go_at_call 22; first
                  | ((with_reducible refine (HCP.out _).mono ?_); rintro e w7 ⟨rfl, hb⟩; have HN7 := Lib.hid (HN6.out.next hb); have HU7 := Lib.hid (HU6.out.below hb); clear hb z1 p0 p1 f0 f1; obtain ⟨z1, p0, p1, f0, f1⟩ := HN7.out.p))
                | (go_at_call 19; (with_reducible refine (dP_any _).mono ?_); rintro e w8 ⟨rfl, hb⟩; have HN6 := Lib.hid (HN7.out.next hb); have HU6 := Lib.hid (HU7.out.below hb); clear hb z1 p0 p1 f0 f1; obtain ⟨z1, p0, p1, f0, f1⟩ := HN6.out.p)
                | (go_at_call 21; (with_reducible refine (bP_any _).mono ?_); rintro e w8 ⟨rfl, hb⟩; have HN8 := Lib.hid (HN7.out.next hb); have HU8 := Lib.hid (HU7.out.below hb); clear hb z1 p0 p1 f0 f1; obtain ⟨z1, p0, p1, f0, f1⟩ := HN8.out.p))
              have l0 : ∀ x : Beh w8, x.x.cell? ⟨w.heap.size, 0, none⟩ = some (.int .u8 a) := beh_cell z1 p0
              have l1 : ∀ x : Beh w8, x.x.cell? ⟨w.heap.size, 1, none⟩ = some (.int .u8 b) := beh_cell z1 p1
              clear z1 p0 p1 f0 f1
              refine region_class (w0 := w8) (Below.refl _ _) (by kernel_rfl) (by kernel_rfl) ?_
              repeat (first
                | go_big_quiet_skip
                | (go_big_quiet_want; go_big_quiet_op; first
                  | go_big_quiet_on
                  | (apply Exists.intro
                     refine ⟨fun xx => ?_, ?_⟩
                     focus first
                      | (go_at_call 22; with_reducible exact beh_of (rel (HCP.out _) xx.below))
                     go_big_quiet_on)))
              refine wpQuiet_nil ?_
              rintro w9 ⟨⟨_, hx8⟩, rfl⟩
              have HN9 := Lib.hid (HN8.out.next hx8)
              have HU9 := Lib.hid (HU8.out.below hx8)
              clear l0 l1 hx8
              obtain ⟨y1, r0, r1, s0, s1⟩ := HN9.out.p
              go_wp2_with (go_at_call 31; (with_reducible refine (text_new a H0.out (HT.out.below HN9.out.below)).mono ?_); rintro e w10 ⟨rfl, hb⟩; rw [← HCA.out]; have HN10 := Lib.hid (HN9.out.next hb); have HU10 := Lib.hid (HU9.out.below hb); clear hb)
              go_meet
              exact ⟨by rw [HYY.out], HN10.out, HU10.out⟩
          · rw [c2] at e2
            have ht : t = ⟨#[66]⟩ := by simp at c2; rw [E0.out, txtC, if_neg (fun h => by simp [h] at c1), if_pos c2]
            have HYY := Lib.hid ht
            clear ht c1 c2
            go_wp2_with (first
              | (go_at_call 22; first
                | ((with_reducible refine (HCP.out _).mono ?_); rintro e w7 ⟨rfl, hb⟩; have HN7 := Lib.hid (HN6.out.next hb); have HU7 := Lib.hid (HU6.out.below hb); clear hb z1 p0 p1 f0 f1; obtain ⟨z1, p0, p1, f0, f1⟩ := HN7.out.p))
              | (go_at_call 19; (with_reducible refine (dP_any _).mono ?_); rintro e w8 ⟨rfl, hb⟩; have HN6 := Lib.hid (HN7.out.next hb); have HU6 := Lib.hid (HU7.out.below hb); clear hb z1 p0 p1 f0 f1; obtain ⟨z1, p0, p1, f0, f1⟩ := HN6.out.p)
              | (go_at_call 21; (with_reducible refine (bP_any _).mono ?_); rintro e w9 ⟨rfl, hb⟩; have HN9 := Lib.hid (HN7.out.next hb); have HU9 := Lib.hid (HU7.out.below hb); clear hb z1 p0 p1 f0 f1; obtain ⟨z1, p0, p1, f0, f1⟩ := HN9.out.p))
            go_meet
            exact ⟨by rw [HYY.out], HN9.out, HU9.out⟩
        · rw [c1] at e1
          have ht : t = ⟨#[68]⟩ := by simp at c1; rw [E0.out, txtC, if_pos c1]
          have HYY := Lib.hid ht
          clear ht c1
          go_wp2_with (first
            | (go_at_call 22; (with_reducible refine (HCP.out _).mono ?_); rintro e w7 ⟨rfl, hb⟩; have HN7 := Lib.hid (HN6.out.next hb); have HU7 := Lib.hid (HU6.out.below hb); clear hb)
            | (go_at_call 19; (with_reducible refine (dP_any _).mono ?_); rintro e w8 ⟨rfl, hb⟩; have HN8 := Lib.hid (HN7.out.next hb); have HU8 := Lib.hid (HU7.out.below hb); clear hb))
          go_meet
          exact ⟨by rw [HYY.out], HN8.out, HU8.out⟩
      case rest =>
        obtain ⟨rfl, hn, hu⟩ := hcut
        obtain ⟨w9, rfl⟩ : ∃ x : World, x = wc := ⟨_, rfl⟩
        have HTW := Lib.hid (HT.out.below hn.below)
        have HNB := Lib.hid hn.below
        have l0 : ∀ x : Beh w9, x.x.cell? ⟨w.heap.size, 0, none⟩ = some (.int .u8 a) := beh_cell hn.p.1 hn.p.2.1
        have l1 : ∀ x : Beh w9, x.x.cell? ⟨w.heap.size, 1, none⟩ = some (.int .u8 b) := beh_cell hn.p.1 hn.p.2.2.1
        have l2 : ∀ x : Beh w9, x.x.cell? ⟨w.heap.size + 1, 0, none⟩ = some (.int .u8 c) := beh_cell hn.q.1 hn.q.2.1
        have l3 : ∀ x : Beh w9, x.x.cell? ⟨w.heap.size + 1, 1, none⟩ = some (.int .u8 d) := beh_cell hn.q.1 hn.q.2.2.1
        have l4 : ∀ x : Beh w9, x.x.cell? ⟨w4.heap.size, 0, none⟩ = some (.int .u8 ca) := beh_cell hu.1 hu.2.1
        have l5 : ∀ x : Beh w9, x.x.cell? ⟨w4.heap.size, 1, none⟩ = some (.int .u8 cb) := beh_cell hu.1 hu.2.2.1
        have e6 := eq_pair ca cb cc cd
        have e7 := E1.out
        obtain ⟨z, HZ⟩ := named (ca == cc && cb == cd)
        rw [← HZ.out] at e6 e7
        clear hn hu
        go_wp2_with fail
        refine region_class (w0 := w9) (Below.refl _ _) (by kernel_rfl) (by kernel_rfl) ?_
        repeat (first
          | go_big_quiet_skip
          | (go_big_quiet_want; go_big_quiet_op; first
            | go_big_quiet_on
            | (apply Exists.intro
               refine ⟨fun xx => ?_, ?_⟩
               focus first
                | (go_at_call 22; with_reducible exact beh_of (rel (HCP.out _) xx.below))
                | (go_at_call 22; with_reducible exact beh_of (rel (HCQ.out _) xx.below))
                | (go_at_call 30; with_reducible exact beh_of (rel (HTQ.out _ (HTW.out.below xx.below)) xx.below))
                | (go_at_call 10; with_reducible exact beh_of (rel (livesP_any _ (HTW.out.below xx.below)) xx.below))
               go_big_quiet_on)))
        refine wpQuiet_nil ?_
        rintro x9 ⟨⟨_, hx⟩, rfl⟩
        go_wp2_with fail
        go_ret
        exact ⟨rfl, joinB HNB.out hx⟩
  · go_upto_region 8 with (first
      | (go_at_call 29; first
        | ((with_reducible refine (HPZ.out _ (HT.out.below HN0.out.below)).mono ?_); rintro e w1 ⟨rfl, hb⟩; have HN1 := Lib.hid (HN0.out.next hb); clear hb; obtain ⟨z1, p0, p1, f0, f1⟩ := HN1.out.p; obtain ⟨z2, q0, q1, g0, g1⟩ := HN1.out.q)
        | ((with_reducible refine (HBK.out _ (HT.out.below HN3.out.below)).mono ?_); rintro e w4 ⟨rfl, hb⟩; have HN4 := Lib.hid (HN3.out.next hb); have HU := Lib.hid (Box.new w4 (.int .u8 ca) (.int .u8 cb) 28); have HN5 := Lib.hid (HN4.out.alloc (.cells #[.int .u8 ca, .int .u8 cb] 28)); clear hb; clear z1 p0 p1 f0 f1 z2 q0 q1 g0 g1; obtain ⟨z1, p0, p1, f0, f1⟩ := HN4.out.p; obtain ⟨z2, q0, q1, g0, g1⟩ := HN4.out.q))
      | (go_at_call 30; first
        | ((with_reducible refine (HTX.out _ (HT.out.below (HN1.out.alloc (.cells #[.int .u8 0, .int .u8 0] 28)).below)).mono ?_); rintro e w2 ⟨rfl, hb⟩; have HN2 := Lib.hid ((HN1.out.alloc (.cells #[.int .u8 0, .int .u8 0] 28)).next hb); clear hb; clear z1 p0 p1 f0 f1 z2 q0 q1 g0 g1; obtain ⟨z1, p0, p1, f0, f1⟩ := HN2.out.p; obtain ⟨z2, q0, q1, g0, g1⟩ := HN2.out.q)
        | ((with_reducible refine (HTP.out _ (HT.out.below HN2.out.below)).mono ?_); rintro e w3 ⟨rfl, hb⟩; have HN3 := Lib.hid (HN2.out.next hb); clear hb; clear z1 p0 p1 f0 f1 z2 q0 q1 g0 g1; obtain ⟨z1, p0, p1, f0, f1⟩ := HN3.out.p; obtain ⟨z2, q0, q1, g0, g1⟩ := HN3.out.q)
        | ((with_reducible refine (HTP.out _ (HT.out.below (HN1.out.alloc (.cells #[.int .u8 0, .int .u8 0] 28)).below)).mono ?_); rintro e w3 ⟨rfl, hb⟩; have HN3 := Lib.hid ((HN1.out.alloc (.cells #[.int .u8 0, .int .u8 0] 28)).next hb); clear hb; clear z1 p0 p1 f0 f1 z2 q0 q1 g0 g1; obtain ⟨z1, p0, p1, f0, f1⟩ := HN3.out.p; obtain ⟨z2, q0, q1, g0, g1⟩ := HN3.out.q)))
    obtain ⟨w5, hw5⟩ : ∃ x, x = w4.alloc (.cells #[.int .u8 ca, .int .u8 cb] 28) := ⟨_, rfl⟩
    rw [← hw5]
    have HN5' : Hid (TwoBox w.heap.size a b c d w w5) := Lib.hid (by rw [hw5]; exact HN4.out.alloc _)
    have HU5 : Hid (Box w4.heap.size (.int .u8 ca) (.int .u8 cb) w5) := Lib.hid (by rw [hw5]; exact HU.out)
    have HT5 := Lib.hid (HT.out.below HN5'.out.below)
    clear hw5
    clear z1 p0 p1 f0 f1 z2 q0 q1 g0 g1
    go_cut [12] (fun v wx => v = .string ⟨#[tcb ca, 47, tcb cb]⟩ ∧ TwoBox w.heap.size a b c d w wx ∧ Box w4.heap.size (.int .u8 ca) (.int .u8 cb) wx)
    case first =>
      have HXC : Hid (∀ w', Below w5.heap.size w5 w' → Below w5.heap.size w5 w' ∧ w'.cell? ⟨w.heap.size, 0, none⟩ = some (.int .u8 a) ∧ w'.cell? ⟨w.heap.size, 1, none⟩ = some (.int .u8 b)) :=
        Lib.hid fun w' h => ⟨h, (h.cell (p := ⟨w.heap.size, 0, none⟩) HN5'.out.p.1).trans HN5'.out.p.2.1, (h.cell (p := ⟨w.heap.size, 1, none⟩) HN5'.out.p.1).trans HN5'.out.p.2.2.1⟩
      have hb0 := Below.refl w5.heap.size w5
      go_region_held3 (fun w' => Below w5.heap.size w5 w' ∧ w'.cell? ⟨w.heap.size, 0, none⟩ = some (.int .u8 a) ∧ w'.cell? ⟨w.heap.size, 1, none⟩ = some (.int .u8 b))
        ((first | assumption | (refine HXC.out _ ?_; (repeat (first | assumption | exact And.left (by assumption) | refine Below.drew ?_ | refine belowA ?_ | refine joinB ?_ (by assumption))))))
        (first
          | (go_at_call 31; first
             | ((with_reducible refine Calls.mono (text_val a H0.out _ ?_ ?_ HT5.out ?_) ?_); (focus (first | (simp; done) | (simp; omega) | (have hq := hb.size; (try simp at hq ⊢); first | done | omega))); (focus (first | (simp [go_sem]; done) | (rw [hb.cell (p := ⟨_, _, none⟩) (by (first | (simp; done) | (simp; omega)))]; simp [go_sem]; done))); (focus (repeat (first | assumption | exact And.left (by assumption) | refine Below.drew ?_ | refine belowA ?_ | refine joinB ?_ (by assumption)))); rintro e w' ⟨rfl, hb⟩; rw [← HCA.out])
             | ((with_reducible refine Calls.mono (text_val b H1.out _ ?_ ?_ HT5.out ?_) ?_); (focus (first | (simp; done) | (simp; omega) | (have hq := hb.size; (try simp at hq ⊢); first | done | omega))); (focus (first | (simp [go_sem]; done) | (rw [hb.cell (p := ⟨_, _, none⟩) (by (first | (simp; done) | (simp; omega)))]; simp [go_sem]; done))); (focus (repeat (first | assumption | exact And.left (by assumption) | refine Below.drew ?_ | refine belowA ?_ | refine joinB ?_ (by assumption)))); rintro e w' ⟨rfl, hb⟩; rw [← HCB.out])))
      all_goals
        go_wp2_with fail
        go_meet
        exact ⟨rfl, HN5'.out.next (And.left (by assumption)), HU5.out.below (And.left (by assumption))⟩
    case rest =>
      obtain ⟨rfl, hn, hu⟩ := hcut
      obtain ⟨w6, rfl⟩ : ∃ x : World, x = wc := ⟨_, rfl⟩
      have HN6 := Lib.hid hn
      have HU6 := Lib.hid hu
      clear hn hu
      go_upto_block 0 with fail
      go_cut [12] (fun v wx => v = .string t ∧ TwoBox w.heap.size a b c d w wx ∧ Box w4.heap.size (.int .u8 ca) (.int .u8 cb) wx)
      case first =>
        have e1 := eq_pair ca cb 1 0
        have e2 := eq_pair ca cb 0 1
        obtain ⟨z1, p0, p1, f0, f1⟩ := HN6.out.p
        cases c1 : (ca == 1 && cb == 0)
        · rw [c1] at e1
          cases c2 : (ca == 0 && cb == 1)
          · rw [c2] at e2
            have n1 : ¬ (ca = 1 ∧ cb = 0) := fun h => by simp [h] at c1
            have n2 : ¬ (ca = 0 ∧ cb = 1) := fun h => by simp [h] at c2
            cases c3 : (ca == cb)
            · have ht : t = ⟨#[tcb ca, 47, tcb cb]⟩ := by rw [E0.out, txtC, if_neg n1, if_neg n2, if_neg (fun h => by simp [h] at c3)]
              have HYY := Lib.hid ht
              clear ht n1 n2 c1 c2
              go_wp2_with (first
                | (go_at_call 22; first
                  | ((with_reducible refine (HCP.out _).mono ?_); rintro e w7 ⟨rfl, hb⟩; have HN7 := Lib.hid (HN6.out.next hb); have HU7 := Lib.hid (HU6.out.below hb); clear hb z1 p0 p1 f0 f1; obtain ⟨z1, p0, p1, f0, f1⟩ := HN7.out.p))
                | (go_at_call 19; (with_reducible refine (dP_any _).mono ?_); rintro e w8 ⟨rfl, hb⟩; have HN6 := Lib.hid (HN7.out.next hb); have HU6 := Lib.hid (HU7.out.below hb); clear hb z1 p0 p1 f0 f1; obtain ⟨z1, p0, p1, f0, f1⟩ := HN6.out.p)
                | (go_at_call 21; (with_reducible refine (bP_any _).mono ?_); rintro e w8 ⟨rfl, hb⟩; have HN8 := Lib.hid (HN7.out.next hb); have HU8 := Lib.hid (HU7.out.below hb); clear hb z1 p0 p1 f0 f1; obtain ⟨z1, p0, p1, f0, f1⟩ := HN8.out.p))
              have l0 : ∀ x : Beh w8, x.x.cell? ⟨w.heap.size, 0, none⟩ = some (.int .u8 a) := beh_cell z1 p0
              have l1 : ∀ x : Beh w8, x.x.cell? ⟨w.heap.size, 1, none⟩ = some (.int .u8 b) := beh_cell z1 p1
              clear z1 p0 p1 f0 f1
              refine region_class (w0 := w8) (Below.refl _ _) (by kernel_rfl) (by kernel_rfl) ?_
              repeat (first
                | go_big_quiet_skip
                | (go_big_quiet_want; go_big_quiet_op; first
                  | go_big_quiet_on
                  | (apply Exists.intro
                     refine ⟨fun xx => ?_, ?_⟩
                     focus first
                      | (go_at_call 22; with_reducible exact beh_of (rel (HCP.out _) xx.below))
                     go_big_quiet_on)))
              refine wpQuiet_nil ?_
              rintro w9 ⟨⟨_, hx8⟩, rfl⟩
              have HN9 := Lib.hid (HN8.out.next hx8)
              have HU9 := Lib.hid (HU8.out.below hx8)
              clear l0 l1 hx8
              go_wp2_with fail
              go_meet
              exact ⟨by rw [HYY.out], HN9.out, HU9.out⟩
            · have ht : t = ⟨#[tcb ca]⟩ := by rw [E0.out, txtC, if_neg n1, if_neg n2, if_pos (by simpa using c3)]
              have HYY := Lib.hid ht
              clear ht n1 n2 c1 c2
              go_wp2_with (first
                | (go_at_call 22; first
                  | ((with_reducible refine (HCP.out _).mono ?_); rintro e w7 ⟨rfl, hb⟩; have HN7 := Lib.hid (HN6.out.next hb); have HU7 := Lib.hid (HU6.out.below hb); clear hb z1 p0 p1 f0 f1; obtain ⟨z1, p0, p1, f0, f1⟩ := HN7.out.p))
                | (go_at_call 19; (with_reducible refine (dP_any _).mono ?_); rintro e w8 ⟨rfl, hb⟩; have HN6 := Lib.hid (HN7.out.next hb); have HU6 := Lib.hid (HU7.out.below hb); clear hb z1 p0 p1 f0 f1; obtain ⟨z1, p0, p1, f0, f1⟩ := HN6.out.p)
                | (go_at_call 21; (with_reducible refine (bP_any _).mono ?_); rintro e w8 ⟨rfl, hb⟩; have HN8 := Lib.hid (HN7.out.next hb); have HU8 := Lib.hid (HU7.out.below hb); clear hb z1 p0 p1 f0 f1; obtain ⟨z1, p0, p1, f0, f1⟩ := HN8.out.p))
              have l0 : ∀ x : Beh w8, x.x.cell? ⟨w.heap.size, 0, none⟩ = some (.int .u8 a) := beh_cell z1 p0
              have l1 : ∀ x : Beh w8, x.x.cell? ⟨w.heap.size, 1, none⟩ = some (.int .u8 b) := beh_cell z1 p1
              clear z1 p0 p1 f0 f1
              refine region_class (w0 := w8) (Below.refl _ _) (by kernel_rfl) (by kernel_rfl) ?_
              repeat (first
                | go_big_quiet_skip
                | (go_big_quiet_want; go_big_quiet_op; first
                  | go_big_quiet_on
                  | (apply Exists.intro
                     refine ⟨fun xx => ?_, ?_⟩
                     focus first
                      | (go_at_call 22; with_reducible exact beh_of (rel (HCP.out _) xx.below))
                     go_big_quiet_on)))
              refine wpQuiet_nil ?_
              rintro w9 ⟨⟨_, hx8⟩, rfl⟩
              have HN9 := Lib.hid (HN8.out.next hx8)
              have HU9 := Lib.hid (HU8.out.below hx8)
              clear l0 l1 hx8
              obtain ⟨y1, r0, r1, s0, s1⟩ := HN9.out.p
              go_wp2_with (go_at_call 31; (with_reducible refine (text_new a H0.out (HT.out.below HN9.out.below)).mono ?_); rintro e w10 ⟨rfl, hb⟩; rw [← HCA.out]; have HN10 := Lib.hid (HN9.out.next hb); have HU10 := Lib.hid (HU9.out.below hb); clear hb)
              go_meet
              exact ⟨by rw [HYY.out], HN10.out, HU10.out⟩
          · rw [c2] at e2
            have ht : t = ⟨#[66]⟩ := by simp at c2; rw [E0.out, txtC, if_neg (fun h => by simp [h] at c1), if_pos c2]
            have HYY := Lib.hid ht
            clear ht c1 c2
            go_wp2_with (first
              | (go_at_call 22; first
                | ((with_reducible refine (HCP.out _).mono ?_); rintro e w7 ⟨rfl, hb⟩; have HN7 := Lib.hid (HN6.out.next hb); have HU7 := Lib.hid (HU6.out.below hb); clear hb z1 p0 p1 f0 f1; obtain ⟨z1, p0, p1, f0, f1⟩ := HN7.out.p))
              | (go_at_call 19; (with_reducible refine (dP_any _).mono ?_); rintro e w8 ⟨rfl, hb⟩; have HN6 := Lib.hid (HN7.out.next hb); have HU6 := Lib.hid (HU7.out.below hb); clear hb z1 p0 p1 f0 f1; obtain ⟨z1, p0, p1, f0, f1⟩ := HN6.out.p)
              | (go_at_call 21; (with_reducible refine (bP_any _).mono ?_); rintro e w9 ⟨rfl, hb⟩; have HN9 := Lib.hid (HN7.out.next hb); have HU9 := Lib.hid (HU7.out.below hb); clear hb z1 p0 p1 f0 f1; obtain ⟨z1, p0, p1, f0, f1⟩ := HN9.out.p))
            go_meet
            exact ⟨by rw [HYY.out], HN9.out, HU9.out⟩
        · rw [c1] at e1
          have ht : t = ⟨#[68]⟩ := by simp at c1; rw [E0.out, txtC, if_pos c1]
          have HYY := Lib.hid ht
          clear ht c1
          go_wp2_with (first
            | (go_at_call 22; (with_reducible refine (HCP.out _).mono ?_); rintro e w7 ⟨rfl, hb⟩; have HN7 := Lib.hid (HN6.out.next hb); have HU7 := Lib.hid (HU6.out.below hb); clear hb)
            | (go_at_call 19; (with_reducible refine (dP_any _).mono ?_); rintro e w8 ⟨rfl, hb⟩; have HN8 := Lib.hid (HN7.out.next hb); have HU8 := Lib.hid (HU7.out.below hb); clear hb))
          go_meet
          exact ⟨by rw [HYY.out], HN8.out, HU8.out⟩
      case rest =>
        obtain ⟨rfl, hn, hu⟩ := hcut
        obtain ⟨w9, rfl⟩ : ∃ x : World, x = wc := ⟨_, rfl⟩
        have HTW := Lib.hid (HT.out.below hn.below)
        have HNB := Lib.hid hn.below
        have l0 : ∀ x : Beh w9, x.x.cell? ⟨w.heap.size, 0, none⟩ = some (.int .u8 a) := beh_cell hn.p.1 hn.p.2.1
        have l1 : ∀ x : Beh w9, x.x.cell? ⟨w.heap.size, 1, none⟩ = some (.int .u8 b) := beh_cell hn.p.1 hn.p.2.2.1
        have l2 : ∀ x : Beh w9, x.x.cell? ⟨w.heap.size + 1, 0, none⟩ = some (.int .u8 c) := beh_cell hn.q.1 hn.q.2.1
        have l3 : ∀ x : Beh w9, x.x.cell? ⟨w.heap.size + 1, 1, none⟩ = some (.int .u8 d) := beh_cell hn.q.1 hn.q.2.2.1
        have l4 : ∀ x : Beh w9, x.x.cell? ⟨w4.heap.size, 0, none⟩ = some (.int .u8 ca) := beh_cell hu.1 hu.2.1
        have l5 : ∀ x : Beh w9, x.x.cell? ⟨w4.heap.size, 1, none⟩ = some (.int .u8 cb) := beh_cell hu.1 hu.2.2.1
        have e6 := eq_pair ca cb cc cd
        have e7 := E1.out
        obtain ⟨z, HZ⟩ := named (ca == cc && cb == cd)
        rw [← HZ.out] at e6 e7
        clear hn hu
        go_wp2_with fail
        refine region_class (w0 := w9) (Below.refl _ _) (by kernel_rfl) (by kernel_rfl) ?_
        repeat (first
          | go_big_quiet_skip
          | (go_big_quiet_want; go_big_quiet_op; first
            | go_big_quiet_on
            | (apply Exists.intro
               refine ⟨fun xx => ?_, ?_⟩
               focus first
                | (go_at_call 22; with_reducible exact beh_of (rel (HCP.out _) xx.below))
                | (go_at_call 22; with_reducible exact beh_of (rel (HCQ.out _) xx.below))
                | (go_at_call 30; with_reducible exact beh_of (rel (HTQ.out _ (HTW.out.below xx.below)) xx.below))
                | (go_at_call 10; with_reducible exact beh_of (rel (livesP_any _ (HTW.out.below xx.below)) xx.below))
               go_big_quiet_on)))
        refine wpQuiet_nil ?_
        rintro x9 ⟨⟨_, hx⟩, rfl⟩
        go_wp2_with fail
        go_ret
        exact ⟨rfl, joinB HNB.out hx⟩

theorem ptext_any (s : ByteArray) (a b c d : Int) (w : World) (ht : Tabs w) (h0 : 0 ≤ a) (h1 : 0 ≤ b) (h2 : 0 ≤ c) (h3 : 0 ≤ d) :
    Calls Tryd.prog 9 #[.string s, .agg #[.int .u8 a, .int .u8 b], .agg #[.int .u8 c, .int .u8 d]] w fun e w' => e = .returned (.bool true) ∧ Below w.heap.size w w' := by
  by_cases h : 20 < s.size
  · exact ptext_long s a b c d w ht h
  by_cases hw : ∃ g b : Int, Cl g ∧ Cl b ∧ txtS g b = s
  · obtain ⟨x0, x1, hx0, hx1, he⟩ := hw
    have p0 : 0 ≤ x0 := by rcases hx0 with rfl | rfl | rfl | rfl <;> decide
    have p1 : 0 ≤ x1 := by rcases hx1 with rfl | rfl | rfl | rfl <;> decide
    refine ptext_main s a b c d w ht h h0 h1 h2 h3 0 x0 x1 p0 p1 (.inl ⟨rfl, he⟩) fun w ht => ?_
    have := parse_back x0 x1 p0 p1 w ht
    rwa [he, hx0.cln, hx1.cln] at this
  · refine ptext_main s a b c d w ht h h0 h1 h2 h3 4 0 0 (by decide) (by decide) (.inr ⟨rfl, rfl, rfl⟩) fun w ht => ?_
    refine (parseP_any s w ht).mono fun e w' ⟨hb, h⟩ => ?_
    rcases h with ⟨g, b, hg, hb', he, -⟩ | ⟨-, rfl⟩
    · exact absurd ⟨g, b, hg, hb', he⟩ hw
    · exact ⟨rfl, hb⟩

end Go.Proofs.YtnddgkcgedkabaaDoor
