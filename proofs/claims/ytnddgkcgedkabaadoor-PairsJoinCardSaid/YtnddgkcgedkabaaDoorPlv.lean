/- The walk of lives, the chapter's examples: it returns true, and nothing that was there before changes. -/
import Derived.Test.YtnddgkcgedkabaaDoorPev
namespace Go.Proofs.YtnddgkcgedkabaaDoor
open Go.RowKit

theorem Pl.made2 (w : World) (a b c d : Int) (t : TypeId) : Pl (w.alloc (.cells #[.int .u8 a, .int .u8 b, .int .u8 c, .int .u8 d] t)) (w.alloc (.cells #[.int .u8 a, .int .u8 b, .int .u8 c, .int .u8 d] t)).heap.size (.slice (some ⟨w.heap.size, 0, none⟩) 2 2) [(a, b), (c, d)] := by
  refine ⟨w.heap.size, 0, 2, .inl rfl, by simp [maxLen], fun k hk => ⟨by simp, ?_, ?_⟩⟩
  · rw [World.cell?_alloc_at _ _ _ _ rfl]
    match k, hk with
    | 0, _ => rfl
    | 1, _ => rfl
  · rw [World.cell?_alloc_at _ _ _ _ rfl]
    match k, hk with
    | 0, _ => rfl
    | 1, _ => rfl
theorem Box.new' {n : Nat} (w : World) (x0 x1 : Value) (t : TypeId) (h : n = w.heap.size) : Box n x0 x1 (w.alloc (.cells #[x0, x1] t)) := h ▸ Box.new w x0 x1 t
theorem evalP_lit {w0 w : World} (k a b c d : Int) (y1 y2 : Int) (hk : 0 ≤ k) (h1 : evP1 k [(a, b), (c, d)] = y1) (h2 : evP2 k [(a, b), (c, d)] = y2) (ht : Tabs w0) (hb : Below w0.heap.size w0 w) :
    Calls Tryd.prog 11 #[.int .u8 k, .slice (some ⟨w.heap.size, 0, none⟩) 2 2] (w.alloc (.cells #[.int .u8 a, .int .u8 b, .int .u8 c, .int .u8 d] 28)) fun e w' => e = .returned (.agg #[.int .u8 y1, .int .u8 y2]) ∧ Below w0.heap.size w0 w' := by
  subst h1; subst h2
  exact from_new (evalP_any k hk (Nat.le_refl _) (Pl.made2 w a b c d _) (by simp) (ht.below (belowA hb))) hb
theorem evalP_litd {w0 w : World} (k a b c d : Int) (y1 y2 : Int) (hk : 0 ≤ k) (h1 : evP1 k [(a, b), (c, d)] = y1) (h2 : evP2 k [(a, b), (c, d)] = y2) (ht : Tabs w0) (hb : Below w0.heap.size w0 w) :
    Calls Tryd.prog 11 #[.int .u8 k, .slice (some ⟨w.heap.size, 0, none⟩) 2 2] (w.alloc (.cells #[.int .u8 a, .int .u8 b, .int .u8 c, .int .u8 d] 28)).drew fun e w' => e = .returned (.agg #[.int .u8 y1, .int .u8 y2]) ∧ Below w0.heap.size w0 w' := by
  subst h1; subst h2
  exact rel (evalP_any k hk (Nat.le_refl _) (Pl.made2 w a b c d _) (by simp) (ht.below (belowA hb).drew)) (belowA hb).drew
theorem textP_lit {w0 w : World} (a b : Int) (s : ByteArray) (ha : 0 ≤ a) (hb' : 0 ≤ b) (hs : txtS a b = s) (ht : Tabs w0) (hb : Below w0.heap.size w0 w) :
    Calls Tryd.prog 30 #[.agg #[.int .u8 a, .int .u8 b]] w fun e w' => e = .returned (.string s) ∧ Below w0.heap.size w0 w' := hs ▸ rel (textP_any a b ha hb' w (ht.below hb)) hb
theorem fiveP_lit {w0 w : World} (a b y1 y2 : Int) (ha : 0 ≤ a) (h1 : five1 a b = y1) (h2 : five2 a b = y2) (ht : Tabs w0) (hb : Below w0.heap.size w0 w) :
    Calls Tryd.prog 23 #[.agg #[.int .u8 a, .int .u8 b]] w fun e w' => e = .returned (.agg #[.int .u8 y1, .int .u8 y2]) ∧ Below w0.heap.size w0 w' := h1 ▸ h2 ▸ rel (fiveP_any a b ha w (ht.below hb)) hb
theorem ofP_lit {w0 w : World} (a y : Int) (h : cln a = y) (hb : Below w0.heap.size w0 w) :
    Calls Tryd.prog 17 #[.int .u8 a] w fun e w' => e = .returned (.agg #[.int .u8 y, .int .u8 y]) ∧ Below w0.heap.size w0 w' := h ▸ rel (ofP_any a w) hb
theorem joinP_lit (a b c d y1 y2 : Int) (y3 : Bool) (w : World) (h1 : jn1 a b c d = y1) (h2 : jn2 a b c d = y2) (h3 : jnb2 a b c d = y3) :
    Calls Tryd.prog 25 #[.agg #[.int .u8 a, .int .u8 b], .agg #[.int .u8 c, .int .u8 d]] w fun e w' => e = .returned (.tuple #[.agg #[.int .u8 y1, .int .u8 y2], .bool y3]) ∧ Below w.heap.size w w' := h1 ▸ h2 ▸ h3 ▸ joinP_any a b c d w

theorem txt_inj {a b c d : Int} (ha : Cl a) (hb : Cl b) (hc : Cl c) (hd : Cl d) (h : txtC a b = txtC c d) : a = c ∧ b = d := by
  rcases ha with rfl | rfl | rfl | rfl <;> rcases hb with rfl | rfl | rfl | rfl <;> rcases hc with rfl | rfl | rfl | rfl <;> rcases hd with rfl | rfl | rfl | rfl <;>
    first
    | exact ⟨rfl, rfl⟩
    | (exfalso; revert h; decide)
theorem txtS_inj {a b c d : Int} (ha : Cl a) (hb : Cl b) (hc : Cl c) (hd : Cl d) (h : txtS a b = txtS c d) : a = c ∧ b = d := by
  refine txt_inj ha hb hc hd ?_
  unfold txtS txtL at h
  rw [ha.cln, hb.cln, hc.cln, hd.cln] at h
  simpa using h
theorem parse_B (w : World) (ht : Tabs w) : Calls Tryd.prog 29 #[.string ⟨#[66]⟩] w fun e w' => e = .returned (.tuple #[.agg #[.int .u8 0, .int .u8 1], .int .i64 0]) ∧ Below w.heap.size w w' := by
  refine (parseP_any ⟨#[66]⟩ w ht).mono fun e w' ⟨hb, h⟩ => ?_
  have hB : txtS 0 1 = ⟨#[66]⟩ := by decide
  rcases h with ⟨g, b, hg, hb', he, rfl⟩ | ⟨h, -⟩
  · obtain ⟨rfl, rfl⟩ := txtS_inj hg hb' (.inl rfl : Cl 0) (.inr (.inl rfl) : Cl 1) (he.trans hB.symm)
    exact ⟨rfl, hb⟩
  · exact absurd hB (h 0 1 (.inl rfl) (.inr (.inl rfl)))
theorem parse_10 (w : World) (ht : Tabs w) : Calls Tryd.prog 29 #[.string ⟨#[49, 47, 48]⟩] w fun e w' => e = .returned (.tuple #[.agg #[.int .u8 0, .int .u8 0], .int .i64 4]) ∧ Below w.heap.size w w' := by
  refine (parseP_any ⟨#[49, 47, 48]⟩ w ht).mono fun e w' ⟨hb, h⟩ => ?_
  rcases h with ⟨g, b, hg, hb', he, rfl⟩ | ⟨-, rfl⟩
  · exfalso
    rcases hg with rfl | rfl | rfl | rfl <;> rcases hb' with rfl | rfl | rfl | rfl <;> (revert he; decide)
  · exact ⟨rfl, hb⟩

set_option maxHeartbeats 2000000 in
set_option maxRecDepth 100000 in
theorem livesP_any (w : World) (ht : Tabs w) : Calls Tryd.prog 10 #[] w fun e w' => e = .returned (.bool true) ∧ Below w.heap.size w w' := by
  have HT := Lib.hid ht
  clear ht
  have eg := eg_pair
  have eq := eq_pair
  have ne := ne_pair
  go_enter Tryd.func10, Tryd.ntmps10
  go_wp2_with (first
    | (go_at_call 19; (with_reducible refine (dP_any _).mono ?_); rintro e w1 ⟨rfl, hb1⟩; have HB1 := Lib.hid hb1; clear hb1)
    | (go_at_call 21; (with_reducible refine (bP_any _).mono ?_); rintro e w2 ⟨rfl, hb2⟩; have HB2 := Lib.hid (joinB HB1.out hb2); clear hb2)
    | (go_at_call 17; first
      | ((with_reducible refine (ofP_lit 2 2 (by decide) (Below.refl _ _)).mono ?_); rintro e w3 ⟨rfl, hb3⟩; have HB3 := Lib.hid (joinB HB2.out hb3); clear hb3)
      | ((with_reducible refine (ofP_lit 1 1 (by decide) (Below.refl _ _)).mono ?_); rintro e w4 ⟨rfl, hb4⟩; have HB4 := Lib.hid (joinB HB3.out hb4); clear hb4))
    | (go_at_call 25; first
      | ((with_reducible refine (joinP_lit 2 2 1 0 1 0 true _ (by decide) (by decide) (by decide)).mono ?_); rintro e w5 ⟨rfl, hb5⟩; have HBD : Hid (Box (w4.heap.size ) (.int .u8 1) (.int .u8 0) w5) := Lib.hid (Box.below ((((Box.new' w4 (.int .u8 1) (.int .u8 0) 28 (by simp)).alloc (.cells #[.int .u8 0, .int .u8 1] 28)).alloc (.cells #[.int .u8 2, .int .u8 2] 28)).alloc (.cells #[.int .u8 1, .int .u8 1] 28)) hb5); have HBB : Hid (Box (w4.heap.size + 1) (.int .u8 0) (.int .u8 1) w5) := Lib.hid (Box.below (((Box.new' (w4.alloc (.cells #[.int .u8 1, .int .u8 0] 28)) (.int .u8 0) (.int .u8 1) 28 (by simp)).alloc (.cells #[.int .u8 2, .int .u8 2] 28)).alloc (.cells #[.int .u8 1, .int .u8 1] 28)) hb5); have HBX : Hid (Box (w4.heap.size + 1 + 1) (.int .u8 2) (.int .u8 2) w5) := Lib.hid (Box.below ((Box.new' ((w4.alloc (.cells #[.int .u8 1, .int .u8 0] 28)).alloc (.cells #[.int .u8 0, .int .u8 1] 28)) (.int .u8 2) (.int .u8 2) 28 (by simp)).alloc (.cells #[.int .u8 1, .int .u8 1] 28)) hb5); have HBO : Hid (Box (w4.heap.size + 1 + 1 + 1) (.int .u8 1) (.int .u8 1) w5) := Lib.hid (Box.below (Box.new' (((w4.alloc (.cells #[.int .u8 1, .int .u8 0] 28)).alloc (.cells #[.int .u8 0, .int .u8 1] 28)).alloc (.cells #[.int .u8 2, .int .u8 2] 28)) (.int .u8 1) (.int .u8 1) 28 (by simp)) hb5); have HB5 := Lib.hid (joinB (belowA (belowA (belowA (belowA HB4.out)))) hb5); clear hb5; obtain ⟨bdz, bd0, bd1, -, -⟩ := HBD.out; obtain ⟨bbz, bb0, bb1, -, -⟩ := HBB.out; obtain ⟨bxz, bx0, bx1, -, -⟩ := HBX.out; obtain ⟨boz, bo0, bo1, -, -⟩ := HBO.out)
      | ((with_reducible refine (joinP_lit 1 2 2 0 1 0 true _ (by decide) (by decide) (by decide)).mono ?_); rintro e w6 ⟨rfl, hb6⟩; clear bdz bd0 bd1 bbz bb0 bb1 bxz bx0 bx1 boz bo0 bo1; have HBD := Lib.hid ((HBD.out.alloc (.cells #[.int .u8 1, .int .u8 0] 28)).below hb6); have HBB := Lib.hid ((HBB.out.alloc (.cells #[.int .u8 1, .int .u8 0] 28)).below hb6); have HBX := Lib.hid ((HBX.out.alloc (.cells #[.int .u8 1, .int .u8 0] 28)).below hb6); have HBO := Lib.hid ((HBO.out.alloc (.cells #[.int .u8 1, .int .u8 0] 28)).below hb6); have HBP : Hid (Box (w5.heap.size) (.int .u8 1) (.int .u8 0) w6) := Lib.hid (Box.below (Box.new' w5 (.int .u8 1) (.int .u8 0) 28 rfl) hb6); have HB6 := Lib.hid (joinB (belowA HB5.out) hb6); clear hb6; obtain ⟨bdz, bd0, bd1, -, -⟩ := HBD.out; obtain ⟨bbz, bb0, bb1, -, -⟩ := HBB.out; obtain ⟨bxz, bx0, bx1, -, -⟩ := HBX.out; obtain ⟨boz, bo0, bo1, -, -⟩ := HBO.out)
      | ((with_reducible refine (joinP_lit 1 0 0 1 0 0 false _ (by decide) (by decide) (by decide)).mono ?_); rintro e w7 ⟨rfl, hb7⟩; clear bdz bd0 bd1 bbz bb0 bb1 bxz bx0 bx1 boz bo0 bo1; have HBD := Lib.hid ((HBD.out.alloc (.cells #[.int .u8 1, .int .u8 0] 28)).below hb7); have HBB := Lib.hid ((HBB.out.alloc (.cells #[.int .u8 1, .int .u8 0] 28)).below hb7); have HBX := Lib.hid ((HBX.out.alloc (.cells #[.int .u8 1, .int .u8 0] 28)).below hb7); have HBO := Lib.hid ((HBO.out.alloc (.cells #[.int .u8 1, .int .u8 0] 28)).below hb7); have HBP := Lib.hid ((HBP.out.alloc (.cells #[.int .u8 1, .int .u8 0] 28)).below hb7); have HBQ : Hid (Box (w6.heap.size) (.int .u8 1) (.int .u8 0) w7) := Lib.hid (Box.below (Box.new' w6 (.int .u8 1) (.int .u8 0) 28 rfl) hb7); have HB7 := Lib.hid (joinB (belowA HB6.out) hb7); clear hb7))
    | (go_at_call 29; first
      | ((with_reducible refine (parse_B _ (HT.out.below (belowA HB7.out))).mono ?_); rintro e w8 ⟨rfl, hb8⟩; have HBD := Lib.hid ((HBD.out.alloc (.cells #[.int .u8 0, .int .u8 0] 28)).below hb8); have HBB := Lib.hid ((HBB.out.alloc (.cells #[.int .u8 0, .int .u8 0] 28)).below hb8); have HBX := Lib.hid ((HBX.out.alloc (.cells #[.int .u8 0, .int .u8 0] 28)).below hb8); have HBO := Lib.hid ((HBO.out.alloc (.cells #[.int .u8 0, .int .u8 0] 28)).below hb8); have HBP := Lib.hid ((HBP.out.alloc (.cells #[.int .u8 0, .int .u8 0] 28)).below hb8); have HBQ := Lib.hid ((HBQ.out.alloc (.cells #[.int .u8 0, .int .u8 0] 28)).below hb8); have HB8 := Lib.hid (joinB (belowA HB7.out) hb8); clear hb8)
      | ((with_reducible refine (parse_10 _ (HT.out.below (belowA HB8.out))).mono ?_); rintro e w9 ⟨rfl, hb9⟩; have HBD := Lib.hid ((HBD.out.alloc (.cells #[.int .u8 0, .int .u8 1] 28)).below hb9); have HBB := Lib.hid ((HBB.out.alloc (.cells #[.int .u8 0, .int .u8 1] 28)).below hb9); have HBX := Lib.hid ((HBX.out.alloc (.cells #[.int .u8 0, .int .u8 1] 28)).below hb9); have HBO := Lib.hid ((HBO.out.alloc (.cells #[.int .u8 0, .int .u8 1] 28)).below hb9); have HBP := Lib.hid ((HBP.out.alloc (.cells #[.int .u8 0, .int .u8 1] 28)).below hb9); have HBQ := Lib.hid ((HBQ.out.alloc (.cells #[.int .u8 0, .int .u8 1] 28)).below hb9); have HBU : Hid (Box (w8.heap.size) (.int .u8 0) (.int .u8 1) w9) := Lib.hid (Box.below (Box.new' w8 (.int .u8 0) (.int .u8 1) 28 rfl) hb9); have HB9 := Lib.hid (joinB (belowA HB8.out) hb9); clear hb9)))
  obtain ⟨w10, hw10⟩ : ∃ x, x = w9.alloc (.cells #[.int .u8 0, .int .u8 0] 28) := ⟨_, rfl⟩
  rw [← hw10]
  have HBD' : Hid (Box (w4.heap.size) (.int .u8 1) (.int .u8 0) w10) := Lib.hid (by rw [hw10]; exact HBD.out.alloc _)
  have HBB' : Hid (Box (w4.heap.size + 1) (.int .u8 0) (.int .u8 1) w10) := Lib.hid (by rw [hw10]; exact HBB.out.alloc _)
  have HBX' : Hid (Box (w4.heap.size + 1 + 1) (.int .u8 2) (.int .u8 2) w10) := Lib.hid (by rw [hw10]; exact HBX.out.alloc _)
  have HBO' : Hid (Box (w4.heap.size + 1 + 1 + 1) (.int .u8 1) (.int .u8 1) w10) := Lib.hid (by rw [hw10]; exact HBO.out.alloc _)
  have HBP' : Hid (Box (w5.heap.size) (.int .u8 1) (.int .u8 0) w10) := Lib.hid (by rw [hw10]; exact HBP.out.alloc _)
  have HBQ' : Hid (Box (w6.heap.size) (.int .u8 1) (.int .u8 0) w10) := Lib.hid (by rw [hw10]; exact HBQ.out.alloc _)
  have HBU' : Hid (Box (w8.heap.size) (.int .u8 0) (.int .u8 1) w10) := Lib.hid (by rw [hw10]; exact HBU.out.alloc _)
  have HB10 : Hid (Below w.heap.size w w10) := Lib.hid (by rw [hw10]; exact belowA HB9.out)
  have HT10 := Lib.hid (HT.out.below HB10.out)
  have HW10 := Lib.hid hw10
  clear hw10
  have HX7 : Hid (∀ w', Below w10.heap.size w10 w' → Below w10.heap.size w10 w' ∧ w'.cell? ⟨w4.heap.size, 0, none⟩ = some (.int .u8 1) ∧ w'.cell? ⟨w4.heap.size, 1, none⟩ = some (.int .u8 0) ∧ w'.cell? ⟨w4.heap.size + 1, 0, none⟩ = some (.int .u8 0) ∧ w'.cell? ⟨w4.heap.size + 1, 1, none⟩ = some (.int .u8 1) ∧ w'.cell? ⟨w4.heap.size + 1 + 1 + 1, 0, none⟩ = some (.int .u8 1) ∧ w'.cell? ⟨w4.heap.size + 1 + 1 + 1, 1, none⟩ = some (.int .u8 1)) := Lib.hid fun w' h => ⟨h, (h.cell (p := ⟨w4.heap.size, 0, none⟩) HBD'.out.1).trans HBD'.out.2.1, (h.cell (p := ⟨w4.heap.size, 1, none⟩) HBD'.out.1).trans HBD'.out.2.2.1, (h.cell (p := ⟨w4.heap.size + 1, 0, none⟩) HBB'.out.1).trans HBB'.out.2.1, (h.cell (p := ⟨w4.heap.size + 1, 1, none⟩) HBB'.out.1).trans HBB'.out.2.2.1, (h.cell (p := ⟨w4.heap.size + 1 + 1 + 1, 0, none⟩) HBO'.out.1).trans HBO'.out.2.1, (h.cell (p := ⟨w4.heap.size + 1 + 1 + 1, 1, none⟩) HBO'.out.1).trans HBO'.out.2.2.1⟩
  have hb0 := Below.refl w10.heap.size w10
  go_region_held3 (fun w' => Below w10.heap.size w10 w' ∧ w'.cell? ⟨w4.heap.size, 0, none⟩ = some (.int .u8 1) ∧ w'.cell? ⟨w4.heap.size, 1, none⟩ = some (.int .u8 0) ∧ w'.cell? ⟨w4.heap.size + 1, 0, none⟩ = some (.int .u8 0) ∧ w'.cell? ⟨w4.heap.size + 1, 1, none⟩ = some (.int .u8 1) ∧ w'.cell? ⟨w4.heap.size + 1 + 1 + 1, 0, none⟩ = some (.int .u8 1) ∧ w'.cell? ⟨w4.heap.size + 1 + 1 + 1, 1, none⟩ = some (.int .u8 1))
    ((first | assumption | (refine HX7.out _ ?_; (repeat (first | assumption | exact And.left (by assumption) | refine Below.drew ?_ | refine belowA ?_ | refine joinB ?_ (by assumption))))))
    (first
      | (go_at_call 11; first
        | ((with_reducible refine (evalP_lit 5 1 0 1 1 1 0 (by decide) (by decide) (by decide) HT10.out (by first | assumption | exact And.left (by assumption) | exact Below.drew (And.left (by assumption)))).mono ?_); rintro e w11 ⟨rfl, hb⟩)
        | ((with_reducible refine (evalP_litd 5 1 0 1 1 1 0 (by decide) (by decide) (by decide) HT10.out (by first | assumption | exact And.left (by assumption) | exact Below.drew (And.left (by assumption)))).mono ?_); rintro e w11 ⟨rfl, hb⟩)
        | ((with_reducible refine (evalP_lit 5 1 0 0 1 0 0 (by decide) (by decide) (by decide) HT10.out (by first | assumption | exact And.left (by assumption) | exact Below.drew (And.left (by assumption)))).mono ?_); rintro e w11 ⟨rfl, hb⟩)
        | ((with_reducible refine (evalP_litd 5 1 0 0 1 0 0 (by decide) (by decide) (by decide) HT10.out (by first | assumption | exact And.left (by assumption) | exact Below.drew (And.left (by assumption)))).mono ?_); rintro e w11 ⟨rfl, hb⟩)
        | ((with_reducible refine (evalP_lit 6 1 0 1 1 0 1 (by decide) (by decide) (by decide) HT10.out (by first | assumption | exact And.left (by assumption) | exact Below.drew (And.left (by assumption)))).mono ?_); rintro e w11 ⟨rfl, hb⟩)
        | ((with_reducible refine (evalP_litd 6 1 0 1 1 0 1 (by decide) (by decide) (by decide) HT10.out (by first | assumption | exact And.left (by assumption) | exact Below.drew (And.left (by assumption)))).mono ?_); rintro e w11 ⟨rfl, hb⟩)
        | ((with_reducible refine (evalP_lit 9 1 0 1 0 0 0 (by decide) (by decide) (by decide) HT10.out (by first | assumption | exact And.left (by assumption) | exact Below.drew (And.left (by assumption)))).mono ?_); rintro e w11 ⟨rfl, hb⟩)
        | ((with_reducible refine (evalP_litd 9 1 0 1 0 0 0 (by decide) (by decide) (by decide) HT10.out (by first | assumption | exact And.left (by assumption) | exact Below.drew (And.left (by assumption)))).mono ?_); rintro e w11 ⟨rfl, hb⟩)
        | ((with_reducible refine (evalP_lit 9 1 0 1 1 0 1 (by decide) (by decide) (by decide) HT10.out (by first | assumption | exact And.left (by assumption) | exact Below.drew (And.left (by assumption)))).mono ?_); rintro e w11 ⟨rfl, hb⟩)
        | ((with_reducible refine (evalP_litd 9 1 0 1 1 0 1 (by decide) (by decide) (by decide) HT10.out (by first | assumption | exact And.left (by assumption) | exact Below.drew (And.left (by assumption)))).mono ?_); rintro e w11 ⟨rfl, hb⟩))
      | (go_at_call 17; (with_reducible refine (ofP_lit 0 0 (by decide) (by first | assumption | exact And.left (by assumption) | exact Below.drew (And.left (by assumption)))).mono ?_); rintro e w11 ⟨rfl, hb⟩))
  have hbb : Below w10.heap.size w10 w11 := And.left (by assumption)
  have HBD'' := Lib.hid (HBD'.out.below hbb)
  have HBB'' := Lib.hid (HBB'.out.below hbb)
  have HBX'' := Lib.hid (HBX'.out.below hbb)
  have HBO'' := Lib.hid (HBO'.out.below hbb)
  have HBP'' := Lib.hid (HBP'.out.below hbb)
  have HBQ'' := Lib.hid (HBQ'.out.below hbb)
  have HBU'' := Lib.hid (HBU'.out.below hbb)
  have HB11 := Lib.hid (joinB HB10.out hbb)
  have HT11 := Lib.hid (HT.out.below HB11.out)
  obtain ⟨-, bd0, bd1, -, -⟩ := HBD''.out
  obtain ⟨-, bb0, bb1, -, -⟩ := HBB''.out
  obtain ⟨-, bp0, bp1, -, -⟩ := HBP''.out
  obtain ⟨-, bq0, bq1, -, -⟩ := HBQ''.out
  obtain ⟨-, bu0, bu1, -, -⟩ := HBU''.out
  clear hbb hb0
  go_wp2_with fail
  clear bd0 bd1 bb0 bb1 bp0 bp1 bq0 bq1 bu0 bu1
  have HX10 : Hid (∀ w', Below w11.heap.size w11 w' → Below w11.heap.size w11 w' ∧ w'.cell? ⟨w4.heap.size, 0, none⟩ = some (.int .u8 1) ∧ w'.cell? ⟨w4.heap.size, 1, none⟩ = some (.int .u8 0) ∧ w'.cell? ⟨w4.heap.size + 1 + 1, 0, none⟩ = some (.int .u8 2) ∧ w'.cell? ⟨w4.heap.size + 1 + 1, 1, none⟩ = some (.int .u8 2)) := Lib.hid fun w' h => ⟨h, (h.cell (p := ⟨w4.heap.size, 0, none⟩) HBD''.out.1).trans HBD''.out.2.1, (h.cell (p := ⟨w4.heap.size, 1, none⟩) HBD''.out.1).trans HBD''.out.2.2.1, (h.cell (p := ⟨w4.heap.size + 1 + 1, 0, none⟩) HBX''.out.1).trans HBX''.out.2.1, (h.cell (p := ⟨w4.heap.size + 1 + 1, 1, none⟩) HBX''.out.1).trans HBX''.out.2.2.1⟩
  have hb1 := Below.refl w11.heap.size w11
  go_region_held3 (fun w' => Below w11.heap.size w11 w' ∧ w'.cell? ⟨w4.heap.size, 0, none⟩ = some (.int .u8 1) ∧ w'.cell? ⟨w4.heap.size, 1, none⟩ = some (.int .u8 0) ∧ w'.cell? ⟨w4.heap.size + 1 + 1, 0, none⟩ = some (.int .u8 2) ∧ w'.cell? ⟨w4.heap.size + 1 + 1, 1, none⟩ = some (.int .u8 2))
    ((first | assumption | (refine HX10.out _ ?_; (repeat (first | assumption | exact And.left (by assumption) | refine Below.drew ?_ | refine belowA ?_ | refine joinB ?_ (by assumption))))))
    (first
      | (go_at_call 11; first
        | ((with_reducible refine (evalP_lit 5 1 0 2 2 2 0 (by decide) (by decide) (by decide) HT11.out (by first | assumption | exact And.left (by assumption) | exact Below.drew (And.left (by assumption)))).mono ?_); rintro e w12 ⟨rfl, hb⟩)
        | ((with_reducible refine (evalP_litd 5 1 0 2 2 2 0 (by decide) (by decide) (by decide) HT11.out (by first | assumption | exact And.left (by assumption) | exact Below.drew (And.left (by assumption)))).mono ?_); rintro e w12 ⟨rfl, hb⟩)
        | ((with_reducible refine (evalP_lit 7 1 0 2 2 1 2 (by decide) (by decide) (by decide) HT11.out (by first | assumption | exact And.left (by assumption) | exact Below.drew (And.left (by assumption)))).mono ?_); rintro e w12 ⟨rfl, hb⟩)
        | ((with_reducible refine (evalP_litd 7 1 0 2 2 1 2 (by decide) (by decide) (by decide) HT11.out (by first | assumption | exact And.left (by assumption) | exact Below.drew (And.left (by assumption)))).mono ?_); rintro e w12 ⟨rfl, hb⟩))
      | (go_at_call 30; first
        | ((with_reducible refine (textP_lit 2 0 ⟨#[88, 47, 48]⟩ (by decide) (by decide) (by decide) HT11.out (by first | assumption | exact And.left (by assumption) | exact Below.drew (And.left (by assumption)))).mono ?_); rintro e w12 ⟨rfl, hb⟩)
        | ((with_reducible refine (textP_lit 1 2 ⟨#[49, 47, 88]⟩ (by decide) (by decide) (by decide) HT11.out (by first | assumption | exact And.left (by assumption) | exact Below.drew (And.left (by assumption)))).mono ?_); rintro e w12 ⟨rfl, hb⟩)
        | ((with_reducible refine (textP_lit 3 3 ⟨#[90]⟩ (by decide) (by decide) (by decide) HT11.out (by first | assumption | exact And.left (by assumption) | exact Below.drew (And.left (by assumption)))).mono ?_); rintro e w12 ⟨rfl, hb⟩)
        | ((with_reducible refine (textP_lit 0 2 ⟨#[48, 47, 88]⟩ (by decide) (by decide) (by decide) HT11.out (by first | assumption | exact And.left (by assumption) | exact Below.drew (And.left (by assumption)))).mono ?_); rintro e w12 ⟨rfl, hb⟩))
      | (go_at_call 23; (with_reducible refine (fiveP_lit 1 2 2 2 (by decide) (by decide) (by decide) HT11.out (by first | assumption | exact And.left (by assumption) | exact Below.drew (And.left (by assumption)))).mono ?_); rintro e w12 ⟨rfl, hb⟩)
      | (go_at_call 17; (with_reducible refine (ofP_lit 3 3 (by decide) (by first | assumption | exact And.left (by assumption) | exact Below.drew (And.left (by assumption)))).mono ?_); rintro e w12 ⟨rfl, hb⟩))
  go_wp2_with fail
  go_ret
  exact ⟨rfl, joinB HB11.out (And.left (by assumption))⟩

end Go.Proofs.YtnddgkcgedkabaaDoor
