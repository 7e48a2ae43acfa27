/- The walk of lives, the chapter's examples: it returns true, and nothing that was there before changes. -/
import Derived.Test.YtdanmepbdjfpfaaDoorEvalw
import Derived.Test.YtdanmepbdjfpfaaDoorText
namespace Go.Proofs.YtdanmepbdjfpfaaDoor
open Go.RowKit

/-- A new row of cells reads as its list. -/
theorem Vs.made (w : World) (l : List Int) (t : TypeId) (hl : l.length ≤ maxLen) :
    Vs (w.alloc (.cells (l.map (Value.int .u8)).toArray t)) (w.alloc (.cells (l.map (Value.int .u8)).toArray t)).heap.size (.slice (some ⟨w.heap.size, 0, none⟩) l.length l.length) l := by
  refine ⟨w.heap.size, 0, l.length, .inl rfl, hl, fun k hk => ⟨by simp, ?_⟩⟩
  rw [World.cell?_alloc_at _ _ _ _ rfl]
  simp [List.getElem?_map, List.getElem?_eq_getElem hk]

theorem from_new {w0 w : World} {o : Obj} {P : Program} {f : FuncId} {args : Array Value} {v : Value} (h : Calls P f args (w.alloc o) fun e w' => e = .returned v ∧ Below (w.alloc o).heap.size (w.alloc o) w') (hb : Below w0.heap.size w0 w) :
    Calls P f args (w.alloc o) fun e w' => e = .returned v ∧ Below w0.heap.size w0 w' :=
  h.mono fun _ _ ⟨he, h'⟩ => ⟨he, (hb.alloc hb.size o).trans (h'.mono (by have := hb.size; simp; omega))⟩

theorem and_lit2 {w0 w : World} (a b : Int) (hb : Below w0.heap.size w0 w) : Calls Tryd.prog 12 #[.slice (some ⟨w.heap.size, 0, none⟩) 2 2] (w.alloc (.cells #[.int .u8 a, .int .u8 b] 24)) fun e w' => e = .returned (.int .u8 (andL [a, b])) ∧ Below w0.heap.size w0 w' :=
  from_new (and_any (l := [a, b]) (Nat.le_refl _) (Vs.made w [a, b] _ (by simp [maxLen]))) hb
theorem or_lit2 {w0 w : World} (a b : Int) (hb : Below w0.heap.size w0 w) : Calls Tryd.prog 14 #[.slice (some ⟨w.heap.size, 0, none⟩) 2 2] (w.alloc (.cells #[.int .u8 a, .int .u8 b] 24)) fun e w' => e = .returned (.int .u8 (orL [a, b])) ∧ Below w0.heap.size w0 w' :=
  from_new (or_any (l := [a, b]) (Nat.le_refl _) (Vs.made w [a, b] _ (by simp [maxLen]))) hb
theorem xor_lit3 {w0 w : World} (a b c : Int) (hb : Below w0.heap.size w0 w) : Calls Tryd.prog 15 #[.slice (some ⟨w.heap.size, 0, none⟩) 3 3] (w.alloc (.cells #[.int .u8 a, .int .u8 b, .int .u8 c] 24)) fun e w' => e = .returned (.int .u8 (xorL [a, b, c])) ∧ Below w0.heap.size w0 w' :=
  from_new (xor_any (l := [a, b, c]) (Nat.le_refl _) (Vs.made w [a, b, c] _ (by simp [maxLen]))) hb
theorem bus_lit3 {w0 w : World} (a b c : Int) (hb : Below w0.heap.size w0 w) : Calls Tryd.prog 19 #[.slice (some ⟨w.heap.size, 0, none⟩) 3 3] (w.alloc (.cells #[.int .u8 a, .int .u8 b, .int .u8 c] 24)) fun e w' => e = .returned (.int .u8 (busL [a, b, c])) ∧ Below w0.heap.size w0 w' :=
  from_new (bus_any (l := [a, b, c]) (Nat.le_refl _) (Vs.made w [a, b, c] _ (by simp [maxLen]))) hb
theorem bus_lit2 {w0 w : World} (a b : Int) (hb : Below w0.heap.size w0 w) : Calls Tryd.prog 19 #[.slice (some ⟨w.heap.size, 0, none⟩) 2 2] (w.alloc (.cells #[.int .u8 a, .int .u8 b] 24)) fun e w' => e = .returned (.int .u8 (busL [a, b])) ∧ Below w0.heap.size w0 w' :=
  from_new (bus_any (l := [a, b]) (Nat.le_refl _) (Vs.made w [a, b] _ (by simp [maxLen]))) hb
theorem eval_lit1 {w0 w : World} (k a : Int) (hk : 0 ≤ k) (ht : Tabs w) (hb : Below w0.heap.size w0 w) : Calls Tryd.prog 23 #[.int .u8 k, .slice (some ⟨w.heap.size, 0, none⟩) 1 1] (w.alloc (.cells #[.int .u8 a] 24)) fun e w' => e = .returned (.int .u8 (evalL k [a])) ∧ Below w0.heap.size w0 w' :=
  from_new (eval_any (l := [a]) k hk (Nat.le_refl _) (Vs.made w [a] _ (by simp [maxLen])) (ht.below ((Below.refl _ _).alloc (Nat.le_refl _) _))) hb
theorem eval_lit2 {w0 w : World} (k a b : Int) (hk : 0 ≤ k) (ht : Tabs w) (hb : Below w0.heap.size w0 w) : Calls Tryd.prog 23 #[.int .u8 k, .slice (some ⟨w.heap.size, 0, none⟩) 2 2] (w.alloc (.cells #[.int .u8 a, .int .u8 b] 24)) fun e w' => e = .returned (.int .u8 (evalL k [a, b])) ∧ Below w0.heap.size w0 w' :=
  from_new (eval_any (l := [a, b]) k hk (Nat.le_refl _) (Vs.made w [a, b] _ (by simp [maxLen])) (ht.below ((Below.refl _ _).alloc (Nat.le_refl _) _))) hb
theorem text_0123 {w0 w : World} (ht : Tabs w) (hb : Below w0.heap.size w0 w) : Calls Tryd.prog 32 #[.slice (some ⟨w.heap.size, 0, none⟩) 4 4] (w.alloc (.cells #[.int .u8 0, .int .u8 1, .int .u8 2, .int .u8 3] 24)) fun e w' => e = .returned (.string ⟨#[48, 49, 88, 90]⟩) ∧ Below w0.heap.size w0 w' :=
  from_new (text_any (l := [0, 1, 2, 3]) (Nat.le_refl _) (Vs.made w [0, 1, 2, 3] _ (by decide)) (by decide) (by decide) (ht.below ((Below.refl _ _).alloc (Nat.le_refl _) _))) hb

theorem and_nil {w0 w : World} (hb : Below w0.heap.size w0 w) : Calls Tryd.prog 12 #[.slice none 0 0] w fun e w' => e = .returned (.int .u8 1) ∧ Below w0.heap.size w0 w' :=
  rel (and_any (l := []) (Nat.le_refl _) (Vs.nil w _ none 0)) hb
theorem bus_nil {w0 w : World} (hb : Below w0.heap.size w0 w) : Calls Tryd.prog 19 #[.slice none 0 0] w fun e w' => e = .returned (.int .u8 3) ∧ Below w0.heap.size w0 w' :=
  rel (bus_any (l := []) (Nat.le_refl _) (Vs.nil w _ none 0)) hb

def Parsed (w : World) (e : Ending) (w' : World) : Prop :=
  ∃ g, e = .returned (.tuple #[.slice (some ⟨g, 0, none⟩) 2 2, .int .i64 0]) ∧ Below w.heap.size w w' ∧ g < w'.heap.size ∧ w'.cell? ⟨g, 0, none⟩ = some (.int .u8 1) ∧ w'.cell? ⟨g, 1, none⟩ = some (.int .u8 3)

theorem parse_1Z (w : World) (ht : Tabs w) : Calls Tryd.prog 31 #[.string ⟨#[49, 90]⟩] w (Parsed w) := by
  refine (parse_any ⟨#[49, 90]⟩ w (by decide) ht).mono fun e w' ⟨hb, h⟩ => ?_
  rcases h with ⟨-, he, ho⟩ | ⟨⟨k, hk, hbad⟩, -⟩
  · refine ⟨w.heap.size, he, hb, ?_, ?_, ?_⟩
    · obtain ⟨-, h⟩ := ho
      rcases h with ⟨h, -⟩ | ⟨g, cap, cur, h1, -, h2, -⟩
      · cases h
      · simp only [Value.slice.injEq, Option.some.injEq, Addr.mk.injEq, and_true, true_and] at h1
        obtain ⟨rfl, -⟩ := h1
        rcases Nat.lt_or_ge w.heap.size w'.heap.size with h | h
        · exact h
        · rw [Array.getElem?_eq_none h] at h2; cases h2
    · rw [ho.cellAt 0 (by decide)]; rfl
    · rw [ho.cellAt 1 (by decide)]; rfl
  · match k, hk, hbad with
    | 0, _, h => exact absurd h (by decide)
    | 1, _, h => exact absurd h (by decide)

theorem parse_2 {w0 w : World} (ht : Tabs w) (hb : Below w0.heap.size w0 w) : Calls Tryd.prog 31 #[.string ⟨#[50]⟩] w fun e w' => e = .returned (.tuple #[.slice none 0 0, .int .i64 4]) ∧ Below w0.heap.size w0 w' := by
  refine rel ((parse_any ⟨#[50]⟩ w (by decide) ht).mono fun e w' ⟨hb, h⟩ => ?_) hb
  rcases h with ⟨h, -⟩ | ⟨-, he⟩
  · exact absurd (h 0 (by decide)) (by decide)
  · exact ⟨he, hb⟩

theorem fanin_rel {w0 w : World} (k lo' hi' : Int) (h0 : 0 ≤ k) (hl : lo k = lo') (hh : hi k = hi') (ht : Tabs w) (hb : Below w0.heap.size w0 w) :
    Calls Tryd.prog 22 #[.int .u8 k] w fun e w' => e = .returned (.tuple #[.int .i64 lo', .int .i64 hi']) ∧ Below w0.heap.size w0 w' := by
  subst hl; subst hh
  exact rel ((fanin_any k h0 w ht).mono fun _ _ ⟨he, n, hw⟩ => ⟨he, by rw [hw]; exact below_drewN (Below.refl _ _) n⟩) hb
theorem mux_lit (s a b y : Int) (w : World) (hy : mx s a b = y) : Calls Tryd.prog 18 #[.int .u8 s, .int .u8 a, .int .u8 b] w fun e w' => e = .returned (.int .u8 y) ∧ w = w' := hy ▸ mux_any s a b w
theorem tri_lit (a b y : Int) (w : World) (hy : tr a b = y) : Calls Tryd.prog 17 #[.int .u8 a, .int .u8 b] w fun e w' => e = .returned (.int .u8 y) ∧ w = w' := hy ▸ tri_any a b w
theorem control_lit (k y : Int) (z : Bool) (w : World) (hy : ctl k = y) (hz : isc k = z) : Calls Tryd.prog 29 #[.int .u8 k] w fun e w' => e = .returned (.tuple #[.int .u8 y, .bool z]) ∧ w = w' := hy ▸ hz ▸ control_any k w
theorem join {w0 w1 w2 : World} (hb : Below w0.heap.size w0 w1) (hp : Below w1.heap.size w1 w2) : Below w0.heap.size w0 w2 := hb.trans (hp.mono hb.size)

theorem ex1 : andL [1, 2] = 2 := by decide
theorem ex2 : andL [0, 2] = 0 := by decide
theorem ex3 : orL [3, 1] = 1 := by decide
theorem ex4 : xorL [1, 1, 1] = 1 := by decide
theorem ex5 : mx 2 1 1 = 1 := by decide
theorem ex6 : mx 2 1 0 = 2 := by decide
theorem ex7 : mx 0 3 1 = 2 := by decide
theorem ex8 : tr 0 1 = 3 := by decide
theorem ex9 : tr 1 3 = 2 := by decide
theorem ex10 : busL [3, 1, 3] = 1 := by decide
theorem ex11 : busL [0, 1] = 2 := by decide
theorem ex12 : busL [2, 3] = 2 := by decide
theorem ex13 : ctl 6 = 0 := by decide
theorem ex14 : isc 6 = true := by decide
theorem ex15 : evalL 8 [0, 0] = 1 := by decide
theorem ex16 : evalL 8 [0] = 2 := by decide
theorem ex17 : evalL 14 [1] = 2 := by decide

set_option maxHeartbeats 1000000 in
set_option maxRecDepth 100000 in
theorem lives_any (w : World) (ht : Tabs w) : Calls Tryd.prog 11 #[] w fun e w' => e = .returned (.bool true) ∧ Below w.heap.size w w' := by
  have HT := Lib.hid ht
  clear ht
  have hb0 := Below.refl w.heap.size w
  go_enter Tryd.func11, Tryd.ntmps11
  go_wp2_with (first
    | (go_at_call 12; first
      | ((with_reducible refine (and_lit2 _ _ (by assumption)).mono ?_); rintro e w' ⟨rfl, hb⟩; simp only [ex1, ex2])
      | ((with_reducible refine (and_nil (by assumption)).mono ?_); rintro e w' ⟨rfl, hb⟩))
    | (go_at_call 14; (with_reducible refine (or_lit2 _ _ (by assumption)).mono ?_); rintro e w' ⟨rfl, hb⟩; simp only [ex3])
    | (go_at_call 15; (with_reducible refine (xor_lit3 _ _ _ (by assumption)).mono ?_); rintro e w' ⟨rfl, hb⟩; simp only [ex4])
    | (go_at_call 18; (with_reducible refine (mux_any _ _ _ _).mono ?_); rintro e w' ⟨rfl, rfl⟩; simp only [ex5, ex6, ex7])
    | (go_at_call 17; (with_reducible refine (tri_any _ _ _).mono ?_); rintro e w' ⟨rfl, rfl⟩; simp only [ex8, ex9])
    | (go_at_call 19; first
      | ((with_reducible refine (bus_lit3 _ _ _ (by assumption)).mono ?_); rintro e w' ⟨rfl, hb⟩; simp only [ex10])
      | ((with_reducible refine (bus_lit2 _ _ (by assumption)).mono ?_); rintro e w' ⟨rfl, hb⟩; simp only [ex11, ex12])
      | ((with_reducible refine (bus_nil (by assumption)).mono ?_); rintro e w' ⟨rfl, hb⟩))
    | (go_at_call 29; (with_reducible refine (control_any _ _).mono ?_); rintro e w' ⟨rfl, rfl⟩; simp only [ex13, ex14])
    | (go_at_call 22; (with_reducible refine (fanin_rel 11 3 3 (by decide) (by decide) (by decide) (HT.out.below (by assumption)) (by assumption)).mono ?_); rintro e w' ⟨rfl, hb⟩))
  refine (parse_1Z _ (HT.out.below (by assumption))).mono ?_
  rintro e w2 ⟨g, rfl, hbp, hlt, hc0, hc1⟩
  have hW : Below w.heap.size w w2 := join (by assumption) hbp
  have HW := Lib.hid hW
  have HLT := Lib.hid hlt
  have HC0 := Lib.hid hc0
  have HC1 := Lib.hid hc1
  have HT2 : Hid (Tabs w2) := Lib.hid (HT.out.below hW)
  have hb2 := Below.refl w2.heap.size w2
  clear hW hlt hc0 hc1 hbp
  go_wp2_with (first
    | (go_at_call 31; (with_reducible refine (parse_2 (HT2.out.below (by assumption)) (by assumption)).mono ?_); rintro e w' ⟨rfl, hb⟩)
    | (go_at_call 23; first
      | ((with_reducible refine (eval_lit2 _ _ _ (by decide) (HT2.out.below (by assumption)) (by assumption)).mono ?_); rintro e w' ⟨rfl, hb⟩; simp only [ex15])
      | ((with_reducible refine (eval_lit1 _ _ (by decide) (HT2.out.below (by assumption)) (by assumption)).mono ?_); rintro e w' ⟨rfl, hb⟩; simp only [ex16, ex17]))
    | (go_at_call 32; (with_reducible refine (text_0123 (HT2.out.below (by assumption)) (by assumption)).mono ?_); rintro e w' ⟨rfl, hb⟩; have d0 := (hb.cell (p := ⟨_, 0, none⟩) HLT.out).trans HC0.out; have d1 := (hb.cell (p := ⟨_, 1, none⟩) HLT.out).trans HC1.out))
  go_ret
  exact ⟨rfl, join HW.out (by assumption)⟩

end Go.Proofs.YtdanmepbdjfpfaaDoor
