/- The walk of the law of monotonicity. -/
import Derived.Test.YtdanmepbdjfpfaaDoorMono
import Derived.Test.YtdanmepbdjfpfaaDoorTextsw
namespace Go.Proofs.YtdanmepbdjfpfaaDoor
open Go.RowKit

/-- A row of the call's own reads as its list. -/
theorem Vs.of_own {w : World} {base : Nat} {v : Value} {n : Nat} {l : List Int} (h : w.ownsRow base 24 1 v n (l.map (Value.int .u8))) : Vs w w.heap.size v l ∧ l.length = n := by
  have hl : l.length = n := by simpa using h.1
  refine ⟨?_, hl⟩
  subst hl
  rcases h.2 with ⟨rfl, hn⟩ | ⟨g, cap, cur, rfl, -, hg, hle, hm, hsz, htake⟩
  · obtain rfl : l = [] := List.eq_nil_of_length_eq_zero hn
    exact Vs.nil _ _ _ _
  · have hlt : g < w.heap.size := by
      rcases Nat.lt_or_ge g w.heap.size with h | h
      · exact h
      · rw [Array.getElem?_eq_none h] at hg; cases hg
    refine ⟨g, 0, cap, .inl rfl, by omega, fun k hk => ⟨hlt, ?_⟩⟩
    rw [Nat.zero_add, h.cellAt k (by omega), List.getElem?_map, List.getElem?_eq_getElem hk, List.getD_eq_getElem?_getD, List.getElem?_eq_getElem hk]
    rfl

theorem eval_rel {w0 : World} {B : Nat} {s : Value} {l : List Int} (k : Int) (h0 : 0 ≤ k) (hB : B ≤ w0.heap.size) (hs : Vs w0 B s l) (ht : Tabs w0) (w : World) (hb : Below w0.heap.size w0 w) :
    Calls Tryd.prog 23 #[.int .u8 k, s] w fun e w' => e = .returned (.int .u8 (evalL k l)) ∧ Below w0.heap.size w0 w' :=
  rel (eval_any k h0 (Nat.le_trans hB hb.size) (hs.below (hb.mono hB)) (ht.below hb)) hb

theorem one_new (w : World) (u : Value) (t : TypeId) : ∀ (j : Nat) (v : Value), [u][j]? = some v → (w.alloc (.cells #[u] t)).cell? ((⟨w.heap.size, 0, none⟩ : Addr).add j) = some v := by
  intro j v h
  match j, h with
  | 0, h =>
    obtain rfl : u = v := by simpa using h
    rw [show (⟨w.heap.size, 0, none⟩ : Addr).add 0 = ⟨w.heap.size, 0, none⟩ from rfl, World.cell?_alloc_at _ _ _ _ rfl]
    rfl
theorem own_from {w : World} {base : Nat} {e : TypeId} {size n : Nat} {v : Value} {xs : List Value} (h : w.ownsRow base e size v n xs) {q : Nat} (hq : v.ownBlock = some q) : base ≤ q := by
  rcases h.2 with ⟨rfl, -⟩ | ⟨g, cap, cur, rfl, hb, -⟩
  · cases hq
  · obtain rfl : g = q := by simpa [Value.ownBlock] using hq
    exact hb

set_option maxHeartbeats 400000 in
theorem mono_long (k : Int) (A A' : Option Addr) (n c n' c' : Nat) (w : World) (ht : Tabs w) (h : 16 < n ∨ (¬ 16 < n ∧ n' < n)) :
    Calls Tryd.prog 6 #[.int .u8 k, .slice A n c, .slice A' n' c'] w fun e w' => e = .returned (.bool true) ∧ Below w.heap.size w w' := by
  have HT := Lib.hid ht
  clear ht
  have hb0 := Below.refl w.heap.size w
  rcases h with h | ⟨h, h'⟩
  all_goals
    go_enter Tryd.func6, Tryd.ntmps6
    go_wp2_with (go_at_call 11; (with_reducible refine (lives_at HT.out (by assumption)).mono ?_); rintro e w' ⟨rfl, hb⟩)
    go_ret
    exact ⟨rfl, by assumption⟩

set_option maxHeartbeats 1000000 in
set_option maxRecDepth 100000 in
theorem mono_main (q : Int) (h0 : 0 ≤ q) (l y : List Int) (s s' : Value) (w : World) (B : Nat) (hB : B ≤ w.heap.size) (hs : Vs w B s l) (ht : Tabs w)
    (A A' : Option Addr) (n n' c c' b o b' o' : Nat) (hv : s = .slice A n c) (hv' : s' = .slice A' n' c') (hA : 0 < n → A = some ⟨b, o, none⟩) (hA' : 0 < n' → A' = some ⟨b', o', none⟩)
    (hc : ∀ k, k < n → b < B ∧ w.cell? ⟨b, o + k, none⟩ = some (.int .u8 (l.getD k 0))) (hc' : ∀ k, k < n' → b' < B ∧ w.cell? ⟨b', o' + k, none⟩ = some (.int .u8 (y.getD k 0)))
    (hn : n = l.length) (h1 : n ≤ 16) (h2 : n ≤ n') :
    Calls Tryd.prog 6 #[.int .u8 q, s, s'] w fun e w' => e = .returned (.bool true) ∧ Below w.heap.size w w' := by
  obtain ⟨i0, hi, hz0, hz1, hz2⟩ := info_parts info_value
  have HT := Lib.hid ht
  have H0 := Lib.hid h0
  have HB := Lib.hid hB
  have HS := Lib.hid hs
  have HA := Lib.hid hA
  have HA' := Lib.hid hA'
  have HC := Lib.hid hc
  have HC' := Lib.hid hc'
  have HN := Lib.hid hn
  have HI := Lib.hid hi
  have HZ0 := Lib.hid hz0
  have HZ1 := Lib.hid hz1
  have HZ2 := Lib.hid hz2
  have HE := Lib.hid (eval_mono q (morL_le l y))
  subst hv; subst hv'
  clear ht hB hs hA hA' hc hc' hn hi hz0 hz1 hz2 h0
  obtain ⟨g, hg⟩ : ∃ g, g = w.heap.size := ⟨_, rfl⟩
  have HG := Lib.hid hg
  clear hg
  have d1 : decide ((16 : Int) < (n : Int)) = false := by simp; omega
  have d2 : decide (n' < n) = false := by simp; omega
  go_enter Tryd.func6, Tryd.ntmps6
  go_wp2_with fail
  go_loopw [7, 8] (fun v i wr => ∃ k : Nat, k ≤ n ∧ i = .int .i64 k ∧ Below g w wr ∧ g ≤ wr.heap.size ∧ wr.ownsRow g 24 1 v k ((morL l y k).map (Value.int .u8))) (fun _ i _ => n - (intOf i).toNat)
  case atStart => exact ⟨0, Nat.zero_le _, rfl, Below.refl _ _, by rw [HG.out]; exact Nat.le_refl _, by simp [morL], .inl ⟨rfl, rfl⟩⟩
  case round =>
    obtain ⟨k, hk, rfl, hb, hgs, hown⟩ := hrel
    have HBW := Lib.hid hb
    have HGS := Lib.hid hgs
    have HO := Lib.hid hown
    clear hb hgs hown
    by_cases hlt : k < n
    · obtain rfl := HA.out (by omega)
      obtain rfl := HA'.out (by omega)
      have hcl : wr.cell? ⟨b, o + k, none⟩ = some (.int .u8 (l.getD k 0)) :=
        (HBW.out.cell (p := ⟨b, o + k, none⟩) (by rw [HG.out]; exact Nat.lt_of_lt_of_le (HC.out k hlt).1 HB.out)).trans (HC.out k hlt).2
      have hcy : wr.cell? ⟨b', o' + k, none⟩ = some (.int .u8 (y.getD k 0)) :=
        (HBW.out.cell (p := ⟨b', o' + k, none⟩) (by rw [HG.out]; exact Nat.lt_of_lt_of_le (HC'.out k (by omega)).1 HB.out)).trans (HC'.out k (by omega)).2
      have HM : Hid (morL l y (k + 1) = morL l y k ++ [if cln (l.getD k 0) = 2 then y.getD k 0 else l.getD k 0]) := Lib.hid rfl
      obtain ⟨x, HX⟩ := named (l.getD k 0)
      obtain ⟨z, HZ⟩ := named (y.getD k 0)
      rw [← HX.out] at hcl
      rw [← HZ.out] at hcy
      cases e : (cln x == 2)
      · have hbl : blw x x = true := blw_refl x
        go_wp2_with (first
          | (go_at_call 25; (with_reducible refine (clean_any _ _).mono ?_); rintro e w' ⟨rfl, rfl⟩)
          | (go_at_call 26; (with_reducible refine (below_any _ _ _).mono ?_); rintro e w' ⟨rfl, rfl⟩)
          | (at_builtin; refine wpList_append_own _ rfl _ _ 22 rfl g 24 i0 (.int .u8 0) 1 1 Tryd.underlying22 HI.out HZ0.out HZ1.out HZ2.out rfl (by decide) _ _ _ rfl (HO.out.alloc _) ⟨wr.heap.size, 0, none⟩ 1 1 [.int .u8 x] rfl rfl ?c1 ?c2 ?c3 ?c4 ?c5 ?_))
        case c1 => exact one_new _ _ _
        case c2 => intro u hu; obtain rfl := List.mem_singleton.1 hu; rfl
        case c3 => unfold maxLen; omega
        case c4 => omega
        case c5 => have := HGS.out; simp; omega
        intro v' w1 hown' hgrow _
        have HO' := Lib.hid hown'
        have hb1 : Below g w w1 := (HBW.out.alloc HGS.out _).grown hgrow (by have := HGS.out; simp; omega) (fun q hq => own_from HO.out hq)
        have HB1 := Lib.hid hb1
        have HS1 : Hid (g ≤ w1.heap.size) := Lib.hid (by have h1 := hgrow.size; have h2 := HGS.out; simp at h1; omega)
        clear hown' hgrow hb1
        go_wp2
        go_roundw
        case rel =>
          refine ⟨k + 1, by omega, by go_num, HB1.out, HS1.out, ?_⟩
          have h' := HO'.out
          rw [HM.out, if_neg (by rw [← HX.out]; simpa using e), ← HX.out, List.map_append]
          exact h'
        case measure => simp [intOf]; omega
      · have hbl : blw x z = true := (blw_iff _ _).2 (.inr (by simpa using e))
        go_wp2_with (first
          | (go_at_call 25; (with_reducible refine (clean_any _ _).mono ?_); rintro e w' ⟨rfl, rfl⟩)
          | (go_at_call 26; (with_reducible refine (below_any _ _ _).mono ?_); rintro e w' ⟨rfl, rfl⟩)
          | (at_builtin; refine wpList_append_own _ rfl _ _ 22 rfl g 24 i0 (.int .u8 0) 1 1 Tryd.underlying22 HI.out HZ0.out HZ1.out HZ2.out rfl (by decide) _ _ _ rfl (HO.out.alloc _) ⟨wr.heap.size, 0, none⟩ 1 1 [.int .u8 z] rfl rfl ?c1 ?c2 ?c3 ?c4 ?c5 ?_))
        case c1 => exact one_new _ _ _
        case c2 => intro u hu; obtain rfl := List.mem_singleton.1 hu; rfl
        case c3 => unfold maxLen; omega
        case c4 => omega
        case c5 => have := HGS.out; simp; omega
        intro v' w1 hown' hgrow _
        have HO' := Lib.hid hown'
        have hb1 : Below g w w1 := (HBW.out.alloc HGS.out _).grown hgrow (by have := HGS.out; simp; omega) (fun q hq => own_from HO.out hq)
        have HB1 := Lib.hid hb1
        have HS1 : Hid (g ≤ w1.heap.size) := Lib.hid (by have h1 := hgrow.size; have h2 := HGS.out; simp at h1; omega)
        clear hown' hgrow hb1
        go_wp2
        go_roundw
        case rel =>
          refine ⟨k + 1, by omega, by go_num, HB1.out, HS1.out, ?_⟩
          have h' := HO'.out
          rw [HM.out, if_pos (by rw [← HX.out]; simpa using e), ← HZ.out, List.map_append]
          exact h'
        case measure => simp [intOf]; omega
    · obtain rfl : n = k := by omega
      have hb : Below w.heap.size w wr := by have := HBW.out; rw [HG.out] at this; exact this
      have hvm := Vs.of_own HO.out
      have HVM := Lib.hid hvm.1
      have HBL : Hid (blw (evalL q l) (evalL q (morL l y n)) = true) := Lib.hid (by rw [HN.out]; exact HE.out)
      clear hvm
      have HT2 : Hid (Tabs wr) := Lib.hid (HT.out.below hb)
      have HS2 : Hid (Vs wr B (.slice A n c) l) := Lib.hid (HS.out.below (hb.mono HB.out))
      have HB2 : Hid (B ≤ wr.heap.size) := Lib.hid (Nat.le_trans HB.out hb.size)
      have HW := Lib.hid hb
      have hb0 := Below.refl wr.heap.size wr
      have hbl : blw (evalL q l) (evalL q (morL l y n)) = true := HBL.out
      clear hb
      go_wp2_with fail
      refine (eval_rel q H0.out HB2.out HS2.out HT2.out _ (by assumption)).mono ?_
      rintro e w1 ⟨rfl, hb1⟩
      go_wp2_with fail
      refine (eval_rel q H0.out (Nat.le_refl _) HVM.out HT2.out _ (by assumption)).mono ?_
      rintro e w2 ⟨rfl, hb2⟩
      go_wp2_with (first
        | (go_at_call 26; (with_reducible refine (below_any _ _ _).mono ?_); rintro e w' ⟨rfl, rfl⟩)
        | (go_at_call 11; (with_reducible refine (lives_at HT2.out (by assumption)).mono ?_); rintro e w' ⟨rfl, hb⟩))
      go_ret
      exact ⟨rfl, join HW.out (by assumption)⟩

theorem mono_any (q : Int) (h0 : 0 ≤ q) (l y : List Int) (s s' : Value) (w : World) (B : Nat) (hB : B ≤ w.heap.size) (hs : Vs w B s l) (ht : Tabs w)
    (A A' : Option Addr) (c c' b o b' o' : Nat) (hv : s = .slice A l.length c) (hv' : s' = .slice A' y.length c') (hA : 0 < l.length → A = some ⟨b, o, none⟩) (hA' : 0 < y.length → A' = some ⟨b', o', none⟩)
    (hc : ∀ k, k < l.length → b < B ∧ w.cell? ⟨b, o + k, none⟩ = some (.int .u8 (l.getD k 0))) (hc' : ∀ k, k < y.length → b' < B ∧ w.cell? ⟨b', o' + k, none⟩ = some (.int .u8 (y.getD k 0))) :
    Calls Tryd.prog 6 #[.int .u8 q, s, s'] w fun e w' => e = .returned (.bool true) ∧ Below w.heap.size w w' := by
  by_cases h1 : 16 < l.length
  · subst hv; subst hv'; exact mono_long q A A' _ c _ c' w ht (.inl h1)
  by_cases h2 : y.length < l.length
  · subst hv; subst hv'; exact mono_long q A A' _ c _ c' w ht (.inr ⟨h1, h2⟩)
  exact mono_main q h0 l y s s' w B hB hs ht A A' _ _ c c' b o b' o' hv hv' hA hA' hc hc' rfl (by omega) (by omega)

end Go.Proofs.YtdanmepbdjfpfaaDoor
