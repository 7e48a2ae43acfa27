/- The walk of the law of Eval. -/
import Derived.Test.YtdanmepbdjfpfaaDoorEvr
namespace Go.Proofs.YtdanmepbdjfpfaaDoor
open Go.RowKit

set_option maxHeartbeats 400000 in
theorem evl_long (q : Int) (A : Option Addr) (n c : Nat) (w : World) (ht : Tabs w) (ha : allowL q n = true) (h7 : 7 < n) :
    Calls Tryd.prog 5 #[.int .u8 q, .slice A n c] w fun e w' => e = .returned (.bool true) ∧ Below w.heap.size w w' := by
  have HT := Lib.hid ht
  have HA : Hid (∀ w', Calls Tryd.prog 21 #[.int .u8 q, .int .i64 n] w' fun e w'' => e = .returned (.bool true) ∧ w' = w'') := Lib.hid fun w' => by rw [← ha]; exact allowed_any q n w'
  have d7 : decide ((7 : Int) < (n : Int)) = true := by simp; omega
  have hb0 := Below.refl w.heap.size w
  clear ht ha
  go_enter Tryd.func5, Tryd.ntmps5
  go_wp2_with (first
    | (go_at_call 21; (with_reducible refine (HA.out _).mono ?_); rintro e w' ⟨rfl, rfl⟩)
    | (go_at_call 11; (with_reducible refine (lives_at HT.out (by assumption)).mono ?_); rintro e w' ⟨rfl, hb⟩))
  go_ret
  exact ⟨rfl, by assumption⟩

theorem evl_ways (q : Int) (h0 : 0 ≤ q) (n : Nat) (AV : Bool) (hv : AV = allowL q n) :
    (decide (1 ≤ q) = true ∧ decide (q ≤ 13) = true ∧ (q != 0) = true ∧ (q == 0) = false ∧ decide (15 < q) = false ∧ (q == 15) = false ∧ (q == 14) = false ∧
      ((decide (lo q ≤ n) = false ∧ AV = false) ∨ (decide (lo q ≤ n) = true ∧ decide ((n : Int) ≤ hi q) = false ∧ AV = false) ∨ (decide (lo q ≤ n) = true ∧ decide ((n : Int) ≤ hi q) = true ∧ AV = true))) ∨
    (q = 0 ∧ AV = false) ∨ (q = 14 ∧ AV = false) ∨ (q = 15 ∧ AV = false) ∨ (decide (1 ≤ q) = true ∧ decide (q ≤ 13) = false ∧ decide (15 < q) = true ∧ (q == 0) = false ∧ (q == 15) = false ∧ (q == 14) = false ∧ lo q = 0 ∧ hi q = -1 ∧ AV = false) := by
  by_cases h : 1 ≤ q ∧ q ≤ 13
  · refine .inl ⟨decide_eq_true h.1, decide_eq_true h.2, by simp; omega, by simp; omega, decide_eq_false (by omega), by simp; omega, by simp; omega, ?_⟩
    rw [allow_span h.1 h.2 (by omega)] at hv
    cases h1 : decide (lo q ≤ n) <;> cases h2 : decide ((n : Int) ≤ hi q) <;> rw [h1, h2] at hv <;> simp [hv]
  · have hv : AV = false := by rw [hv, allow_not (by omega)]
    by_cases e0 : q = 0
    · exact .inr (.inl ⟨e0, hv⟩)
    by_cases e4 : q = 14
    · exact .inr (.inr (.inl ⟨e4, hv⟩))
    by_cases e5 : q = 15
    · exact .inr (.inr (.inr (.inl ⟨e5, hv⟩)))
    have h15 : 15 < q := by omega
    exact .inr (.inr (.inr (.inr ⟨decide_eq_true (by omega), decide_eq_false (by omega), decide_eq_true h15, by simp; omega, by simp; omega, by simp; omega, by simp [lo, h15], by simp [hi, h15], hv⟩)))

set_option maxHeartbeats 1000000 in
set_option maxRecDepth 100000 in
theorem evl_main (q : Int) (h0 : 0 ≤ q) (l : List Int) (n c b o : Nat) (A : Option Addr) (hA : 0 < n → A = some ⟨b, o, none⟩) (w : World) (ht : Tabs w) (hs : Vs w w.heap.size (.slice A n c) l) (hn : n = l.length) (hp : ∀ v ∈ l, 0 ≤ v)
    (hc : ∀ k, k < n → b < w.heap.size ∧ w.cell? ⟨b, o + k, none⟩ = some (.int .u8 (l.getD k 0))) (h7 : allowL q n = true → n ≤ 7) :
    Calls Tryd.prog 5 #[.int .u8 q, .slice A n c] w fun e w' => e = .returned (.bool true) ∧ Below w.heap.size w w' := by
  have HT := Lib.hid ht
  have HA : Hid (∀ w', Calls Tryd.prog 21 #[.int .u8 q, .int .i64 n] w' fun e w'' => e = .returned (.bool (allowL q n)) ∧ w' = w'') := Lib.hid fun w' => allowed_any q n w'
  have HE : Hid (∀ w', Below w.heap.size w w' → Calls Tryd.prog 23 #[.int .u8 q, .slice A n c] w' fun e w'' => e = .returned (.int .u8 (evalL q l)) ∧ Below w.heap.size w w'') :=
    Lib.hid fun w' h => eval_rel q h0 (Nat.le_refl _) hs ht w' h
  have HR : Hid (∀ w', Below w.heap.size w w' → Calls Tryd.prog 24 #[.int .u8 q, .slice A n c] w' fun e w'' => e = .returned (.int .u8 (evalL q l)) ∧ Below w.heap.size w w'') :=
    Lib.hid fun w' h => rel (ref_any q h0 l n c b o A hA w' hn h7 hp fun k hk => ⟨Nat.lt_of_lt_of_le (hc k hk).1 h.size, (h.cell (p := ⟨b, o + k, none⟩) (hc k hk).1).trans (hc k hk).2⟩) h
  have HF : Hid (∀ w', Below w.heap.size w w' → Calls Tryd.prog 22 #[.int .u8 q] w' fun e w'' => e = .returned (.tuple #[.int .i64 (lo q), .int .i64 (hi q)]) ∧ Below w.heap.size w w'') :=
    Lib.hid fun w' h => (fanin_any q h0 w' (ht.below h)).mono fun e w'' ⟨he, m, hm⟩ => ⟨he, by rw [hm]; exact below_drewN h m⟩
  have h7' : allowL q n = true → decide ((7 : Int) < (n : Int)) = false := fun h => decide_eq_false (by have := h7 h; omega)
  obtain ⟨AV, HAV⟩ := named (allowL q n)
  rw [← HAV.out] at HA h7'
  obtain ⟨V, HV⟩ := named (evalL q l)
  rw [← HV.out] at HE HR
  have hw := evl_ways q h0 n AV HAV.out
  obtain ⟨LO, HLO⟩ := named (lo q)
  obtain ⟨HI, HHI⟩ := named (hi q)
  have hb0 := Below.refl w.heap.size w
  rw [← HLO.out, ← HHI.out] at HF
  rw [← HLO.out, ← HHI.out] at hw
  clear ht hA hs hn hp hc h7 HAV h0
  rcases hw with ⟨p1, p2, p3, p4, p5, p6, p7, ⟨p8, rfl⟩ | ⟨p8, p9, rfl⟩ | ⟨p8, p9, rfl⟩⟩ | ⟨rfl, rfl⟩ | ⟨rfl, rfl⟩ | ⟨rfl, rfl⟩ | ⟨p1, p2, p3, p4, p5, p6, rfl, rfl, rfl⟩
  case inr.inl => 
    obtain rfl : LO = 0 := HLO.out
    obtain rfl : HI = 0 := HHI.out
    go_enter Tryd.func5, Tryd.ntmps5
    go_wp2_with (first
      | (go_at_call 21; (with_reducible refine (HA.out _).mono ?_); rintro e w' ⟨rfl, rfl⟩)
      | (go_at_call 22; (with_reducible refine (HF.out _ (by assumption)).mono ?_); rintro e w' ⟨rfl, hb⟩)
      | (go_at_call 23; (with_reducible refine (HE.out _ (by assumption)).mono ?_); rintro e w' ⟨rfl, hb⟩)
      | (go_at_call 24; (with_reducible refine (HR.out _ (by assumption)).mono ?_); rintro e w' ⟨rfl, hb⟩)
      | (go_at_call 11; (with_reducible refine (lives_at HT.out (by assumption)).mono ?_); rintro e w' ⟨rfl, hb⟩))
    go_ret
    exact ⟨rfl, by assumption⟩
  case inr.inr.inl => 
    obtain rfl : LO = 1 := HLO.out
    obtain rfl : HI = 1 := HHI.out
    go_enter Tryd.func5, Tryd.ntmps5
    go_wp2_with (first
      | (go_at_call 21; (with_reducible refine (HA.out _).mono ?_); rintro e w' ⟨rfl, rfl⟩)
      | (go_at_call 22; (with_reducible refine (HF.out _ (by assumption)).mono ?_); rintro e w' ⟨rfl, hb⟩)
      | (go_at_call 23; (with_reducible refine (HE.out _ (by assumption)).mono ?_); rintro e w' ⟨rfl, hb⟩)
      | (go_at_call 24; (with_reducible refine (HR.out _ (by assumption)).mono ?_); rintro e w' ⟨rfl, hb⟩)
      | (go_at_call 11; (with_reducible refine (lives_at HT.out (by assumption)).mono ?_); rintro e w' ⟨rfl, hb⟩))
    go_ret
    exact ⟨rfl, by assumption⟩
  case inr.inr.inr.inl => 
    obtain rfl : LO = 0 := HLO.out
    obtain rfl : HI = 0 := HHI.out
    go_enter Tryd.func5, Tryd.ntmps5
    go_wp2_with (first
      | (go_at_call 21; (with_reducible refine (HA.out _).mono ?_); rintro e w' ⟨rfl, rfl⟩)
      | (go_at_call 22; (with_reducible refine (HF.out _ (by assumption)).mono ?_); rintro e w' ⟨rfl, hb⟩)
      | (go_at_call 23; (with_reducible refine (HE.out _ (by assumption)).mono ?_); rintro e w' ⟨rfl, hb⟩)
      | (go_at_call 24; (with_reducible refine (HR.out _ (by assumption)).mono ?_); rintro e w' ⟨rfl, hb⟩)
      | (go_at_call 11; (with_reducible refine (lives_at HT.out (by assumption)).mono ?_); rintro e w' ⟨rfl, hb⟩))
    go_ret
    exact ⟨rfl, by assumption⟩
  all_goals
    try have d7 := h7' rfl
    clear h7'
    go_enter Tryd.func5, Tryd.ntmps5
    go_wp2_with (first
      | (go_at_call 21; (with_reducible refine (HA.out _).mono ?_); rintro e w' ⟨rfl, rfl⟩)
      | (go_at_call 22; (with_reducible refine (HF.out _ (by assumption)).mono ?_); rintro e w' ⟨rfl, hb⟩)
      | (go_at_call 23; (with_reducible refine (HE.out _ (by assumption)).mono ?_); rintro e w' ⟨rfl, hb⟩)
      | (go_at_call 24; (with_reducible refine (HR.out _ (by assumption)).mono ?_); rintro e w' ⟨rfl, hb⟩)
      | (go_at_call 11; (with_reducible refine (lives_at HT.out (by assumption)).mono ?_); rintro e w' ⟨rfl, hb⟩))
    go_ret
    exact ⟨rfl, by assumption⟩

theorem evl_any (q : Int) (h0 : 0 ≤ q) (l : List Int) (s : Value) (w : World) (ht : Tabs w) (hs : Vs w w.heap.size s l) (A : Option Addr) (c b o : Nat) (hv : s = .slice A l.length c) (hA : 0 < l.length → A = some ⟨b, o, none⟩)
    (hp : ∀ k, k < l.length → 0 ≤ l.getD k 0 ∧ l.getD k 0 ≤ 255) (hc : ∀ k, k < l.length → b < w.heap.size ∧ w.cell? ⟨b, o + k, none⟩ = some (.int .u8 (l.getD k 0))) :
    Calls Tryd.prog 5 #[.int .u8 q, s] w fun e w' => e = .returned (.bool true) ∧ Below w.heap.size w w' := by
  subst hv
  by_cases h : allowL q l.length = true ∧ 7 < l.length
  · exact evl_long q A _ c w ht h.1 h.2
  · refine evl_main q h0 l _ c b o A hA w ht hs rfl (fun v hv => ?_) hc fun ha => Nat.le_of_not_lt fun h' => h ⟨ha, h'⟩
    obtain ⟨k, hk, rfl⟩ := List.mem_iff_getElem.1 hv
    have := (hp k hk).1
    rw [List.getD_eq_getElem?_getD, List.getElem?_eq_getElem hk] at this
    exact this

end Go.Proofs.YtdanmepbdjfpfaaDoor
