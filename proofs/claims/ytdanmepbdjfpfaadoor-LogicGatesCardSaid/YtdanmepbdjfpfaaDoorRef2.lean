/- The walks of the reference's Choices and Function. -/
import Derived.Test.YtdanmepbdjfpfaaDoorRef1
namespace Go.Proofs.YtdanmepbdjfpfaaDoor
open Go.RowKit

theorem chc_ways (v : Int) (bus : Bool) : (v = 0 ∧ chc v bus = [0]) ∨ (v = 1 ∧ chc v bus = [1]) ∨ ((v == 0) = false ∧ (v == 1) = false ∧ bus = true ∧ (v == 3) = true ∧ chc v bus = [2]) ∨
    ((v == 0) = false ∧ (v == 1) = false ∧ bus = true ∧ (v == 3) = false ∧ chc v bus = [0, 1, 2]) ∨ ((v == 0) = false ∧ (v == 1) = false ∧ bus = false ∧ chc v bus = [0, 1]) := by
  by_cases h0 : v = 0
  · exact .inl ⟨h0, by simp [chc, h0]⟩
  by_cases h1 : v = 1
  · exact .inr (.inl ⟨h1, by simp [chc, h1]⟩)
  cases bus
  · exact .inr (.inr (.inr (.inr ⟨by simpa using h0, by simpa using h1, rfl, by simp [chc, h0, h1]⟩)))
  · by_cases h3 : v = 3
    · exact .inr (.inr (.inl ⟨by simpa using h0, by simpa using h1, rfl, by simpa using h3, by simp [chc, h0, h1, h3]⟩))
    · exact .inr (.inr (.inr (.inl ⟨by simpa using h0, by simpa using h1, rfl, by simpa using h3, by simp [chc, h0, h1, h3]⟩)))

set_option maxHeartbeats 1000000 in
theorem choices_any (v : Int) (bus : Bool) (w : World) :
    Calls Tryd.prog 39 #[.int .u8 v, .bool bus] w fun e w' => e = .returned (.slice (some ⟨w.heap.size, 0, none⟩) (chc v bus).length (chc v bus).length) ∧ w' = w.alloc (.cells ((chc v bus).map (Value.int .i64)).toArray 3) := by
  rcases chc_ways v bus with ⟨rfl, h⟩ | ⟨rfl, h⟩ | ⟨h0, h1, rfl, h3, h⟩ | ⟨h0, h1, rfl, h3, h⟩ | ⟨h0, h1, rfl, h⟩
  all_goals
    rw [h]
    clear h
    go_enter Tryd.func39, Tryd.ntmps39
    go_wp2
    go_ret
    exact ⟨rfl, rfl⟩

set_option maxHeartbeats 1000000 in
set_option maxRecDepth 100000 in
theorem fun_k1 (l : List Int) (s : Value) (n c : Nat) (A : Option Addr) (hsv : s = .slice A n c) (w : World) (B : Nat) (hs : Vi w B s l) (hlen : l.length ≤ 1000) :
    Calls Tryd.prog 40 #[.int .u8 1, s] w fun e w' => e = .returned (.int .i64 (fn 1 l)) ∧ w = w' := by
  obtain ⟨y, HY⟩ := named (fn 1 l)
  rw [← HY.out]
  have ha := cnt_le 1 l
  have hb := cnt_le 0 l
  obtain ⟨p, HP⟩ := named (cnt 1 l)
  obtain ⟨z, HZ⟩ := named (cnt 0 l)
  rw [← HP.out] at ha
  rw [← HZ.out] at hb
  have ha : p ≤ 1000 := by omega
  have hb : z ≤ 1000 := by omega
  have HS := Lib.hid hs
  clear hs hlen
  subst hsv
  go_enter Tryd.func40, Tryd.ntmps40
  go_wp2_with (first
    | (go_at_call 42; first
      | ((with_reducible refine (count_any 1 l _ _ B HS.out).mono ?_); rintro e w' ⟨rfl, rfl⟩; rw [← HP.out])
      | ((with_reducible refine (count_any 0 l _ _ B HS.out).mono ?_); rintro e w' ⟨rfl, rfl⟩; rw [← HZ.out]))
    | (go_at_call 43; (with_reducible refine (bit_any _ _).mono ?_); rintro e w' ⟨rfl, rfl⟩))
  go_ret
  exact ⟨ret_int (by rw [HY.out, fn, ← HP.out, ← HZ.out]; simp [fnK, bitI]), rfl⟩

set_option maxHeartbeats 1000000 in
set_option maxRecDepth 100000 in
theorem fun_k2 (l : List Int) (s : Value) (n c : Nat) (A : Option Addr) (hsv : s = .slice A n c) (w : World) (B : Nat) (hs : Vi w B s l) (hlen : l.length ≤ 1000) :
    Calls Tryd.prog 40 #[.int .u8 2, s] w fun e w' => e = .returned (.int .i64 (fn 2 l)) ∧ w = w' := by
  obtain ⟨y, HY⟩ := named (fn 2 l)
  rw [← HY.out]
  have ha := cnt_le 1 l
  have hb := cnt_le 0 l
  obtain ⟨p, HP⟩ := named (cnt 1 l)
  obtain ⟨z, HZ⟩ := named (cnt 0 l)
  rw [← HP.out] at ha
  rw [← HZ.out] at hb
  have ha : p ≤ 1000 := by omega
  have hb : z ≤ 1000 := by omega
  have HS := Lib.hid hs
  clear hs hlen
  subst hsv
  go_enter Tryd.func40, Tryd.ntmps40
  go_wp2_with (first
    | (go_at_call 42; first
      | ((with_reducible refine (count_any 1 l _ _ B HS.out).mono ?_); rintro e w' ⟨rfl, rfl⟩; rw [← HP.out])
      | ((with_reducible refine (count_any 0 l _ _ B HS.out).mono ?_); rintro e w' ⟨rfl, rfl⟩; rw [← HZ.out]))
    | (go_at_call 43; (with_reducible refine (bit_any _ _).mono ?_); rintro e w' ⟨rfl, rfl⟩))
  go_ret
  exact ⟨ret_int (by rw [HY.out, fn, ← HP.out, ← HZ.out]; simp [fnK, bitI]), rfl⟩

set_option maxHeartbeats 1000000 in
set_option maxRecDepth 100000 in
theorem fun_k3 (l : List Int) (s : Value) (n c : Nat) (A : Option Addr) (hsv : s = .slice A n c) (w : World) (B : Nat) (hs : Vi w B s l) (hlen : l.length ≤ 1000) (hnn : 1 ≤ n) (b o : Nat) (hA : A = some ⟨b, o, none⟩) (hc0 : w.cell? ⟨b, o + 0, none⟩ = some (.int .i64 (l.getD 0 0))) :
    Calls Tryd.prog 40 #[.int .u8 3, s] w fun e w' => e = .returned (.int .i64 (fn 3 l)) ∧ w = w' := by
  obtain ⟨y, HY⟩ := named (fn 3 l)
  rw [← HY.out]
  have ha := cnt_le 1 l
  have hb := cnt_le 0 l
  obtain ⟨p, HP⟩ := named (cnt 1 l)
  obtain ⟨z, HZ⟩ := named (cnt 0 l)
  rw [← HP.out] at ha
  rw [← HZ.out] at hb
  have ha : p ≤ 1000 := by omega
  have hb : z ≤ 1000 := by omega
  have HS := Lib.hid hs
  clear hs hlen
  subst hsv
  subst hA
  obtain ⟨x0, HX0⟩ := named (l.getD 0 0)
  rw [← HX0.out] at hc0
  simp only [Nat.add_zero] at hc0
  by_cases hx : x0 = 1
  · have e : (x0 == 1) = true := by simpa using hx
    go_enter Tryd.func40, Tryd.ntmps40
    go_wp2_with (first
      | (go_at_call 42; first
        | ((with_reducible refine (count_any 1 l _ _ B HS.out).mono ?_); rintro e w' ⟨rfl, rfl⟩; rw [← HP.out])
        | ((with_reducible refine (count_any 0 l _ _ B HS.out).mono ?_); rintro e w' ⟨rfl, rfl⟩; rw [← HZ.out]))
      | (go_at_call 43; (with_reducible refine (bit_any _ _).mono ?_); rintro e w' ⟨rfl, rfl⟩))
    go_ret
    exact ⟨ret_int (by rw [HY.out, fn, ← HP.out, ← HZ.out]; simp only [fnK, ← HX0.out]; simp [bitI, hx]), rfl⟩
  · have e : (x0 == 1) = false := by simpa using hx
    go_enter Tryd.func40, Tryd.ntmps40
    go_wp2_with (first
      | (go_at_call 42; first
        | ((with_reducible refine (count_any 1 l _ _ B HS.out).mono ?_); rintro e w' ⟨rfl, rfl⟩; rw [← HP.out])
        | ((with_reducible refine (count_any 0 l _ _ B HS.out).mono ?_); rintro e w' ⟨rfl, rfl⟩; rw [← HZ.out]))
      | (go_at_call 43; (with_reducible refine (bit_any _ _).mono ?_); rintro e w' ⟨rfl, rfl⟩))
    go_ret
    exact ⟨ret_int (by rw [HY.out, fn, ← HP.out, ← HZ.out]; simp only [fnK, ← HX0.out]; simp [bitI, hx]), rfl⟩

set_option maxHeartbeats 1000000 in
set_option maxRecDepth 100000 in
theorem fun_k4 (l : List Int) (s : Value) (n c : Nat) (A : Option Addr) (hsv : s = .slice A n c) (w : World) (B : Nat) (hs : Vi w B s l) (hlen : l.length ≤ 1000) (hnn : 1 ≤ n) (b o : Nat) (hA : A = some ⟨b, o, none⟩) (hc0 : w.cell? ⟨b, o + 0, none⟩ = some (.int .i64 (l.getD 0 0))) :
    Calls Tryd.prog 40 #[.int .u8 4, s] w fun e w' => e = .returned (.int .i64 (fn 4 l)) ∧ w = w' := by
  obtain ⟨y, HY⟩ := named (fn 4 l)
  rw [← HY.out]
  have ha := cnt_le 1 l
  have hb := cnt_le 0 l
  obtain ⟨p, HP⟩ := named (cnt 1 l)
  obtain ⟨z, HZ⟩ := named (cnt 0 l)
  rw [← HP.out] at ha
  rw [← HZ.out] at hb
  have ha : p ≤ 1000 := by omega
  have hb : z ≤ 1000 := by omega
  have HS := Lib.hid hs
  clear hs hlen
  subst hsv
  subst hA
  obtain ⟨x0, HX0⟩ := named (l.getD 0 0)
  rw [← HX0.out] at hc0
  simp only [Nat.add_zero] at hc0
  by_cases hx : x0 = 1
  · have e : (x0 == 1) = true := by simpa using hx
    go_enter Tryd.func40, Tryd.ntmps40
    go_wp2_with (first
      | (go_at_call 42; first
        | ((with_reducible refine (count_any 1 l _ _ B HS.out).mono ?_); rintro e w' ⟨rfl, rfl⟩; rw [← HP.out])
        | ((with_reducible refine (count_any 0 l _ _ B HS.out).mono ?_); rintro e w' ⟨rfl, rfl⟩; rw [← HZ.out]))
      | (go_at_call 43; (with_reducible refine (bit_any _ _).mono ?_); rintro e w' ⟨rfl, rfl⟩))
    go_ret
    exact ⟨ret_int (by rw [HY.out, fn, ← HP.out, ← HZ.out]; simp only [fnK, ← HX0.out]; simp [bitI, hx]), rfl⟩
  · have e : (x0 == 1) = false := by simpa using hx
    go_enter Tryd.func40, Tryd.ntmps40
    go_wp2_with (first
      | (go_at_call 42; first
        | ((with_reducible refine (count_any 1 l _ _ B HS.out).mono ?_); rintro e w' ⟨rfl, rfl⟩; rw [← HP.out])
        | ((with_reducible refine (count_any 0 l _ _ B HS.out).mono ?_); rintro e w' ⟨rfl, rfl⟩; rw [← HZ.out]))
      | (go_at_call 43; (with_reducible refine (bit_any _ _).mono ?_); rintro e w' ⟨rfl, rfl⟩))
    go_ret
    exact ⟨ret_int (by rw [HY.out, fn, ← HP.out, ← HZ.out]; simp only [fnK, ← HX0.out]; simp [bitI, hx]), rfl⟩

set_option maxHeartbeats 1000000 in
set_option maxRecDepth 100000 in
theorem fun_k5 (l : List Int) (s : Value) (n c : Nat) (A : Option Addr) (hsv : s = .slice A n c) (w : World) (B : Nat) (hs : Vi w B s l) (hlen : l.length ≤ 1000) :
    Calls Tryd.prog 40 #[.int .u8 5, s] w fun e w' => e = .returned (.int .i64 (fn 5 l)) ∧ w = w' := by
  obtain ⟨y, HY⟩ := named (fn 5 l)
  rw [← HY.out]
  have ha := cnt_le 1 l
  have hb := cnt_le 0 l
  obtain ⟨p, HP⟩ := named (cnt 1 l)
  obtain ⟨z, HZ⟩ := named (cnt 0 l)
  rw [← HP.out] at ha
  rw [← HZ.out] at hb
  have ha : p ≤ 1000 := by omega
  have hb : z ≤ 1000 := by omega
  have HS := Lib.hid hs
  clear hs hlen
  subst hsv
  by_cases hz : z = 0
  · subst hz
    go_enter Tryd.func40, Tryd.ntmps40
    go_wp2_with (first
      | (go_at_call 42; first
        | ((with_reducible refine (count_any 1 l _ _ B HS.out).mono ?_); rintro e w' ⟨rfl, rfl⟩; rw [← HP.out])
        | ((with_reducible refine (count_any 0 l _ _ B HS.out).mono ?_); rintro e w' ⟨rfl, rfl⟩; rw [← HZ.out]))
      | (go_at_call 43; (with_reducible refine (bit_any _ _).mono ?_); rintro e w' ⟨rfl, rfl⟩))
    go_ret
    exact ⟨ret_int (by rw [HY.out, fn, ← HP.out, ← HZ.out]; simp [fnK, bitI]), rfl⟩
  · have e : ((z : Int) == 0) = false := by simp; omega
    have e2 : decide ((0 : Int) < (z : Int)) = true := by simp; omega
    have e3 : decide (0 < z) = true := by simp; omega
    have e4 : 0 < z := by omega
    go_enter Tryd.func40, Tryd.ntmps40
    go_wp2_with (first
      | (go_at_call 42; first
        | ((with_reducible refine (count_any 1 l _ _ B HS.out).mono ?_); rintro e w' ⟨rfl, rfl⟩; rw [← HP.out])
        | ((with_reducible refine (count_any 0 l _ _ B HS.out).mono ?_); rintro e w' ⟨rfl, rfl⟩; rw [← HZ.out]))
      | (go_at_call 43; (with_reducible refine (bit_any _ _).mono ?_); rintro e w' ⟨rfl, rfl⟩))
    go_ret
    exact ⟨ret_int (by rw [HY.out, fn, ← HP.out, ← HZ.out]; simp [fnK, bitI, hz, e4]), rfl⟩

set_option maxHeartbeats 1000000 in
set_option maxRecDepth 100000 in
theorem fun_k6 (l : List Int) (s : Value) (n c : Nat) (A : Option Addr) (hsv : s = .slice A n c) (w : World) (B : Nat) (hs : Vi w B s l) (hlen : l.length ≤ 1000) :
    Calls Tryd.prog 40 #[.int .u8 6, s] w fun e w' => e = .returned (.int .i64 (fn 6 l)) ∧ w = w' := by
  obtain ⟨y, HY⟩ := named (fn 6 l)
  rw [← HY.out]
  have ha := cnt_le 1 l
  have hb := cnt_le 0 l
  obtain ⟨p, HP⟩ := named (cnt 1 l)
  obtain ⟨z, HZ⟩ := named (cnt 0 l)
  rw [← HP.out] at ha
  rw [← HZ.out] at hb
  have ha : p ≤ 1000 := by omega
  have hb : z ≤ 1000 := by omega
  have HS := Lib.hid hs
  clear hs hlen
  subst hsv
  by_cases hz : z = 0
  · subst hz
    go_enter Tryd.func40, Tryd.ntmps40
    go_wp2_with (first
      | (go_at_call 42; first
        | ((with_reducible refine (count_any 1 l _ _ B HS.out).mono ?_); rintro e w' ⟨rfl, rfl⟩; rw [← HP.out])
        | ((with_reducible refine (count_any 0 l _ _ B HS.out).mono ?_); rintro e w' ⟨rfl, rfl⟩; rw [← HZ.out]))
      | (go_at_call 43; (with_reducible refine (bit_any _ _).mono ?_); rintro e w' ⟨rfl, rfl⟩))
    go_ret
    exact ⟨ret_int (by rw [HY.out, fn, ← HP.out, ← HZ.out]; simp [fnK, bitI]), rfl⟩
  · have e : ((z : Int) == 0) = false := by simp; omega
    have e2 : decide ((0 : Int) < (z : Int)) = true := by simp; omega
    have e3 : decide (0 < z) = true := by simp; omega
    have e4 : 0 < z := by omega
    go_enter Tryd.func40, Tryd.ntmps40
    go_wp2_with (first
      | (go_at_call 42; first
        | ((with_reducible refine (count_any 1 l _ _ B HS.out).mono ?_); rintro e w' ⟨rfl, rfl⟩; rw [← HP.out])
        | ((with_reducible refine (count_any 0 l _ _ B HS.out).mono ?_); rintro e w' ⟨rfl, rfl⟩; rw [← HZ.out]))
      | (go_at_call 43; (with_reducible refine (bit_any _ _).mono ?_); rintro e w' ⟨rfl, rfl⟩))
    go_ret
    exact ⟨ret_int (by rw [HY.out, fn, ← HP.out, ← HZ.out]; simp [fnK, bitI, hz, e4]), rfl⟩

set_option maxHeartbeats 1000000 in
set_option maxRecDepth 100000 in
theorem fun_k7 (l : List Int) (s : Value) (n c : Nat) (A : Option Addr) (hsv : s = .slice A n c) (w : World) (B : Nat) (hs : Vi w B s l) (hlen : l.length ≤ 1000) :
    Calls Tryd.prog 40 #[.int .u8 7, s] w fun e w' => e = .returned (.int .i64 (fn 7 l)) ∧ w = w' := by
  obtain ⟨y, HY⟩ := named (fn 7 l)
  rw [← HY.out]
  have ha := cnt_le 1 l
  have hb := cnt_le 0 l
  obtain ⟨p, HP⟩ := named (cnt 1 l)
  obtain ⟨z, HZ⟩ := named (cnt 0 l)
  rw [← HP.out] at ha
  rw [← HZ.out] at hb
  have ha : p ≤ 1000 := by omega
  have hb : z ≤ 1000 := by omega
  have HS := Lib.hid hs
  clear hs hlen
  subst hsv
  by_cases hz : p = 0
  · subst hz
    go_enter Tryd.func40, Tryd.ntmps40
    go_wp2_with (first
      | (go_at_call 42; first
        | ((with_reducible refine (count_any 1 l _ _ B HS.out).mono ?_); rintro e w' ⟨rfl, rfl⟩; rw [← HP.out])
        | ((with_reducible refine (count_any 0 l _ _ B HS.out).mono ?_); rintro e w' ⟨rfl, rfl⟩; rw [← HZ.out]))
      | (go_at_call 43; (with_reducible refine (bit_any _ _).mono ?_); rintro e w' ⟨rfl, rfl⟩))
    go_ret
    exact ⟨ret_int (by rw [HY.out, fn, ← HP.out, ← HZ.out]; simp [fnK, bitI]), rfl⟩
  · have e : ((p : Int) == 0) = false := by simp; omega
    have e2 : decide ((0 : Int) < (p : Int)) = true := by simp; omega
    have e3 : decide (0 < p) = true := by simp; omega
    have e4 : 0 < p := by omega
    go_enter Tryd.func40, Tryd.ntmps40
    go_wp2_with (first
      | (go_at_call 42; first
        | ((with_reducible refine (count_any 1 l _ _ B HS.out).mono ?_); rintro e w' ⟨rfl, rfl⟩; rw [← HP.out])
        | ((with_reducible refine (count_any 0 l _ _ B HS.out).mono ?_); rintro e w' ⟨rfl, rfl⟩; rw [← HZ.out]))
      | (go_at_call 43; (with_reducible refine (bit_any _ _).mono ?_); rintro e w' ⟨rfl, rfl⟩))
    go_ret
    exact ⟨ret_int (by rw [HY.out, fn, ← HP.out, ← HZ.out]; simp [fnK, bitI, hz, e4]), rfl⟩

set_option maxHeartbeats 1000000 in
set_option maxRecDepth 100000 in
theorem fun_k8 (l : List Int) (s : Value) (n c : Nat) (A : Option Addr) (hsv : s = .slice A n c) (w : World) (B : Nat) (hs : Vi w B s l) (hlen : l.length ≤ 1000) :
    Calls Tryd.prog 40 #[.int .u8 8, s] w fun e w' => e = .returned (.int .i64 (fn 8 l)) ∧ w = w' := by
  obtain ⟨y, HY⟩ := named (fn 8 l)
  rw [← HY.out]
  have ha := cnt_le 1 l
  have hb := cnt_le 0 l
  obtain ⟨p, HP⟩ := named (cnt 1 l)
  obtain ⟨z, HZ⟩ := named (cnt 0 l)
  rw [← HP.out] at ha
  rw [← HZ.out] at hb
  have ha : p ≤ 1000 := by omega
  have hb : z ≤ 1000 := by omega
  have HS := Lib.hid hs
  clear hs hlen
  subst hsv
  by_cases hz : p = 0
  · subst hz
    go_enter Tryd.func40, Tryd.ntmps40
    go_wp2_with (first
      | (go_at_call 42; first
        | ((with_reducible refine (count_any 1 l _ _ B HS.out).mono ?_); rintro e w' ⟨rfl, rfl⟩; rw [← HP.out])
        | ((with_reducible refine (count_any 0 l _ _ B HS.out).mono ?_); rintro e w' ⟨rfl, rfl⟩; rw [← HZ.out]))
      | (go_at_call 43; (with_reducible refine (bit_any _ _).mono ?_); rintro e w' ⟨rfl, rfl⟩))
    go_ret
    exact ⟨ret_int (by rw [HY.out, fn, ← HP.out, ← HZ.out]; simp [fnK, bitI]), rfl⟩
  · have e : ((p : Int) == 0) = false := by simp; omega
    have e2 : decide ((0 : Int) < (p : Int)) = true := by simp; omega
    have e3 : decide (0 < p) = true := by simp; omega
    have e4 : 0 < p := by omega
    go_enter Tryd.func40, Tryd.ntmps40
    go_wp2_with (first
      | (go_at_call 42; first
        | ((with_reducible refine (count_any 1 l _ _ B HS.out).mono ?_); rintro e w' ⟨rfl, rfl⟩; rw [← HP.out])
        | ((with_reducible refine (count_any 0 l _ _ B HS.out).mono ?_); rintro e w' ⟨rfl, rfl⟩; rw [← HZ.out]))
      | (go_at_call 43; (with_reducible refine (bit_any _ _).mono ?_); rintro e w' ⟨rfl, rfl⟩))
    go_ret
    exact ⟨ret_int (by rw [HY.out, fn, ← HP.out, ← HZ.out]; simp [fnK, bitI, hz, e4]), rfl⟩

set_option maxHeartbeats 1000000 in
set_option maxRecDepth 100000 in
theorem fun_k9 (l : List Int) (s : Value) (n c : Nat) (A : Option Addr) (hsv : s = .slice A n c) (w : World) (B : Nat) (hs : Vi w B s l) (hlen : l.length ≤ 1000) :
    Calls Tryd.prog 40 #[.int .u8 9, s] w fun e w' => e = .returned (.int .i64 (fn 9 l)) ∧ w = w' := by
  obtain ⟨y, HY⟩ := named (fn 9 l)
  rw [← HY.out]
  have ha := cnt_le 1 l
  have hb := cnt_le 0 l
  obtain ⟨p, HP⟩ := named (cnt 1 l)
  obtain ⟨z, HZ⟩ := named (cnt 0 l)
  rw [← HP.out] at ha
  rw [← HZ.out] at hb
  have ha : p ≤ 1000 := by omega
  have hb : z ≤ 1000 := by omega
  have HS := Lib.hid hs
  clear hs hlen
  subst hsv
  by_cases hm : p % 2 = 1
  · have e : (((p : Int) % 2) == 1) = true := by simp; omega
    go_enter Tryd.func40, Tryd.ntmps40
    go_wp2_with (first
      | (go_at_call 42; first
        | ((with_reducible refine (count_any 1 l _ _ B HS.out).mono ?_); rintro e w' ⟨rfl, rfl⟩; rw [← HP.out])
        | ((with_reducible refine (count_any 0 l _ _ B HS.out).mono ?_); rintro e w' ⟨rfl, rfl⟩; rw [← HZ.out]))
      | (go_at_call 43; (with_reducible refine (bit_any _ _).mono ?_); rintro e w' ⟨rfl, rfl⟩))
    go_ret
    exact ⟨ret_int (by rw [HY.out, fn, ← HP.out, ← HZ.out]; simp [fnK, bitI, hm]), rfl⟩
  · have e : (((p : Int) % 2) == 1) = false := by simp; omega
    go_enter Tryd.func40, Tryd.ntmps40
    go_wp2_with (first
      | (go_at_call 42; first
        | ((with_reducible refine (count_any 1 l _ _ B HS.out).mono ?_); rintro e w' ⟨rfl, rfl⟩; rw [← HP.out])
        | ((with_reducible refine (count_any 0 l _ _ B HS.out).mono ?_); rintro e w' ⟨rfl, rfl⟩; rw [← HZ.out]))
      | (go_at_call 43; (with_reducible refine (bit_any _ _).mono ?_); rintro e w' ⟨rfl, rfl⟩))
    go_ret
    exact ⟨ret_int (by rw [HY.out, fn, ← HP.out, ← HZ.out]; simp [fnK, bitI, hm]), rfl⟩

set_option maxHeartbeats 1000000 in
set_option maxRecDepth 100000 in
theorem fun_k10 (l : List Int) (s : Value) (n c : Nat) (A : Option Addr) (hsv : s = .slice A n c) (w : World) (B : Nat) (hs : Vi w B s l) (hlen : l.length ≤ 1000) :
    Calls Tryd.prog 40 #[.int .u8 10, s] w fun e w' => e = .returned (.int .i64 (fn 10 l)) ∧ w = w' := by
  obtain ⟨y, HY⟩ := named (fn 10 l)
  rw [← HY.out]
  have ha := cnt_le 1 l
  have hb := cnt_le 0 l
  obtain ⟨p, HP⟩ := named (cnt 1 l)
  obtain ⟨z, HZ⟩ := named (cnt 0 l)
  rw [← HP.out] at ha
  rw [← HZ.out] at hb
  have ha : p ≤ 1000 := by omega
  have hb : z ≤ 1000 := by omega
  have HS := Lib.hid hs
  clear hs hlen
  subst hsv
  by_cases hm : p % 2 = 1
  · have e : (((p : Int) % 2) == 1) = true := by simp; omega
    go_enter Tryd.func40, Tryd.ntmps40
    go_wp2_with (first
      | (go_at_call 42; first
        | ((with_reducible refine (count_any 1 l _ _ B HS.out).mono ?_); rintro e w' ⟨rfl, rfl⟩; rw [← HP.out])
        | ((with_reducible refine (count_any 0 l _ _ B HS.out).mono ?_); rintro e w' ⟨rfl, rfl⟩; rw [← HZ.out]))
      | (go_at_call 43; (with_reducible refine (bit_any _ _).mono ?_); rintro e w' ⟨rfl, rfl⟩))
    go_ret
    exact ⟨ret_int (by rw [HY.out, fn, ← HP.out, ← HZ.out]; simp [fnK, bitI, hm]), rfl⟩
  · have e : (((p : Int) % 2) == 1) = false := by simp; omega
    go_enter Tryd.func40, Tryd.ntmps40
    go_wp2_with (first
      | (go_at_call 42; first
        | ((with_reducible refine (count_any 1 l _ _ B HS.out).mono ?_); rintro e w' ⟨rfl, rfl⟩; rw [← HP.out])
        | ((with_reducible refine (count_any 0 l _ _ B HS.out).mono ?_); rintro e w' ⟨rfl, rfl⟩; rw [← HZ.out]))
      | (go_at_call 43; (with_reducible refine (bit_any _ _).mono ?_); rintro e w' ⟨rfl, rfl⟩))
    go_ret
    exact ⟨ret_int (by rw [HY.out, fn, ← HP.out, ← HZ.out]; simp [fnK, bitI, hm]), rfl⟩

set_option maxHeartbeats 1000000 in
set_option maxRecDepth 100000 in
theorem fun_k11 (l : List Int) (s : Value) (n c : Nat) (A : Option Addr) (hsv : s = .slice A n c) (w : World) (B : Nat) (hs : Vi w B s l) (hlen : l.length ≤ 1000) (hnn : 3 ≤ n) (b o : Nat) (hA : A = some ⟨b, o, none⟩) (hc0 : w.cell? ⟨b, o + 0, none⟩ = some (.int .i64 (l.getD 0 0))) (hc1 : w.cell? ⟨b, o + 1, none⟩ = some (.int .i64 (l.getD 1 0))) (hc2 : w.cell? ⟨b, o + 2, none⟩ = some (.int .i64 (l.getD 2 0))) :
    Calls Tryd.prog 40 #[.int .u8 11, s] w fun e w' => e = .returned (.int .i64 (fn 11 l)) ∧ w = w' := by
  obtain ⟨y, HY⟩ := named (fn 11 l)
  rw [← HY.out]
  have ha := cnt_le 1 l
  have hb := cnt_le 0 l
  obtain ⟨p, HP⟩ := named (cnt 1 l)
  obtain ⟨z, HZ⟩ := named (cnt 0 l)
  rw [← HP.out] at ha
  rw [← HZ.out] at hb
  have ha : p ≤ 1000 := by omega
  have hb : z ≤ 1000 := by omega
  have HS := Lib.hid hs
  clear hs hlen
  subst hsv
  subst hA
  obtain ⟨x0, HX0⟩ := named (l.getD 0 0)
  rw [← HX0.out] at hc0
  obtain ⟨x1, HX1⟩ := named (l.getD 1 0)
  rw [← HX1.out] at hc1
  obtain ⟨x2, HX2⟩ := named (l.getD 2 0)
  rw [← HX2.out] at hc2
  simp only [Nat.add_zero] at hc0
  by_cases hx : x0 = 0
  · have e : (x0 == 0) = true := by simpa using hx
    go_enter Tryd.func40, Tryd.ntmps40
    go_wp2_with (first
      | (go_at_call 42; first
        | ((with_reducible refine (count_any 1 l _ _ B HS.out).mono ?_); rintro e w' ⟨rfl, rfl⟩; rw [← HP.out])
        | ((with_reducible refine (count_any 0 l _ _ B HS.out).mono ?_); rintro e w' ⟨rfl, rfl⟩; rw [← HZ.out]))
      | (go_at_call 43; (with_reducible refine (bit_any _ _).mono ?_); rintro e w' ⟨rfl, rfl⟩))
    go_ret
    exact ⟨ret_int (by rw [HY.out, fn, ← HP.out, ← HZ.out]; simp only [fnK, ← HX0.out, ← HX1.out, ← HX2.out]; simp [bitI, hx]), rfl⟩
  · have e : (x0 == 0) = false := by simpa using hx
    go_enter Tryd.func40, Tryd.ntmps40
    go_wp2_with (first
      | (go_at_call 42; first
        | ((with_reducible refine (count_any 1 l _ _ B HS.out).mono ?_); rintro e w' ⟨rfl, rfl⟩; rw [← HP.out])
        | ((with_reducible refine (count_any 0 l _ _ B HS.out).mono ?_); rintro e w' ⟨rfl, rfl⟩; rw [← HZ.out]))
      | (go_at_call 43; (with_reducible refine (bit_any _ _).mono ?_); rintro e w' ⟨rfl, rfl⟩))
    go_ret
    exact ⟨ret_int (by rw [HY.out, fn, ← HP.out, ← HZ.out]; simp only [fnK, ← HX0.out, ← HX1.out, ← HX2.out]; simp [bitI, hx]), rfl⟩

set_option maxHeartbeats 1000000 in
set_option maxRecDepth 100000 in
theorem fun_k12 (l : List Int) (s : Value) (n c : Nat) (A : Option Addr) (hsv : s = .slice A n c) (w : World) (B : Nat) (hs : Vi w B s l) (hlen : l.length ≤ 1000) (hnn : 2 ≤ n) (b o : Nat) (hA : A = some ⟨b, o, none⟩) (hc0 : w.cell? ⟨b, o + 0, none⟩ = some (.int .i64 (l.getD 0 0))) (hc1 : w.cell? ⟨b, o + 1, none⟩ = some (.int .i64 (l.getD 1 0))) :
    Calls Tryd.prog 40 #[.int .u8 12, s] w fun e w' => e = .returned (.int .i64 (fn 12 l)) ∧ w = w' := by
  obtain ⟨y, HY⟩ := named (fn 12 l)
  rw [← HY.out]
  have ha := cnt_le 1 l
  have hb := cnt_le 0 l
  obtain ⟨p, HP⟩ := named (cnt 1 l)
  obtain ⟨z, HZ⟩ := named (cnt 0 l)
  rw [← HP.out] at ha
  rw [← HZ.out] at hb
  have ha : p ≤ 1000 := by omega
  have hb : z ≤ 1000 := by omega
  have HS := Lib.hid hs
  clear hs hlen
  subst hsv
  subst hA
  obtain ⟨x0, HX0⟩ := named (l.getD 0 0)
  rw [← HX0.out] at hc0
  obtain ⟨x1, HX1⟩ := named (l.getD 1 0)
  rw [← HX1.out] at hc1
  simp only [Nat.add_zero] at hc0
  by_cases hx : x0 = 0
  · have e : (x0 == 0) = true := by simpa using hx
    go_enter Tryd.func40, Tryd.ntmps40
    go_wp2_with (first
      | (go_at_call 42; first
        | ((with_reducible refine (count_any 1 l _ _ B HS.out).mono ?_); rintro e w' ⟨rfl, rfl⟩; rw [← HP.out])
        | ((with_reducible refine (count_any 0 l _ _ B HS.out).mono ?_); rintro e w' ⟨rfl, rfl⟩; rw [← HZ.out]))
      | (go_at_call 43; (with_reducible refine (bit_any _ _).mono ?_); rintro e w' ⟨rfl, rfl⟩))
    go_ret
    exact ⟨ret_int (by rw [HY.out, fn, ← HP.out, ← HZ.out]; simp only [fnK, ← HX0.out, ← HX1.out]; simp [bitI, hx]), rfl⟩
  · have e : (x0 == 0) = false := by simpa using hx
    go_enter Tryd.func40, Tryd.ntmps40
    go_wp2_with (first
      | (go_at_call 42; first
        | ((with_reducible refine (count_any 1 l _ _ B HS.out).mono ?_); rintro e w' ⟨rfl, rfl⟩; rw [← HP.out])
        | ((with_reducible refine (count_any 0 l _ _ B HS.out).mono ?_); rintro e w' ⟨rfl, rfl⟩; rw [← HZ.out]))
      | (go_at_call 43; (with_reducible refine (bit_any _ _).mono ?_); rintro e w' ⟨rfl, rfl⟩))
    go_ret
    exact ⟨ret_int (by rw [HY.out, fn, ← HP.out, ← HZ.out]; simp only [fnK, ← HX0.out, ← HX1.out]; simp [bitI, hx]), rfl⟩

set_option maxHeartbeats 1000000 in
set_option maxRecDepth 100000 in
theorem fun_k13 (l : List Int) (s : Value) (n c : Nat) (A : Option Addr) (hsv : s = .slice A n c) (w : World) (B : Nat) (hs : Vi w B s l) (hlen : l.length ≤ 1000) :
    Calls Tryd.prog 40 #[.int .u8 13, s] w fun e w' => e = .returned (.int .i64 (fn 13 l)) ∧ w = w' := by
  obtain ⟨y, HY⟩ := named (fn 13 l)
  rw [← HY.out]
  have ha := cnt_le 1 l
  have hb := cnt_le 0 l
  obtain ⟨p, HP⟩ := named (cnt 1 l)
  obtain ⟨z, HZ⟩ := named (cnt 0 l)
  rw [← HP.out] at ha
  rw [← HZ.out] at hb
  have ha : p ≤ 1000 := by omega
  have hb : z ≤ 1000 := by omega
  have HS := Lib.hid hs
  clear hs hlen
  subst hsv
  by_cases hp : p = 0
  · subst hp
    by_cases hz : z = 0
    · subst hz
      go_enter Tryd.func40, Tryd.ntmps40
      go_wp2_with (first
        | (go_at_call 42; first
          | ((with_reducible refine (count_any 1 l _ _ B HS.out).mono ?_); rintro e w' ⟨rfl, rfl⟩; rw [← HP.out])
          | ((with_reducible refine (count_any 0 l _ _ B HS.out).mono ?_); rintro e w' ⟨rfl, rfl⟩; rw [← HZ.out]))
        | (go_at_call 43; (with_reducible refine (bit_any _ _).mono ?_); rintro e w' ⟨rfl, rfl⟩))
      go_ret
      exact ⟨ret_int (by rw [HY.out, fn, ← HP.out, ← HZ.out]; simp [fnK, bitI]), rfl⟩
    · have z1 : decide ((0 : Int) < (z : Int)) = true := by simp; omega
      have z2 : 0 < z := by omega
      have z3 : decide (0 < z) = true := by simp; omega
      have s1 : ((z : Int) == 0) = false := by simp; omega
      go_enter Tryd.func40, Tryd.ntmps40
      go_wp2_with (first
        | (go_at_call 42; first
          | ((with_reducible refine (count_any 1 l _ _ B HS.out).mono ?_); rintro e w' ⟨rfl, rfl⟩; rw [← HP.out])
          | ((with_reducible refine (count_any 0 l _ _ B HS.out).mono ?_); rintro e w' ⟨rfl, rfl⟩; rw [← HZ.out]))
        | (go_at_call 43; (with_reducible refine (bit_any _ _).mono ?_); rintro e w' ⟨rfl, rfl⟩))
      go_ret
      exact ⟨ret_int (by rw [HY.out, fn, ← HP.out, ← HZ.out]; simp [fnK, bitI, hz, z2]), rfl⟩
  · have q1 : decide ((0 : Int) < (p : Int)) = true := by simp; omega
    have q2 : 0 < p := by omega
    have q3 : decide (0 < p) = true := by simp; omega
    by_cases hz : z = 0
    · subst hz
      have s1 : ((p : Int) == 0) = false := by simp; omega
      go_enter Tryd.func40, Tryd.ntmps40
      go_wp2_with (first
        | (go_at_call 42; first
          | ((with_reducible refine (count_any 1 l _ _ B HS.out).mono ?_); rintro e w' ⟨rfl, rfl⟩; rw [← HP.out])
          | ((with_reducible refine (count_any 0 l _ _ B HS.out).mono ?_); rintro e w' ⟨rfl, rfl⟩; rw [← HZ.out]))
        | (go_at_call 43; (with_reducible refine (bit_any _ _).mono ?_); rintro e w' ⟨rfl, rfl⟩))
      go_ret
      exact ⟨ret_int (by rw [HY.out, fn, ← HP.out, ← HZ.out]; simp [fnK, bitI, hp, q2]), rfl⟩
    · have z1 : decide ((0 : Int) < (z : Int)) = true := by simp; omega
      have z2 : 0 < z := by omega
      have z3 : decide (0 < z) = true := by simp; omega
      have s1 : (((p : Int) + (z : Int)) == 0) = false := by simp; omega
      go_enter Tryd.func40, Tryd.ntmps40
      go_wp2_with (first
        | (go_at_call 42; first
          | ((with_reducible refine (count_any 1 l _ _ B HS.out).mono ?_); rintro e w' ⟨rfl, rfl⟩; rw [← HP.out])
          | ((with_reducible refine (count_any 0 l _ _ B HS.out).mono ?_); rintro e w' ⟨rfl, rfl⟩; rw [← HZ.out]))
        | (go_at_call 43; (with_reducible refine (bit_any _ _).mono ?_); rintro e w' ⟨rfl, rfl⟩))
      go_ret
      exact ⟨ret_int (by rw [HY.out, fn, ← HP.out, ← HZ.out]; simp [fnK, bitI, hp, q2, hz, z2]), rfl⟩

end Go.Proofs.YtdanmepbdjfpfaaDoor
