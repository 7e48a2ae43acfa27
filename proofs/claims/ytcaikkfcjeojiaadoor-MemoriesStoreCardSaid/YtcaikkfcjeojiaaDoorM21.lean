/- The texts Mat. -/
import Derived.Test.YtcaikkfcjeojiaaDoorM20
namespace Go.Proofs.YtcaikkfcjeojiaaDoor
open Go.RowKit

/-- Bit k of an index, as a value. -/
def ibit (i k : Nat) : Int := if i.testBit k then 1 else 0
def okA (l : List Int) (i k : Nat) : Prop := knw (l.getD k 0) = true → l.getD k 0 = ibit i k
theorem i64_and1 (n : Int) : bits .and .i64 n 1 = n % 2 := by
  have h1 : (BitVec.ofInt 64 1).toNat = 2 ^ 1 - 1 := by decide
  have key : (BitVec.ofInt 64 n &&& BitVec.ofInt 64 1).toNat = (n % ((2 ^ 64 : Nat) : Int)).toNat % 2 ^ 1 := by
    rw [BitVec.toNat_and, BitVec.toNat_ofInt, h1, Nat.and_two_pow_sub_one_eq_mod]
  show IntKind.i64.wrap ((BitVec.ofInt 64 n &&& BitVec.ofInt 64 1).toNat : Nat) = n % 2
  rw [key, IntKind.wrap_i64]
  omega
theorem shr_cast (i k : Nat) (hi : i < 1000000) : (i : Int) / 2 ^ min k 64 = ((i / 2 ^ k : Nat) : Int) := by
  by_cases h : k ≤ 64
  · rw [Nat.min_eq_left h, Int.natCast_ediv, Int.natCast_pow]; rfl
  · have h1 : i / 2 ^ k = 0 := Nat.div_eq_of_lt (Nat.lt_of_lt_of_le (show i < 2 ^ 64 by omega) (Nat.pow_le_pow_right (by decide) (by omega)))
    rw [Nat.min_eq_right (by omega), h1]
    omega
theorem zbit (i k : Nat) (hi : i < 1000000) : bits .and .i64 ((i : Int) / 2 ^ min k 64) 1 % 256 = ibit i k := by
  rw [i64_and1, shr_cast i k hi]
  unfold ibit
  rw [Nat.testBit_eq_decide_div_mod_eq]
  by_cases h : i / 2 ^ k % 2 = 1
  · rw [if_pos (by simpa using h)]; omega
  · rw [if_neg (by simpa using h)]; omega
set_option maxRecDepth 100000 in
set_option maxHeartbeats 4000000 in
theorem match_any (l : List Int) (A : Option Addr) (m c i q : Nat) (w : World) (B : Nat) (hB : B ≤ w.heap.size) (hs : Ks w B (.slice A m c) l) (hq : w.cell? ⟨q, 0, none⟩ = some (.slice A m c)) (hi : i < 1000000) (r : Bool) (hr : r = true ↔ (∀ k, k < l.length → okA l i k) ∧ i >>> l.length = 0) :
    Calls Tryd.prog 35 #[.int .i64 (i : Int), .pointer (some ⟨q, 0, none⟩)] w fun e w' => e = .returned (.bool r) ∧ w' = w := by
  obtain ⟨A', b, o, c', e, hA, -, hm, hc⟩ := hs.opens
  simp only [Value.slice.injEq] at e
  obtain ⟨rfl, hml, rfl⟩ := e
  rw [← hml] at hA hc hm
  have HA := Lib.hid hA
  have HC := Lib.hid hc
  have HML := Lib.hid hml
  have HR := Lib.hid hr
  have HKN : Hid (∀ W y, Calls Tryd.prog 19 #[.int .u8 y] W fun e w' => e = .returned (.bool (knw y)) ∧ W = w') := Lib.hid fun W y => Lg.known_any y W
  unfold maxLen at hm
  clear hA hc hml hr hs
  go_enter Tryd.func35, Tryd.ntmps35
  go_wp2
  go_loopw [8] (fun j wr => wr = w ∧ ∃ k : Nat, k ≤ m ∧ j = .int .i64 k ∧ ∀ t, t < k → okA l i t) (fun j _ => m - (intOf j).toNat)
  case atStart => exact ⟨rfl, 0, Nat.zero_le _, rfl, fun t h => absurd h (Nat.not_lt_zero t)⟩
  case round =>
    obtain ⟨rfl, k, hk, rfl, hok⟩ := hrel
    have HOK := Lib.hid hok
    clear hok
    by_cases hlt : k < m
    · obtain rfl := HA.out (by omega)
      have x0 := (HC.out k hlt).2
      obtain ⟨y, HY⟩ := named (l.getD k 0)
      rw [← HY.out] at x0
      have HKY := Lib.hid (fun W => HKN.out W y)
      have hk2 : (k : Int) < (m : Int) := by omega
      obtain ⟨kb, HKB⟩ := named (knw y)
      rw [← HKB.out] at HKY
      cases kb
      · go_wp2_with (go_at_call 19; (with_reducible refine (HKY.out _).mono ?_); rintro e w' ⟨rfl, rfl⟩)
        go_roundw
        case rel =>
          refine ⟨by trivial, k + 1, by omega, by go_num, fun t ht => ?_⟩
          by_cases htk : t < k
          · exact HOK.out t htk
          · obtain rfl : t = k := by omega
            intro h
            rw [← HY.out, ← HKB.out] at h
            cases h
        case measure => simp [intOf]; omega
      · have hz := zbit i k hi
        obtain ⟨z, HZ⟩ := named (ibit i k)
        rw [← HZ.out] at hz
        by_cases hyz : y = z
        · subst hyz
          go_wp2_with (go_at_call 19; (with_reducible refine (HKY.out _).mono ?_); rintro e w' ⟨rfl, rfl⟩)
          go_roundw
          case rel =>
            refine ⟨by trivial, k + 1, by omega, by go_num, fun t ht => ?_⟩
            by_cases htk : t < k
            · exact HOK.out t htk
            · obtain rfl : t = k := by omega
              intro _
              rw [← HY.out, ← HZ.out]
          case measure => simp [intOf]; omega
        · go_wp2_with (go_at_call 19; (with_reducible refine (HKY.out _).mono ?_); rintro e w' ⟨rfl, rfl⟩)
          go_ret
          refine ⟨?_, rfl⟩
          have : r = false := by
            cases hr : r with
            | false => rfl
            | true =>
              have h1 := (HR.out.1 hr).1 k (by rw [← HML.out]; exact hlt)
              unfold okA at h1
              rw [← HY.out, ← HKB.out, ← HZ.out] at h1
              exact absurd (h1 rfl) hyz
          rw [this]; rfl
    · obtain rfl : m = k := by omega
      have hsh := shr_cast i m hi
      obtain ⟨z, HZ⟩ := named (i / 2 ^ m)
      rw [← HZ.out] at hsh
      go_wp2
      go_ret
      refine ⟨?_, rfl⟩
      have : r = ((z : Int) == 0) := by
        have hall : ∀ t, t < l.length → okA l i t := fun t ht => HOK.out t (by rw [HML.out]; exact ht)
        have hz : i >>> l.length = z := by rw [HZ.out, Nat.shiftRight_eq_div_pow, HML.out]
        have h := HR.out
        rw [hz] at h
        by_cases h0 : z = 0
        · rw [h.2 ⟨hall, h0⟩, h0]; rfl
        · have : r = false := by
            cases hr : r with
            | false => rfl
            | true => exact absurd (h.1 hr).2 h0
          rw [this]
          exact (beq_false_of_ne (by omega)).symm
      rw [this]; rfl
theorem matcher_any (A : Option Addr) (m c : Nat) (w : World) : Calls Tryd.prog 20 #[.slice A m c] w fun e w' => e = .returned (.func (.func 35) #[] #[.pointer (some ⟨w.heap.size, 0, none⟩)]) ∧ w' = w.alloc (.cells #[.slice A m c] 23) := by
  go_enter Tryd.func20, Tryd.ntmps20
  go_wp2
  go_ret
  exact ⟨rfl, rfl⟩
/-- Whether an index matches an address. -/
noncomputable def mat (l : List Int) (i : Nat) : Bool := @decide ((∀ k, k < l.length → okA l i k) ∧ i >>> l.length = 0) (Classical.propDecidable _)
theorem mat_iff (l : List Int) (i : Nat) : mat l i = true ↔ (∀ k, k < l.length → okA l i k) ∧ i >>> l.length = 0 := by unfold mat; exact @decide_eq_true_iff _ (Classical.propDecidable _)
end Go.Proofs.YtcaikkfcjeojiaaDoor
