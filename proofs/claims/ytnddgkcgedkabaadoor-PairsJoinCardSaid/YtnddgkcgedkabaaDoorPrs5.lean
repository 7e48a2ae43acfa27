/- The walk of Parse. -/
import Derived.Test.YtnddgkcgedkabaaDoorPrs4
namespace Go.Proofs.YtnddgkcgedkabaaDoor
open Go.RowKit

/-- What Parse returns: the pair that has the text, or the error. -/
def ParseP (s : ByteArray) (w : World) (e : Ending) (w' : World) : Prop :=
  Below w.heap.size w w' ∧
  ((∃ g b : Int, Cl g ∧ Cl b ∧ txtS g b = s ∧ e = .returned (.tuple #[.agg #[.int .u8 g, .int .u8 b], .int .i64 0])) ∨
   ((∀ g b : Int, Cl g → Cl b → txtS g b ≠ s) ∧ e = .returned (.tuple #[.agg #[.int .u8 0, .int .u8 0], .int .i64 4])))

theorem bytes_ext {a b : ByteArray} (h : a.toList = b.toList) : a = b := by
  rw [ByteArray.toList_eq, ByteArray.toList_eq] at h
  obtain ⟨⟨x⟩⟩ := a
  obtain ⟨⟨y⟩⟩ := b
  simp at h
  rw [h]
theorem cl_nat {k : Nat} (h : k < 4) : Cl (k : Int) := by unfold Cl; omega
theorem cl_lt {a : Int} (h : Cl a) : ∃ k : Nat, k < 4 ∧ a = k := by
  rcases h with rfl | rfl | rfl | rfl
  · exact ⟨0, by decide, rfl⟩
  · exact ⟨1, by decide, rfl⟩
  · exact ⟨2, by decide, rfl⟩
  · exact ⟨3, by decide, rfl⟩

set_option maxHeartbeats 1000000 in
theorem parseP_any (s : ByteArray) (w : World) (ht : Tabs w) : Calls Tryd.prog 29 #[.string s] w (ParseP s w) := by
  have HT := Lib.hid ht
  clear ht
  obtain ⟨n, hn⟩ : ∃ n, n = w.heap.size := ⟨_, rfl⟩
  have HN := Lib.hid hn
  have R0 := Box.new w (.int .u8 0) (.int .u8 0) 28
  have B0 : Below w.heap.size w (w.alloc (.cells #[.int .u8 0, .int .u8 0] 28)) := (Below.refl _ _).alloc (Nat.le_refl _) _
  have HR0 := Lib.hid R0
  have HB0 := Lib.hid B0
  clear R0 B0 hn
  go_enter Tryd.func29, Tryd.ntmps29
  go_wp2_with fail
  go_loopw [7] (fun i wr => ∃ k : Nat, k ≤ 4 ∧ i = .int .u8 k ∧ Below w.heap.size w wr ∧ Box w.heap.size (.int .u8 0) (.int .u8 0) wr ∧ (∀ g : Nat, g < k → ∀ b : Nat, b < 4 → txtS (g : Int) (b : Int) ≠ s)) (fun i _ => 4 - (intOf i).toNat)
  case atStart => exact ⟨0, by omega, rfl, HB0.out, HR0.out, fun g hg => absurd hg (by omega)⟩
  case round =>
    obtain ⟨k, hk, rfl, hb, hr, hno⟩ := hrel
    have HB := Lib.hid hb
    have HR := Lib.hid hr
    have HNO := Lib.hid hno
    clear hb hr hno HR0 HB0
    obtain ⟨wo, rfl⟩ : ∃ wo : World, wo = wr := ⟨_, rfl⟩
    by_cases hlt : k < 4
    · have d1 : decide ((k : Int) < 4) = true := by simp; omega
      go_wp2_with fail
      clear d1
      go_loopw [10] (fun i wr => ∃ j : Nat, j ≤ 4 ∧ i = .int .u8 j ∧ Below w.heap.size w wr ∧ Box w.heap.size (.int .u8 0) (.int .u8 0) wr ∧ (∀ b : Nat, b < j → txtS (k : Int) (b : Int) ≠ s)) (fun i _ => 4 - (intOf i).toNat)
      case atStart => exact ⟨0, by omega, rfl, HB.out, HR.out, fun g hg => absurd hg (by omega)⟩
      case round =>
        clear HB HR
        obtain ⟨j, hj, rfl, hb, hr, hno⟩ := hrel
        have HB := Lib.hid hb
        have HR := Lib.hid hr
        have HNO2 := Lib.hid hno
        clear hb hr hno
        by_cases hjl : j < 4
        · have HP := Lib.hid (Box.new wr (.int .u8 (k : Int)) (.int .u8 (j : Int)) 28)
          have HR' := Lib.hid (HR.out.alloc (.cells #[.int .u8 (k : Int), .int .u8 (j : Int)] 28))
          have HBa : Hid (Below w.heap.size w (wr.alloc (.cells #[.int .u8 (k : Int), .int .u8 (j : Int)] 28))) := Lib.hid (belowA HB.out)
          have HX := Lib.hid (fun w0 (ht : Tabs w0) => textP_any (k : Int) (j : Int) (by omega) (by omega) w0 ht)
          obtain ⟨y, HY⟩ := named (txtS (k : Int) (j : Int))
          rw [← HY.out] at HX
          by_cases he : y = s
          · subst he
            go_wp2_with (go_at_call 30; ((with_reducible refine (HX.out _ (HT.out.below HBa.out)).mono ?_); rintro e w1 ⟨rfl, hb1⟩; have HB1 := Lib.hid (joinB HBa.out hb1); obtain ⟨z, p0, p1, f0, f1⟩ := HP.out.below hb1; obtain ⟨z', q0, q1, g0, g1⟩ := HR'.out.below hb1; clear hb1))
            exact bodyPost_ret (v := .tuple #[.agg #[.int .u8 (k : Int), .int .u8 (j : Int)], .int .i64 0]) (by simp [results, Tryd.results29, go_sem, q0, q1]) rfl
              ⟨below_put HB1.out (Nat.le_refl _) _ _, .inl ⟨(k : Int), (j : Int), cl_nat hlt, cl_nat hjl, HY.out.symm, rfl⟩⟩
          · have hne : (y.toList == s.toList) = false := by
              exact beq_eq_false_iff_ne.2 fun h => he (bytes_ext h)
            go_wp2_with (go_at_call 30; ((with_reducible refine (HX.out _ (HT.out.below HBa.out)).mono ?_); rintro e w1 ⟨rfl, hb1⟩; have HB1 := Lib.hid (joinB HBa.out hb1); have HR1 := Lib.hid (HR'.out.below hb1); clear hb1))
            go_roundw
            case rel => exact ⟨j + 1, by omega, by go_num, HB1.out, HR1.out, fun b hb => by
              by_cases hbj : b = j
              · subst hbj; rw [← HY.out]; exact he
              · exact HNO2.out b (by omega)⟩
            case measure => simp [intOf]; omega
        · obtain rfl : j = 4 := by omega
          go_wp2_with fail
          go_roundw
          case rel => exact ⟨k + 1, by omega, by go_num, HB.out, HR.out, fun g hg b hb => by
              by_cases hgk : g = k
              · subst hgk; exact HNO2.out b hb
              · exact HNO.out g (by omega) b hb⟩
          case measure => simp [intOf]; omega
    · obtain rfl : k = 4 := by omega
      obtain ⟨z', q0, q1, g0, g1⟩ := HR.out
      go_wp2_with fail
      exact bodyPost_ret (v := .tuple #[.agg #[.int .u8 0, .int .u8 0], .int .i64 4]) (by simp [results, Tryd.results29, go_sem, q0, q1]) rfl
        ⟨below_put HB.out (Nat.le_refl _) _ _, .inr ⟨fun g b hg hb => by
          obtain ⟨x, hx, rfl⟩ := cl_lt hg
          obtain ⟨y, hy, rfl⟩ := cl_lt hb
          exact HNO.out x hx y hy, rfl⟩⟩

end Go.Proofs.YtnddgkcgedkabaaDoor
