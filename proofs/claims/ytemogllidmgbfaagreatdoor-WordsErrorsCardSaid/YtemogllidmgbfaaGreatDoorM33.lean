/- The texts Srx. -/
import Derived.Test.YtemogllidmgbfaaGreatDoorM32
namespace Go.Proofs.YtemogllidmgbfaaGreatDoor
open Go.RowKit

set_option maxRecDepth 100000 in
set_option maxHeartbeats 4000000 in
theorem insert_w (L : List Int) (n d g q B a b : Nat) (w w0 : World) (hd : B ≤ d) (hg : d ≠ g) (hq : d ≠ q) (hL : L.length = n) (hn : n ≤ 1000000) (hb : b ≤ n) (ha : a ≤ n) (hw : SV w0 B d g q n L w) :
    Calls Tryz.prog 123 #[.slice (some ⟨d, 0, none⟩) n n, .int .i64 (a : Int), .int .i64 (b : Int), .func (.func 89) #[] #[.pointer (some ⟨q, 0, none⟩)]] w (SVP w0 B d g q n L) := by
  have HW := Lib.hid hw
  have HLL := Lib.hid hL
  clear hw hL
  have hwa : IntKind.i64.wrap ((a : Int) + 1) = ((a + 1 : Nat) : Int) := by rw [IntKind.wrap_i64]; omega
  go_enter Tryz.func123, Tryz.ntmps123
  go_wp2
  go_loopw [8] (fun i wr => ∃ k : Nat, i = .int .i64 k ∧ a + 1 ≤ k ∧ k ≤ n + 1 ∧ SV w0 B d g q n L wr) (fun i _ => n + 1 - (intOf i).toNat)
  case atStart => exact ⟨a + 1, by first | rfl | go_num, Nat.le_refl _, by omega, HW.out⟩
  case round =>
    clear HW hwa
    obtain ⟨k, rfl, hk1, hk2, hsw⟩ := hrel
    have HSW := Lib.hid hsw
    clear hsw
    by_cases hlt : k < b
    · have hltz : (k : Int) < (b : Int) := by omega
      go_wp2
      go_loopg [9] k (fun g2 vj wr2 => ∃ j : Nat, vj = .int .i64 j ∧ j ≤ g2 ∧ j ≤ k ∧ a ≤ j ∧ SV w0 B d g q n L wr2)
      case atStart => exact ⟨k, rfl, Nat.le_refl _, Nat.le_refl _, by omega, HSW.out⟩
      case round =>
        clear HSW
        obtain ⟨j, rfl, hjg, hjk, haj, hsw⟩ := hrel
        have HSW := Lib.hid hsw
        by_cases hja : j = a
        · subst hja
          clear hsw
          have hdec : decide ((j : Int) < (j : Int)) = false := by simp
          go_wp2
          go_quiet (fail)
          go_wp2
          go_roundw
          case rel => exact ⟨k + 1, by go_num, by omega, by omega, HSW.out.drewN _⟩
          case measure => simp [intOf]; omega
        · obtain ⟨jp, rfl⟩ : ∃ jp, j = jp + 1 := ⟨j - 1, by omega⟩
          obtain ⟨xn, hx, c1, f1⟩ := hsw.at (j := jp + 1) (by omega)
          obtain ⟨yn, hy, c0, f0⟩ := hsw.at (j := jp) (by omega)
          clear hsw
          have hc := fun m => HSW.out.cmp HLL.out hn hx hy m
          obtain ⟨z, HZ⟩ := named (cmpI (lat L xn) (lat L yn))
          rw [← HZ.out] at hc
          have hwp : IntKind.i64.wrap (jp : Int) = (jp : Int) := by rw [IntKind.wrap_i64]; omega
          have jz : (jp : Int) + 1 < (n : Int) := by omega
          have jz1 : (jp : Int) < (n : Int) := by omega
          have hjaz' : (a : Int) < (jp : Int) + 1 := by omega
          have hjaz2 : decide ((a : Int) < (jp : Int) + 1) = true := by simpa using hjaz'
          have p0 : (0 : Int) ≤ (jp : Int) + 1 := by omega
          have e0 : ((jp : Int) + 1).toNat = jp + 1 := by omega
          generalize hwq : wr = wq at c1 c0 f1 f0 hc HSW ⊢
          clear hwq
          by_cases hlv : z < 0
          · go_wp2_with fail
            go_quiet ((go_at_call 89; refine Calls.quiet_of (hc _)))
            go_wp2_with fail
            have hlv' : decide (z < 0) = true := by simpa using hlv
            have HS2 := Lib.hid (HSW.out.drewN nq)
            have c1' : (wq.drewN nq).cell? ⟨d, jp + 1, none⟩ = some (.int .i64 (xn : Int)) := c1
            have c0' : (wq.drewN nq).cell? ⟨d, jp, none⟩ = some (.int .i64 (yn : Int)) := c0
            have f1' : (wq.drewN nq).frozen? ⟨d, jp + 1, none⟩ = false := f1
            have f0' : (wq.drewN nq).frozen? ⟨d, jp, none⟩ = false := f0
            clear c1 c0 f1 f0 hc
            generalize wq.drewN nq = wq2 at HS2 c1' c0' f1' f0' ⊢
            obtain ⟨j1, hj1⟩ : ∃ j1, j1 = jp + 1 := ⟨_, rfl⟩
            rw [← hj1] at c1' f1' e0
            have J1 := Lib.hid hj1
            clear hj1
            go_big_region
            all_goals
              go_wp2
              go_roundg jp
              case measure => omega
              case rel =>
                refine ⟨jp, by first | rfl | go_num | (congr 1; omega), Nat.le_refl _, by omega, by omega, ?_⟩
                exact ((HS2.out.set hd hg hq j1 yn hy).set hd hg hq jp xn hx).drew
          · have hlv' : decide (z < 0) = false := by simpa using hlv
            go_wp2_with fail
            go_quiet ((go_at_call 89; refine Calls.quiet_of (hc _)))
            go_wp2
            go_roundw
            case rel => exact ⟨k + 1, by go_num, by omega, by omega, HSW.out.drewN _⟩
            case measure => simp [intOf]; omega
    · go_wp2
      go_end0
      exact ⟨rfl, HSW.out⟩
end Go.Proofs.YtemogllidmgbfaaGreatDoor
