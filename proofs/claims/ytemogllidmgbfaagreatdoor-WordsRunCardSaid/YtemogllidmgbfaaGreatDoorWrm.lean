/- WordsRun: any number of patterns. -/
import Derived.Test.YtemogllidmgbfaaGreatDoorWrl
namespace Go.Proofs.YtemogllidmgbfaaGreatDoor
open Go.RowKit

set_option maxRecDepth 100000 in
set_option maxHeartbeats 4000000 in
theorem wrun_many (x : Cx) (sG sA : Value) (Aq : Option Addr) (nq cq : Nat) (w : World) (hT : Lg.Tabs w) (hft : Ft w) (hn70 : (70 : Int) < (nq : Int)) :
    Calls Tryz.prog 4 #[.agg #[.int .u8 x.inN, .int .u8 x.dffs, .int .u8 x.d0, .int .u8 x.d1, .bool x.bus, .bool x.mem, .int .u8 x.p0, .int .u8 x.p1, .int .u8 x.p2, .int .u8 x.p3, sG, sA], .slice Aq nq cq] w fun e w' => e = .returned (.bool true) ∧ Below w.heap.size w w' := by
  have HLV : Hid (∀ W, BelW w W → Calls Tryz.prog 7 #[] W fun e w' => e = .returned (.bool true) ∧ BelW W w') := Lib.hid fun W h => lives7_any W (hT.below h) (hft.below h)
  obtain ⟨W1, HW1⟩ := named (w.alloc (.cells #[.int .u8 x.inN, .int .u8 x.dffs, .int .u8 x.d0, .int .u8 x.d1, .bool x.bus, .bool x.mem, .int .u8 x.p0, .int .u8 x.p1, .int .u8 x.p2, .int .u8 x.p3, sG, sA] 39))
  have hb1 : BelW w W1 := by rw [HW1.out]; exact below_new (Below.refl _ _) _
  clear hT hft
  go_enter Tryz.func4, Tryz.ntmps4
  go_upto_region 1 with (fail)
  rw [← HW1.out]
  go_wp2_with (go_at_call 7; (with_reducible refine (HLV.out _ hb1).mono ?_); rintro e w2 ⟨rfl, hb⟩; have hb2 : BelW w w2 := joinB hb1 hb; clear hb)
  go_ret
  exact ⟨rfl, hb2⟩
theorem wrun_all (x : Cx) (hx : Cok x) (sG sA : Value) (qs : List (List Int × List Int)) (Aq : Option Addr) (nq cq : Nat) (w : World) (hT : Lg.Tabs w) (hft : Ft w) (hG : Gs w w.heap.size sG x.gates) (hA : Ks w w.heap.size sA x.outs) (hq : Pts w w.heap.size (.slice Aq nq cq) qs) (hqv : ∀ x ∈ qs, (∀ y ∈ x.1, 0 ≤ y ∧ y ≤ 255) ∧ ∀ y ∈ x.2, 0 ≤ y ∧ y ≤ 255) :
    Calls Tryz.prog 4 #[.agg #[.int .u8 x.inN, .int .u8 x.dffs, .int .u8 x.d0, .int .u8 x.d1, .bool x.bus, .bool x.mem, .int .u8 x.p0, .int .u8 x.p1, .int .u8 x.p2, .int .u8 x.p3, sG, sA], .slice Aq nq cq] w fun e w' => e = .returned (.bool true) ∧ Below w.heap.size w w' := by
  by_cases h : (70 : Int) < (nq : Int)
  · exact wrun_many x sG sA Aq nq cq w hT hft h
  · exact wrun_law x hx sG sA qs Aq nq cq w hT hG hA hft hq hqv h
end Go.Proofs.YtemogllidmgbfaaGreatDoor
