/- The walk of the law of duality, the rest: no values at all; all together. -/
import Derived.Test.YtdanmepbdjfpfaaDoorDual
import Derived.Test.YtdanmepbdjfpfaaDoorClass
namespace Go.Proofs.YtdanmepbdjfpfaaDoor
open Go.RowKit

theorem and_nl {w0 w : World} (A : Option Addr) (c : Nat) (hb : Below w0.heap.size w0 w) : Calls Tryd.prog 12 #[.slice A 0 c] w fun e w' => e = .returned (.int .u8 1) ∧ Below w0.heap.size w0 w' :=
  rel (and_any (l := []) (Nat.le_refl _) (Vs.nil w _ A c)) hb
theorem or_nl {w0 w : World} (A : Option Addr) (c : Nat) (hb : Below w0.heap.size w0 w) : Calls Tryd.prog 14 #[.slice A 0 c] w fun e w' => e = .returned (.int .u8 0) ∧ Below w0.heap.size w0 w' :=
  rel (or_any (l := []) (Nat.le_refl _) (Vs.nil w _ A c)) hb
theorem not_1 (w : World) : Calls Tryd.prog 16 #[.int .u8 1] w fun e w' => e = .returned (.int .u8 0) ∧ w = w' := not_any 1 w
theorem not_0 (w : World) : Calls Tryd.prog 16 #[.int .u8 0] w fun e w' => e = .returned (.int .u8 1) ∧ w = w' := not_any 0 w

set_option maxHeartbeats 1000000 in
set_option maxRecDepth 100000 in
theorem dual_nil (at_ : Int) (A : Option Addr) (c : Nat) (w : World) (ht : Tabs w) :
    Calls Tryd.prog 8 #[.slice A 0 c, .int .u8 at_] w fun e w' => e = .returned (.bool true) ∧ Below w.heap.size w w' := by
  have HT := Lib.hid ht
  have HS := Lib.hid (Vs.nil w w.heap.size A c)
  have HN := Lib.hid (Vs.nil w w.heap.size none 0)
  clear ht
  have a1 : andL [] = 1 := by decide
  have a2 : orL [] = 0 := by decide
  have a3 : nt 1 = 0 := by decide
  have a4 : nt 0 = 1 := by decide
  have hb0 := Below.refl w.heap.size w
  go_enter Tryd.func8, Tryd.ntmps8
  go_wp2_with fail
  refine wp_loop_rounds 1 ?_
  rw [rounds_succ]
  go_wp2_with fail
  refine region_class (w0 := w) hb0 (by kernel_rfl) (by kernel_rfl) ?_
  repeat (first
    | go_big_quiet_skip
    | (go_big_quiet_want; go_big_quiet_op; first
      | go_big_quiet_on
      | (apply Exists.intro
         refine ⟨fun xx => ?_, ?_⟩
         focus first
          | (go_at_call 12; with_reducible exact beh_of (and_nl _ _ xx.below))
          | (go_at_call 14; with_reducible exact beh_of (or_nl _ _ xx.below))
          | (go_at_call 16; with_reducible exact beh_same (not_1 _))
          | (go_at_call 16; with_reducible exact beh_same (not_0 _))
         go_big_quiet_on)))
  refine wpQuiet_nil ?_
  rintro w1 ⟨⟨x1, hb1⟩, rfl⟩
  go_wp2_with (go_at_call 11; (with_reducible refine (lives_at HT.out (by assumption)).mono ?_); rintro e w' ⟨rfl, hb⟩)
  go_ret
  exact ⟨rfl, by assumption⟩

theorem dual_any (at_ : Int) (h0 : 0 ≤ at_) (h1 : at_ ≤ 255) (l : List Int) (s : Value) (w : World) (ht : Tabs w) (hs : Vs w w.heap.size s l) (A : Option Addr) (c b o : Nat) (hv : s = .slice A l.length c) (hA : 0 < l.length → A = some ⟨b, o, none⟩) (hlc : l.length ≤ c)
    (hc : ∀ k, k < l.length → b < w.heap.size ∧ w.cell? ⟨b, o + k, none⟩ = some (.int .u8 (l.getD k 0))) :
    Calls Tryd.prog 8 #[s, .int .u8 at_] w fun e w' => e = .returned (.bool true) ∧ Below w.heap.size w w' := by
  by_cases n1 : 16 < l.length
  · subst hv; exact dual_long at_ A _ c w ht n1
  by_cases n2 : l.length < 1
  · subst hv
    rw [show l.length = 0 by omega]
    exact dual_nil at_ A c w ht
  · obtain rfl := hA (by omega)
    exact dual_main at_ h0 h1 l s w ht _ c b o hv hlc hs hc rfl (by omega) (by omega)

end Go.Proofs.YtdanmepbdjfpfaaDoor
