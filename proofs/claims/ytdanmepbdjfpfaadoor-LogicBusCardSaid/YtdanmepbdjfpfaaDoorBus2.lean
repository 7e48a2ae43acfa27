/- The walk of the law of buses: no values, too many values; all together. -/
import Derived.Test.YtdanmepbdjfpfaaDoorBus
namespace Go.Proofs.YtdanmepbdjfpfaaDoor
open Go.RowKit

set_option maxHeartbeats 400000 in
theorem busl_long (at_ : Int) (A : Option Addr) (n c : Nat) (w : World) (ht : Tabs w) (h : 7 < n) :
    Calls Tryd.prog 4 #[.slice A n c, .int .u8 at_] w fun e w' => e = .returned (.bool true) ∧ Below w.heap.size w w' := by
  have HT := Lib.hid ht
  clear ht
  have hb0 := Below.refl w.heap.size w
  go_enter Tryd.func4, Tryd.ntmps4
  go_wp2_with (go_at_call 11; (with_reducible refine (lives_at HT.out (by assumption)).mono ?_); rintro e w' ⟨rfl, hb⟩)
  go_ret
  exact ⟨rfl, by assumption⟩

theorem vs_one (x : Int) (w : World) : Vs (w.alloc (.cells #[.int .u8 x] 24)) (w.alloc (.cells #[.int .u8 x] 24)).heap.size (.slice (some ⟨w.heap.size, 0, none⟩) 1 1) [x] :=
  ⟨w.heap.size, 0, 1, .inl rfl, by unfold maxLen; simp, fun k hk => by
    obtain rfl : 0 = k := by simp at hk; omega
    exact ⟨by simp, World.cell?_alloc_at _ _ _ _ rfl⟩⟩

set_option maxHeartbeats 1000000 in
set_option maxRecDepth 100000 in
theorem busl_nil (at_ : Int) (A : Option Addr) (c : Nat) (w : World) (ht : Tabs w) :
    Calls Tryd.prog 4 #[.slice A 0 c, .int .u8 at_] w fun e w' => e = .returned (.bool true) ∧ Below w.heap.size w w' := by
  have HT := Lib.hid ht
  clear ht
  have HB0 : Hid (∀ w', Below w.heap.size w w' → Calls Tryd.prog 19 #[.slice A 0 c] w' fun e w'' => e = .returned (.int .u8 3) ∧ Below w.heap.size w w'') :=
    Lib.hid fun w' h => bus_rel (l := []) (Nat.le_refl _) (Vs.nil w _ A c) w' h
  have hb0 := Below.refl w.heap.size w
  go_enter Tryd.func4, Tryd.ntmps4
  go_wp2_with (go_at_call 19; (with_reducible refine (HB0.out _ hb0).mono ?_); rintro e X ⟨rfl, hb⟩)
  have HBX := Lib.hid hb
  clear hb0 hb
  have HY0 : Hid (Below w.heap.size w (X.alloc (.cells #[.int .u8 3] 24))) := Lib.hid (below_new HBX.out _)
  have HYV := Lib.hid (vs_one 3 X)
  have hb0 := Below.refl (X.alloc (.cells #[.int .u8 3] 24)).heap.size (X.alloc (.cells #[.int .u8 3] 24))
  have HTN := Lib.hid (HT.out.below HY0.out)
  have HAP : Hid (∀ w', Below (X.alloc (.cells #[.int .u8 3] 24)).heap.size (X.alloc (.cells #[.int .u8 3] 24)) w' → Calls Tryd.prog 13 #[.int .u8 13, .slice A 0 c] w' fun e w'' => e = .returned (.int .u8 3) ∧ Below (X.alloc (.cells #[.int .u8 3] 24)).heap.size (X.alloc (.cells #[.int .u8 3] 24)) w'') :=
    Lib.hid fun w' h => rel (bus_apply [] _ 0 c 0 0 A rfl (fun h => absurd h (by omega)) w' rfl (by omega) (fun v hv => by cases hv) (fun k hk => absurd hk (by omega))) h
  have HCF : Hid (∀ w', Below (X.alloc (.cells #[.int .u8 3] 24)).heap.size (X.alloc (.cells #[.int .u8 3] 24)) w' → Calls Tryd.prog 20 #[.slice A 0 c] w' fun e w'' => e = .returned (.bool false) ∧ Below (X.alloc (.cells #[.int .u8 3] 24)).heap.size (X.alloc (.cells #[.int .u8 3] 24)) w'') :=
    Lib.hid fun w' h => conflict_rel' (l := []) (Nat.le_refl _) (Vs.nil _ _ A c) w' h
  have HCM : Hid (∀ w', Below (X.alloc (.cells #[.int .u8 3] 24)).heap.size (X.alloc (.cells #[.int .u8 3] 24)) w' → Calls Tryd.prog 20 #[.slice (some ⟨X.heap.size, 0, none⟩) 1 1] w' fun e w'' => e = .returned (.bool false) ∧ Below (X.alloc (.cells #[.int .u8 3] 24)).heap.size (X.alloc (.cells #[.int .u8 3] 24)) w'') :=
    Lib.hid fun w' h => conflict_rel' (l := [3]) (Nat.le_refl _) HYV.out w' h
  have HBM : Hid (∀ w', Below (X.alloc (.cells #[.int .u8 3] 24)).heap.size (X.alloc (.cells #[.int .u8 3] 24)) w' → Calls Tryd.prog 19 #[.slice (some ⟨X.heap.size, 0, none⟩) 1 1] w' fun e w'' => e = .returned (.int .u8 3) ∧ Below (X.alloc (.cells #[.int .u8 3] 24)).heap.size (X.alloc (.cells #[.int .u8 3] 24)) w'') :=
    Lib.hid fun w' h => bus_rel (l := [3]) (Nat.le_refl _) HYV.out w' h
  refine wp_loop_rounds 1 ?_
  rw [rounds_succ]
  cases A
  all_goals
    go_wp2_with (first
      | (go_at_call 13; (with_reducible refine (HAP.out _ (by assumption)).mono ?_); rintro e w' ⟨rfl, hb⟩)
      | (go_at_call 19; (with_reducible refine (HBM.out _ (by assumption)).mono ?_); rintro e w' ⟨rfl, hb⟩)
      | (go_at_call 20; first
        | ((with_reducible refine (HCF.out _ (by assumption)).mono ?_); rintro e w' ⟨rfl, hb⟩)
        | ((with_reducible refine (HCM.out _ (by assumption)).mono ?_); rintro e w' ⟨rfl, hb⟩))
      | (go_at_call 11; (with_reducible refine (lives_at HTN.out (by assumption)).mono ?_); rintro e w' ⟨rfl, hb⟩))
    go_ret
    exact ⟨rfl, join HY0.out (by assumption)⟩

theorem busl_any (at_ : Int) (h0 : 0 ≤ at_) (h1 : at_ ≤ 255) (l : List Int) (s : Value) (w : World) (ht : Tabs w) (hs : Vs w w.heap.size s l) (A : Option Addr) (c b o : Nat) (hv : s = .slice A l.length c) (hA : 0 < l.length → A = some ⟨b, o, none⟩) (hlc : l.length ≤ c)
    (hp : ∀ k, k < l.length → 0 ≤ l.getD k 0 ∧ l.getD k 0 ≤ 255) (hc : ∀ k, k < l.length → b < w.heap.size ∧ w.cell? ⟨b, o + k, none⟩ = some (.int .u8 (l.getD k 0))) :
    Calls Tryd.prog 4 #[s, .int .u8 at_] w fun e w' => e = .returned (.bool true) ∧ Below w.heap.size w w' := by
  by_cases n1 : 7 < l.length
  · subst hv; exact busl_long at_ A _ c w ht n1
  by_cases n2 : l.length < 1
  · subst hv
    rw [show l.length = 0 by omega]
    exact busl_nil at_ A c w ht
  · obtain rfl := hA (by omega)
    refine bus_main at_ h0 h1 l s w ht _ c b o hv hlc hs hc (fun v hv => ?_) rfl (by omega) (by omega)
    obtain ⟨k, hk, rfl⟩ := List.mem_iff_getElem.1 hv
    have := (hp k hk).1
    rw [List.getD_eq_getElem?_getD, List.getElem?_eq_getElem hk] at this
    exact this

end Go.Proofs.YtdanmepbdjfpfaaDoor
