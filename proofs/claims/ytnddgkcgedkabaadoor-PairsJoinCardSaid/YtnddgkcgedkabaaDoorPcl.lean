/- The walk of the law of Join. -/
import Derived.Test.YtnddgkcgedkabaaDoorPord
import Derived.Deep.DeepCutAuto
namespace Go.Proofs.YtnddgkcgedkabaaDoor
open Go.RowKit

set_option maxHeartbeats 400000 in
theorem lclean_any (a b : Int) (w : World) : Calls Tryd.prog 22 #[.agg #[.int .u8 a, .int .u8 b]] w fun e w' => e = .returned (.agg #[.int .u8 (cln a), .int .u8 (cln b)]) ∧ Below w.heap.size w w' := by
  go_enter Tryd.func22, Tryd.ntmps22
  go_wp2
  go_region_with ((go_at_call 13; (with_reducible refine (clean_any _ _).mono ?_); rintro e w' ⟨rfl, rfl⟩))
  all_goals
    go_wp2
    exact bodyPost_ret (v := .agg #[.int .u8 (cln a), .int .u8 (cln b)]) (by simp [results, Tryd.results22, go_sem]) rfl ⟨rfl, (((Below.refl _ _).alloc (Nat.le_refl _) _).alloc (by simp) _).drew⟩

end Go.Proofs.YtnddgkcgedkabaaDoor
