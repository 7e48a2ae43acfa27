/- The texts LgRef2. -/
import Derived.Test.YtcaikkfcjeojiaaDoorM31
namespace Go.Proofs.YtcaikkfcjeojiaaDoor.Lg
open Go.RowKit

theorem chc_ways (v : Int) (bus : Bool) : (v = 0 ∧ chc v bus = [0]) ∨ (v = 1 ∧ chc v bus = [1]) ∨ ((v == 0) = false ∧ (v == 1) = false ∧ bus = true ∧ (v == 3) = true ∧ chc v bus = [2]) ∨
    ((v == 0) = false ∧ (v == 1) = false ∧ bus = true ∧ (v == 3) = false ∧ chc v bus = [0, 1, 2]) ∨ ((v == 0) = false ∧ (v == 1) = false ∧ bus = false ∧ chc v bus = [0, 1]) := by
  by_cases h0 : v = 0
  · exact .inl ⟨h0, by simp [chc, h0]⟩
  by_cases h1 : v = 1
  · exact .inr (.inl ⟨h1, by simp [chc, h1]⟩)
  cases bus
  · exact .inr (.inr (.inr (.inr ⟨by simpa using h0, by simpa using h1, rfl, by simp [chc, h0, h1]⟩)))
  · by_cases h3 : v = 3
    · exact .inr (.inr (.inl ⟨by simpa using h0, by simpa using h1, rfl, by simpa using h3, by simp [chc, h0, h1, h3]⟩))
    · exact .inr (.inr (.inr (.inl ⟨by simpa using h0, by simpa using h1, rfl, by simpa using h3, by simp [chc, h0, h1, h3]⟩)))

set_option maxHeartbeats 1000000 in
theorem choices_any (v : Int) (bus : Bool) (w : World) :
    Calls Tryd.prog 24 #[.int .u8 v, .bool bus] w fun e w' => e = .returned (.slice (some ⟨w.heap.size, 0, none⟩) (chc v bus).length (chc v bus).length) ∧ w' = w.alloc (.cells ((chc v bus).map (Value.int .i64)).toArray 3) := by
  rcases chc_ways v bus with ⟨rfl, h⟩ | ⟨rfl, h⟩ | ⟨h0, h1, rfl, h3, h⟩ | ⟨h0, h1, rfl, h3, h⟩ | ⟨h0, h1, rfl, h⟩
  all_goals
    rw [h]
    clear h
    go_enter Tryd.func24, Tryd.ntmps24
    go_wp2
    go_ret
    exact ⟨rfl, rfl⟩

end Go.Proofs.YtcaikkfcjeojiaaDoor.Lg
