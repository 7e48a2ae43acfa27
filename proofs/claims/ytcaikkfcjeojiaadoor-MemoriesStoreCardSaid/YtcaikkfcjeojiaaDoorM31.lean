/- The texts LgMonow LgRef1. -/
import Derived.Test.YtcaikkfcjeojiaaDoorM15
import Derived.Test.YtcaikkfcjeojiaaDoorM02
import Derived.Test.YtcaikkfcjeojiaaDoorM30
namespace Go.Proofs.YtcaikkfcjeojiaaDoor.Lg
open Go.RowKit

theorem one_new (w : World) (u : Value) (t : TypeId) : ∀ (j : Nat) (v : Value), [u][j]? = some v → (w.alloc (.cells #[u] t)).cell? ((⟨w.heap.size, 0, none⟩ : Addr).add j) = some v := by
  intro j v h
  match j, h with
  | 0, h =>
    obtain rfl : u = v := by simpa using h
    rw [show (⟨w.heap.size, 0, none⟩ : Addr).add 0 = ⟨w.heap.size, 0, none⟩ from rfl, World.cell?_alloc_at _ _ _ _ rfl]
    rfl
end Go.Proofs.YtcaikkfcjeojiaaDoor.Lg

namespace Go.Proofs.YtcaikkfcjeojiaaDoor.Lg
open Go.RowKit

/-- The slice value v reads as the list l of integers, in blocks below B. -/
def Vi (w : World) (B : Nat) (v : Value) (l : List Int) : Prop :=
  ∃ b o c, (v = .slice (some ⟨b, o, none⟩) l.length c ∨ (l = [] ∧ ∃ A, v = .slice A 0 c)) ∧ l.length ≤ maxLen ∧ ∀ k, k < l.length → b < B ∧ w.cell? ⟨b, o + k, none⟩ = some (.int .i64 (l.getD k 0))
section
variable {w w' : World} {B B' : Nat} {v : Value} {l : List Int}
theorem Vi.keep (h : Vi w B v l) (hk : ∀ p : Addr, p.block < B → w'.cell? p = w.cell? p) : Vi w' B v l := by
  obtain ⟨b, o, c, h1, h2, h3⟩ := h
  exact ⟨b, o, c, h1, h2, fun k hk' => ⟨(h3 k hk').1, (hk _ (h3 k hk').1).trans (h3 k hk').2⟩⟩
theorem Vi.more (h : Vi w B v l) (hB : B ≤ B') : Vi w B' v l := by
  obtain ⟨b, o, c, h1, h2, h3⟩ := h
  exact ⟨b, o, c, h1, h2, fun k hk' => ⟨Nat.lt_of_lt_of_le (h3 k hk').1 hB, (h3 k hk').2⟩⟩
theorem Vi.below (h : Vi w B v l) (hb : Below B w w') : Vi w' B v l := h.keep fun _ hp => hb.cell hp
theorem Vi.nil (w : World) (B : Nat) (A : Option Addr) (c : Nat) : Vi w B (.slice A 0 c) [] := ⟨0, 0, c, .inr ⟨rfl, A, rfl⟩, by simp, fun k hk => absurd hk (by simp)⟩
end
theorem Vi.made (w : World) (l : List Int) (t : TypeId) (hl : l.length ≤ maxLen) :
    Vi (w.alloc (.cells (l.map (Value.int .i64)).toArray t)) (w.alloc (.cells (l.map (Value.int .i64)).toArray t)).heap.size (.slice (some ⟨w.heap.size, 0, none⟩) l.length l.length) l := by
  refine ⟨w.heap.size, 0, l.length, .inl rfl, hl, fun k hk => ⟨by simp, ?_⟩⟩
  rw [World.cell?_alloc_at _ _ _ _ rfl]
  simp [List.getElem?_map, List.getElem?_eq_getElem hk]
end Go.Proofs.YtcaikkfcjeojiaaDoor.Lg
