/- The walks of the reference's small functions: bit, count, Choices. -/
import Derived.Test.YtdanmepbdjfpfaaDoorMonow
import Derived.Test.YtdanmepbdjfpfaaDoorRefp
namespace Go.Proofs.YtdanmepbdjfpfaaDoor
open Go.RowKit

/-- The slice value v reads as the list l of integers, in blocks below B. -/
def Vi (w : World) (B : Nat) (v : Value) (l : List Int) : Prop :=
  ∃ b o c, (v = .slice (some ⟨b, o, none⟩) l.length c ∨ (l = [] ∧ ∃ A, v = .slice A 0 c)) ∧ l.length ≤ maxLen ∧ ∀ k, k < l.length → b < B ∧ w.cell? ⟨b, o + k, none⟩ = some (.int .i64 (l.getD k 0))
section
variable {w w' : World} {B B' : Nat} {v : Value} {l : List Int}
theorem Vi.keep (h : Vi w B v l) (hk : ∀ p : Addr, p.block < B → w'.cell? p = w.cell? p) : Vi w' B v l := by
  obtain ⟨b, o, c, h1, h2, h3⟩ := h
  exact ⟨b, o, c, h1, h2, fun k hk' => ⟨(h3 k hk').1, (hk _ (h3 k hk').1).trans (h3 k hk').2⟩⟩
theorem Vi.more (h : Vi w B v l) (hB : B ≤ B') : Vi w B' v l := by
  obtain ⟨b, o, c, h1, h2, h3⟩ := h
  exact ⟨b, o, c, h1, h2, fun k hk' => ⟨Nat.lt_of_lt_of_le (h3 k hk').1 hB, (h3 k hk').2⟩⟩
theorem Vi.below (h : Vi w B v l) (hb : Below B w w') : Vi w' B v l := h.keep fun _ hp => hb.cell hp
theorem Vi.nil (w : World) (B : Nat) (A : Option Addr) (c : Nat) : Vi w B (.slice A 0 c) [] := ⟨0, 0, c, .inr ⟨rfl, A, rfl⟩, by simp, fun k hk => absurd hk (by simp)⟩
end
theorem Vi.made (w : World) (l : List Int) (t : TypeId) (hl : l.length ≤ maxLen) :
    Vi (w.alloc (.cells (l.map (Value.int .i64)).toArray t)) (w.alloc (.cells (l.map (Value.int .i64)).toArray t)).heap.size (.slice (some ⟨w.heap.size, 0, none⟩) l.length l.length) l := by
  refine ⟨w.heap.size, 0, l.length, .inl rfl, hl, fun k hk => ⟨by simp, ?_⟩⟩
  rw [World.cell?_alloc_at _ _ _ _ rfl]
  simp [List.getElem?_map, List.getElem?_eq_getElem hk]
theorem Vi.of_own {w : World} {base : Nat} {v : Value} {n : Nat} {l : List Int} (h : w.ownsRow base 3 1 v n (l.map (Value.int .i64))) : Vi w w.heap.size v l ∧ l.length = n := by
  have hl : l.length = n := by simpa using h.1
  refine ⟨?_, hl⟩
  subst hl
  rcases h.2 with ⟨rfl, hn⟩ | ⟨g, cap, cur, rfl, -, hg, hle, hm, hsz, htake⟩
  · obtain rfl : l = [] := List.eq_nil_of_length_eq_zero hn
    exact Vi.nil _ _ _ _
  · have hlt : g < w.heap.size := by
      rcases Nat.lt_or_ge g w.heap.size with h | h
      · exact h
      · rw [Array.getElem?_eq_none h] at hg; cases hg
    refine ⟨g, 0, cap, .inl rfl, by omega, fun k hk => ⟨hlt, ?_⟩⟩
    rw [Nat.zero_add, h.cellAt k (by omega), List.getElem?_map, List.getElem?_eq_getElem hk, List.getD_eq_getElem?_getD, List.getElem?_eq_getElem hk]
    rfl

set_option maxHeartbeats 400000 in
theorem bit_any (b : Bool) (w : World) : Calls Tryd.prog 43 #[.bool b] w fun e w' => e = .returned (.int .i64 (bitI b)) ∧ w = w' := by
  cases b
  all_goals
    go_enter Tryd.func43, Tryd.ntmps43
    go_wp2
    go_ret
    exact ⟨rfl, rfl⟩

set_option maxHeartbeats 1000000 in
theorem count_any (x : Int) (l : List Int) (s : Value) (w : World) (B : Nat) (hs : Vi w B s l) :
    Calls Tryd.prog 42 #[s, .int .i64 x] w fun e w' => e = .returned (.int .i64 (cnt x l)) ∧ w = w' := by
  obtain ⟨b, o, c, hv, hm, hc⟩ := hs
  unfold maxLen at hm
  have key : ∀ A, (0 < l.length → A = some ⟨b, o, none⟩) → Calls Tryd.prog 42 #[.slice A l.length c, .int .i64 x] w fun e w' => e = .returned (.int .i64 (cnt x l)) ∧ w = w' := by
    intro A hA
    have HC := Lib.hid hc
    have HA := Lib.hid hA
    obtain ⟨n, hn⟩ : ∃ n, n = l.length := ⟨_, rfl⟩
    obtain ⟨y, HY⟩ := named (cnt x l)
    rw [← HY.out]
    rw [← hn] at hm
    rw [← hn]
    have HN := Lib.hid hn
    clear hc hA hv hn
    go_enter Tryd.func42, Tryd.ntmps42
    go_wp2
    go_loop [5, 6] (fun r i => ∃ k : Nat, k ≤ n ∧ i = .int .i64 k ∧ r = .int .i64 (cnt x (l.take k))) (fun _ i => n - (intOf i).toNat)
    case atStart => exact ⟨0, Nat.zero_le _, rfl, rfl⟩
    case round =>
      obtain ⟨k, hk, rfl, rfl⟩ := hrel
      by_cases hlt : k < n
      · obtain rfl := HA.out (by rw [← HN.out]; omega)
        have hk' : k < l.length := by rw [← HN.out]; omega
        have hcell := (HC.out k hk').2
        have HP := Lib.hid (cnt_take x l k hk')
        have hle := cnt_le x (l.take k)
        have hll : (l.take k).length ≤ k := by rw [List.length_take]; omega
        clear hk'
        obtain ⟨v, HV⟩ := named (l.getD k 0)
        rw [← HV.out] at hcell
        obtain ⟨z, HZ⟩ := named (cnt x (l.take k))
        rw [← HZ.out] at hle
        rw [← HZ.out]
        by_cases hvx : v = x
        · subst hvx
          go_wp2
          go_round
          case rel => exact ⟨k + 1, by omega, by go_num, by rw [HP.out, ← HV.out, if_pos rfl, ← HZ.out]; go_num⟩
          case measure => simp [intOf]; omega
        · have hvb : (v == x) = false := by simpa using hvx
          go_wp2
          go_round
          case rel => exact ⟨k + 1, by omega, by go_num, by rw [HP.out, ← HV.out, if_neg hvx, ← HZ.out]; rfl⟩
          case measure => simp [intOf]; omega
      · obtain rfl : n = k := by omega
        go_wp2
        go_ret
        exact ⟨ret_int (by rw [HY.out, List.take_of_length_le (by rw [← HN.out]; exact Nat.le_refl _)]), rfl⟩
  rcases hv with rfl | ⟨rfl, A, rfl⟩
  · exact key _ fun _ => rfl
  · exact key _ fun h => absurd h (by simp)

end Go.Proofs.YtdanmepbdjfpfaaDoor
