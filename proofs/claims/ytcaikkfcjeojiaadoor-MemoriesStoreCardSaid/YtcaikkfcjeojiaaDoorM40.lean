/- The texts Smu Snb. -/
import Derived.Test.YtcaikkfcjeojiaaDoorM35
import Derived.Deep.RegionHeld3
namespace Go.Proofs.YtcaikkfcjeojiaaDoor
open Go.RowKit

theorem VStk.low {w : World} {base base' : Nat} {v : Value} {l : List Int} (h : VStk w base v l) (hb : base' ≤ base) : VStk w base' v l := by
  refine ⟨h.1, ?_⟩
  rcases h.2 with h2 | ⟨g, cap, cur, e, hb', h3⟩
  · exact .inl h2
  · exact .inr ⟨g, cap, cur, e, Nat.le_trans hb hb', h3⟩

end Go.Proofs.YtcaikkfcjeojiaaDoor

namespace Go.Proofs.YtcaikkfcjeojiaaDoor
open Go.RowKit

def sameTo (l l' : List Int) (k : Nat) : Prop := ∀ j, j < k → l.getD j 0 = l'.getD j 0
theorem sameTo_all {l l' : List Int} (hl : l.length = l'.length) (h : sameTo l l' l.length) : l = l' := by
  apply List.ext_getElem hl
  intro i h1 h2
  have := h i h1
  simpa [List.getD_eq_getElem?_getD, List.getElem?_eq_getElem h1, List.getElem?_eq_getElem h2] using this

theorem same6_any (l l' : List Int) (n m : Nat) (A A' : Option Addr) (c c' : Nat) (w : World) (B B' : Nat) (hs : Ks w B (.slice A n c) l) (hs' : Ks w B' (.slice A' m c') l') :
    Calls Tryd.prog 9 #[.slice A n c, .slice A' m c'] w fun e w' => e = .returned (.int .i64 (if l = l' then 0 else 1)) ∧ BelW w w' := by
  obtain ⟨A1, b, o, c1, e, hA, -, hm, hc⟩ := hs.opens
  simp only [Value.slice.injEq] at e
  obtain ⟨rfl, hml, rfl⟩ := e
  obtain ⟨A2, b', o', c2, e, hA', -, hm', hc'⟩ := hs'.opens
  simp only [Value.slice.injEq] at e
  obtain ⟨rfl, hml', rfl⟩ := e
  have hne : ¬ n = m → ¬ l = l' := fun h h' => h (by rw [hml, hml', h'])
  have hall : n = m → sameTo l l' n → l = l' := fun h h' => sameTo_all (by rw [← hml, ← hml', h]) (by rw [← hml]; exact h')
  rw [← hml] at hA hc hm
  rw [← hml'] at hA' hc' hm'
  unfold maxLen at hm hm'
  have HA := Lib.hid hA
  have HC := Lib.hid hc
  have HA' := Lib.hid hA'
  have HC' := Lib.hid hc'
  have HNE := Lib.hid hne
  have HALL := Lib.hid hall
  have HM := Lib.hid (And.intro hm hm')
  clear hA hc hA' hc' hs hs' hml hml' hne hall hm hm'
  obtain ⟨r, HRR⟩ := named (if l = l' then (0 : Int) else 1)
  rw [← HRR.out]
  go_enter Tryd.func9, Tryd.ntmps9
  by_cases hnm : n = m
  · subst hnm
    have hm := HM.out.1
    go_wp2
    go_loopw [5] (fun i wr => BelW w wr ∧ ∃ k : Nat, k ≤ n ∧ i = .int .i64 k ∧ sameTo l l' k) (fun i _ => n - (intOf i).toNat)
    case atStart => exact ⟨Below.refl _ _, 0, Nat.zero_le _, rfl, fun j h => absurd h (Nat.not_lt_zero j)⟩
    case round =>
      obtain ⟨hb, k, hk, rfl, hst⟩ := hrel
      have HBR := Lib.hid hb
      have HST := Lib.hid hst
      by_cases hlt : k < n
      · obtain rfl := HA.out (by omega)
        obtain rfl := HA'.out (by omega)
        obtain ⟨h1, h2⟩ := HC.out k hlt
        obtain ⟨h3, h4⟩ := HC'.out k hlt
        have x1 := (Below.cell hb (p := ⟨b, o + k, none⟩) (cell_lt h2)).trans h2
        have x2 := (Below.cell hb (p := ⟨b', o' + k, none⟩) (cell_lt h4)).trans h4
        obtain ⟨y, HY⟩ := named (l.getD k 0)
        obtain ⟨y', HY'⟩ := named (l'.getD k 0)
        rw [← HY.out] at x1
        rw [← HY'.out] at x2
        clear h2 h4 hb hst
        by_cases hyy : y = y'
        · have HNX : Hid (sameTo l l' (k + 1)) := Lib.hid fun j hj => by
            by_cases e : j = k
            · subst e; rw [← HY.out, ← HY'.out, hyy]
            · exact HST.out j (by omega)
          have t1 : (y != y') = false := by simp [hyy]
          go_wp2
          go_quiet (fail)
          go_wp2
          go_roundw
          case rel => exact ⟨below_drewN HBR.out _, k + 1, by omega, by go_num, HNX.out⟩
          case measure => simp [intOf]; omega
        · have HNO : Hid (r = 1) := Lib.hid (by rw [HRR.out]; exact if_neg fun e => hyy (by rw [HY.out, HY'.out, e]))
          have t1 : (y != y') = true := by simpa using hyy
          go_wp2
          go_quiet (fail)
          go_wp2
          go_ret
          exact ⟨by rw [HNO.out]; rfl, below_drewN HBR.out _⟩
      · obtain rfl : n = k := by omega
        have HYS : Hid (r = 0) := Lib.hid (by rw [HRR.out]; exact if_pos (HALL.out (by trivial) HST.out))
        clear hb hst
        go_wp2
        go_ret
        exact ⟨by rw [HYS.out]; rfl, HBR.out⟩
  · have HNO : Hid (r = 1) := Lib.hid (by rw [HRR.out]; exact if_neg (HNE.out hnm))
    have hm := HM.out.1
    have hm' := HM.out.2
    go_wp2
    go_ret
    exact ⟨by rw [HNO.out]; rfl, Below.refl _ _⟩
end Go.Proofs.YtcaikkfcjeojiaaDoor
