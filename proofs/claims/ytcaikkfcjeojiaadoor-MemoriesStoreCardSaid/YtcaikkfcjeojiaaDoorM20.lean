/- The texts Mag. -/
import Derived.Test.YtcaikkfcjeojiaaDoorM19
namespace Go.Proofs.YtcaikkfcjeojiaaDoor
open Go.RowKit

/-- What agreed leaves of a word. -/
def agB (a b : List Int) (j : Nat) : Int := if a.getD j 0 = b.getD j 0 then a.getD j 0 else 2
def agL (a b : List Int) : List Int := (List.range a.length).map (agB a b)
theorem agL_len (a b : List Int) : (agL a b).length = a.length := by simp [agL]
def agK (a b : List Int) (k : Nat) (out : List Int) : Prop := out.length = a.length ∧ (∀ j, j < k → out.getD j 0 = agB a b j) ∧ ∀ j, k ≤ j → out.getD j 0 = a.getD j 0
theorem agK_all {a b out : List Int} (h : agK a b a.length out) : out = agL a b := by
  apply List.ext_getElem (by rw [h.1, agL_len])
  intro i h1 h2
  have := h.2.1 i (by rw [← h.1]; exact h1)
  rw [List.getD_eq_getElem?_getD, List.getElem?_eq_getElem h1] at this
  simpa [agL] using this
theorem agK_same {a b out : List Int} {k : Nat} (h : agK a b k out) (e : a.getD k 0 = b.getD k 0) : agK a b (k + 1) out := by
  refine ⟨h.1, fun j hj => ?_, fun j hj => h.2.2 j (by omega)⟩
  by_cases hjk : j < k
  · exact h.2.1 j hjk
  · obtain rfl : j = k := by omega
    rw [h.2.2 j (Nat.le_refl _)]; unfold agB; rw [if_pos e]
theorem agK_set {a b out : List Int} {k : Nat} (h : agK a b k out) (hk : k < a.length) (e : ¬ a.getD k 0 = b.getD k 0) : agK a b (k + 1) (out.set k 2) := by
  have hl : k < out.length := by rw [h.1]; exact hk
  refine ⟨by rw [List.length_set]; exact h.1, fun j hj => ?_, fun j hj => ?_⟩
  · rw [getD_set _ _ _ _ _ hl]
    split
    · subst_vars; unfold agB; rw [if_neg e]
    · exact h.2.1 j (by omega)
  · rw [getD_set _ _ _ _ _ hl, if_neg (by omega)]
    exact h.2.2 j (by omega)
set_option maxRecDepth 100000 in
set_option maxHeartbeats 4000000 in
theorem agreed_any (a b : List Int) (g h n : Nat) (w : World) (ha : VRow w g a) (hb : VRow w h b) (la : a.length = n) (lb : b.length = n) (hne : h ≠ g) :
    Calls Tryd.prog 22 #[.slice (some ⟨g, 0, none⟩) n n, .slice (some ⟨h, 0, none⟩) n n] w fun e w' => e = .returned (.tuple #[]) ∧ VRow w' g (agL a b) ∧ w.grownBy w' (some g) := by
  have HA := Lib.hid ha
  have HB := Lib.hid hb
  have HLA := Lib.hid la
  have HLB := Lib.hid lb
  have HNE : Hid (some h ≠ some g) := Lib.hid fun e => hne (Option.some.inj e)
  have hnm := ha.len
  rw [la] at hnm
  unfold maxLen at hnm
  clear ha hb la lb hne
  go_enter Tryd.func22, Tryd.ntmps22
  go_wp2
  go_loopw [8] (fun i wr => ∃ (k : Nat) (out : List Int), k ≤ n ∧ i = .int .i64 k ∧ agK a b k out ∧ VRow wr g out ∧ w.grownBy wr (some g)) (fun i _ => n - (intOf i).toNat)
  case atStart => exact ⟨0, a, Nat.zero_le _, rfl, ⟨rfl, fun j h => absurd h (Nat.not_lt_zero j), fun j _ => rfl⟩, HA.out, World.grownBy.refl _ _⟩
  case round =>
    obtain ⟨k, out, hk, rfl, hf, hv, hg⟩ := hrel
    have HF := Lib.hid hf
    have HVR := Lib.hid hv
    have HGR := Lib.hid hg
    by_cases hlt : k < n
    · have hk2 : (k : Int) < (n : Int) := by omega
      have x1 := hv.cell (by rw [hf.1, HLA.out]; exact hlt)
      have x2 := hv.frozen k
      have y1 := (HB.out.kept hg HNE.out).cell (by rw [HLB.out]; exact hlt)
      have hx : lat out (k : Int) = a.getD k 0 := hf.2.2 k (Nat.le_refl _)
      have hy : lat b (k : Int) = b.getD k 0 := rfl
      rw [hx] at x1
      rw [hy] at y1
      have HSM := Lib.hid (fun e => agK_same HF.out (k := k) e)
      have HST := Lib.hid (fun e => agK_set HF.out (k := k) (by rw [HLA.out]; exact hlt) e)
      obtain ⟨u, HU⟩ := named (a.getD k 0)
      obtain ⟨v, HV⟩ := named (b.getD k 0)
      rw [← HU.out] at x1
      rw [← HV.out] at y1
      rw [← HU.out, ← HV.out] at HSM HST
      clear hf hv hg hx hy
      by_cases huv : u = v
      · have HN := Lib.hid (HSM.out huv)
        subst huv
        go_wp2
        go_roundw
        case rel => exact ⟨k + 1, out, by omega, by go_num, HN.out, HVR.out, HGR.out⟩
        case measure => simp [intOf]; omega
      · have HN := Lib.hid (HST.out huv)
        have HVN := Lib.hid (HVR.out.set k 2)
        have HGN : Hid (w.grownBy (wr.setCell ⟨g, k, none⟩ (.int .u8 2)) (some g)) := Lib.hid (grown_v HGR.out k _)
        go_wp2
        go_roundw
        case rel => exact ⟨k + 1, out.set k 2, by omega, by go_num, HN.out, HVN.out, HGN.out⟩
        case measure => simp [intOf]; omega
    · obtain rfl : n = k := by omega
      have e9 : out = agL a b := agK_all (by rw [HLA.out]; exact HF.out)
      clear hf hv hg
      go_wp2
      go_end0
      exact ⟨rfl, by rw [← e9]; exact HVR.out, HGR.out⟩
end Go.Proofs.YtcaikkfcjeojiaaDoor
