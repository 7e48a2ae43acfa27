/- SimsObserve: the plain side: whether one of the first pins reads a value. -/
import Derived.Test.YtfcdhoaccmckoaaDoorSmc
import Derived.Test.YtfcdhoaccmckoaaDoorRfl
namespace Go.Proofs.YtfcdhoaccmckoaaDoor
open Go.RowKit

def hasV (nets ins : List Int) (v : Int) (k : Nat) : Prop := ∃ j, j < k ∧ valA nets (ins.getD j 0) = v
/-- A count that tells whether there is one. -/
def CntOk (a : Int) (P : Prop) (k : Nat) : Prop := 0 ≤ a ∧ a ≤ k ∧ (0 < a ↔ P)
section
variable {nets ins : List Int} {v a : Int} {k : Nat}
theorem hasV_zero : ¬ hasV nets ins v 0 := fun ⟨j, h, _⟩ => absurd h (Nat.not_lt_zero j)
theorem cnt_zero : CntOk 0 (hasV nets ins v 0) 0 := ⟨Int.le_refl _, Int.le_refl _, ⟨fun h => by omega, fun h => absurd h hasV_zero⟩⟩
theorem cnt_yes (h : CntOk a (hasV nets ins v k) k) (hv : valA nets (ins.getD k 0) = v) : CntOk (a + 1) (hasV nets ins v (k + 1)) (k + 1) := by
  obtain ⟨h0, h1, h2⟩ := h
  exact ⟨by omega, by omega, ⟨fun _ => ⟨k, Nat.lt_succ_self _, hv⟩, fun _ => by omega⟩⟩
theorem cnt_no (h : CntOk a (hasV nets ins v k) k) (hv : valA nets (ins.getD k 0) ≠ v) : CntOk a (hasV nets ins v (k + 1)) (k + 1) := by
  obtain ⟨h0, h1, h2⟩ := h
  refine ⟨by omega, by omega, ⟨fun h => ?_, fun ⟨j, hj, e⟩ => ?_⟩⟩
  · obtain ⟨j, hj, e⟩ := h2.1 h
    exact ⟨j, by omega, e⟩
  · by_cases ejk : j = k
    · subst ejk; exact absurd e hv
    · exact h2.2 ⟨j, by omega, e⟩
end
theorem any_has (nets ins : List Int) (v : Int) (hv : v = 0 ∨ v = 1) : anyIs cln v (ins.map (valA nets)) = true ↔ hasV nets ins v ins.length := by
  have hc : ∀ y : Int, cln y = v ↔ y = v := fun y => by unfold cln; split <;> omega
  unfold anyIs
  rw [List.any_map, List.any_eq_true]
  constructor
  · rintro ⟨x, hx, h⟩
    obtain ⟨k, hk, rfl⟩ := List.mem_iff_getElem.1 hx
    refine ⟨k, hk, ?_⟩
    rw [List.getD_eq_getElem?_getD, List.getElem?_eq_getElem hk]
    exact (hc _).1 (by simpa using h)
  · rintro ⟨k, hk, h⟩
    refine ⟨ins[k], List.getElem_mem hk, ?_⟩
    rw [List.getD_eq_getElem?_getD, List.getElem?_eq_getElem hk] at h
    have := (hc _).2 h
    simpa using this
theorem con_has (nets ins : List Int) : conL (ins.map (valA nets)) = true ↔ hasV nets ins 0 ins.length ∧ hasV nets ins 1 ins.length := by
  unfold conL
  rw [Bool.and_eq_true, any_has nets ins 0 (.inl rfl), any_has nets ins 1 (.inr rfl)]
/-- The Bus nodes in conflict among the first. -/
def cflT (nets : List Int) (nodes : List Nd) (k : Nat) : List Int := (ofTo nodes [13] k).filter (cfl nets nodes)
theorem cflT_len (nets : List Int) (nodes : List Nd) (k : Nat) : (cflT nets nodes k).length ≤ k := Nat.le_trans (List.length_filter_le _ _) (ofTo_len nodes [13] k)
theorem cflT_zero (nets : List Int) (nodes : List Nd) : cflT nets nodes 0 = [] := rfl
theorem cflT_yes {nets : List Int} {nodes : List Nd} {k : Nat} (hk : (nodes.getD k default).kind = 13) (h1 : hasV nets (nodes.getD k default).ins 1 (nodes.getD k default).ins.length) (h0 : hasV nets (nodes.getD k default).ins 0 (nodes.getD k default).ins.length) :
    cflT nets nodes (k + 1) = cflT nets nodes k ++ [(k : Int)] := by
  unfold cflT
  rw [ofTo_succ, isK_one, hk, if_pos (by decide), List.filter_append]
  congr 1
  have : cfl nets nodes (k : Int) = true := by unfold cfl; rw [Int.toNat_natCast]; exact (con_has _ _).2 ⟨h0, h1⟩
  simp [this]
theorem cflT_no {nets : List Int} {nodes : List Nd} {k : Nat} (h : (nodes.getD k default).kind = 13 → ¬ (hasV nets (nodes.getD k default).ins 0 (nodes.getD k default).ins.length ∧ hasV nets (nodes.getD k default).ins 1 (nodes.getD k default).ins.length)) :
    cflT nets nodes (k + 1) = cflT nets nodes k := by
  unfold cflT
  rw [ofTo_succ, isK_one]
  by_cases hk : (nodes.getD k default).kind = 13
  · have : cfl nets nodes (k : Int) = false := by
      rw [Bool.eq_false_iff]
      unfold cfl
      rw [Int.toNat_natCast]
      exact fun hh => h hk ((con_has _ _).1 hh)
    rw [hk, if_pos (by decide), List.filter_append]
    simp [this]
  · rw [if_neg (by simpa using hk), List.append_nil]
theorem valA_in {nets : List Int} {x : Int} {j : Nat} (hx : x = (j : Int)) (hj : j < nets.length) {z : Int} (hz : nets.getD j 0 = z) {v : Int} (hv : v = 0 ∨ v = 1) : valA nets x = v ↔ z = v := by
  subst hx hz
  unfold valA
  rw [if_neg (by omega)]
  unfold lat cln
  rw [Int.toNat_natCast]
  split <;> omega
theorem valA_out {nets : List Int} {x : Int} (hx : x < 0 ∨ (nets.length : Int) ≤ x) : valA nets x = 2 := by
  unfold valA; rw [if_pos hx]
end Go.Proofs.YtfcdhoaccmckoaaDoor
