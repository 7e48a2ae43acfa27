/- The texts Sma Srw Blk. -/
import Derived.Test.YtcaikkfcjeojiaaDoorM17
import Derived.Test.YtcaikkfcjeojiaaDoorM09
import Derived.LoopN
import Derived.Deep.LoopGhost
import Derived.Deep.CutBlock
import Derived.Deep.DeepCutAuto
import Derived.Test.YtcaikkfcjeojiaaDoorM05
import Derived.Test.YtcaikkfcjeojiaaDoorM07
import Derived.Test.YtcaikkfcjeojiaaDoorM08
import Derived.Test.YtcaikkfcjeojiaaDoorM13
import Derived.Test.YtcaikkfcjeojiaaDoorM14
import Derived.Test.YtcaikkfcjeojiaaDoorM15
namespace Go.Proofs.YtcaikkfcjeojiaaDoor
open Go.RowKit

theorem made_vals (n : Nat) : (madeCells #[Value.int .u8 0] n).toList = (List.replicate n (0 : Int)).map (Value.int .u8) := by
  apply List.ext_getElem?
  intro j
  by_cases hj : j < n
  · simp [madeCells, hj, Nat.mod_one]
  · rw [List.getElem?_eq_none (by simp [madeCells]; omega), List.getElem?_eq_none (by simp; omega)]
theorem bgrown {w0 w wr : World} {g : Nat} (h : BelW w0 w) (hg : w.grownBy wr (some g)) (h0 : w0.heap.size ≤ g) : BelW w0 wr :=
  Below.grown h hg (Below.size h) (fun k e => by cases e; exact h0)
theorem VRow.drew {w : World} {g : Nat} {l : List Int} (h : VRow w g l) : VRow w.drew g l := h

section
variable {W1 wr w' : World} {g s q d n : Nat} {R out : List Int} {cs : List Value}
end
end Go.Proofs.YtcaikkfcjeojiaaDoor

namespace Go.Proofs.YtcaikkfcjeojiaaDoor
open Go.RowKit

def Rg (n : Nat) (R : List Int) : Prop := R.length = n ∧ ∀ x ∈ R, 0 ≤ x ∧ x < (n : Int)
theorem Rg.at {n : Nat} {R : List Int} (h : Rg n R) {j : Nat} (hj : j < n) : ∃ y : Nat, lat R (j : Int) = (y : Int) ∧ y < n := by
  have hm : R.getD j 0 ∈ R := by
    rw [List.getD_eq_getElem?_getD, List.getElem?_eq_getElem (by rw [h.1]; exact hj)]
    exact List.getElem_mem _
  have := h.2 _ hm
  refine ⟨(R.getD j 0).toNat, ?_, by omega⟩
  show R.getD ((j : Int).toNat) 0 = _
  rw [Int.toNat_natCast]; omega
theorem Rg.set {n : Nat} {R : List Int} (h : Rg n R) (j y : Nat) (hy : y < n) : Rg n (R.set j (y : Int)) :=
  ⟨by rw [List.length_set]; exact h.1, fun x hx => by
    rcases List.mem_or_eq_of_mem_set hx with h' | h'
    · exact h.2 x h'
    · omega⟩
def SV (w : World) (B d g q n : Nat) (L : List Int) (wr : World) : Prop := ∃ R, Rg n R ∧ SW w B d g q n L R wr
section
variable {w wr : World} {B d g q n : Nat} {L : List Int}
theorem SV.drewN (h : SV w B d g q n L wr) (k : Nat) : SV w B d g q n L (wr.drewN k) := by
  obtain ⟨R, h1, h2⟩ := h; exact ⟨R, h1, h2.drewN k⟩
theorem SV.drew (h : SV w B d g q n L wr) : SV w B d g q n L wr.drew := by
  obtain ⟨R, h1, h2⟩ := h; exact ⟨R, h1, h2.drew⟩
theorem SV.set (h : SV w B d g q n L wr) (hd : B ≤ d) (hg : d ≠ g) (hq : d ≠ q) (j y : Nat) (hy : y < n) : SV w B d g q n L (wr.setCell ⟨d, j, none⟩ (.int .i64 (y : Int))) := by
  obtain ⟨R, h1, h2⟩ := h; exact ⟨_, h1.set j y hy, h2.set hd hg hq j y⟩
theorem SV.at (h : SV w B d g q n L wr) {j : Nat} (hj : j < n) : ∃ y : Nat, y < n ∧ wr.cell? ⟨d, j, none⟩ = some (.int .i64 (y : Int)) ∧ wr.frozen? ⟨d, j, none⟩ = false := by
  obtain ⟨R, h1, h2⟩ := h
  obtain ⟨y, hy, hyn⟩ := h1.at hj
  refine ⟨y, hyn, ?_, h2.row.frozen j⟩
  rw [h2.row.cell (by rw [h1.1]; exact hj), hy]
end
end Go.Proofs.YtcaikkfcjeojiaaDoor

namespace Go.Proofs.YtcaikkfcjeojiaaDoor
open Go.RowKit

def UnkPost (n : Nat) (w : World) (e : Ending) (w' : World) : Prop := ∃ g, e = .returned (.slice (some ⟨g, 0, none⟩) n n) ∧ VRow w' g (List.replicate n 2) ∧ w.heap.size ≤ g ∧ Below w.heap.size w w'
def filled (l : List Int) (n k : Nat) : Prop := l.length = n ∧ ∀ j, j < k → l.getD j 0 = 2
theorem filled_all {l : List Int} {n : Nat} (h : filled l n n) : l = List.replicate n 2 := by
  apply List.ext_getElem (by rw [h.1, List.length_replicate])
  intro i h1 h2
  have := h.2 i (by rw [← h.1]; exact h1)
  rw [List.getD_eq_getElem?_getD, List.getElem?_eq_getElem h1] at this
  simpa using this
theorem filled_succ {l : List Int} {n k : Nat} (h : filled l n k) (hk : k < n) : filled (l.set k 2) n (k + 1) := by
  refine ⟨by rw [List.length_set]; exact h.1, fun j hj => ?_⟩
  rw [getD_set _ _ _ _ _ (by rw [h.1]; exact hk)]
  split
  · rfl
  · exact h.2 j (by omega)
end Go.Proofs.YtcaikkfcjeojiaaDoor
