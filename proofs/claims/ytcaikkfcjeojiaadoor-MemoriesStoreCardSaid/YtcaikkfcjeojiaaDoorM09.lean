/- The texts Srt Exp. -/
import Derived.Test.YtcaikkfcjeojiaaDoorM06
import Derived.Deep.LoopGhost
import Derived.Deep.DeepCutAuto
import Derived.Deep.CutBlock
import Derived.Scope
import Derived.BigRegion
import Derived.Test.YtcaikkfcjeojiaaDoorM08
import Derived.LoopN
namespace Go.Proofs.YtcaikkfcjeojiaaDoor
open Go.RowKit

/-- Level, then index. -/
def Lex (L : List Int) (x y : Int) : Prop := lat L x < lat L y ∨ (lat L x = lat L y ∧ x < y)
def rng (i n : Nat) : List Int := (List.range (n - i)).map fun k => ((i + k : Nat) : Int)
/-- Element i on its way down: P before it, S behind it. -/
def Mid (L : List Int) (n i j : Nat) (R : List Int) : Prop :=
  ∃ P S, R = P ++ (i : Int) :: (S ++ rng (i + 1) n) ∧ P.length = j ∧ P.length + S.length = i ∧ i < n ∧ (P ++ S).Pairwise (Lex L) ∧ (∀ x ∈ P ++ S, 0 ≤ x ∧ x < (i : Int)) ∧ ∀ x ∈ S, Lex L i x
theorem Mid.at {L : List Int} {n i j : Nat} {R : List Int} (h : Mid L n i j R) : R.getD j 0 = (i : Int) := by
  obtain ⟨P, S, h1, h2, -⟩ := h
  rw [h1, List.getD_eq_getElem?_getD, List.getElem?_append_right (by omega), h2]
  simp
theorem Mid.prev {L : List Int} {n i j : Nat} {R : List Int} (h : Mid L n i (j + 1) R) : 0 ≤ R.getD j 0 ∧ R.getD j 0 < (i : Int) := by
  obtain ⟨P, S, h1, h2, h3, h4, h5, h6, h7⟩ := h
  have hj : j < P.length := by omega
  have : R.getD j 0 ∈ P := by
    rw [h1, List.getD_eq_getElem?_getD, List.getElem?_append_left hj, List.getElem?_eq_getElem hj]
    exact List.getElem_mem hj
  exact h6 _ (List.mem_append_left _ this)
theorem Row.otherS {w : World} {g : Nat} {l : List Int} (h : Row w g l) {a : Addr} (ha : a.block ≠ g) (v : Value) : Row (w.setCell a v) g l :=
  h.kept (row := some a.block) ⟨rfl, rfl, rfl, by simp [World.setCell], fun i _ hne => Below.heap_setCell _ _ _ _ (fun e => hne (by rw [e]))⟩ (fun e => ha (by injection e with e; exact e.symm))
/-- What the sort keeps: d is the row that it sorts, g the levels, q the variable that names them. -/
structure SW (w : World) (B d g q n : Nat) (L R : List Int) (wr : World) : Prop where
  bel : Below B w wr
  size : wr.heap.size = w.heap.size
  row : Row wr d R
  lev : Row wr g L
  cell : wr.cell? ⟨q, 0, none⟩ = some (.slice (some ⟨g, 0, none⟩) n n)
theorem SW.drewN {w : World} {B d g q n : Nat} {L R : List Int} {wr : World} (h : SW w B d g q n L R wr) (k : Nat) : SW w B d g q n L R (wr.drewN k) := ⟨below_drewN h.bel k, h.size, h.row, h.lev, h.cell⟩
theorem SW.drew {w : World} {B d g q n : Nat} {L R : List Int} {wr : World} (h : SW w B d g q n L R wr) : SW w B d g q n L R wr.drew := ⟨h.bel.drew, h.size, h.row, h.lev, h.cell⟩
theorem SW.set {w : World} {B d g q n : Nat} {L R : List Int} {wr : World} (h : SW w B d g q n L R wr) (hd : B ≤ d) (hg : d ≠ g) (hq : d ≠ q) (j : Nat) (x : Int) : SW w B d g q n L (R.set j x) (wr.setCell ⟨d, j, none⟩ (.int .i64 x)) :=
  ⟨h.bel.setCell hd _, by rw [World.size_setCell]; exact h.size, h.row.set j x, h.lev.otherS hg _, by rw [World.cell?_setCell_other _ _ _ _ (by simp [hq])]; exact h.cell⟩

end Go.Proofs.YtcaikkfcjeojiaaDoor

namespace Go.Proofs.YtcaikkfcjeojiaaDoor
open Go.RowKit

theorem is_of {w : World} {g : Nat} {l : List Int} (t : TypeId) (hg : w.heap[g]? = some (.cells (l.map (Value.int .i64)).toArray t (0, 0))) (hm : l.length ≤ maxLen) (hB : g < w.heap.size) : Is w w.heap.size (.slice (some ⟨g, 0, none⟩) l.length l.length) l :=
  ⟨_, g, 0, _, rfl, fun _ => rfl, Nat.le_refl _, hm, fun k hk => ⟨hB, by
    unfold IntAt
    rw [cell_of_row w g _ _ t _ hg]
    simp [hk, List.getD_eq_getElem?_getD]⟩⟩
end Go.Proofs.YtcaikkfcjeojiaaDoor
