/- The texts Fnp Rfl Srt. -/
import Derived.Test.YtcaikkfcjeojiaaDoorM04
import Derived.Deep.LoopGhost
import Derived.Deep.DeepCutAuto
import Derived.Deep.CutBlock
import Derived.Scope
import Derived.BigRegion
namespace Go.Proofs.YtcaikkfcjeojiaaDoor
open Go.RowKit

def LnAt (w : World) (_B b p : Nat) (x : Int × Int) : Prop := w.cell? ⟨b, p, none⟩ = some (.int .i64 x.1) ∧ w.cell? ⟨b, p + 1, none⟩ = some (.int .i64 x.2)
theorem stays_ln : Stays LnAt := fun w w' B B' b p x hb hB h hk => ⟨(hk ⟨b, p, none⟩ hb).trans h.1, (hk ⟨b, p + 1, none⟩ hb).trans h.2⟩
def Lns (w : World) (B : Nat) (v : Value) (l : List (Int × Int)) : Prop := Arr (0, 0) 2 LnAt w B v l
def LnsAt (w : World) (B b p : Nat) (l : List (Int × Int)) : Prop := ∃ A, w.cell? ⟨b, p, none⟩ = some (.slice A l.length l.length) ∧ Lns w B (.slice A l.length l.length) l
theorem stays_lns : Stays LnsAt := fun w w' B B' b p x hb hB ⟨s, h, k⟩ hk => ⟨s, (hk ⟨b, p, none⟩ hb).trans h, Arr.keep stays_ln k hB hk⟩
def Fos (w : World) (B : Nat) (v : Value) (l : List (List (Int × Int))) : Prop := Arr [] 1 LnsAt w B v l
theorem Fos.keep {w w' : World} {B B' : Nat} {v : Value} {l : List (List (Int × Int))} (h : Fos w B v l) (hB : B ≤ B') (hk : ∀ q : Addr, q.block < B → w'.cell? q = w.cell? q) : Fos w' B' v l := Arr.keep stays_lns h hB hk
end Go.Proofs.YtcaikkfcjeojiaaDoor

namespace Go.Proofs.YtcaikkfcjeojiaaDoor
open Go.RowKit

theorem Stk.all {w : World} {g : Nat} {v : Value} {l : List Int} (h : Stk w g v l) (hm : l.length ≤ maxLen) : Is w w.heap.size v l := by
  obtain ⟨A, c, rfl, hle, -, -⟩ := h.form
  exact h.reads c hle hm

end Go.Proofs.YtcaikkfcjeojiaaDoor

namespace Go.Proofs.YtcaikkfcjeojiaaDoor
open Go.RowKit

/-- Level, then index. -/
def Lex (L : List Int) (x y : Int) : Prop := lat L x < lat L y ∨ (lat L x = lat L y ∧ x < y)
def rng (i n : Nat) : List Int := (List.range (n - i)).map fun k => ((i + k : Nat) : Int)
/-- Element i on its way down: P before it, S behind it. -/
def Mid (L : List Int) (n i j : Nat) (R : List Int) : Prop :=
  ∃ P S, R = P ++ (i : Int) :: (S ++ rng (i + 1) n) ∧ P.length = j ∧ P.length + S.length = i ∧ i < n ∧ (P ++ S).Pairwise (Lex L) ∧ (∀ x ∈ P ++ S, 0 ≤ x ∧ x < (i : Int)) ∧ ∀ x ∈ S, Lex L i x
theorem Mid.at {L : List Int} {n i j : Nat} {R : List Int} (h : Mid L n i j R) : R.getD j 0 = (i : Int) := by
  obtain ⟨P, S, h1, h2, -⟩ := h
  rw [h1, List.getD_eq_getElem?_getD, List.getElem?_append_right (by omega), h2]
  simp
theorem Mid.prev {L : List Int} {n i j : Nat} {R : List Int} (h : Mid L n i (j + 1) R) : 0 ≤ R.getD j 0 ∧ R.getD j 0 < (i : Int) := by
  obtain ⟨P, S, h1, h2, h3, h4, h5, h6, h7⟩ := h
  have hj : j < P.length := by omega
  have : R.getD j 0 ∈ P := by
    rw [h1, List.getD_eq_getElem?_getD, List.getElem?_append_left hj, List.getElem?_eq_getElem hj]
    exact List.getElem_mem hj
  exact h6 _ (List.mem_append_left _ this)
theorem Row.otherS {w : World} {g : Nat} {l : List Int} (h : Row w g l) {a : Addr} (ha : a.block ≠ g) (v : Value) : Row (w.setCell a v) g l :=
  h.kept (row := some a.block) ⟨rfl, rfl, rfl, by simp [World.setCell], fun i _ hne => Below.heap_setCell _ _ _ _ (fun e => hne (by rw [e]))⟩ (fun e => ha (by injection e with e; exact e.symm))
/-- What the sort keeps: d is the row that it sorts, g the levels, q the variable that names them. -/
structure SW (w : World) (B d g q n : Nat) (L R : List Int) (wr : World) : Prop where
  bel : Below B w wr
  size : wr.heap.size = w.heap.size
  row : Row wr d R
  lev : Row wr g L
  cell : wr.cell? ⟨q, 0, none⟩ = some (.slice (some ⟨g, 0, none⟩) n n)
theorem SW.drewN {w : World} {B d g q n : Nat} {L R : List Int} {wr : World} (h : SW w B d g q n L R wr) (k : Nat) : SW w B d g q n L R (wr.drewN k) := ⟨below_drewN h.bel k, h.size, h.row, h.lev, h.cell⟩
theorem SW.drew {w : World} {B d g q n : Nat} {L R : List Int} {wr : World} (h : SW w B d g q n L R wr) : SW w B d g q n L R wr.drew := ⟨h.bel.drew, h.size, h.row, h.lev, h.cell⟩
theorem SW.set {w : World} {B d g q n : Nat} {L R : List Int} {wr : World} (h : SW w B d g q n L R wr) (hd : B ≤ d) (hg : d ≠ g) (hq : d ≠ q) (j : Nat) (x : Int) : SW w B d g q n L (R.set j x) (wr.setCell ⟨d, j, none⟩ (.int .i64 x)) :=
  ⟨h.bel.setCell hd _, by rw [World.size_setCell]; exact h.size, h.row.set j x, h.lev.otherS hg _, by rw [World.cell?_setCell_other _ _ _ _ (by simp [hq])]; exact h.cell⟩

end Go.Proofs.YtcaikkfcjeojiaaDoor
