/- The texts Cln Cpy. -/
import Derived.Test.YtcaikkfcjeojiaaDoorM06
import Derived.Laws.CopyRow
import Derived.Laws.CopyOwn
import Derived.Deep.OwnRows
import Derived.Deep.DeepCutAuto
import Derived.Deep.CutBlock
import Derived.Deep.RegionHeld3
namespace Go.Proofs.YtcaikkfcjeojiaaDoor
open Go.RowKit

/-- Block g of w' is a row of the cells cs. -/
def Fr (w : World) (g : Nat) (t : TypeId) (cs : List Value) : Prop := w.heap[g]? = some (.cells cs.toArray t (0, 0))
theorem Fr.lt {w : World} {g : Nat} {t : TypeId} {cs : List Value} (h : Fr w g t cs) : g < w.heap.size := (Array.getElem?_eq_some_iff.1 h).1
theorem Fr.cell {w : World} {g : Nat} {t : TypeId} {cs : List Value} (h : Fr w g t cs) (j : Nat) : w.cell? ⟨g, j, none⟩ = cs[j]? := by
  unfold Fr at h; simp [World.cell?, h]
theorem Fr.frozen {w : World} {g : Nat} {t : TypeId} {cs : List Value} (h : Fr w g t cs) (j : Nat) : w.frozen? ⟨g, j, none⟩ = false := by
  unfold Fr at h; simp [World.frozen?, h]
theorem Fr.set {w : World} {g : Nat} {t : TypeId} {cs : List Value} (h : Fr w g t cs) (j : Nat) (v : Value) : Fr (w.setCell ⟨g, j, none⟩ v) g t (cs.set j v) := by
  unfold Fr at *
  rw [setCell_eq_setRow w g j cs.toArray t (0, 0) v h]
  rw [setRow_heap w g cs.toArray _ t _ h]
  simp
theorem Fr.kept {w w' : World} {g : Nat} {t : TypeId} {cs : List Value} {row : Option Nat} (h : Fr w g t cs) (hg : w.grownBy w' row) (hne : some g ≠ row) : Fr w' g t cs := (hg.block g h.lt hne).trans h
theorem Fr.below {w w' : World} {g : Nat} {t : TypeId} {cs : List Value} (h : Fr w g t cs) (hb : Below w.heap.size w w') : Fr w' g t cs := (hb.block g h.lt).trans h
theorem Fr.row {w : World} {g : Nat} {l : List Int} (h : Fr w g 3 (l.map (Value.int .i64))) (hm : l.length ≤ maxLen) : Row w g l := by
  refine ⟨by simp, .inr ⟨g, l.length, _, rfl, Nat.le_refl _, h, Nat.le_refl _, hm, by simp, by rw [List.toList_toArray, Nat.mul_one, List.take_of_length_le (by simp)]⟩⟩

end Go.Proofs.YtcaikkfcjeojiaaDoor

namespace Go.Proofs.YtcaikkfcjeojiaaDoor
open Go.RowKit

theorem Fr.alloc {w : World} {g : Nat} {t : TypeId} {cs : List Value} (h : Fr w g t cs) (o : Obj) : Fr (w.alloc o) g t cs := h.below ((Below.refl _ _).alloc (Nat.le_refl _) o)
theorem Fr.drew {w : World} {g : Nat} {t : TypeId} {cs : List Value} (h : Fr w g t cs) : Fr w.drew g t cs := h
theorem Fr.other {w : World} {g : Nat} {t : TypeId} {cs : List Value} (h : Fr w g t cs) {a : Addr} (ha : a.block ≠ g) (v : Value) : Fr (w.setCell a v) g t cs :=
  h.kept (row := some a.block) ⟨rfl, rfl, rfl, by simp [World.setCell], fun i _ hne => Below.heap_setCell _ _ _ _ (fun e => hne (by rw [e]))⟩ (fun e => ha (by injection e with e; exact e.symm))
/-- What was there is as it was. -/
def BelW (w w' : World) : Prop := Below w.heap.size w w'
theorem BelW.next {w w1 w2 : World} (h : BelW w w1) (hb : Below w1.heap.size w1 w2) : BelW w w2 := joinB h hb
theorem BelW.trans {w w1 w2 : World} (h : BelW w w1) (hb : BelW w1 w2) : BelW w w2 := joinB h hb
theorem BelW.alloc {w w1 : World} (h : BelW w w1) (o : Obj) : BelW w (w1.alloc o) := below_new h o
theorem BelW.drew {w w1 : World} (h : BelW w w1) : BelW w w1.drew := Below.drew h
theorem BelW.set {w w1 : World} (h : BelW w w1) {a : Addr} (ha : w.heap.size ≤ a.block) (v : Value) : BelW w (w1.setCell a v) := Below.setCell h ha v

theorem Fr.made (w : World) (cs : List Value) (t : TypeId) {g : Nat} (hg : g = w.heap.size) : Fr (w.alloc (.cells cs.toArray t)) g t cs := by
  subst hg; unfold Fr; exact heap_alloc_new _ _

/-- Sizes that a copy can bear. -/
structure SzOk (c : Ck) : Prop where
  n : c.nodes.length ≤ 1000000
  s : c.names.length ≤ 1000000
  m : c.mems.length ≤ 1000000
  o : c.outs.length ≤ 1000000
  i : ∀ k, k < c.nodes.length → (c.nodes.getD k default).ins.length ≤ 17592186044416
  a : ∀ k, k < c.mems.length → (c.mems.getD k default).addr.length ≤ 17592186044416
  d : ∀ k, k < c.mems.length → (c.mems.getD k default).data.length ≤ 17592186044416

theorem Row.other {w : World} {g : Nat} {l : List Int} (h : Row w g l) {a : Addr} (ha : a.block ≠ g) (v : Value) : Row (w.setCell a v) g l :=
  h.kept (row := some a.block) ⟨rfl, rfl, rfl, by simp [World.setCell], fun i _ hne => Below.heap_setCell _ _ _ _ (fun e => hne (by rw [e]))⟩ (fun e => ha (by injection e with e; exact e.symm))
end Go.Proofs.YtcaikkfcjeojiaaDoor
