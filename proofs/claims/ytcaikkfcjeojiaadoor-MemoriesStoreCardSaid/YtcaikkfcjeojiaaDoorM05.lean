/- The texts Net Fst Unq. -/
import Derived.Test.YtcaikkfcjeojiaaDoorM04
import Derived.Maps.OwnOps
import Derived.Maps.OwnSet
import Derived.Maps.Views
import Derived.StringKeys
import Derived.Deep.AppendLies
namespace Go.Proofs.YtcaikkfcjeojiaaDoor
open Go.RowKit

def anyP (p : Int → Bool) (l : List Int) : Bool := l.any p
theorem anyP_yes {p : Int → Bool} {l : List Int} (k : Nat) (hk : k < l.length) (h : p (l.getD k 0) = true) : anyP p l = true := by
  refine List.any_eq_true.2 ⟨l[k], List.getElem_mem hk, ?_⟩
  rwa [List.getD_eq_getElem?_getD, List.getElem?_eq_getElem hk] at h
theorem anyP_no {p : Int → Bool} {l : List Int} (h : ∀ j, j < l.length → p (l.getD j 0) = false) : anyP p l = false := by
  refine List.any_eq_false.2 fun v hv => ?_
  obtain ⟨k, hk, rfl⟩ := List.mem_iff_getElem.1 hv
  have := h k hk
  rw [List.getD_eq_getElem?_getD, List.getElem?_eq_getElem hk] at this
  simpa using this
def IdxP (b : Bool) (w : World) (e : Ending) (w' : World) : Prop := ∃ i : Int, e = .returned (.int .i64 i) ∧ (0 ≤ i ↔ b = true) ∧ w = w'

end Go.Proofs.YtcaikkfcjeojiaaDoor

namespace Go.Proofs.YtcaikkfcjeojiaaDoor
open Go.RowKit

/-- Block q holds the circuit's four slices. -/
def Boxed (w : World) (q : Nat) (a0 a1 a2 a3 : Value) : Prop :=
  q < w.heap.size ∧ w.cell? ⟨q, 0, none⟩ = some a0 ∧ w.cell? ⟨q, 1, none⟩ = some a1 ∧ w.cell? ⟨q, 2, none⟩ = some a2 ∧ w.cell? ⟨q, 3, none⟩ = some a3
theorem Boxed.below {w w' : World} {q : Nat} {a0 a1 a2 a3 : Value} (h : Boxed w q a0 a1 a2 a3) (hb : Below w.heap.size w w') : Boxed w' q a0 a1 a2 a3 := by
  obtain ⟨h0, h1, h2, h3, h4⟩ := h
  exact ⟨Nat.lt_of_lt_of_le h0 hb.size, (hb.cell (p := ⟨q, 0, none⟩) h0).trans h1, (hb.cell (p := ⟨q, 1, none⟩) h0).trans h2, (hb.cell (p := ⟨q, 2, none⟩) h0).trans h3, (hb.cell (p := ⟨q, 3, none⟩) h0).trans h4⟩
end Go.Proofs.YtcaikkfcjeojiaaDoor

namespace Go.Proofs.YtcaikkfcjeojiaaDoor
open Go.RowKit Go.Maps Go.WideMaps

/-- Block b is a map of the names ks, each noted as true. -/
def Noted (w : World) (b : Nat) (ks : List (List UInt8)) : Prop :=
  ∃ D : DataW Unit, w.ownsMap Tryd.prog 9 (plainElem Tryd.prog 4) b ks.length D ∧ IsMap D ∧ ∀ s : List UInt8, D.atKey (.string s) (.lit (.bool false)) = .lit (.bool (decide (s ∈ ks)))
theorem Noted.lt {w : World} {b : Nat} {ks : List (List UInt8)} (h : Noted w b ks) : b < w.heap.size := by obtain ⟨D, h, -⟩ := h; exact h.lt
theorem Noted.kept {w w' : World} {b : Nat} {ks : List (List UInt8)} (h : Noted w b ks) (hb : Below w.heap.size w w') : Noted w' b ks := by
  obtain ⟨D, hD, h2, h3⟩ := h
  refine ⟨D, ?_, h2, h3⟩
  have hlt := hD.lt
  obtain ⟨es, clock, hb', F, hs, e⟩ := hD
  exact ⟨es, clock, (hb.block b hlt).trans hb', F, hs, e⟩

end Go.Proofs.YtcaikkfcjeojiaaDoor
