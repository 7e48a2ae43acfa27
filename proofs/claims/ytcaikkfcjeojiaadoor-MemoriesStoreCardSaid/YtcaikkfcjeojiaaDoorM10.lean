/- The texts Ofr Ofg Ofs. -/
import Derived.Test.YtcaikkfcjeojiaaDoorM06
import Derived.Test.YtcaikkfcjeojiaaDoorM07
import Derived.Test.YtcaikkfcjeojiaaDoorM08
import Derived.Test.YtcaikkfcjeojiaaDoorM09
import Derived.Laws.BytesArg
namespace Go.Proofs.YtcaikkfcjeojiaaDoor
open Go.RowKit

/-- What was made from T on in w is as it was, but for the row R. -/
def Kp (T : Nat) (R : Option Nat) (w w' : World) : Prop := w.heap.size ≤ w'.heap.size ∧ ∀ b, T ≤ b → b < w.heap.size → R ≠ some b → w'.heap[b]? = w.heap[b]?
theorem Kp.refl (T : Nat) (R : Option Nat) (w : World) : Kp T R w w := ⟨Nat.le_refl _, fun _ _ _ _ => rfl⟩
theorem Kp.trans {T : Nat} {R : Option Nat} {w w1 w2 : World} (h : Kp T R w w1) (h' : Kp T R w1 w2) : Kp T R w w2 :=
  ⟨Nat.le_trans h.1 h'.1, fun b h1 h2 h3 => (h'.2 b h1 (Nat.lt_of_lt_of_le h2 h.1) h3).trans (h.2 b h1 h2 h3)⟩
theorem Kp.alloc (T : Nat) (R : Option Nat) (w : World) (o : Obj) : Kp T R w (w.alloc o) :=
  ⟨by simp, fun b _ h _ => ((Below.refl w.heap.size w).alloc (Nat.le_refl _) o).block b h⟩
theorem Kp.below {T : Nat} {R : Option Nat} {w w' : World} (h : Below w.heap.size w w') : Kp T R w w' := ⟨h.size, fun b _ hb _ => h.block b hb⟩
theorem Kp.set {T : Nat} {R : Option Nat} (w : World) {a : Addr} (ha : a.block < T) (v : Value) : Kp T R w (w.setCell a v) :=
  ⟨by simp, fun b h _ _ => heap_setCell_other w a b v (fun e => by rw [e] at h; omega)⟩
theorem Kp.grown {T : Nat} {w w' : World} {R : Option Nat} (h : w.grownBy w' R) : Kp T R w w' := ⟨h.size, fun b _ hb hR => h.block b hb (fun e => hR e.symm)⟩
theorem Kp.free {T : Nat} {R R' : Option Nat} {w w' : World} (h : Kp T R w w') (hR : ∀ b, T ≤ b → b < w.heap.size → R' ≠ some b → R ≠ some b) : Kp T R' w w' :=
  ⟨h.1, fun b h1 h2 h3 => h.2 b h1 h2 (hR b h1 h2 h3)⟩

/-- s reads as the list of pins, and lies from T on, beside the row R. -/
def InG (w : World) (T : Nat) (R : Option Nat) (s : Value) (l : List Int) : Prop :=
  ∃ A c, s = .slice A l.length c ∧ Is w w.heap.size s l ∧ (0 < l.length → ∀ a : Addr, A = some a → T ≤ a.block ∧ R ≠ some a.block)
theorem InG.keep {w w' : World} {T : Nat} {R R' : Option Nat} {s : Value} {l : List Int} (h : InG w T R s l) (hk : Kp T R w w') (hR : ∀ b, b < w.heap.size → R ≠ some b → R' ≠ some b) : InG w' T R' s l := by
  obtain ⟨A, c, rfl, hi, ha⟩ := h
  obtain ⟨A', b, o, c', e, hA, hle, hm, hc⟩ := hi
  simp only [Value.slice.injEq, true_and] at e
  obtain ⟨rfl, rfl⟩ := e
  by_cases h0 : 0 < l.length
  · obtain rfl := hA h0
    have hb := (hc 0 h0).1
    obtain ⟨h1, h2⟩ := ha h0 _ rfl
    refine ⟨_, c, rfl, ⟨_, b, o, c, rfl, fun _ => rfl, hle, hm, fun k hk' => ⟨Nat.lt_of_lt_of_le hb hk.1, ?_⟩⟩, fun _ a e => ?_⟩
    · unfold IntAt
      rw [World.cell?_of_block (hk.2 b h1 hb h2)]
      exact (hc k hk').2
    · cases e; exact ⟨h1, hR b hb h2⟩
  · exact ⟨A, c, rfl, ⟨A, 0, 0, c, rfl, fun h => absurd h h0, hle, hm, fun k hk' => absurd hk' (by omega)⟩, fun h => absurd h h0⟩
theorem InG.nil (w : World) (T : Nat) (R : Option Nat) : InG w T R (.slice none 0 0) [] := ⟨none, 0, rfl, Arr.nil _ _ _ _ _, fun h => absurd h (by simp)⟩

section
variable {w w' w1 : World} {T : Nat} {v v' : Value} {l : List Nd} {ss : List Value}
theorem InG.lit {k : Nat} (hT : T ≤ w.heap.size) (hr : ∀ q, v.ownBlock = some q → q < w.heap.size) (l : List Int) (hk : k = l.length) (hm : l.length ≤ maxLen) : InG (w.alloc (.cells (l.map (Value.int .i64)).toArray 3)) T v.ownBlock (.slice (some ⟨w.heap.size, 0, none⟩) k k) l := by
  subst hk
  exact ⟨_, _, rfl, is_of _ (Fr.made w (l.map (Value.int .i64)) 3 rfl) hm (by simp), fun _ a e => by cases e; exact ⟨hT, fun e => by have := hr _ e; simp at this⟩⟩
end

end Go.Proofs.YtcaikkfcjeojiaaDoor

namespace Go.Proofs.YtcaikkfcjeojiaaDoor
open Go.RowKit

theorem Fr.low {w w' : World} {B g : Nat} {t : TypeId} {cs : List Value} (h : Fr w g t cs) (hb : Below B w w') (hg : g < B) : Fr w' g t cs := by
  unfold Fr at *
  exact (hb.block g hg).trans h
end Go.Proofs.YtcaikkfcjeojiaaDoor

namespace Go.Proofs.YtcaikkfcjeojiaaDoor
open Go.RowKit

section
variable {xs : List Value} {w wr w1 w2 : World} {q1 q2 q3 T : Nat} {sN sS sM sO u : Value}
theorem Fr.grown {g : Nat} {t : TypeId} {cs : List Value} {R : Option Nat} (h : Fr wr g t cs) (hg : wr.grownBy w1 R) (hR : R ≠ some g) : Fr w1 g t cs :=
  (hg.block g h.lt (fun e => hR e.symm)).trans h
end
end Go.Proofs.YtcaikkfcjeojiaaDoor
