/- The texts Fnp Rfl. -/
import Derived.Test.YtcaikkfcjeojiaaDoorM06
import Derived.Deep.LoopGhost
namespace Go.Proofs.YtcaikkfcjeojiaaDoor
open Go.RowKit

def LnAt (w : World) (_B b p : Nat) (x : Int × Int) : Prop := w.cell? ⟨b, p, none⟩ = some (.int .i64 x.1) ∧ w.cell? ⟨b, p + 1, none⟩ = some (.int .i64 x.2)
theorem stays_ln : Stays LnAt := fun w w' B B' b p x hb hB h hk => ⟨(hk ⟨b, p, none⟩ hb).trans h.1, (hk ⟨b, p + 1, none⟩ hb).trans h.2⟩
def Lns (w : World) (B : Nat) (v : Value) (l : List (Int × Int)) : Prop := Arr (0, 0) 2 LnAt w B v l
def LnsAt (w : World) (B b p : Nat) (l : List (Int × Int)) : Prop := ∃ A, w.cell? ⟨b, p, none⟩ = some (.slice A l.length l.length) ∧ Lns w B (.slice A l.length l.length) l
theorem stays_lns : Stays LnsAt := fun w w' B B' b p x hb hB ⟨s, h, k⟩ hk => ⟨s, (hk ⟨b, p, none⟩ hb).trans h, Arr.keep stays_ln k hB hk⟩
def Fos (w : World) (B : Nat) (v : Value) (l : List (List (Int × Int))) : Prop := Arr [] 1 LnsAt w B v l
theorem Fos.keep {w w' : World} {B B' : Nat} {v : Value} {l : List (List (Int × Int))} (h : Fos w B v l) (hB : B ≤ B') (hk : ∀ q : Addr, q.block < B → w'.cell? q = w.cell? q) : Fos w' B' v l := Arr.keep stays_lns h hB hk
end Go.Proofs.YtcaikkfcjeojiaaDoor

namespace Go.Proofs.YtcaikkfcjeojiaaDoor
open Go.RowKit

theorem Stk.all {w : World} {g : Nat} {v : Value} {l : List Int} (h : Stk w g v l) (hm : l.length ≤ maxLen) : Is w w.heap.size v l := by
  obtain ⟨A, c, rfl, hle, -, -⟩ := h.form
  exact h.reads c hle hm

end Go.Proofs.YtcaikkfcjeojiaaDoor
