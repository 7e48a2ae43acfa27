/- The texts LgSome LgGate. -/
import Derived.Test.YtcaikkfcjeojiaaDoorM01
import Derived.BigQuiet
import Derived.Deep.Draws
import Derived.WalkSmall
namespace Go.Proofs.YtcaikkfcjeojiaaDoor.Lg
open Go.RowKit

/-- The slice value v reads as the list l of one-byte integers, in blocks below B. -/
def Vs (w : World) (B : Nat) (v : Value) (l : List Int) : Prop :=
  ∃ b o c, (v = .slice (some ⟨b, o, none⟩) l.length c ∨ (l = [] ∧ ∃ A, v = .slice A 0 c)) ∧ l.length ≤ maxLen ∧ ∀ k, k < l.length → b < B ∧ w.cell? ⟨b, o + k, none⟩ = some (.int .u8 (l.getD k 0))

section
variable {w w' : World} {B B' : Nat} {v : Value} {l : List Int}
theorem Vs.keep (h : Vs w B v l) (hk : ∀ p : Addr, p.block < B → w'.cell? p = w.cell? p) : Vs w' B v l := by
  obtain ⟨b, o, c, h1, h2, h3⟩ := h
  exact ⟨b, o, c, h1, h2, fun k hk' => ⟨(h3 k hk').1, (hk _ (h3 k hk').1).trans (h3 k hk').2⟩⟩
theorem Vs.more (h : Vs w B v l) (hB : B ≤ B') : Vs w B' v l := by
  obtain ⟨b, o, c, h1, h2, h3⟩ := h
  exact ⟨b, o, c, h1, h2, fun k hk' => ⟨Nat.lt_of_lt_of_le (h3 k hk').1 hB, (h3 k hk').2⟩⟩
theorem Vs.below (h : Vs w B v l) (hb : Below B w w') : Vs w' B v l := h.keep fun _ hp => hb.cell hp
theorem Vs.drewN (h : Vs w B v l) (k : Nat) : Vs (w.drewN k) B v l := h.keep fun _ _ => rfl
theorem Vs.drew (h : Vs w B v l) : Vs w.drew B v l := h.keep fun _ _ => rfl
theorem Vs.alloc (h : Vs w B v l) (hB : B ≤ w.heap.size) (o : Obj) : Vs (w.alloc o) B v l := h.keep fun p hp => World.cell?_alloc_lt w o p (by omega)
theorem Vs.nil (w : World) (B : Nat) (A : Option Addr) (c : Nat) : Vs w B (.slice A 0 c) [] := ⟨0, 0, c, .inr ⟨rfl, A, rfl⟩, by simp, fun k hk => absurd hk (by simp)⟩
end

end Go.Proofs.YtcaikkfcjeojiaaDoor.Lg

namespace Go.Proofs.YtcaikkfcjeojiaaDoor.Lg
open Go.RowKit

/-- A contract in which what was there stays, met in a world behind w0. -/
theorem rel {P : Program} {f : FuncId} {args : Array Value} {w0 w : World} {v : Value} (h : Calls P f args w fun e w' => e = .returned v ∧ Below w.heap.size w w') (hb : Below w0.heap.size w0 w) :
    Calls P f args w fun e w' => e = .returned v ∧ Below w0.heap.size w0 w' := h.mono fun _ _ ⟨he, h'⟩ => ⟨he, hb.trans (h'.mono hb.size)⟩

end Go.Proofs.YtcaikkfcjeojiaaDoor.Lg
