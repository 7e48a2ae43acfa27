/- The texts Smy Smz Hel. -/
import Derived.Test.YtcaikkfcjeojiaaDoorM16
import Derived.Test.YtcaikkfcjeojiaaDoorM13
import Derived.Deep.RegionHeld3
import Derived.Deep.DeepCutAuto
import Derived.Deep.CutBlock
import Derived.OrdersHeld
import Derived.Deep.RegionHeld
namespace Go.Proofs.YtcaikkfcjeojiaaDoor
open Go.RowKit

theorem grown_v {w wr : World} {g : Nat} (h : w.grownBy wr (some g)) (j : Nat) (v : Value) : w.grownBy (wr.setCell ⟨g, j, none⟩ v) (some g) := by
  obtain ⟨h1, h2, h3, h4, h5⟩ := h
  exact ⟨h1, h2, h3, by simpa [World.setCell] using h4, fun i hi hne => (Below.heap_setCell _ _ _ _ (fun e => hne (by rw [e]))).trans (h5 i hi hne)⟩
end Go.Proofs.YtcaikkfcjeojiaaDoor

namespace Go.Proofs.YtcaikkfcjeojiaaDoor
open Go.RowKit

/-- The pattern fits the circuit without memories. -/
structure Fits (c : Ck) (pin pst : List Int) : Prop where
  mems : c.mems.length = 0
  li : pin.length = (ofTo c.nodes [0] c.nodes.length).length
  ls : pst.length = (ofTo c.nodes [14] c.nodes.length).length
  vi : ∀ x ∈ pin, 0 ≤ x ∧ x ≤ 3
  vs : ∀ x ∈ pst, 0 ≤ x ∧ x ≤ 3
end Go.Proofs.YtcaikkfcjeojiaaDoor

namespace Go.Proofs.YtcaikkfcjeojiaaDoor

section
variable {P : Program} {ops : Array Oper} {Q : Exit → Act → World → Prop} {md : Region.Mode} {S : World → Prop} {t : Nat}

/-- Whatever comes up next: S holds behind it, if it is not number t. -/
def AnyX (P : Program) (md : Region.Mode) (ops : Array Oper) (Q : Exit → Act → World → Prop) (S : World → Prop) (t : Nat) : Nat → Array Bool → Act → World → Prop
  | 0, listed, a, w => Region.ready md ops listed = [] ∧ Q .normal a w
  | f + 1, listed, a, w => (Region.ready md ops listed = [] → Q .normal a w) ∧ ∀ i ∈ Region.ready md ops listed, wpOp P ops Q i (fun a' w' => (i ≠ t → S w') ∧ AnyX P md ops Q S t f (listed.setIfInBounds i true) a' w') a w
theorem AnyX.any : ∀ {f : Nat} {listed : Array Bool} {a : Act} {w : World}, AnyX P md ops Q S t f listed a w → wpAny P md ops Q f listed a w
  | 0, _, _, _, h => h
  | _ + 1, _, _, _, h => ⟨h.1, fun i hi => wpOp_mono (fun _ _ h' => AnyX.any h'.2) (h.2 i hi)⟩
/-- Number t waits for number i. -/
theorem not_ready {ot : Oper} {i : Nat} {l : Array Bool} (ho : ops[t]? = some ot) (hw : ot.after.any (fun e => e.on == i && Region.binds md e) = true) (hl : l.getD i true = false) : t ∉ Region.ready md ops l := fun hr => by
  obtain ⟨-, o', ho', hall⟩ := mem_ready.1 hr
  obtain rfl := Option.some.inj (ho.symm.trans ho')
  obtain ⟨e, he, hb⟩ := Array.any_eq_true'.1 hw
  rw [Bool.and_eq_true, beq_iff_eq] at hb
  have h1 := hall e he hb.2
  rw [hb.1] at h1
  rcases Nat.lt_or_ge i l.size with h | h
  · simp [Array.getD, h] at hl h1
    rw [hl] at h1; cases h1
  · simp [Array.getD, Nat.not_lt.2 h] at hl

theorem AnyX.first {i : Nat} {oi : Oper} {v : Value} (hi : ops[i]? = some oi) (hsel : ∀ (j : Nat) (o : Oper) cs b, ops[j]? = some o → o.op ≠ .select cs b) (hQ : ∀ c a w, Q (.panic c) (a.put oi.dst v) w → Q (.panic c) a w)
    (ht : ∀ l : Array Bool, l.getD i true = false → t ∉ Region.ready md ops l) : ∀ (f : Nat) (listed : Array Bool) (a : Act) (w : World),
      (∀ j oj, ops[j]? = some oj → j ≠ i → listed.getD j true = false → (∀ e ∈ oj.after, Region.binds md e = true → e.on ≠ i) → oi.apart ops oj = true) →
      i ∈ Region.ready md ops listed → YieldsIf P ops S oi v a → S w → AnyX P md ops Q S t f (listed.setIfInBounds i true) (a.put oi.dst v) w → AnyX P md ops Q S t (f + 1) listed a w := by
  intro f
  induction f with
  | zero =>
    intro listed a w _ hr hy hS H
    refine ⟨fun h => absurd (h ▸ hr) (by simp), fun j hj => ?_⟩
    by_cases e : j = i
    · subst e; exact hy.wpOp hi hS ⟨fun _ => hS, H⟩
    · exact absurd (H.1 ▸ ready_mono hj e) (by simp)
  | succ f ih =>
    intro listed a w hfree hr hy hS H
    refine ⟨fun h => absurd (h ▸ hr) (by simp), fun j hj => ?_⟩
    by_cases e : j = i
    · subst e; exact hy.wpOp hi hS ⟨fun _ => hS, H⟩
    · obtain ⟨hju, oj, hoj, hall⟩ := mem_ready.1 hj
      have hiu := (mem_ready.1 hr).1
      have hjt : j ≠ t := fun h => ht listed hiu (h ▸ hj)
      have hno : ∀ x ∈ oj.after, Region.binds md x = true → x.on ≠ i := fun x hx hb he => by
        have h1 := hall x hx hb
        rw [he] at h1
        rcases Nat.lt_or_ge i listed.size with h' | h'
        · simp [h'] at hiu h1; rw [hiu] at h1; cases h1
        · simp [Array.getElem?_eq_none h'] at h1
      have step := wpOp_putIf hoj (hfree j oj hoj e hju hno) (fun cs b => hsel i oi cs b hi) (fun cs b => hsel j oj cs b hoj) hQ hy (H.2 j (ready_mono hj e))
      refine wpOp_mono (fun a' w' hh => ⟨fun _ => hh.2.1 hjt, ih _ a' w' (fun k ok hk hki hun hn => hfree k ok hk hki ?_ hn) (ready_mono hr (Ne.symm e)) hh.1 (hh.2.1 hjt) ?_⟩) step
      · by_cases hjk : j = k
        · subst hjk; exact hju
        · rw [getD_set_ne true hjk] at hun; exact hun
      · rw [Array.setIfInBounds_comm _ _ e]
        exact hh.2.2
/-- Number i is taken first. -/
theorem AnyX.take {i : Nat} {oi ot : Oper} {v : Value} {f : Nat} {listed : Array Bool} {a : Act} {w : World} (hi : ops[i]? = some oi) (ho : ops[t]? = some ot) (hw : ot.after.any (fun e => e.on == i && Region.binds md e) = true)
    (hs : Region.noSelect ops = true) (hf : Region.free md ops listed i = true) (hr : (Region.ready md ops listed).contains i = true)
    (hQ : ∀ c a w, Q (.panic c) (a.put oi.dst v) w → Q (.panic c) a w) (hy : YieldsIf P ops S oi v a) (hS : S w)
    (h : AnyX P md ops Q S t f (listed.setIfInBounds i true) (a.put oi.dst v) w) : AnyX P md ops Q S t (f + 1) listed a w :=
  AnyX.first hi (Region.noSelect_spec hs) hQ (fun _ hl => not_ready ho hw hl) f listed a w (Region.free_spec hi hf) (by simpa using hr) hy hS h
theorem AnyX.done {listed : Array Bool} {a : Act} {w : World} (hr : Region.ready md ops listed = []) (h : Q .normal a w) : ∀ f, AnyX P md ops Q S t f listed a w
  | 0 => ⟨hr, h⟩
  | _ + 1 => ⟨fun _ => h, by rw [hr]; simp⟩
end

end Go.Proofs.YtcaikkfcjeojiaaDoor
