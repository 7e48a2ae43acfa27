/- The texts Rlv Hel. -/
import Derived.Test.YtkaedfgmhfefjaaGreatDoorM12
import Derived.Test.YtkaedfgmhfefjaaGreatDoorM15
import Derived.OrdersHeld
import Derived.Deep.RegionHeld
namespace Go.Proofs.YtkaedfgmhfefjaaGreatDoor
open Go.RowKit

/-- What stands while the reference's Levels runs. -/
structure RW (w : World) (vs : List Value) (wr : World) (out : List Int) : Prop where
  bel : Below w.heap.size w wr
  box : Fr wr w.heap.size 39 vs
  row : Row wr (w.heap.size + 1) out
section
variable {w wr w1 : World} {vs : List Value} {out : List Int}
theorem RW.next (h : RW w vs wr out) (hb : Below wr.heap.size wr w1) : RW w vs w1 out := ⟨joinB h.bel hb, h.box.below hb, h.row.below hb⟩
theorem RW.set (h : RW w vs wr out) (j : Nat) (x : Int) : RW w vs (wr.setCell ⟨w.heap.size + 1, j, none⟩ (.int .i64 x)) (out.set j x) :=
  ⟨h.bel.setCell (Nat.le_succ _) _, h.box.other (by show w.heap.size + 1 ≠ w.heap.size; omega) _, h.row.set j x⟩
theorem RW.drewN (h : RW w vs wr out) (n : Nat) : RW w vs (wr.drewN n) out := h.next (below_drewN (Below.refl _ _) n)
end
/-- Bounded by b. -/
def Bd (l : List Int) (b : Nat) : Prop := ∀ i : Nat, lat l i ≤ (b : Int)
theorem Bd.zero (n : Nat) : Bd (List.replicate n 0) 0 := fun i => by
  unfold lat; rw [List.getD_eq_getElem?_getD, List.getElem?_replicate]; split <;> exact Int.le_refl _
theorem Bd.pin {s : List Int × Bool} {b k : Nat} (h : Bd s.1 b) {x : Int} (hx : 0 ≤ x) : Bd (rpin k s x).1 (b + 1) := fun i => by
  have h1 := h i
  have h2 := h x.toNat
  rw [lat_nat _ hx] at h2
  unfold rpin
  split
  · show lat (s.1.set k _) i ≤ _
    rw [lat_set _ (by omega)]
    split <;> omega
  · omega
theorem Bd.le {l : List Int} {b b' : Nat} (h : Bd l b) (hb : b ≤ b') : Bd l b' := fun i => by have := h i; omega
end Go.Proofs.YtkaedfgmhfefjaaGreatDoor

namespace Go.Proofs.YtkaedfgmhfefjaaGreatDoor

section
variable {P : Program} {ops : Array Oper} {Q : Exit → Act → World → Prop} {md : Region.Mode} {S : World → Prop} {t : Nat}

/-- Whatever comes up next: S holds behind it, if it is not number t. -/
def AnyX (P : Program) (md : Region.Mode) (ops : Array Oper) (Q : Exit → Act → World → Prop) (S : World → Prop) (t : Nat) : Nat → Array Bool → Act → World → Prop
  | 0, listed, a, w => Region.ready md ops listed = [] ∧ Q .normal a w
  | f + 1, listed, a, w => (Region.ready md ops listed = [] → Q .normal a w) ∧ ∀ i ∈ Region.ready md ops listed, wpOp P ops Q i (fun a' w' => (i ≠ t → S w') ∧ AnyX P md ops Q S t f (listed.setIfInBounds i true) a' w') a w
theorem AnyX.any : ∀ {f : Nat} {listed : Array Bool} {a : Act} {w : World}, AnyX P md ops Q S t f listed a w → wpAny P md ops Q f listed a w
  | 0, _, _, _, h => h
  | _ + 1, _, _, _, h => ⟨h.1, fun i hi => wpOp_mono (fun _ _ h' => AnyX.any h'.2) (h.2 i hi)⟩
theorem AnyX.start {id : Nat} {a : Act} {w : World} (hm : P.follows .mixedOrders = true) (h : AnyX P .any ops Q S t ops.size (Array.replicate ops.size false) a w.drew) : (Code.region id ops true).wp P Q a w :=
  wp_region_any hm h.any

/-- Number t waits for number i. -/
theorem not_ready {ot : Oper} {i : Nat} {l : Array Bool} (ho : ops[t]? = some ot) (hw : ot.after.any (fun e => e.on == i && Region.binds md e) = true) (hl : l.getD i true = false) : t ∉ Region.ready md ops l := fun hr => by
  obtain ⟨-, o', ho', hall⟩ := mem_ready.1 hr
  obtain rfl := Option.some.inj (ho.symm.trans ho')
  obtain ⟨e, he, hb⟩ := Array.any_eq_true'.1 hw
  rw [Bool.and_eq_true, beq_iff_eq] at hb
  have h1 := hall e he hb.2
  rw [hb.1] at h1
  rcases Nat.lt_or_ge i l.size with h | h
  · simp [Array.getD, h] at hl h1
    rw [hl] at h1; cases h1
  · simp [Array.getD, Nat.not_lt.2 h] at hl

theorem AnyX.first {i : Nat} {oi : Oper} {v : Value} (hi : ops[i]? = some oi) (hsel : ∀ (j : Nat) (o : Oper) cs b, ops[j]? = some o → o.op ≠ .select cs b) (hQ : ∀ c a w, Q (.panic c) (a.put oi.dst v) w → Q (.panic c) a w)
    (ht : ∀ l : Array Bool, l.getD i true = false → t ∉ Region.ready md ops l) : ∀ (f : Nat) (listed : Array Bool) (a : Act) (w : World),
      (∀ j oj, ops[j]? = some oj → j ≠ i → listed.getD j true = false → (∀ e ∈ oj.after, Region.binds md e = true → e.on ≠ i) → oi.apart ops oj = true) →
      i ∈ Region.ready md ops listed → YieldsIf P ops S oi v a → S w → AnyX P md ops Q S t f (listed.setIfInBounds i true) (a.put oi.dst v) w → AnyX P md ops Q S t (f + 1) listed a w := by
  intro f
  induction f with
  | zero =>
    intro listed a w _ hr hy hS H
    refine ⟨fun h => absurd (h ▸ hr) (by simp), fun j hj => ?_⟩
    by_cases e : j = i
    · subst e; exact hy.wpOp hi hS ⟨fun _ => hS, H⟩
    · exact absurd (H.1 ▸ ready_mono hj e) (by simp)
  | succ f ih =>
    intro listed a w hfree hr hy hS H
    refine ⟨fun h => absurd (h ▸ hr) (by simp), fun j hj => ?_⟩
    by_cases e : j = i
    · subst e; exact hy.wpOp hi hS ⟨fun _ => hS, H⟩
    · obtain ⟨hju, oj, hoj, hall⟩ := mem_ready.1 hj
      have hiu := (mem_ready.1 hr).1
      have hjt : j ≠ t := fun h => ht listed hiu (h ▸ hj)
      have hno : ∀ x ∈ oj.after, Region.binds md x = true → x.on ≠ i := fun x hx hb he => by
        have h1 := hall x hx hb
        rw [he] at h1
        rcases Nat.lt_or_ge i listed.size with h' | h'
        · simp [h'] at hiu h1; rw [hiu] at h1; cases h1
        · simp [Array.getElem?_eq_none h'] at h1
      have step := wpOp_putIf hoj (hfree j oj hoj e hju hno) (fun cs b => hsel i oi cs b hi) (fun cs b => hsel j oj cs b hoj) hQ hy (H.2 j (ready_mono hj e))
      refine wpOp_mono (fun a' w' hh => ⟨fun _ => hh.2.1 hjt, ih _ a' w' (fun k ok hk hki hun hn => hfree k ok hk hki ?_ hn) (ready_mono hr (Ne.symm e)) hh.1 (hh.2.1 hjt) ?_⟩) step
      · by_cases hjk : j = k
        · subst hjk; exact hju
        · rw [getD_set_ne true hjk] at hun; exact hun
      · rw [Array.setIfInBounds_comm _ _ e]
        exact hh.2.2
/-- Number i is taken first. -/
theorem AnyX.take {i : Nat} {oi ot : Oper} {v : Value} {f : Nat} {listed : Array Bool} {a : Act} {w : World} (hi : ops[i]? = some oi) (ho : ops[t]? = some ot) (hw : ot.after.any (fun e => e.on == i && Region.binds md e) = true)
    (hs : Region.noSelect ops = true) (hf : Region.free md ops listed i = true) (hr : (Region.ready md ops listed).contains i = true)
    (hQ : ∀ c a w, Q (.panic c) (a.put oi.dst v) w → Q (.panic c) a w) (hy : YieldsIf P ops S oi v a) (hS : S w)
    (h : AnyX P md ops Q S t f (listed.setIfInBounds i true) (a.put oi.dst v) w) : AnyX P md ops Q S t (f + 1) listed a w :=
  AnyX.first hi (Region.noSelect_spec hs) hQ (fun _ hl => not_ready ho hw hl) f listed a w (Region.free_spec hi hf) (by simpa using hr) hy hS h
/-- One alone may come up. -/
theorem AnyX.one {i : Nat} {o : Oper} {f : Nat} {listed : Array Bool} {a : Act} {w : World} (hr : Region.ready md ops listed = [i]) (ho : ops[i]? = some o)
    (h : ∀ K' : Act → World → Prop, (∀ a' w', (i ≠ t → S w') → AnyX P md ops Q S t f (listed.setIfInBounds i true) a' w' → K' a' w') → if Region.wanted o (yielded ops a.tmps) = true then Oper.wp P o a w K' Q else K' (a.put o.dst undef) w) : AnyX P md ops Q S t (f + 1) listed a w := by
  refine ⟨fun h0 => absurd (hr.symm.trans h0) (by simp), fun j hj => ?_⟩
  rw [hr] at hj
  obtain rfl := List.mem_singleton.1 hj
  exact wpOp_step ho (fun K' hK => h K' fun a' w' h1 h2 => hK a' w' ⟨h1, h2⟩)
theorem AnyX.done {listed : Array Bool} {a : Act} {w : World} (hr : Region.ready md ops listed = []) (h : Q .normal a w) : ∀ f, AnyX P md ops Q S t f listed a w
  | 0 => ⟨hr, h⟩
  | _ + 1 => ⟨fun _ => h, by rw [hr]; simp⟩
end

end Go.Proofs.YtkaedfgmhfefjaaGreatDoor
