/- A drawn region by an invariant: whichever operation comes up keeps it. -/
import Derived.Test.YtnddgkcgedkabaaDoorPcl
import Derived.Test.YtnddgkcgedkabaaDoorOwn
import Derived.Deep.DeepCutAuto
import Derived.Deep.RegionHeld3
namespace Go.Proofs.YtnddgkcgedkabaaDoor
open Go.RowKit

section
variable {P : Program} {md : Region.Mode} {ops : Array Oper} {Q : Exit → Act → World → Prop} {S : World → Prop}

theorem left_less {l : Array Bool} {i : Nat} {o : Oper} (hs : l.size = ops.size) (ho : ops[i]? = some o) (h : l.getD i true = false) : (l.setIfInBounds i true).toList.countP (fun b => !b) < l.toList.countP (fun b => !b) := by
  have hi : i < l.toList.length := by
    have := (Array.getElem?_eq_some_iff.1 ho).1
    simp; omega
  have hv : l.toList[i] = false := by
    have hi' : i < l.size := by simpa using hi
    simpa [hi'] using h
  have hp : 0 < l.toList.countP (fun b => !b) := List.countP_pos_iff.2 ⟨_, List.getElem_mem hi, by simp [hv]⟩
  rw [Array.toList_setIfInBounds, List.countP_set hi, hv]
  simp only [Bool.not_false, Bool.not_true, if_true, Bool.false_eq_true, if_false]
  omega

theorem held_inv (J : Array Bool → Act → World → Prop)
    (hz : ∀ l a w, J l a w → l.size = ops.size) (hJS : ∀ l a w, J l a w → S w)
    (hstep : ∀ l a w i o, J l a w → ops[i]? = some o → l.getD i true = false → (∀ e ∈ o.after, Region.binds md e = true → l.getD e.on false = true) →
      wpOp P ops Q i (fun a' w' => J (l.setIfInBounds i true) a' w') a w)
    (hdone : ∀ l a w, J l a w → Region.ready md ops l = [] → Q .normal a w) :
    ∀ (fuel : Nat) (l : Array Bool) (a : Act) (w : World), l.toList.countP (fun b => !b) ≤ fuel → J l a w → wpAnyH P md ops Q S fuel l a w := by
  intro fuel
  induction fuel with
  | zero =>
    intro l a w hc hj
    have hr : Region.ready md ops l = [] := by
      apply List.eq_nil_iff_forall_not_mem.2
      intro i hi
      obtain ⟨h0, o, ho, _⟩ := mem_ready.1 hi
      have := left_less (hz l a w hj) ho h0
      omega
    exact ⟨hr, hdone l a w hj hr⟩
  | succ fuel ih =>
    intro l a w hc hj
    refine ⟨fun hr => hdone l a w hj hr, fun i hi => ?_⟩
    obtain ⟨h0, o, ho, hall⟩ := mem_ready.1 hi
    have hl := left_less (hz l a w hj) ho h0
    exact wpOp_mono (fun a' w' h => ⟨hJS _ _ _ h, ih _ a' w' (by omega) h⟩) (hstep l a w i o hj ho h0 hall)

/-- What is known of one operation: its place, its op, and whom it waits for. -/
def OpAt (md : Region.Mode) (ops : Array Oper) (i : Nat) (dst : Option Tmp) (op : Op) (deps : List Nat) : Prop :=
  ∃ o, ops[i]? = some o ∧ o.guard = none ∧ o.dst = dst ∧ o.op = op ∧ (deps.all fun k => o.after.any fun e => e.on == k && Region.binds md e) = true

theorem waits {l : Array Bool} {o : Oper} {k : Nat} (h : o.after.any (fun e => e.on == k && Region.binds md e) = true) (hall : ∀ e ∈ o.after, Region.binds md e = true → l.getD e.on false = true) : l.getD k false = true := by
  rw [Array.any_eq_true'] at h
  obtain ⟨e, he, hb⟩ := h
  simp only [Bool.and_eq_true, beq_iff_eq] at hb
  have := hall e he hb.2
  rwa [hb.1] at this
end

/-- The frame with six temporaries of its own. -/
def Fr (a : Act) (v3 v4 v5 v15 v18 v21 : Value) : Act := (((((a.put (some 3) v3).put (some 4) v4).put (some 5) v5).put (some 15) v15).put (some 18) v18).put (some 21) v21
section
variable (a : Act) (v3 v4 v5 v15 v18 v21 u : Value)
theorem Fr.p3 : (Fr a v3 v4 v5 v15 v18 v21).put (some 3) u = Fr a u v4 v5 v15 v18 v21 := by
  simp only [Fr, Act.put, Act.mk.injEq, and_true]; apply Array.ext_getElem?; intro i; by_cases h3 : 3 = i; (subst h3; simp [Array.getElem?_setIfInBounds]); by_cases h4 : 4 = i; (subst h4; simp [Array.getElem?_setIfInBounds]); by_cases h5 : 5 = i; (subst h5; simp [Array.getElem?_setIfInBounds]); by_cases h15 : 15 = i; (subst h15; simp [Array.getElem?_setIfInBounds]); by_cases h18 : 18 = i; (subst h18; simp [Array.getElem?_setIfInBounds]); by_cases h21 : 21 = i; (subst h21; simp [Array.getElem?_setIfInBounds]); simp [Array.getElem?_setIfInBounds, h3, h4, h5, h15, h18, h21]
theorem Fr.p4 : (Fr a v3 v4 v5 v15 v18 v21).put (some 4) u = Fr a v3 u v5 v15 v18 v21 := by
  simp only [Fr, Act.put, Act.mk.injEq, and_true]; apply Array.ext_getElem?; intro i; by_cases h3 : 3 = i; (subst h3; simp [Array.getElem?_setIfInBounds]); by_cases h4 : 4 = i; (subst h4; simp [Array.getElem?_setIfInBounds]); by_cases h5 : 5 = i; (subst h5; simp [Array.getElem?_setIfInBounds]); by_cases h15 : 15 = i; (subst h15; simp [Array.getElem?_setIfInBounds]); by_cases h18 : 18 = i; (subst h18; simp [Array.getElem?_setIfInBounds]); by_cases h21 : 21 = i; (subst h21; simp [Array.getElem?_setIfInBounds]); simp [Array.getElem?_setIfInBounds, h3, h4, h5, h15, h18, h21]
theorem Fr.p5 : (Fr a v3 v4 v5 v15 v18 v21).put (some 5) u = Fr a v3 v4 u v15 v18 v21 := by
  simp only [Fr, Act.put, Act.mk.injEq, and_true]; apply Array.ext_getElem?; intro i; by_cases h3 : 3 = i; (subst h3; simp [Array.getElem?_setIfInBounds]); by_cases h4 : 4 = i; (subst h4; simp [Array.getElem?_setIfInBounds]); by_cases h5 : 5 = i; (subst h5; simp [Array.getElem?_setIfInBounds]); by_cases h15 : 15 = i; (subst h15; simp [Array.getElem?_setIfInBounds]); by_cases h18 : 18 = i; (subst h18; simp [Array.getElem?_setIfInBounds]); by_cases h21 : 21 = i; (subst h21; simp [Array.getElem?_setIfInBounds]); simp [Array.getElem?_setIfInBounds, h3, h4, h5, h15, h18, h21]
theorem Fr.p15 : (Fr a v3 v4 v5 v15 v18 v21).put (some 15) u = Fr a v3 v4 v5 u v18 v21 := by
  simp only [Fr, Act.put, Act.mk.injEq, and_true]; apply Array.ext_getElem?; intro i; by_cases h3 : 3 = i; (subst h3; simp [Array.getElem?_setIfInBounds]); by_cases h4 : 4 = i; (subst h4; simp [Array.getElem?_setIfInBounds]); by_cases h5 : 5 = i; (subst h5; simp [Array.getElem?_setIfInBounds]); by_cases h15 : 15 = i; (subst h15; simp [Array.getElem?_setIfInBounds]); by_cases h18 : 18 = i; (subst h18; simp [Array.getElem?_setIfInBounds]); by_cases h21 : 21 = i; (subst h21; simp [Array.getElem?_setIfInBounds]); simp [Array.getElem?_setIfInBounds, h3, h4, h5, h15, h18, h21]
theorem Fr.p18 : (Fr a v3 v4 v5 v15 v18 v21).put (some 18) u = Fr a v3 v4 v5 v15 u v21 := by
  simp only [Fr, Act.put, Act.mk.injEq, and_true]; apply Array.ext_getElem?; intro i; by_cases h3 : 3 = i; (subst h3; simp [Array.getElem?_setIfInBounds]); by_cases h4 : 4 = i; (subst h4; simp [Array.getElem?_setIfInBounds]); by_cases h5 : 5 = i; (subst h5; simp [Array.getElem?_setIfInBounds]); by_cases h15 : 15 = i; (subst h15; simp [Array.getElem?_setIfInBounds]); by_cases h18 : 18 = i; (subst h18; simp [Array.getElem?_setIfInBounds]); by_cases h21 : 21 = i; (subst h21; simp [Array.getElem?_setIfInBounds]); simp [Array.getElem?_setIfInBounds, h3, h4, h5, h15, h18, h21]
theorem Fr.p21 : (Fr a v3 v4 v5 v15 v18 v21).put (some 21) u = Fr a v3 v4 v5 v15 v18 u := by
  simp only [Fr, Act.put, Act.mk.injEq, and_true]; apply Array.ext_getElem?; intro i; by_cases h3 : 3 = i; (subst h3; simp [Array.getElem?_setIfInBounds]); by_cases h4 : 4 = i; (subst h4; simp [Array.getElem?_setIfInBounds]); by_cases h5 : 5 = i; (subst h5; simp [Array.getElem?_setIfInBounds]); by_cases h15 : 15 = i; (subst h15; simp [Array.getElem?_setIfInBounds]); by_cases h18 : 18 = i; (subst h18; simp [Array.getElem?_setIfInBounds]); by_cases h21 : 21 = i; (subst h21; simp [Array.getElem?_setIfInBounds]); simp [Array.getElem?_setIfInBounds, h3, h4, h5, h15, h18, h21]
theorem Fr.e3 (hz : 22 ≤ a.tmps.size) : (Fr a v3 v4 v5 v15 v18 v21).eval (.tmp 3) = v3 := by
  have k3 : 3 < a.tmps.size := (by omega); have k4 : 4 < a.tmps.size := (by omega); have k5 : 5 < a.tmps.size := (by omega); have k15 : 15 < a.tmps.size := (by omega); have k18 : 18 < a.tmps.size := (by omega); have k21 : 21 < a.tmps.size := (by omega); simp [Fr, Act.put, Act.eval, Array.getElem?_setIfInBounds, *]
theorem Fr.e4 (hz : 22 ≤ a.tmps.size) : (Fr a v3 v4 v5 v15 v18 v21).eval (.tmp 4) = v4 := by
  have k3 : 3 < a.tmps.size := (by omega); have k4 : 4 < a.tmps.size := (by omega); have k5 : 5 < a.tmps.size := (by omega); have k15 : 15 < a.tmps.size := (by omega); have k18 : 18 < a.tmps.size := (by omega); have k21 : 21 < a.tmps.size := (by omega); simp [Fr, Act.put, Act.eval, Array.getElem?_setIfInBounds, *]
theorem Fr.e5 (hz : 22 ≤ a.tmps.size) : (Fr a v3 v4 v5 v15 v18 v21).eval (.tmp 5) = v5 := by
  have k3 : 3 < a.tmps.size := (by omega); have k4 : 4 < a.tmps.size := (by omega); have k5 : 5 < a.tmps.size := (by omega); have k15 : 15 < a.tmps.size := (by omega); have k18 : 18 < a.tmps.size := (by omega); have k21 : 21 < a.tmps.size := (by omega); simp [Fr, Act.put, Act.eval, Array.getElem?_setIfInBounds, *]
theorem Fr.e15 (hz : 22 ≤ a.tmps.size) : (Fr a v3 v4 v5 v15 v18 v21).eval (.tmp 15) = v15 := by
  have k3 : 3 < a.tmps.size := (by omega); have k4 : 4 < a.tmps.size := (by omega); have k5 : 5 < a.tmps.size := (by omega); have k15 : 15 < a.tmps.size := (by omega); have k18 : 18 < a.tmps.size := (by omega); have k21 : 21 < a.tmps.size := (by omega); simp [Fr, Act.put, Act.eval, Array.getElem?_setIfInBounds, *]
theorem Fr.e18 (hz : 22 ≤ a.tmps.size) : (Fr a v3 v4 v5 v15 v18 v21).eval (.tmp 18) = v18 := by
  have k3 : 3 < a.tmps.size := (by omega); have k4 : 4 < a.tmps.size := (by omega); have k5 : 5 < a.tmps.size := (by omega); have k15 : 15 < a.tmps.size := (by omega); have k18 : 18 < a.tmps.size := (by omega); have k21 : 21 < a.tmps.size := (by omega); simp [Fr, Act.put, Act.eval, Array.getElem?_setIfInBounds, *]
theorem Fr.e21 (hz : 22 ≤ a.tmps.size) : (Fr a v3 v4 v5 v15 v18 v21).eval (.tmp 21) = v21 := by
  have k3 : 3 < a.tmps.size := (by omega); have k4 : 4 < a.tmps.size := (by omega); have k5 : 5 < a.tmps.size := (by omega); have k15 : 15 < a.tmps.size := (by omega); have k18 : 18 < a.tmps.size := (by omega); have k21 : 21 < a.tmps.size := (by omega); simp [Fr, Act.put, Act.eval, Array.getElem?_setIfInBounds, *]
theorem Fr.e14 (hz : 22 ≤ a.tmps.size) : (Fr a v3 v4 v5 v15 v18 v21).eval (.tmp 14) = a.eval (.tmp 14) := by
  have k3 : 3 < a.tmps.size := (by omega); have k4 : 4 < a.tmps.size := (by omega); have k5 : 5 < a.tmps.size := (by omega); have k15 : 15 < a.tmps.size := (by omega); have k18 : 18 < a.tmps.size := (by omega); have k21 : 21 < a.tmps.size := (by omega); simp [Fr, Act.put, Act.eval, Array.getElem?_setIfInBounds, *]
theorem Fr.e17 (hz : 22 ≤ a.tmps.size) : (Fr a v3 v4 v5 v15 v18 v21).eval (.tmp 17) = a.eval (.tmp 17) := by
  have k3 : 3 < a.tmps.size := (by omega); have k4 : 4 < a.tmps.size := (by omega); have k5 : 5 < a.tmps.size := (by omega); have k15 : 15 < a.tmps.size := (by omega); have k18 : 18 < a.tmps.size := (by omega); have k21 : 21 < a.tmps.size := (by omega); simp [Fr, Act.put, Act.eval, Array.getElem?_setIfInBounds, *]
theorem Fr.e20 (hz : 22 ≤ a.tmps.size) : (Fr a v3 v4 v5 v15 v18 v21).eval (.tmp 20) = a.eval (.tmp 20) := by
  have k3 : 3 < a.tmps.size := (by omega); have k4 : 4 < a.tmps.size := (by omega); have k5 : 5 < a.tmps.size := (by omega); have k15 : 15 < a.tmps.size := (by omega); have k18 : 18 < a.tmps.size := (by omega); have k21 : 21 < a.tmps.size := (by omega); simp [Fr, Act.put, Act.eval, Array.getElem?_setIfInBounds, *]
end

theorem new_ne {g g' : Nat} {w : World} {x y : Value} (h : g = w.heap.size) (hb : Box g' x y w) : g ≠ g' := by have := hb.1; omega

/-- One of the three variables: made (b), its clean pair stored (d). -/
def Slot (n : Nat) (b d : Bool) (v : Value) (g : Nat) (c0 c1 : Int) (w : World) : Prop :=
  (d = true → b = true) ∧ (b = true → v = .pointer (some ⟨g, 0, none⟩) ∧ n ≤ g ∧ ∃ y0 y1, Box g y0 y1 w ∧ (d = true → y0 = .int .u8 c0 ∧ y1 = .int .u8 c1))
theorem Slot.below {n g : Nat} {b d : Bool} {v : Value} {c0 c1 : Int} {w w' : World} (h : Slot n b d v g c0 c1 w) (hb : Below w.heap.size w w') : Slot n b d v g c0 c1 w' :=
  ⟨h.1, fun e => by obtain ⟨h1, h2, y0, y1, h3, h4⟩ := h.2 e; exact ⟨h1, h2, y0, y1, h3.below hb, h4⟩⟩
theorem Slot.far {n g m : Nat} {b d : Bool} {v : Value} {c0 c1 : Int} {w w' : World} {y0 y1 : Value} (h : Slot n b d v g c0 c1 w) (hw : w' = (w.setCell ⟨m, 0, none⟩ y0).setCell ⟨m, 1, none⟩ y1) (hm : b = true → m ≠ g) : Slot n b d v g c0 c1 w' :=
  ⟨h.1, fun e => by obtain ⟨h1, h2, z0, z1, h3, h4⟩ := h.2 e; exact ⟨h1, h2, z0, z1, hw ▸ h3.far (hm e) y0 y1, h4⟩⟩
theorem Slot.new {n g : Nat} {d : Bool} {v : Value} {c0 c1 : Int} {w w' : World} {x y : Value} (h : Slot n false d v g c0 c1 w) (g' : Nat) (hn : n ≤ g') (hb : Box g' x y w') : Slot n true d (.pointer (some ⟨g', 0, none⟩)) g' c0 c1 w' := by
  have hd : d = false := by cases d; · rfl
                            · exact absurd (h.1 rfl) (by simp)
  subst hd
  exact ⟨fun _ => rfl, fun _ => ⟨rfl, hn, x, y, hb, fun e => by cases e⟩⟩
theorem Slot.put {n g : Nat} {d : Bool} {v : Value} {c0 c1 : Int} {w w' : World} (h : Slot n true d v g c0 c1 w) (hw : w' = (w.setCell ⟨g, 0, none⟩ (.int .u8 c0)).setCell ⟨g, 1, none⟩ (.int .u8 c1)) : Slot n true true v g c0 c1 w' := by
  obtain ⟨h1, h2, z0, z1, h3, h4⟩ := h.2 rfl
  exact ⟨fun _ => rfl, fun _ => ⟨h1, h2, _, _, hw ▸ h3.put _ _, fun _ => ⟨rfl, rfl⟩⟩⟩

theorem op_alloc {P : Program} {md : Region.Mode} {ops : Array Oper} {i : Nat} {a : Act} {w : World} {K : Act → World → Prop} {Q : Exit → Act → World → Prop} {d : Tmp} {deps : List Nat} (ho : OpAt md ops i (some d) (.alloc 28) deps) (hP : P = Tryd.prog)
    (h : ∀ g w', g = w.heap.size → Box g (.int .u8 0) (.int .u8 0) w' → Below w.heap.size w w' → K (a.put (some d) (.pointer (some ⟨g, 0, none⟩))) w') :
    wpOp P ops Q i K a w := by
  obtain ⟨o, ho, hgd, hd, hop, _⟩ := ho
  refine wpOp_step ho fun K' hK => ?_
  have hw : Region.wanted o (yielded ops a.tmps) = true := by simp [Region.wanted, hgd]
  rw [if_pos hw]
  subst hP
  have hk := hK _ _ (h w.heap.size (w.alloc (.cells #[.int .u8 0, .int .u8 0] 28)) rfl (Box.new w _ _ _) (belowA (Below.refl _ _)))
  unfold Oper.wp execOp
  simp only [hop]
  simp [go_sem, hd]
  exact hk

theorem op_store {P : Program} {md : Region.Mode} {ops : Array Oper} {i : Nat} {a : Act} {w : World} {K : Act → World → Prop} {Q : Exit → Act → World → Prop} {p x : Operand} {deps : List Nat} (ho : OpAt md ops i none (.store 28 p x) deps) (hP : P = Tryd.prog)
    (g : Nat) (y0 y1 : Value) (c d : Int) (hp : a.eval p = .pointer (some ⟨g, 0, none⟩)) (hx : a.eval x = .agg #[.int .u8 c, .int .u8 d]) (hb : Box g y0 y1 w)
    (h : ∀ w', w' = (w.setCell ⟨g, 0, none⟩ (.int .u8 c)).setCell ⟨g, 1, none⟩ (.int .u8 d) → K a w') :
    wpOp P ops Q i K a w := by
  obtain ⟨o, ho, hgd, hd, hop, _⟩ := ho
  refine wpOp_step ho fun K' hK => ?_
  have hw : Region.wanted o (yielded ops a.tmps) = true := by simp [Region.wanted, hgd]
  rw [if_pos hw]
  subst hP
  have hk := hK _ _ (h _ rfl)
  obtain ⟨z, c0, c1, f0, f1⟩ := hb
  unfold Oper.wp execOp
  simp only [hop, hp, hx]
  simp [go_sem, hd, c0, c1, f0, f1]
  exact hk

theorem op_clean {P : Program} {md : Region.Mode} {ops : Array Oper} {i : Nat} {a : Act} {w : World} {K : Act → World → Prop} {Q : Exit → Act → World → Prop} {d t : Tmp} {deps : List Nat} (ho : OpAt md ops i (some d) (.call { callee := .value (.func 22), args := #[.tmp t], argTypes := #[28] }) deps) (hP : P = Tryd.prog)
    (x y : Int) (hx : a.eval (.tmp t) = .agg #[.int .u8 x, .int .u8 y])
    (h : ∀ w', Below w.heap.size w w' → K (a.put (some d) (.agg #[.int .u8 (cln x), .int .u8 (cln y)])) w') :
    wpOp P ops Q i K a w := by
  obtain ⟨o, ho, hgd, hd, hop, _⟩ := ho
  refine wpOp_step ho fun K' hK => ?_
  have hw : Region.wanted o (yielded ops a.tmps) = true := by simp [Region.wanted, hgd]
  rw [if_pos hw]
  subst hP
  unfold Oper.wp execOp
  simp only [hop]
  simp [go_sem, hd]
  have hx2 : a.tmps[t]?.getD undef = .agg #[.int .u8 x, .int .u8 y] := by
    rw [← hx]; simp [Act.eval]
  rw [hx2]
  with_reducible refine Calls.mono (lclean_any x y w) ?_
  rintro e w' ⟨rfl, hb⟩
  exact hK _ _ (h w' hb)

/-- Every one waits only for those ahead of it. -/
def early (ops : Array Oper) : Bool := (List.range ops.size).all fun i => ((ops[i]?).map fun o => o.after.all fun e => decide (e.on < i)).getD true
theorem early_spec {ops : Array Oper} (h : early ops = true) {i : Nat} {o : Oper} (ho : ops[i]? = some o) {e : Edge} (he : e ∈ o.after) : e.on < i := by
  have hi : i < ops.size := (Array.getElem?_eq_some_iff.1 ho).1
  have h1 := List.all_eq_true.1 h i (List.mem_range.2 hi)
  rw [ho] at h1
  simp only [Option.map_some, Option.getD_some] at h1
  simpa using Array.all_eq_true_iff_forall_mem.1 h1 e he
theorem all_up {md : Region.Mode} {ops : Array Oper} {l : Array Bool} (h : early ops = true) (hs : l.size = ops.size) (hr : Region.ready md ops l = []) (i : Nat) (hi : i < ops.size) : l.getD i false = true := by
  induction i using Nat.strongRecOn with
  | _ i ih =>
    by_cases hc : l.getD i false = true
    · exact hc
    · have hm : i ∈ Region.ready md ops l := by
        refine mem_ready.2 ⟨?_, ops[i], Array.getElem?_eq_getElem hi, fun e he hb => ?_⟩
        · have hi' : i < l.size := by omega
          simp [hi'] at hc ⊢
          exact hc
        · have := early_spec h (Array.getElem?_eq_getElem hi) he
          exact ih e.on this (by omega)
      rw [hr] at hm
      cases hm
theorem dep_of {md : Region.Mode} {ops : Array Oper} {i : Nat} {dst : Option Tmp} {op : Op} {deps : List Nat} {o : Oper} {l : Array Bool} (h : OpAt md ops i dst op deps) (ho : ops[i]? = some o) (hall : ∀ e ∈ o.after, Region.binds md e = true → l.getD e.on false = true) (k : Nat) (hk : k ∈ deps) : l.getD k false = true := by
  obtain ⟨o', ho', _, _, _, hd⟩ := h
  rw [ho] at ho'
  cases ho'
  exact waits (List.all_eq_true.1 hd k hk) hall
theorem Slot.old {n g : Nat} {b d : Bool} {v : Value} {c0 c1 : Int} {w : World} (h : Slot n b d v g c0 c1 w) (hb : b = true) : g < w.heap.size := by
  obtain ⟨_, _, y0, y1, h3, _⟩ := h.2 hb
  exact h3.1

/-- What holds whatever has come up. -/
def Inv (a9 : Act) (w1 : World) (x0 y0 x1 y1 x2 y2 : Int) (l : Array Bool) (a : Act) (w : World) : Prop :=
  ∃ (b2 b5 b8 b9 b10 b11 b12 b13 b14 : Bool) (v3 v4 v5 v15 v18 v21 : Value) (g3 g4 g5 : Nat), l = #[true, true, b2, true, true, b5, true, true, b8, b9, b10, b11, b12, b13, b14] ∧ a = Fr a9 v3 v4 v5 v15 v18 v21 ∧ Below w1.heap.size w1 w ∧
    (b2 = true → v15 = Value.agg #[.int .u8 (cln x0), .int .u8 (cln y0)]) ∧ (b5 = true → v18 = Value.agg #[.int .u8 (cln x1), .int .u8 (cln y1)]) ∧ (b8 = true → v21 = Value.agg #[.int .u8 (cln x2), .int .u8 (cln y2)]) ∧
    Slot w1.heap.size b9 b12 v3 g3 (cln x0) (cln y0) w ∧ Slot w1.heap.size b10 b13 v4 g4 (cln x1) (cln y1) w ∧ Slot w1.heap.size b11 b14 v5 g5 (cln x2) (cln y2) w ∧
    (b9 = true → b10 = true → g3 ≠ g4) ∧ (b9 = true → b11 = true → g3 ≠ g5) ∧ (b10 = true → b11 = true → g4 ≠ g5)

theorem pjn_reg {Q : Exit → Act → World → Prop} {S : World → Prop} {md : Region.Mode} {ops : Array Oper} {w1 : World} (a9 : Act) (x0 y0 x1 y1 x2 y2 : Int)
    (h15 : ops.size = 15) (hea : early ops = true)
    (h2 : OpAt md ops 2 (some 15) (.call { callee := .value (.func 22), args := #[.tmp 14], argTypes := #[28] }) [])
    (h5 : OpAt md ops 5 (some 18) (.call { callee := .value (.func 22), args := #[.tmp 17], argTypes := #[28] }) [])
    (h8 : OpAt md ops 8 (some 21) (.call { callee := .value (.func 22), args := #[.tmp 20], argTypes := #[28] }) [])
    (h9 : OpAt md ops 9 (some 3) (.alloc 28) [])
    (h10 : OpAt md ops 10 (some 4) (.alloc 28) [])
    (h11 : OpAt md ops 11 (some 5) (.alloc 28) [])
    (h12 : OpAt md ops 12 none (.store 28 (.tmp 3) (.tmp 15)) [2, 9])
    (h13 : OpAt md ops 13 none (.store 28 (.tmp 4) (.tmp 18)) [5, 10])
    (h14 : OpAt md ops 14 none (.store 28 (.tmp 5) (.tmp 21)) [8, 11])
    (hz : 22 ≤ a9.tmps.size) (e14 : a9.eval (.tmp 14) = .agg #[.int .u8 x0, .int .u8 y0]) (e17 : a9.eval (.tmp 17) = .agg #[.int .u8 x1, .int .u8 y1]) (e20 : a9.eval (.tmp 20) = .agg #[.int .u8 x2, .int .u8 y2])
    (hfr : a9 = Fr a9 undef undef undef undef undef undef)
    (hS : ∀ w', Below w1.heap.size w1 w' → S w')
    (hQ : ∀ g3 g4 g5 w', Below w1.heap.size w1 w' → Box g3 (.int .u8 (cln x0)) (.int .u8 (cln y0)) w' → Box g4 (.int .u8 (cln x1)) (.int .u8 (cln y1)) w' → Box g5 (.int .u8 (cln x2)) (.int .u8 (cln y2)) w' →
      Q .normal (Fr a9 (.pointer (some ⟨g3, 0, none⟩)) (.pointer (some ⟨g4, 0, none⟩)) (.pointer (some ⟨g5, 0, none⟩)) (Value.agg #[.int .u8 (cln x0), .int .u8 (cln y0)]) (Value.agg #[.int .u8 (cln x1), .int .u8 (cln y1)]) (Value.agg #[.int .u8 (cln x2), .int .u8 (cln y2)])) w')
    (w : World) (hw : Below w1.heap.size w1 w) : wpAnyH Tryd.prog md ops Q S 9 #[true, true, false, true, true, false, true, true, false, false, false, false, false, false, false] a9 w := by
  refine held_inv (Inv a9 w1 x0 y0 x1 y1 x2 y2) ?_ ?_ ?_ ?_ 9 _ a9 w (by decide) ?_
  · rintro l a w ⟨b2, b5, b8, b9, b10, b11, b12, b13, b14, v3, v4, v5, v15, v18, v21, g3, g4, g5, rfl, -⟩
    rw [h15]; rfl
  · rintro l a w ⟨b2, b5, b8, b9, b10, b11, b12, b13, b14, v3, v4, v5, v15, v18, v21, g3, g4, g5, -, -, hb, -⟩
    exact hS _ hb
  · rintro l a w i o ⟨b2, b5, b8, b9, b10, b11, b12, b13, b14, v3, v4, v5, v15, v18, v21, g3, g4, g5, rfl, rfl, hB, c2, c5, c8, S3, S4, S5, d34, d35, d45⟩ ho h0 hall
    have hi : i < 15 := h15 ▸ (Array.getElem?_eq_some_iff.1 ho).1
    have hcs : i = 0 ∨ i = 1 ∨ i = 2 ∨ i = 3 ∨ i = 4 ∨ i = 5 ∨ i = 6 ∨ i = 7 ∨ i = 8 ∨ i = 9 ∨ i = 10 ∨ i = 11 ∨ i = 12 ∨ i = 13 ∨ i = 14 := by omega
    rcases hcs with rfl | rfl | rfl | rfl | rfl | rfl | rfl | rfl | rfl | rfl | rfl | rfl | rfl | rfl | rfl
    · exact absurd (show true = false from h0) (by decide)
    · exact absurd (show true = false from h0) (by decide)
    · obtain rfl : b2 = false := h0
      refine op_clean h2 rfl _ _ (by rw [Fr.e14 _ _ _ _ _ _ _ hz]; exact e14) fun w' hb => ?_
      exact ⟨true, b5, b8, b9, b10, b11, b12, b13, b14, v3, v4, v5, _, v18, v21, g3, g4, g5, rfl, Fr.p15 .., joinB hB hb, fun _ => rfl, c5, c8, S3.below hb, S4.below hb, S5.below hb, d34, d35, d45⟩
    · exact absurd (show true = false from h0) (by decide)
    · exact absurd (show true = false from h0) (by decide)
    · obtain rfl : b5 = false := h0
      refine op_clean h5 rfl _ _ (by rw [Fr.e17 _ _ _ _ _ _ _ hz]; exact e17) fun w' hb => ?_
      exact ⟨b2, true, b8, b9, b10, b11, b12, b13, b14, v3, v4, v5, v15, _, v21, g3, g4, g5, rfl, Fr.p18 .., joinB hB hb, c2, fun _ => rfl, c8, S3.below hb, S4.below hb, S5.below hb, d34, d35, d45⟩
    · exact absurd (show true = false from h0) (by decide)
    · exact absurd (show true = false from h0) (by decide)
    · obtain rfl : b8 = false := h0
      refine op_clean h8 rfl _ _ (by rw [Fr.e20 _ _ _ _ _ _ _ hz]; exact e20) fun w' hb => ?_
      exact ⟨b2, b5, true, b9, b10, b11, b12, b13, b14, v3, v4, v5, v15, v18, _, g3, g4, g5, rfl, Fr.p21 .., joinB hB hb, c2, c5, fun _ => rfl, S3.below hb, S4.below hb, S5.below hb, d34, d35, d45⟩
    · obtain rfl : b9 = false := h0
      refine op_alloc h9 rfl fun g w' hg hX hb => ?_
      have hn : w1.heap.size ≤ g := hg ▸ hB.size
      exact ⟨b2, b5, b8, true, b10, b11, b12, b13, b14, _, v4, v5, v15, v18, v21, g, g4, g5, rfl, Fr.p3 .., joinB hB hb, c2, c5, c8, S3.new g hn hX, S4.below hb, S5.below hb, (fun _ e => by have := S4.old e; omega), (fun _ e => by have := S5.old e; omega), d45⟩
    · obtain rfl : b10 = false := h0
      refine op_alloc h10 rfl fun g w' hg hX hb => ?_
      have hn : w1.heap.size ≤ g := hg ▸ hB.size
      exact ⟨b2, b5, b8, b9, true, b11, b12, b13, b14, v3, _, v5, v15, v18, v21, g3, g, g5, rfl, Fr.p4 .., joinB hB hb, c2, c5, c8, S3.below hb, S4.new g hn hX, S5.below hb, (fun e _ => by have := S3.old e; omega), d35, (fun _ e => by have := S5.old e; omega)⟩
    · obtain rfl : b11 = false := h0
      refine op_alloc h11 rfl fun g w' hg hX hb => ?_
      have hn : w1.heap.size ≤ g := hg ▸ hB.size
      exact ⟨b2, b5, b8, b9, b10, true, b12, b13, b14, v3, v4, _, v15, v18, v21, g3, g4, g, rfl, Fr.p5 .., joinB hB hb, c2, c5, c8, S3.below hb, S4.below hb, S5.new g hn hX, d34, (fun e _ => by have := S3.old e; omega), (fun e _ => by have := S4.old e; omega)⟩
    · obtain rfl : b12 = false := h0
      obtain rfl : b2 = true := dep_of h12 ho hall 2 (by decide)
      obtain rfl : b9 = true := dep_of h12 ho hall 9 (by decide)
      obtain ⟨hv, hn, z0, z1, hX, -⟩ := S3.2 rfl
      refine op_store h12 rfl g3 z0 z1 _ _ (by rw [Fr.e3 _ _ _ _ _ _ _ hz]; exact hv) (by rw [Fr.e15 _ _ _ _ _ _ _ hz]; exact c2 rfl) hX fun w' hw' => ?_
      have hB' : Below w1.heap.size w1 w' := by rw [hw']; exact below_put hB hn _ _
      exact ⟨true, b5, b8, true, b10, b11, true, b13, b14, v3, v4, v5, v15, v18, v21, g3, g4, g5, rfl, rfl, hB', c2, c5, c8, S3.put hw', S4.far hw' (fun e => d34 rfl e), S5.far hw' (fun e => d35 rfl e), d34, d35, d45⟩
    · obtain rfl : b13 = false := h0
      obtain rfl : b5 = true := dep_of h13 ho hall 5 (by decide)
      obtain rfl : b10 = true := dep_of h13 ho hall 10 (by decide)
      obtain ⟨hv, hn, z0, z1, hX, -⟩ := S4.2 rfl
      refine op_store h13 rfl g4 z0 z1 _ _ (by rw [Fr.e4 _ _ _ _ _ _ _ hz]; exact hv) (by rw [Fr.e18 _ _ _ _ _ _ _ hz]; exact c5 rfl) hX fun w' hw' => ?_
      have hB' : Below w1.heap.size w1 w' := by rw [hw']; exact below_put hB hn _ _
      exact ⟨b2, true, b8, b9, true, b11, b12, true, b14, v3, v4, v5, v15, v18, v21, g3, g4, g5, rfl, rfl, hB', c2, c5, c8, S3.far hw' (fun e => (d34 e rfl).symm), S4.put hw', S5.far hw' (fun e => d45 rfl e), d34, d35, d45⟩
    · obtain rfl : b14 = false := h0
      obtain rfl : b8 = true := dep_of h14 ho hall 8 (by decide)
      obtain rfl : b11 = true := dep_of h14 ho hall 11 (by decide)
      obtain ⟨hv, hn, z0, z1, hX, -⟩ := S5.2 rfl
      refine op_store h14 rfl g5 z0 z1 _ _ (by rw [Fr.e5 _ _ _ _ _ _ _ hz]; exact hv) (by rw [Fr.e21 _ _ _ _ _ _ _ hz]; exact c8 rfl) hX fun w' hw' => ?_
      have hB' : Below w1.heap.size w1 w' := by rw [hw']; exact below_put hB hn _ _
      exact ⟨b2, b5, true, b9, b10, true, b12, b13, true, v3, v4, v5, v15, v18, v21, g3, g4, g5, rfl, rfl, hB', c2, c5, c8, S3.far hw' (fun e => (d35 e rfl).symm), S4.far hw' (fun e => (d45 e rfl).symm), S5.put hw', d34, d35, d45⟩
  · rintro l a w ⟨b2, b5, b8, b9, b10, b11, b12, b13, b14, v3, v4, v5, v15, v18, v21, g3, g4, g5, rfl, rfl, hB, c2, c5, c8, S3, S4, S5, d34, d35, d45⟩ hr
    have hall := all_up hea (by rw [h15]; rfl) hr
    obtain rfl : b2 = true := hall 2 (by omega)
    obtain rfl : b5 = true := hall 5 (by omega)
    obtain rfl : b8 = true := hall 8 (by omega)
    obtain rfl : b9 = true := hall 9 (by omega)
    obtain rfl : b10 = true := hall 10 (by omega)
    obtain rfl : b11 = true := hall 11 (by omega)
    obtain rfl : b12 = true := hall 12 (by omega)
    obtain rfl : b13 = true := hall 13 (by omega)
    obtain rfl : b14 = true := hall 14 (by omega)
    obtain ⟨rfl, -, _, _, X3, f3⟩ := S3.2 rfl
    obtain ⟨rfl, -, _, _, X4, f4⟩ := S4.2 rfl
    obtain ⟨rfl, -, _, _, X5, f5⟩ := S5.2 rfl
    obtain ⟨rfl, rfl⟩ := f3 rfl
    obtain ⟨rfl, rfl⟩ := f4 rfl
    obtain ⟨rfl, rfl⟩ := f5 rfl
    obtain rfl := c2 rfl
    obtain rfl := c5 rfl
    obtain rfl := c8 rfl
    exact hQ g3 g4 g5 w hB X3 X4 X5
  · have no : ∀ (v : Value) (c0 c1 : Int), Slot w1.heap.size false false v 0 c0 c1 w := fun _ _ _ => ⟨fun e => e, fun e => by cases e⟩
    exact ⟨false, false, false, false, false, false, false, false, false, undef, undef, undef, undef, undef, undef, 0, 0, 0, rfl, hfr, hw, (fun e => by cases e), (fun e => by cases e), (fun e => by cases e), no _ _ _, no _ _ _, no _ _ _, (fun e => by cases e), (fun e => by cases e), (fun e => by cases e)⟩

end Go.Proofs.YtnddgkcgedkabaaDoor
