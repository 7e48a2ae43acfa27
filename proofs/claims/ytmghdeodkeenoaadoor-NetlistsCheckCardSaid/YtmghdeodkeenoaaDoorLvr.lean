/- The drawn region of lives: three copies, three variables. By an invariant: whichever operation comes up keeps it. -/
import Derived.Test.YtmghdeodkeenoaaDoorLiv
import Derived.Deep.DeepCutAuto
import Derived.Deep.RegionHeld3
namespace Go.Proofs.YtmghdeodkeenoaaDoor
open Go.RowKit

section
variable {P : Program} {md : Region.Mode} {ops : Array Oper} {Q : Exit → Act → World → Prop} {S : World → Prop}

theorem left_less {l : Array Bool} {i : Nat} {o : Oper} (hs : l.size = ops.size) (ho : ops[i]? = some o) (h : l.getD i true = false) : (l.setIfInBounds i true).toList.countP (fun b => !b) < l.toList.countP (fun b => !b) := by
  have hi : i < l.toList.length := by
    have := (Array.getElem?_eq_some_iff.1 ho).1
    simp; omega
  have hv : l.toList[i] = false := by
    have hi' : i < l.size := by simpa using hi
    simpa [hi'] using h
  have hp : 0 < l.toList.countP (fun b => !b) := List.countP_pos_iff.2 ⟨_, List.getElem_mem hi, by simp [hv]⟩
  rw [Array.toList_setIfInBounds, List.countP_set hi, hv]
  simp only [Bool.not_false, Bool.not_true, if_true, Bool.false_eq_true, if_false]
  omega

theorem held_inv (J : Array Bool → Act → World → Prop)
    (hz : ∀ l a w, J l a w → l.size = ops.size) (hJS : ∀ l a w, J l a w → S w)
    (hstep : ∀ l a w i o, J l a w → ops[i]? = some o → l.getD i true = false → (∀ e ∈ o.after, Region.binds md e = true → l.getD e.on false = true) →
      wpOp P ops Q i (fun a' w' => J (l.setIfInBounds i true) a' w') a w)
    (hdone : ∀ l a w, J l a w → Region.ready md ops l = [] → Q .normal a w) :
    ∀ (fuel : Nat) (l : Array Bool) (a : Act) (w : World), l.toList.countP (fun b => !b) ≤ fuel → J l a w → wpAnyH P md ops Q S fuel l a w := by
  intro fuel
  induction fuel with
  | zero =>
    intro l a w hc hj
    have hr : Region.ready md ops l = [] := by
      apply List.eq_nil_iff_forall_not_mem.2
      intro i hi
      obtain ⟨h0, o, ho, _⟩ := mem_ready.1 hi
      have := left_less (hz l a w hj) ho h0
      omega
    exact ⟨hr, hdone l a w hj hr⟩
  | succ fuel ih =>
    intro l a w hc hj
    refine ⟨fun hr => hdone l a w hj hr, fun i hi => ?_⟩
    obtain ⟨h0, o, ho, hall⟩ := mem_ready.1 hi
    have hl := left_less (hz l a w hj) ho h0
    exact wpOp_mono (fun a' w' h => ⟨hJS _ _ _ h, ih _ a' w' (by omega) h⟩) (hstep l a w i o hj ho h0 hall)

/-- What is known of one operation: its place, its op, and whom it waits for. -/
def OpAt (md : Region.Mode) (ops : Array Oper) (i : Nat) (dst : Option Tmp) (op : Op) (deps : List Nat) : Prop :=
  ∃ o, ops[i]? = some o ∧ o.guard = none ∧ o.dst = dst ∧ o.op = op ∧ (deps.all fun k => o.after.any fun e => e.on == k && Region.binds md e) = true

theorem waits {l : Array Bool} {o : Oper} {k : Nat} (h : o.after.any (fun e => e.on == k && Region.binds md e) = true) (hall : ∀ e ∈ o.after, Region.binds md e = true → l.getD e.on false = true) : l.getD k false = true := by
  rw [Array.any_eq_true'] at h
  obtain ⟨e, he, hb⟩ := h
  simp only [Bool.and_eq_true, beq_iff_eq] at hb
  have := hall e he hb.2
  rwa [hb.1] at this
end


/-- The frame with six temporaries of its own. -/
def Gr (a : Act) (v8 v9 v10 v80 v82 v84 : Value) : Act := ((((((a.put (some 8) v8).put (some 9) v9).put (some 10) v10).put (some 80) v80).put (some 82) v82).put (some 84) v84)
section
variable (a : Act) (v8 v9 v10 v80 v82 v84 u : Value)
theorem Gr.p8 : (Gr a v8 v9 v10 v80 v82 v84).put (some 8) u = Gr a u v9 v10 v80 v82 v84 := by
  simp only [Gr, Act.put, Act.mk.injEq, and_true]; apply Array.ext_getElem?; intro i; by_cases h8 : 8 = i; (subst h8; simp [Array.getElem?_setIfInBounds]); by_cases h9 : 9 = i; (subst h9; simp [Array.getElem?_setIfInBounds]); by_cases h10 : 10 = i; (subst h10; simp [Array.getElem?_setIfInBounds]); by_cases h80 : 80 = i; (subst h80; simp [Array.getElem?_setIfInBounds]); by_cases h82 : 82 = i; (subst h82; simp [Array.getElem?_setIfInBounds]); by_cases h84 : 84 = i; (subst h84; simp [Array.getElem?_setIfInBounds]); simp [Array.getElem?_setIfInBounds, h8, h9, h10, h80, h82, h84]
theorem Gr.p9 : (Gr a v8 v9 v10 v80 v82 v84).put (some 9) u = Gr a v8 u v10 v80 v82 v84 := by
  simp only [Gr, Act.put, Act.mk.injEq, and_true]; apply Array.ext_getElem?; intro i; by_cases h8 : 8 = i; (subst h8; simp [Array.getElem?_setIfInBounds]); by_cases h9 : 9 = i; (subst h9; simp [Array.getElem?_setIfInBounds]); by_cases h10 : 10 = i; (subst h10; simp [Array.getElem?_setIfInBounds]); by_cases h80 : 80 = i; (subst h80; simp [Array.getElem?_setIfInBounds]); by_cases h82 : 82 = i; (subst h82; simp [Array.getElem?_setIfInBounds]); by_cases h84 : 84 = i; (subst h84; simp [Array.getElem?_setIfInBounds]); simp [Array.getElem?_setIfInBounds, h8, h9, h10, h80, h82, h84]
theorem Gr.p10 : (Gr a v8 v9 v10 v80 v82 v84).put (some 10) u = Gr a v8 v9 u v80 v82 v84 := by
  simp only [Gr, Act.put, Act.mk.injEq, and_true]; apply Array.ext_getElem?; intro i; by_cases h8 : 8 = i; (subst h8; simp [Array.getElem?_setIfInBounds]); by_cases h9 : 9 = i; (subst h9; simp [Array.getElem?_setIfInBounds]); by_cases h10 : 10 = i; (subst h10; simp [Array.getElem?_setIfInBounds]); by_cases h80 : 80 = i; (subst h80; simp [Array.getElem?_setIfInBounds]); by_cases h82 : 82 = i; (subst h82; simp [Array.getElem?_setIfInBounds]); by_cases h84 : 84 = i; (subst h84; simp [Array.getElem?_setIfInBounds]); simp [Array.getElem?_setIfInBounds, h8, h9, h10, h80, h82, h84]
theorem Gr.p80 : (Gr a v8 v9 v10 v80 v82 v84).put (some 80) u = Gr a v8 v9 v10 u v82 v84 := by
  simp only [Gr, Act.put, Act.mk.injEq, and_true]; apply Array.ext_getElem?; intro i; by_cases h8 : 8 = i; (subst h8; simp [Array.getElem?_setIfInBounds]); by_cases h9 : 9 = i; (subst h9; simp [Array.getElem?_setIfInBounds]); by_cases h10 : 10 = i; (subst h10; simp [Array.getElem?_setIfInBounds]); by_cases h80 : 80 = i; (subst h80; simp [Array.getElem?_setIfInBounds]); by_cases h82 : 82 = i; (subst h82; simp [Array.getElem?_setIfInBounds]); by_cases h84 : 84 = i; (subst h84; simp [Array.getElem?_setIfInBounds]); simp [Array.getElem?_setIfInBounds, h8, h9, h10, h80, h82, h84]
theorem Gr.p82 : (Gr a v8 v9 v10 v80 v82 v84).put (some 82) u = Gr a v8 v9 v10 v80 u v84 := by
  simp only [Gr, Act.put, Act.mk.injEq, and_true]; apply Array.ext_getElem?; intro i; by_cases h8 : 8 = i; (subst h8; simp [Array.getElem?_setIfInBounds]); by_cases h9 : 9 = i; (subst h9; simp [Array.getElem?_setIfInBounds]); by_cases h10 : 10 = i; (subst h10; simp [Array.getElem?_setIfInBounds]); by_cases h80 : 80 = i; (subst h80; simp [Array.getElem?_setIfInBounds]); by_cases h82 : 82 = i; (subst h82; simp [Array.getElem?_setIfInBounds]); by_cases h84 : 84 = i; (subst h84; simp [Array.getElem?_setIfInBounds]); simp [Array.getElem?_setIfInBounds, h8, h9, h10, h80, h82, h84]
theorem Gr.p84 : (Gr a v8 v9 v10 v80 v82 v84).put (some 84) u = Gr a v8 v9 v10 v80 v82 u := by
  simp only [Gr, Act.put, Act.mk.injEq, and_true]; apply Array.ext_getElem?; intro i; by_cases h8 : 8 = i; (subst h8; simp [Array.getElem?_setIfInBounds]); by_cases h9 : 9 = i; (subst h9; simp [Array.getElem?_setIfInBounds]); by_cases h10 : 10 = i; (subst h10; simp [Array.getElem?_setIfInBounds]); by_cases h80 : 80 = i; (subst h80; simp [Array.getElem?_setIfInBounds]); by_cases h82 : 82 = i; (subst h82; simp [Array.getElem?_setIfInBounds]); by_cases h84 : 84 = i; (subst h84; simp [Array.getElem?_setIfInBounds]); simp [Array.getElem?_setIfInBounds, h8, h9, h10, h80, h82, h84]
theorem Gr.e8 (hz : 85 ≤ a.tmps.size) : (Gr a v8 v9 v10 v80 v82 v84).eval (.tmp 8) = v8 := by
  have k8 : 8 < a.tmps.size := (by omega); have k9 : 9 < a.tmps.size := (by omega); have k10 : 10 < a.tmps.size := (by omega); have k80 : 80 < a.tmps.size := (by omega); have k82 : 82 < a.tmps.size := (by omega); have k84 : 84 < a.tmps.size := (by omega); simp [Gr, Act.put, Act.eval, Array.getElem?_setIfInBounds, *]
theorem Gr.e9 (hz : 85 ≤ a.tmps.size) : (Gr a v8 v9 v10 v80 v82 v84).eval (.tmp 9) = v9 := by
  have k8 : 8 < a.tmps.size := (by omega); have k9 : 9 < a.tmps.size := (by omega); have k10 : 10 < a.tmps.size := (by omega); have k80 : 80 < a.tmps.size := (by omega); have k82 : 82 < a.tmps.size := (by omega); have k84 : 84 < a.tmps.size := (by omega); simp [Gr, Act.put, Act.eval, Array.getElem?_setIfInBounds, *]
theorem Gr.e10 (hz : 85 ≤ a.tmps.size) : (Gr a v8 v9 v10 v80 v82 v84).eval (.tmp 10) = v10 := by
  have k8 : 8 < a.tmps.size := (by omega); have k9 : 9 < a.tmps.size := (by omega); have k10 : 10 < a.tmps.size := (by omega); have k80 : 80 < a.tmps.size := (by omega); have k82 : 82 < a.tmps.size := (by omega); have k84 : 84 < a.tmps.size := (by omega); simp [Gr, Act.put, Act.eval, Array.getElem?_setIfInBounds, *]
theorem Gr.e80 (hz : 85 ≤ a.tmps.size) : (Gr a v8 v9 v10 v80 v82 v84).eval (.tmp 80) = v80 := by
  have k8 : 8 < a.tmps.size := (by omega); have k9 : 9 < a.tmps.size := (by omega); have k10 : 10 < a.tmps.size := (by omega); have k80 : 80 < a.tmps.size := (by omega); have k82 : 82 < a.tmps.size := (by omega); have k84 : 84 < a.tmps.size := (by omega); simp [Gr, Act.put, Act.eval, Array.getElem?_setIfInBounds, *]
theorem Gr.e82 (hz : 85 ≤ a.tmps.size) : (Gr a v8 v9 v10 v80 v82 v84).eval (.tmp 82) = v82 := by
  have k8 : 8 < a.tmps.size := (by omega); have k9 : 9 < a.tmps.size := (by omega); have k10 : 10 < a.tmps.size := (by omega); have k80 : 80 < a.tmps.size := (by omega); have k82 : 82 < a.tmps.size := (by omega); have k84 : 84 < a.tmps.size := (by omega); simp [Gr, Act.put, Act.eval, Array.getElem?_setIfInBounds, *]
theorem Gr.e84 (hz : 85 ≤ a.tmps.size) : (Gr a v8 v9 v10 v80 v82 v84).eval (.tmp 84) = v84 := by
  have k8 : 8 < a.tmps.size := (by omega); have k9 : 9 < a.tmps.size := (by omega); have k10 : 10 < a.tmps.size := (by omega); have k80 : 80 < a.tmps.size := (by omega); have k82 : 82 < a.tmps.size := (by omega); have k84 : 84 < a.tmps.size := (by omega); simp [Gr, Act.put, Act.eval, Array.getElem?_setIfInBounds, *]
theorem Gr.e79 (hz : 85 ≤ a.tmps.size) : (Gr a v8 v9 v10 v80 v82 v84).eval (.tmp 79) = a.eval (.tmp 79) := by
  have k8 : 8 < a.tmps.size := (by omega); have k9 : 9 < a.tmps.size := (by omega); have k10 : 10 < a.tmps.size := (by omega); have k80 : 80 < a.tmps.size := (by omega); have k82 : 82 < a.tmps.size := (by omega); have k84 : 84 < a.tmps.size := (by omega); simp [Gr, Act.put, Act.eval, Array.getElem?_setIfInBounds, *]
theorem Gr.e81 (hz : 85 ≤ a.tmps.size) : (Gr a v8 v9 v10 v80 v82 v84).eval (.tmp 81) = a.eval (.tmp 81) := by
  have k8 : 8 < a.tmps.size := (by omega); have k9 : 9 < a.tmps.size := (by omega); have k10 : 10 < a.tmps.size := (by omega); have k80 : 80 < a.tmps.size := (by omega); have k82 : 82 < a.tmps.size := (by omega); have k84 : 84 < a.tmps.size := (by omega); simp [Gr, Act.put, Act.eval, Array.getElem?_setIfInBounds, *]
theorem Gr.e83 (hz : 85 ≤ a.tmps.size) : (Gr a v8 v9 v10 v80 v82 v84).eval (.tmp 83) = a.eval (.tmp 83) := by
  have k8 : 8 < a.tmps.size := (by omega); have k9 : 9 < a.tmps.size := (by omega); have k10 : 10 < a.tmps.size := (by omega); have k80 : 80 < a.tmps.size := (by omega); have k82 : 82 < a.tmps.size := (by omega); have k84 : 84 < a.tmps.size := (by omega); simp [Gr, Act.put, Act.eval, Array.getElem?_setIfInBounds, *]
end

section
variable {x : Ck} {G g0 g1 g2 g3 : Nat} {h ha hd : Nat → Nat} {w w' : World}
theorem OwnC.kept (H : OwnC x G g0 g1 g2 g3 h ha hd w) {m : Nat} (hg : w.grownBy w' (some m)) (n0 : g0 ≠ m) (n1 : g1 ≠ m) (n2 : g2 ≠ m) (n3 : g3 ≠ m) (nh : ∀ k, k < x.nodes.length → h k ≠ m) (na : ∀ k, k < x.mems.length → ha k ≠ m ∧ hd k ≠ m) : OwnC x G g0 g1 g2 g3 h ha hd w' :=
  ⟨H.low, H.f0.kept hg (by simpa using n0), H.f1.kept hg (by simpa using n1), H.f2.kept hg (by simpa using n2), H.f3.kept hg (by simpa using n3), fun k hk => ⟨(H.rn k hk).1, (H.rn k hk).2.kept hg (by simpa using nh k hk)⟩,
    fun k hk => ⟨(H.rm k hk).1, (H.rm k hk).2.1.kept hg (by simpa using (na k hk).1), (H.rm k hk).2.2.1, (H.rm k hk).2.2.2.kept hg (by simpa using (na k hk).2)⟩, H.nn, H.nm, H.mm, H.ml⟩
end
/-- A copy of the example in blocks from G up to H. -/
def Cp (v : Value) (G H : Nat) (w : World) : Prop :=
  ∃ g0 g1 g2 g3 h ha hd, v = .agg #[.slice (some ⟨g0, 0, none⟩) 4 4, .slice (some ⟨g1, 0, none⟩) 4 4, .slice (some ⟨g2, 0, none⟩) 0 0, .slice (some ⟨g3, 0, none⟩) 1 1] ∧ OwnC Ex G g0 g1 g2 g3 h ha hd w ∧ g3 < H ∧ (∀ k, k < 4 → h k < H) ∧ H ≤ w.heap.size
theorem Cp.below {v : Value} {G H : Nat} {w w' : World} (h : Cp v G H w) (hb : Below w.heap.size w w') : Cp v G H w' := by
  obtain ⟨g0, g1, g2, g3, h, ha, hd, e, ho, k1, k2, k3⟩ := h
  exact ⟨g0, g1, g2, g3, h, ha, hd, e, ho.below hb, k1, k2, Nat.le_trans k3 hb.size⟩
theorem Cp.kept {v : Value} {G H m : Nat} {w w' : World} (h : Cp v G H w) (hg : w.grownBy w' (some m)) (hm : m < G ∨ H ≤ m) : Cp v G H w' := by
  obtain ⟨g0, g1, g2, g3, h, ha, hd, e, ho, k1, k2, k3⟩ := h
  have hl := ho.low
  refine ⟨g0, g1, g2, g3, h, ha, hd, e, ho.kept hg (by omega) (by omega) (by omega) (by omega) (fun k hk => ?_) (fun k hk => absurd hk (by simp [Ex])), k1, k2, Nat.le_trans k3 hg.size⟩
  have h1 := (ho.rn k hk).1
  have h2 := k2 k hk
  omega
theorem cp_ex {w W : World} {q : Nat} {A0 A1 A2 A3 : Option Addr} {c0 c1 c2 c3 : Nat} (h : LW w q A0 A1 A2 A3 c0 c1 c2 c3 W) : Calls Tryd.prog 13 #[.agg #[.slice A0 4 c0, .slice A1 4 c1, .slice A2 0 c2, .slice A3 1 c3]] W
    fun e w' => ∃ v, e = .returned v ∧ Cp v W.heap.size w'.heap.size w' ∧ Below W.heap.size W w' := by
  refine (cpy_ex h (Below.refl _ _)).mono fun e w' ⟨⟨g0, g1, g2, g3, h, ha, hd, h1, h2⟩, h3, _⟩ => ?_
  exact ⟨_, h1, ⟨g0, g1, g2, g3, h, ha, hd, rfl, h2, h2.f3.lt, fun k hk => (h2.rn k hk).2.lt, Nat.le_refl _⟩, h3⟩

/-- One of the three variables: made (b), its copy stored (d). -/
def Slt (n : Nat) (b d : Bool) (v : Value) (g : Nat) (u : Value) (w : World) : Prop :=
  (d = true → b = true) ∧ (b = true → v = .pointer (some ⟨g, 0, none⟩) ∧ n ≤ g ∧ ∃ l, l.length = 4 ∧ Fr w g 27 l ∧ (d = true → u = .agg l.toArray))
section
variable {n g : Nat} {b d : Bool} {v u : Value} {w w' : World}
theorem Slt.below (h : Slt n b d v g u w) (hb : Below w.heap.size w w') : Slt n b d v g u w' :=
  ⟨h.1, fun e => by obtain ⟨h1, h2, l, h3, h4, h5⟩ := h.2 e; exact ⟨h1, h2, l, h3, h4.below hb, h5⟩⟩
theorem Slt.far {m : Nat} (h : Slt n b d v g u w) (hg : w.grownBy w' (some m)) (hm : b = true → m ≠ g) : Slt n b d v g u w' :=
  ⟨h.1, fun e => by obtain ⟨h1, h2, l, h3, h4, h5⟩ := h.2 e; exact ⟨h1, h2, l, h3, h4.kept hg (by have := hm e; simp; omega), h5⟩⟩
theorem Slt.new (h : Slt n false d v g u w) (g' : Nat) (hn : n ≤ g') {l : List Value} (hl : l.length = 4) (hb : Fr w' g' 27 l) : Slt n true d (.pointer (some ⟨g', 0, none⟩)) g' u w' := by
  have hd : d = false := by cases d; · rfl
                            · exact absurd (h.1 rfl) (by simp)
  subst hd
  exact ⟨fun _ => rfl, fun _ => ⟨rfl, hn, l, hl, hb, fun e => by cases e⟩⟩
theorem Slt.old (h : Slt n b d v g u w) (hb : b = true) : g < w.heap.size := by
  obtain ⟨_, _, l, _, h3, _⟩ := h.2 hb
  exact h3.lt
theorem Slt.val {u' : Value} (h : Slt n b false v g u w) : Slt n b false v g u' w :=
  ⟨h.1, fun e => by obtain ⟨h1, h2, l, h3, h4, _⟩ := h.2 e; exact ⟨h1, h2, l, h3, h4, fun e => by cases e⟩⟩
end

theorem op_allocC {P : Program} {md : Region.Mode} {ops : Array Oper} {i : Nat} {a : Act} {w : World} {K : Act → World → Prop} {Q : Exit → Act → World → Prop} {d : Tmp} {deps : List Nat} (ho : OpAt md ops i (some d) (.alloc 27) deps) (hP : P = Tryd.prog)
    (h : ∀ g w' l, g = w.heap.size → l.length = 4 → Fr w' g 27 l → Below w.heap.size w w' → K (a.put (some d) (.pointer (some ⟨g, 0, none⟩))) w') :
    wpOp P ops Q i K a w := by
  obtain ⟨o, ho, hgd, hd, hop, _⟩ := ho
  refine wpOp_step ho fun K' hK => ?_
  have hw : Region.wanted o (yielded ops a.tmps) = true := by simp [Region.wanted, hgd]
  rw [if_pos hw]
  subst hP
  have hk := hK _ _ (h w.heap.size (w.alloc (.cells #[.slice none 0 0, .slice none 0 0, .slice none 0 0, .slice none 0 0] 27)) [.slice none 0 0, .slice none 0 0, .slice none 0 0, .slice none 0 0] rfl rfl (heap_alloc_new _ _) (below_new (Below.refl _ _) _))
  unfold Oper.wp execOp
  simp only [hop]
  simp [go_sem, hd]
  exact hk

theorem op_storeC {P : Program} {md : Region.Mode} {ops : Array Oper} {i : Nat} {a : Act} {w : World} {K : Act → World → Prop} {Q : Exit → Act → World → Prop} {p x : Operand} {deps : List Nat} (ho : OpAt md ops i none (.store 27 p x) deps) (hP : P = Tryd.prog)
    (g : Nat) (l : List Value) (s0 s1 s2 s3 : Option Addr) (m0 m1 m2 m3 : Nat) (hp : a.eval p = .pointer (some ⟨g, 0, none⟩)) (hx : a.eval x = .agg #[.slice s0 m0 m0, .slice s1 m1 m1, .slice s2 m2 m2, .slice s3 m3 m3]) (hl : l.length = 4) (hb : Fr w g 27 l)
    (h : ∀ w', Fr w' g 27 [.slice s0 m0 m0, .slice s1 m1 m1, .slice s2 m2 m2, .slice s3 m3 m3] → w.grownBy w' (some g) → K a w') :
    wpOp P ops Q i K a w := by
  obtain ⟨o, ho, hgd, hd, hop, _⟩ := ho
  refine wpOp_step ho fun K' hK => ?_
  have hw : Region.wanted o (yielded ops a.tmps) = true := by simp [Region.wanted, hgd]
  rw [if_pos hw]
  subst hP
  have hs : ((((w.setCell ⟨g, 0, none⟩ (.slice s0 m0 m0)).setCell ⟨g, 1, none⟩ (.slice s1 m1 m1)).setCell ⟨g, 2, none⟩ (.slice s2 m2 m2)).setCell ⟨g, 3, none⟩ (.slice s3 m3 m3)).heap[g]? = some (.cells [.slice s0 m0 m0, .slice s1 m1 m1, .slice s2 m2 m2, .slice s3 m3 m3].toArray 27 (0, 0)) := by
    have := (((hb.set 0 (.slice s0 m0 m0)).set 1 (.slice s1 m1 m1)).set 2 (.slice s2 m2 m2)).set 3 (.slice s3 m3 m3)
    match l, hl with
    | [_, _, _, _], _ => exact this
  have hgr : w.grownBy ((((w.setCell ⟨g, 0, none⟩ (.slice s0 m0 m0)).setCell ⟨g, 1, none⟩ (.slice s1 m1 m1)).setCell ⟨g, 2, none⟩ (.slice s2 m2 m2)).setCell ⟨g, 3, none⟩ (.slice s3 m3 m3)) (some g) :=
    ⟨rfl, rfl, rfl, by simp, fun k hk hne => by
      have hne' : k ≠ g := fun e => hne (by rw [e])
      rw [Below.heap_setCell _ _ _ _ hne', Below.heap_setCell _ _ _ _ hne', Below.heap_setCell _ _ _ _ hne', Below.heap_setCell _ _ _ _ hne']⟩
  have hk := hK _ _ (h _ hs hgr)
  have c0 := hb.cell 0
  have c1 := hb.cell 1
  have c2 := hb.cell 2
  have c3 := hb.cell 3
  have f0 := hb.frozen 0
  have f1 := hb.frozen 1
  have f2 := hb.frozen 2
  have f3 := hb.frozen 3
  match l, hl with
  | [y0, y1, y2, y3], _ =>
    simp at c0 c1 c2 c3
    unfold Oper.wp execOp
    simp only [hop, hp, hx]
    simp [go_sem, hd, c0, c1, c2, c3, f0, f1, f2, f3]
    exact hk

theorem op_copyC {P : Program} {md : Region.Mode} {ops : Array Oper} {i : Nat} {a : Act} {wb w : World} {K : Act → World → Prop} {Q : Exit → Act → World → Prop} {d t : Tmp} {deps : List Nat} {q : Nat} {A0 A1 A2 A3 : Option Addr} {c0 c1 c2 c3 : Nat} (ho : OpAt md ops i (some d) (.call { callee := .value (.func 13), args := #[.tmp t], argTypes := #[27] }) deps) (hP : P = Tryd.prog)
    (hx : a.eval (.tmp t) = .agg #[.slice A0 4 c0, .slice A1 4 c1, .slice A2 0 c2, .slice A3 1 c3]) (hL : LW wb q A0 A1 A2 A3 c0 c1 c2 c3 w)
    (h : ∀ v w', Cp v w.heap.size w'.heap.size w' → Below w.heap.size w w' → K (a.put (some d) v) w') :
    wpOp P ops Q i K a w := by
  obtain ⟨o, ho, hgd, hd, hop, _⟩ := ho
  refine wpOp_step ho fun K' hK => ?_
  have hw : Region.wanted o (yielded ops a.tmps) = true := by simp [Region.wanted, hgd]
  rw [if_pos hw]
  subst hP
  unfold Oper.wp execOp
  simp only [hop]
  simp [go_sem, hd]
  have hx2 : a.tmps[t]?.getD undef = .agg #[.slice A0 4 c0, .slice A1 4 c1, .slice A2 0 c2, .slice A3 1 c3] := by
    rw [← hx]; simp [Act.eval]
  rw [hx2]
  with_reducible refine Calls.mono (cp_ex hL) ?_
  rintro e w' ⟨v, rfl, hc, hb⟩
  exact hK _ _ (h v w' hc hb)

theorem LW.kept {w w1 w' : World} {q m : Nat} {A0 A1 A2 A3 : Option Addr} {c0 c1 c2 c3 : Nat} (h : LW w q A0 A1 A2 A3 c0 c1 c2 c3 w1) (hg : w1.grownBy w' (some m)) (hm : q < m) (hw : w.heap.size ≤ m) : LW w q A0 A1 A2 A3 c0 c1 c2 c3 w' := by
  obtain ⟨t1, t2⟩ := h.tabs
  refine ⟨h.bel.grown hg h.bel.size (fun k e => by cases e; exact hw), h.low, ⟨Nat.le_trans t1 hg.size, fun k hk => hg.cell (t2 k hk) (by simp; omega)⟩, ?_, h.box.kept hg (by simp; omega)⟩
  have hq := h.box.lt
  exact h.cir.keep (Nat.le_refl _) fun p hp => World.cell?_of_block (hg.block p.block (by omega) (by simp; omega))
/-- Every one waits only for those ahead of it. -/
def early (ops : Array Oper) : Bool := (List.range ops.size).all fun i => ((ops[i]?).map fun o => o.after.all fun e => decide (e.on < i)).getD true
theorem early_spec {ops : Array Oper} (h : early ops = true) {i : Nat} {o : Oper} (ho : ops[i]? = some o) {e : Edge} (he : e ∈ o.after) : e.on < i := by
  have hi : i < ops.size := (Array.getElem?_eq_some_iff.1 ho).1
  have h1 := List.all_eq_true.1 h i (List.mem_range.2 hi)
  rw [ho] at h1
  simp only [Option.map_some, Option.getD_some] at h1
  simpa using Array.all_eq_true_iff_forall_mem.1 h1 e he
theorem all_up {md : Region.Mode} {ops : Array Oper} {l : Array Bool} (h : early ops = true) (hs : l.size = ops.size) (hr : Region.ready md ops l = []) (i : Nat) (hi : i < ops.size) : l.getD i false = true := by
  induction i using Nat.strongRecOn with
  | _ i ih =>
    by_cases hc : l.getD i false = true
    · exact hc
    · have hm : i ∈ Region.ready md ops l := by
        refine mem_ready.2 ⟨?_, ops[i], Array.getElem?_eq_getElem hi, fun e he hb => ?_⟩
        · have hi' : i < l.size := by omega
          simp [hi'] at hc ⊢
          exact hc
        · have := early_spec h (Array.getElem?_eq_getElem hi) he
          exact ih e.on this (by omega)
      rw [hr] at hm
      cases hm
theorem dep_of {md : Region.Mode} {ops : Array Oper} {i : Nat} {dst : Option Tmp} {op : Op} {deps : List Nat} {o : Oper} {l : Array Bool} (h : OpAt md ops i dst op deps) (ho : ops[i]? = some o) (hall : ∀ e ∈ o.after, Region.binds md e = true → l.getD e.on false = true) (k : Nat) (hk : k ∈ deps) : l.getD k false = true := by
  obtain ⟨o', ho', _, _, _, hd⟩ := h
  rw [ho] at ho'
  cases ho'
  exact waits (List.all_eq_true.1 hd k hk) hall

/-- What holds whatever has come up. -/
structure Inw (w0 w1 : World) (q : Nat) (A0 A1 A2 A3 : Option Addr) (c0 c1 c2 c3 : Nat) (b1 b3 b5 b6 b7 b8 b9 b10 b11 : Bool) (v8 v9 v10 v80 v82 v84 : Value) (g8 g9 g10 G1 H1 G3 H3 G5 H5 : Nat) (w : World) : Prop where
  bel : Below w1.heap.size w1 w
  lw : LW w0 q A0 A1 A2 A3 c0 c1 c2 c3 w
  k1 : b1 = true → Cp v80 G1 H1 w
  k3 : b3 = true → Cp v82 G3 H3 w ∧ H1 ≤ G3
  k5 : b5 = true → Cp v84 G5 H5 w ∧ H3 ≤ G5
  o3 : b3 = true → b1 = true
  o5 : b5 = true → b3 = true
  s8 : Slt w1.heap.size b6 b9 v8 g8 v80 w
  s9 : Slt w1.heap.size b7 b10 v9 g9 v82 w
  s10 : Slt w1.heap.size b8 b11 v10 g10 v84 w
  a1 : b6 = true → b1 = true → g8 < G1 ∨ H1 ≤ g8
  a3 : b6 = true → b3 = true → g8 < G3 ∨ H3 ≤ g8
  a5 : b6 = true → b5 = true → g8 < G5 ∨ H5 ≤ g8
  d1 : b7 = true → b1 = true → g9 < G1 ∨ H1 ≤ g9
  d3 : b7 = true → b3 = true → g9 < G3 ∨ H3 ≤ g9
  d5 : b7 = true → b5 = true → g9 < G5 ∨ H5 ≤ g9
  f1 : b8 = true → b1 = true → g10 < G1 ∨ H1 ≤ g10
  f3 : b8 = true → b3 = true → g10 < G3 ∨ H3 ≤ g10
  f5 : b8 = true → b5 = true → g10 < G5 ∨ H5 ≤ g10
  n89 : b6 = true → b7 = true → g8 ≠ g9
  n80 : b6 = true → b8 = true → g8 ≠ g10
  n90 : b7 = true → b8 = true → g9 ≠ g10
  p9 : b9 = true → b1 = true
  p10 : b10 = true → b3 = true
  p11 : b11 = true → b5 = true
  m1 : b1 = true → w1.heap.size ≤ G1
def Inv (a9 : Act) (w0 w1 : World) (q : Nat) (A0 A1 A2 A3 : Option Addr) (c0 c1 c2 c3 : Nat) (l : Array Bool) (a : Act) (w : World) : Prop :=
  ∃ (b1 b3 b5 b6 b7 b8 b9 b10 b11 : Bool) (v8 v9 v10 v80 v82 v84 : Value) (g8 g9 g10 G1 H1 G3 H3 G5 H5 : Nat), l = #[true, b1, true, b3, true, b5, b6, b7, b8, b9, b10, b11] ∧ a = Gr a9 v8 v9 v10 v80 v82 v84 ∧ Inw w0 w1 q A0 A1 A2 A3 c0 c1 c2 c3 b1 b3 b5 b6 b7 b8 b9 b10 b11 v8 v9 v10 v80 v82 v84 g8 g9 g10 G1 H1 G3 H3 G5 H5 w
theorem Cp.top {v : Value} {G H : Nat} {w : World} (h : Cp v G H w) : H ≤ w.heap.size := by
  obtain ⟨g0, g1, g2, g3, h, ha, hd, e, ho, k1, k2, k3⟩ := h
  exact k3
theorem Cp.bot {v : Value} {G H : Nat} {w : World} (h : Cp v G H w) : G < H := by
  obtain ⟨g0, g1, g2, g3, h, ha, hd, e, ho, k1, k2, k3⟩ := h
  have := ho.low
  omega
theorem lvs_reg {Q : Exit → Act → World → Prop} {S : World → Prop} {md : Region.Mode} {ops : Array Oper} {w0 w1 : World} {q : Nat} {A0 A1 A2 A3 : Option Addr} {c0 c1 c2 c3 : Nat} (a9 : Act)
    (h12 : ops.size = 12) (hea : early ops = true)
    (h1 : OpAt md ops 1 (some 80) (.call { callee := .value (.func 13), args := #[.tmp 79], argTypes := #[27] }) [])
    (h3 : OpAt md ops 3 (some 82) (.call { callee := .value (.func 13), args := #[.tmp 81], argTypes := #[27] }) [1])
    (h5 : OpAt md ops 5 (some 84) (.call { callee := .value (.func 13), args := #[.tmp 83], argTypes := #[27] }) [3])
    (h6 : OpAt md ops 6 (some 8) (.alloc 27) [])
    (h7 : OpAt md ops 7 (some 9) (.alloc 27) [])
    (h8 : OpAt md ops 8 (some 10) (.alloc 27) [])
    (h9 : OpAt md ops 9 none (.store 27 (.tmp 8) (.tmp 80)) [1, 6])
    (h10 : OpAt md ops 10 none (.store 27 (.tmp 9) (.tmp 82)) [3, 7])
    (h11 : OpAt md ops 11 none (.store 27 (.tmp 10) (.tmp 84)) [5, 8])
    (hz : 85 ≤ a9.tmps.size) (e79 : a9.eval (.tmp 79) = .agg #[.slice A0 4 c0, .slice A1 4 c1, .slice A2 0 c2, .slice A3 1 c3]) (e81 : a9.eval (.tmp 81) = .agg #[.slice A0 4 c0, .slice A1 4 c1, .slice A2 0 c2, .slice A3 1 c3]) (e83 : a9.eval (.tmp 83) = .agg #[.slice A0 4 c0, .slice A1 4 c1, .slice A2 0 c2, .slice A3 1 c3])
    (hfr : a9 = Gr a9 undef undef undef undef undef undef)
    (hS : ∀ w', LW w0 q A0 A1 A2 A3 c0 c1 c2 c3 w' → S w')
    (hQ : ∀ v8 v9 v10 v80 v82 v84 g8 g9 g10 G1 H1 G3 H3 G5 H5 w', Inw w0 w1 q A0 A1 A2 A3 c0 c1 c2 c3 true true true true true true true true true v8 v9 v10 v80 v82 v84 g8 g9 g10 G1 H1 G3 H3 G5 H5 w' → Q .normal (Gr a9 v8 v9 v10 v80 v82 v84) w')
    (w : World) (hw : Below w1.heap.size w1 w) (hl : LW w0 q A0 A1 A2 A3 c0 c1 c2 c3 w) (hq : q < w1.heap.size) : wpAnyH Tryd.prog md ops Q S 9 #[true, false, true, false, true, false, false, false, false, false, false, false] a9 w := by
  refine held_inv (Inv a9 w0 w1 q A0 A1 A2 A3 c0 c1 c2 c3) ?_ ?_ ?_ ?_ 9 _ a9 w (by decide) ?_
  · rintro l a w ⟨b1, b3, b5, b6, b7, b8, b9, b10, b11, v8, v9, v10, v80, v82, v84, g8, g9, g10, G1, H1, G3, H3, G5, H5, rfl, -⟩
    rw [h12]; rfl
  · rintro l a w ⟨b1, b3, b5, b6, b7, b8, b9, b10, b11, v8, v9, v10, v80, v82, v84, g8, g9, g10, G1, H1, G3, H3, G5, H5, -, -, I⟩
    exact hS _ I.lw
  · rintro l a w i o ⟨b1, b3, b5, b6, b7, b8, b9, b10, b11, v8, v9, v10, v80, v82, v84, g8, g9, g10, G1, H1, G3, H3, G5, H5, rfl, rfl, I⟩ ho h0 hall
    have hi : i < 12 := h12 ▸ (Array.getElem?_eq_some_iff.1 ho).1
    have hcs : i = 0 ∨ i = 1 ∨ i = 2 ∨ i = 3 ∨ i = 4 ∨ i = 5 ∨ i = 6 ∨ i = 7 ∨ i = 8 ∨ i = 9 ∨ i = 10 ∨ i = 11 := by omega
    have z1 : b1 = true → G1 < H1 ∧ H1 ≤ w.heap.size := fun e => ⟨(I.k1 e).bot, (I.k1 e).top⟩
    have z3 : b3 = true → G3 < H3 ∧ H3 ≤ w.heap.size := fun e => ⟨(I.k3 e).1.bot, (I.k3 e).1.top⟩
    have z5 : b5 = true → G5 < H5 ∧ H5 ≤ w.heap.size := fun e => ⟨(I.k5 e).1.bot, (I.k5 e).1.top⟩
    rcases hcs with rfl | rfl | rfl | rfl | rfl | rfl | rfl | rfl | rfl | rfl | rfl | rfl
    · exact absurd (show true = false from h0) (by decide)
    · obtain rfl : b1 = false := h0
      obtain rfl : b3 = false := by cases b3; · rfl
                                    · exact absurd (I.o3 rfl) (by simp)
      obtain rfl : b5 = false := by cases b5; · rfl
                                    · exact absurd (I.o5 rfl) (by simp)
      obtain rfl : b9 = false := by cases b9; · rfl
                                    · exact absurd (I.p9 rfl) (by simp)
      refine op_copyC h1 rfl (by rw [Gr.e79 _ _ _ _ _ _ _ hz]; exact e79) I.lw fun v w' hc hb => ?_
      exact ⟨true, false, false, b6, b7, b8, false, b10, b11, v8, v9, v10, _, v82, v84, g8, g9, g10, w.heap.size, w'.heap.size, G3, H3, G5, H5, rfl, Gr.p80 .., joinB I.bel hb, I.lw.next hb, fun _ => hc, fun e => (by cases e), fun e => (by cases e), fun _ => rfl, fun e => (by cases e), (I.s8.below hb).val, I.s9.below hb, I.s10.below hb,
        fun e _ => .inl (I.s8.old e), fun _ e => (by cases e), fun _ e => (by cases e), fun e _ => .inl (I.s9.old e), fun _ e => (by cases e), fun _ e => (by cases e), fun e _ => .inl (I.s10.old e), fun _ e => (by cases e), fun _ e => (by cases e), I.n89, I.n80, I.n90, fun _ => rfl, I.p10, I.p11, fun _ => I.bel.size⟩
    · exact absurd (show true = false from h0) (by decide)
    · obtain rfl : b3 = false := h0
      obtain rfl : b1 = true := dep_of h3 ho hall 1 (by decide)
      obtain rfl : b5 = false := by cases b5; · rfl
                                    · exact absurd (I.o5 rfl) (by simp)
      obtain rfl : b10 = false := by cases b10; · rfl
                                     · exact absurd (I.p10 rfl) (by simp)
      refine op_copyC h3 rfl (by rw [Gr.e81 _ _ _ _ _ _ _ hz]; exact e81) I.lw fun v w' hc hb => ?_
      exact ⟨true, true, false, b6, b7, b8, b9, false, b11, v8, v9, v10, v80, _, v84, g8, g9, g10, G1, H1, w.heap.size, w'.heap.size, G5, H5, rfl, Gr.p82 .., joinB I.bel hb, I.lw.next hb, fun _ => (I.k1 rfl).below hb, fun _ => ⟨hc, (z1 rfl).2⟩, fun e => (by cases e), fun _ => rfl, fun e => (by cases e), I.s8.below hb, (I.s9.below hb).val, I.s10.below hb,
        I.a1, fun e _ => .inl (I.s8.old e), fun _ e => (by cases e), I.d1, fun e _ => .inl (I.s9.old e), fun _ e => (by cases e), I.f1, fun e _ => .inl (I.s10.old e), fun _ e => (by cases e), I.n89, I.n80, I.n90, fun _ => rfl, fun _ => rfl, I.p11, I.m1⟩
    · exact absurd (show true = false from h0) (by decide)
    · obtain rfl : b5 = false := h0
      obtain rfl : b3 = true := dep_of h5 ho hall 3 (by decide)
      obtain rfl : b1 = true := I.o3 rfl
      obtain rfl : b11 = false := by cases b11; · rfl
                                     · exact absurd (I.p11 rfl) (by simp)
      refine op_copyC h5 rfl (by rw [Gr.e83 _ _ _ _ _ _ _ hz]; exact e83) I.lw fun v w' hc hb => ?_
      exact ⟨true, true, true, b6, b7, b8, b9, b10, false, v8, v9, v10, v80, v82, _, g8, g9, g10, G1, H1, G3, H3, w.heap.size, w'.heap.size, rfl, Gr.p84 .., joinB I.bel hb, I.lw.next hb, fun _ => (I.k1 rfl).below hb, fun _ => ⟨(I.k3 rfl).1.below hb, (I.k3 rfl).2⟩, fun _ => ⟨hc, (z3 rfl).2⟩, fun _ => rfl, fun _ => rfl, I.s8.below hb, I.s9.below hb, (I.s10.below hb).val,
        I.a1, I.a3, fun e _ => .inl (I.s8.old e), I.d1, I.d3, fun e _ => .inl (I.s9.old e), I.f1, I.f3, fun e _ => .inl (I.s10.old e), I.n89, I.n80, I.n90, fun _ => rfl, fun _ => rfl, fun _ => rfl, I.m1⟩
    · obtain rfl : b6 = false := h0
      refine op_allocC h6 rfl fun g w' l hg hll hX hb => ?_
      have hn : w1.heap.size ≤ g := hg ▸ I.bel.size
      exact ⟨b1, b3, b5, true, b7, b8, b9, b10, b11, _, v9, v10, v80, v82, v84, g, g9, g10, G1, H1, G3, H3, G5, H5, rfl, Gr.p8 .., joinB I.bel hb, I.lw.next hb, fun e => (I.k1 e).below hb, fun e => ⟨(I.k3 e).1.below hb, (I.k3 e).2⟩, fun e => ⟨(I.k5 e).1.below hb, (I.k5 e).2⟩, I.o3, I.o5, I.s8.new g hn hll hX, I.s9.below hb, I.s10.below hb,
        fun _ e => .inr (by have := (z1 e).2; omega), fun _ e => .inr (by have := (z3 e).2; omega), fun _ e => .inr (by have := (z5 e).2; omega), I.d1, I.d3, I.d5, I.f1, I.f3, I.f5, (fun _ e => by have := I.s9.old e; omega), (fun _ e => by have := I.s10.old e; omega), I.n90, I.p9, I.p10, I.p11, I.m1⟩
    · obtain rfl : b7 = false := h0
      refine op_allocC h7 rfl fun g w' l hg hll hX hb => ?_
      have hn : w1.heap.size ≤ g := hg ▸ I.bel.size
      exact ⟨b1, b3, b5, b6, true, b8, b9, b10, b11, v8, _, v10, v80, v82, v84, g8, g, g10, G1, H1, G3, H3, G5, H5, rfl, Gr.p9 .., joinB I.bel hb, I.lw.next hb, fun e => (I.k1 e).below hb, fun e => ⟨(I.k3 e).1.below hb, (I.k3 e).2⟩, fun e => ⟨(I.k5 e).1.below hb, (I.k5 e).2⟩, I.o3, I.o5, I.s8.below hb, I.s9.new g hn hll hX, I.s10.below hb,
        I.a1, I.a3, I.a5, fun _ e => .inr (by have := (z1 e).2; omega), fun _ e => .inr (by have := (z3 e).2; omega), fun _ e => .inr (by have := (z5 e).2; omega), I.f1, I.f3, I.f5, (fun e _ => by have := I.s8.old e; omega), I.n80, (fun _ e => by have := I.s10.old e; omega), I.p9, I.p10, I.p11, I.m1⟩
    · obtain rfl : b8 = false := h0
      refine op_allocC h8 rfl fun g w' l hg hll hX hb => ?_
      have hn : w1.heap.size ≤ g := hg ▸ I.bel.size
      exact ⟨b1, b3, b5, b6, b7, true, b9, b10, b11, v8, v9, _, v80, v82, v84, g8, g9, g, G1, H1, G3, H3, G5, H5, rfl, Gr.p10 .., joinB I.bel hb, I.lw.next hb, fun e => (I.k1 e).below hb, fun e => ⟨(I.k3 e).1.below hb, (I.k3 e).2⟩, fun e => ⟨(I.k5 e).1.below hb, (I.k5 e).2⟩, I.o3, I.o5, I.s8.below hb, I.s9.below hb, I.s10.new g hn hll hX,
        I.a1, I.a3, I.a5, I.d1, I.d3, I.d5, fun _ e => .inr (by have := (z1 e).2; omega), fun _ e => .inr (by have := (z3 e).2; omega), fun _ e => .inr (by have := (z5 e).2; omega), I.n89, (fun e _ => by have := I.s8.old e; omega), (fun e _ => by have := I.s9.old e; omega), I.p9, I.p10, I.p11, I.m1⟩
    · obtain rfl : b9 = false := h0
      obtain rfl : b1 = true := dep_of h9 ho hall 1 (by decide)
      obtain rfl : b6 = true := dep_of h9 ho hall 6 (by decide)
      obtain ⟨hv, hn, l, hll, hX, -⟩ := I.s8.2 rfl
      obtain ⟨t0, t1, t2, t3, hh, ha, hd, e80, -⟩ := id (I.k1 rfl)
      refine op_storeC h9 rfl g8 l _ _ _ _ _ _ _ _ (by rw [Gr.e8 _ _ _ _ _ _ _ hz]; exact hv) (by rw [Gr.e80 _ _ _ _ _ _ _ hz]; exact e80) hll hX fun w' hF hg => ?_
      exact ⟨true, b3, b5, true, b7, b8, true, b10, b11, v8, v9, v10, v80, v82, v84, g8, g9, g10, G1, H1, G3, H3, G5, H5, rfl, rfl, I.bel.grown hg I.bel.size (fun k e => by cases e; exact hn), I.lw.kept hg (by omega) (by have := I.lw.low; omega), fun _ => (I.k1 rfl).kept hg (I.a1 rfl rfl), fun e => ⟨(I.k3 e).1.kept hg (I.a3 rfl e), (I.k3 e).2⟩, fun e => ⟨(I.k5 e).1.kept hg (I.a5 rfl e), (I.k5 e).2⟩, I.o3, I.o5, ⟨fun _ => rfl, fun _ => ⟨hv, hn, _, rfl, hF, fun _ => e80⟩⟩, I.s9.far hg (fun e => I.n89 rfl e), I.s10.far hg (fun e => I.n80 rfl e),
        I.a1, I.a3, I.a5, I.d1, I.d3, I.d5, I.f1, I.f3, I.f5, I.n89, I.n80, I.n90, fun _ => rfl, I.p10, I.p11, I.m1⟩
    · obtain rfl : b10 = false := h0
      obtain rfl : b3 = true := dep_of h10 ho hall 3 (by decide)
      obtain rfl : b7 = true := dep_of h10 ho hall 7 (by decide)
      obtain ⟨hv, hn, l, hll, hX, -⟩ := I.s9.2 rfl
      obtain ⟨t0, t1, t2, t3, hh, ha, hd, e80, -⟩ := id (I.k3 rfl).1
      refine op_storeC h10 rfl g9 l _ _ _ _ _ _ _ _ (by rw [Gr.e9 _ _ _ _ _ _ _ hz]; exact hv) (by rw [Gr.e82 _ _ _ _ _ _ _ hz]; exact e80) hll hX fun w' hF hg => ?_
      exact ⟨b1, true, b5, b6, true, b8, b9, true, b11, v8, v9, v10, v80, v82, v84, g8, g9, g10, G1, H1, G3, H3, G5, H5, rfl, rfl, I.bel.grown hg I.bel.size (fun k e => by cases e; exact hn), I.lw.kept hg (by omega) (by have := I.lw.low; omega), fun e => (I.k1 e).kept hg (I.d1 rfl e), fun e => ⟨(I.k3 e).1.kept hg (I.d3 rfl e), (I.k3 e).2⟩, fun e => ⟨(I.k5 e).1.kept hg (I.d5 rfl e), (I.k5 e).2⟩, I.o3, I.o5, I.s8.far hg (fun e => (I.n89 e rfl).symm), ⟨fun _ => rfl, fun _ => ⟨hv, hn, _, rfl, hF, fun _ => e80⟩⟩, I.s10.far hg (fun e => I.n90 rfl e),
        I.a1, I.a3, I.a5, I.d1, I.d3, I.d5, I.f1, I.f3, I.f5, I.n89, I.n80, I.n90, I.p9, fun _ => rfl, I.p11, I.m1⟩
    · obtain rfl : b11 = false := h0
      obtain rfl : b5 = true := dep_of h11 ho hall 5 (by decide)
      obtain rfl : b8 = true := dep_of h11 ho hall 8 (by decide)
      obtain ⟨hv, hn, l, hll, hX, -⟩ := I.s10.2 rfl
      obtain ⟨t0, t1, t2, t3, hh, ha, hd, e80, -⟩ := id (I.k5 rfl).1
      refine op_storeC h11 rfl g10 l _ _ _ _ _ _ _ _ (by rw [Gr.e10 _ _ _ _ _ _ _ hz]; exact hv) (by rw [Gr.e84 _ _ _ _ _ _ _ hz]; exact e80) hll hX fun w' hF hg => ?_
      exact ⟨b1, b3, true, b6, b7, true, b9, b10, true, v8, v9, v10, v80, v82, v84, g8, g9, g10, G1, H1, G3, H3, G5, H5, rfl, rfl, I.bel.grown hg I.bel.size (fun k e => by cases e; exact hn), I.lw.kept hg (by omega) (by have := I.lw.low; omega), fun e => (I.k1 e).kept hg (I.f1 rfl e), fun e => ⟨(I.k3 e).1.kept hg (I.f3 rfl e), (I.k3 e).2⟩, fun e => ⟨(I.k5 e).1.kept hg (I.f5 rfl e), (I.k5 e).2⟩, I.o3, I.o5, I.s8.far hg (fun e => (I.n80 e rfl).symm), I.s9.far hg (fun e => (I.n90 e rfl).symm), ⟨fun _ => rfl, fun _ => ⟨hv, hn, _, rfl, hF, fun _ => e80⟩⟩,
        I.a1, I.a3, I.a5, I.d1, I.d3, I.d5, I.f1, I.f3, I.f5, I.n89, I.n80, I.n90, I.p9, I.p10, fun _ => rfl, I.m1⟩
  · rintro l a w ⟨b1, b3, b5, b6, b7, b8, b9, b10, b11, v8, v9, v10, v80, v82, v84, g8, g9, g10, G1, H1, G3, H3, G5, H5, rfl, rfl, I⟩ hr
    have hall := all_up hea (by rw [h12]; rfl) hr
    obtain rfl : b1 = true := hall 1 (by omega)
    obtain rfl : b3 = true := hall 3 (by omega)
    obtain rfl : b5 = true := hall 5 (by omega)
    obtain rfl : b6 = true := hall 6 (by omega)
    obtain rfl : b7 = true := hall 7 (by omega)
    obtain rfl : b8 = true := hall 8 (by omega)
    obtain rfl : b9 = true := hall 9 (by omega)
    obtain rfl : b10 = true := hall 10 (by omega)
    obtain rfl : b11 = true := hall 11 (by omega)
    exact hQ _ _ _ _ _ _ _ _ _ _ _ _ _ _ _ _ I
  · have no : ∀ (v u : Value), Slt w1.heap.size false false v 0 u w := fun _ _ => ⟨fun e => e, fun e => by cases e⟩
    exact ⟨false, false, false, false, false, false, false, false, false, undef, undef, undef, undef, undef, undef, 0, 0, 0, 0, 0, 0, 0, 0, 0, rfl, hfr, hw, hl, (fun e => by cases e), (fun e => by cases e), (fun e => by cases e), (fun e => by cases e), (fun e => by cases e), no _ _, no _ _, no _ _, (fun e => by cases e), (fun e => by cases e), (fun e => by cases e), (fun e => by cases e), (fun e => by cases e), (fun e => by cases e), (fun e => by cases e), (fun e => by cases e), (fun e => by cases e), (fun e => by cases e), (fun e => by cases e), (fun e => by cases e), (fun e => by cases e), (fun e => by cases e), (fun e => by cases e), (fun e => by cases e)⟩

end Go.Proofs.YtmghdeodkeenoaaDoor
