/- NetlistsCopy: stores into the memories and outputs of a circuit of the call's own; what the law's changes leave. -/
import Derived.Test.YtmghdeodkeenoaaDoorCpe
import Derived.Test.YtmghdeodkeenoaaDoorOlc
namespace Go.Proofs.YtmghdeodkeenoaaDoor
open Go.RowKit

section
variable {x : Ck} {G g0 g1 g2 g3 : Nat} {h ha hd : Nat → Nat} {w : World}
def readdr (c : Ck) (k j : Nat) (v : Int) : Ck := { c with mems := c.mems.set k { c.mems.getD k default with addr := (c.mems.getD k default).addr.set j v } }
def redata (c : Ck) (k j : Nat) (v : Int) : Ck := { c with mems := c.mems.set k { c.mems.getD k default with data := (c.mems.getD k default).data.set j v } }
def rekind (c : Ck) (k : Nat) (v : Int) : Ck := { c with nodes := c.nodes.set k { c.nodes.getD k default with kind := v } }
def reout (c : Ck) (j : Nat) (v : Int) : Ck := { c with outs := c.outs.set j v }
theorem mmC_same {l : List Mm} {k : Nat} (hk : k < l.length) {m : Mm} (e0 : m.addr.length = (l.getD k default).addr.length) (e1 : m.data.length = (l.getD k default).data.length) (e2 : m.write = (l.getD k default).write) (oa od : Nat → Value) :
    mmC (l.set k m) ha hd oa od (l.set k m).length = mmC l ha hd oa od l.length := by
  apply List.ext_getElem?
  intro j
  by_cases hj : j < l.length * 3
  · rw [mmC_get (by rw [List.length_set]; exact hj), mmC_get hj, List.length_set]
    unfold mmF
    rw [getD_set _ _ _ _ _ hk]
    by_cases e : j / 3 = k
    · rw [if_pos e, e, e0, e1, e2]
    · rw [if_neg e]
  · rw [List.getElem?_eq_none (by simp [mmC_len]; omega), List.getElem?_eq_none (by simp [mmC_len]; omega)]
/-- The order of a memory's rows. -/
theorem OwnC.mne (H : OwnC x G g0 g1 g2 g3 h ha hd w) {i j : Nat} (hi : i < x.mems.length) (hj : j < x.mems.length) : ha i ≠ hd j ∧ (i ≠ j → ha i ≠ ha j ∧ hd i ≠ hd j) := by
  have h1 := H.mm i hi
  have h2 := H.mm j hj
  rcases Nat.lt_trichotomy i j with q | q | q
  · have := H.ml i j q hj
    exact ⟨by omega, fun _ => by omega⟩
  · subst q; exact ⟨by omega, fun e => absurd rfl e⟩
  · have := H.ml j i q hi
    exact ⟨by omega, fun _ => by omega⟩
theorem OwnC.addr (H : OwnC x G g0 g1 g2 g3 h ha hd w) {k : Nat} (hk : k < x.mems.length) (j : Nat) (v : Int) :
    OwnC (readdr x k j v) G g0 g1 g2 g3 h ha hd (w.setCell ⟨ha k, j, none⟩ (.int .i64 v)) := by
  have hg := grown_set w (ha k) j (.int .i64 v)
  have hgk := (H.rm k hk).1
  have hl := H.low
  refine ⟨H.low, H.f0.kept hg (by simp; omega), H.f1.kept hg (by simp; omega), ?_, H.f3.kept hg (by simp; omega), ?_, ?_, H.nn, ?_, ?_, ?_⟩
  · show Fr _ _ _ (mmC (x.mems.set k _) _ _ _ _ _)
    show Fr _ _ _ (mmC _ _ _ _ _ (x.mems.set k { x.mems.getD k default with addr := (x.mems.getD k default).addr.set j v }).length)
    rw [mmC_same (m := { x.mems.getD k default with addr := (x.mems.getD k default).addr.set j v }) hk (by simp) rfl rfl]
    exact H.f2.kept hg (by simp; omega)
  · intro i hi
    have hh := H.rn i hi
    have := H.nm i k hi hk
    exact ⟨hh.1, hh.2.kept hg (by simp; omega)⟩
  · intro i hi
    have hi' : i < x.mems.length := by simpa [readdr] using hi
    obtain ⟨r1, r2, r3, r4⟩ := H.rm i hi'
    have n1 := (H.mne hk hi').1
    refine ⟨r1, ?_, r3, ?_⟩
    · show Row _ _ ((x.mems.set k _).getD i default).addr
      rw [getD_set _ _ _ _ _ hk]
      by_cases e : i = k
      · subst e
        rw [if_pos rfl]
        exact r2.set j v
      · rw [if_neg e]
        have n2 := (H.mne hi' hk).2 e
        exact r2.kept hg (by simp; omega)
    · show Row _ _ ((x.mems.set k _).getD i default).data
      rw [getD_set _ _ _ _ _ hk]
      by_cases e : i = k
      · subst e
        rw [if_pos rfl]
        exact r4.kept hg (by simp; omega)
      · rw [if_neg e]
        exact r4.kept hg (by simp; omega)
  · intro i j' hi hj'
    exact H.nm i j' hi (by simpa [readdr] using hj')
  · intro i hi
    exact H.mm i (by simpa [readdr] using hi)
  · intro i j' hij hj'
    exact H.ml i j' hij (by simpa [readdr] using hj')
theorem OwnC.data (H : OwnC x G g0 g1 g2 g3 h ha hd w) {k : Nat} (hk : k < x.mems.length) (j : Nat) (v : Int) :
    OwnC (redata x k j v) G g0 g1 g2 g3 h ha hd (w.setCell ⟨hd k, j, none⟩ (.int .i64 v)) := by
  have hg := grown_set w (hd k) j (.int .i64 v)
  have hgk := (H.rm k hk).2.2.1
  have hl := H.low
  refine ⟨H.low, H.f0.kept hg (by simp; omega), H.f1.kept hg (by simp; omega), ?_, H.f3.kept hg (by simp; omega), ?_, ?_, H.nn, ?_, ?_, ?_⟩
  · show Fr _ _ _ (mmC (x.mems.set k _) _ _ _ _ _)
    show Fr _ _ _ (mmC _ _ _ _ _ (x.mems.set k { x.mems.getD k default with data := (x.mems.getD k default).data.set j v }).length)
    rw [mmC_same (m := { x.mems.getD k default with data := (x.mems.getD k default).data.set j v }) hk rfl (by simp) rfl]
    exact H.f2.kept hg (by simp; omega)
  · intro i hi
    have hh := H.rn i hi
    have := H.nm i k hi hk
    have := H.mm k hk
    exact ⟨hh.1, hh.2.kept hg (by simp; omega)⟩
  · intro i hi
    have hi' : i < x.mems.length := by simpa [redata] using hi
    obtain ⟨r1, r2, r3, r4⟩ := H.rm i hi'
    have n1 := (H.mne hi' hk).1
    refine ⟨r1, ?_, r3, ?_⟩
    · show Row _ _ ((x.mems.set k _).getD i default).addr
      rw [getD_set _ _ _ _ _ hk]
      by_cases e : i = k
      · subst e
        rw [if_pos rfl]
        exact r2.kept hg (by simp; omega)
      · rw [if_neg e]
        exact r2.kept hg (by simp; omega)
    · show Row _ _ ((x.mems.set k _).getD i default).data
      rw [getD_set _ _ _ _ _ hk]
      by_cases e : i = k
      · subst e
        rw [if_pos rfl]
        exact r4.set j v
      · rw [if_neg e]
        have n2 := (H.mne hi' hk).2 e
        exact r4.kept hg (by simp; omega)
  · intro i j' hi hj'
    exact H.nm i j' hi (by simpa [redata] using hj')
  · intro i hi
    exact H.mm i (by simpa [redata] using hi)
  · intro i j' hij hj'
    exact H.ml i j' hij (by simpa [redata] using hj')
theorem OwnC.out (H : OwnC x G g0 g1 g2 g3 h ha hd w) (j : Nat) (v : Int) :
    OwnC (reout x j v) G g0 g1 g2 g3 h ha hd (w.setCell ⟨g3, j, none⟩ (.int .i64 v)) := by
  have hg := grown_set w g3 j (.int .i64 v)
  have hl := H.low
  refine ⟨H.low, H.f0.kept hg (by simp; omega), H.f1.kept hg (by simp; omega), H.f2.kept hg (by simp; omega), H.f3.set j v, ?_, ?_, H.nn, H.nm, H.mm, H.ml⟩
  · intro i hi
    have hh := H.rn i hi
    exact ⟨hh.1, hh.2.kept hg (by simp; omega)⟩
  · intro i hi
    obtain ⟨r1, r2, r3, r4⟩ := H.rm i hi
    exact ⟨r1, r2.kept hg (by simp; omega), r3, r4.kept hg (by simp; omega)⟩
end

section
variable {c : Ck} {w wr W : World} {q G g0 g1 g2 g3 n n1 n2 n3 : Nat} {h ha hd : Nat → Nat}
theorem OL.kind (H : OL c w q G g0 g1 g2 g3 h ha hd n n1 n2 n3 wr) {k : Nat} (hk : k < n) {v : Int} (hv : 0 ≤ v ∧ v ≤ 255) : OL (rekind c k v) w q G g0 g1 g2 g3 h ha hd n n1 n2 n3 (wr.setCell ⟨g0, k * 4, none⟩ (.int .u8 v)) := by
  have hk' : k < c.nodes.length := by rw [← H.lens.1]; exact hk
  have h1 := H.low
  have h2 := H.own.low
  have h3 := H.hq.1
  refine ⟨H.tabs, H.bel.setCell (by show w.heap.size ≤ g0; omega) _, H.low, H.own.kind hk' v, H.box.other (by show g0 ≠ q; omega) _, ⟨by simp [rekind]; exact H.lens.1, H.lens.2⟩, H.hq, ?_⟩
  refine ⟨by simp [rekind]; exact H.fit.n, H.fit.s, H.fit.m, H.fit.o, fun i hi => ?_, H.fit.t, H.fit.a⟩
  have hi' : i < c.nodes.length := by simpa [rekind] using hi
  show 0 ≤ ((c.nodes.set k _).getD i default).kind ∧ _
  unfold rekind
  simp only [getD_set _ _ _ _ _ hk']
  split
  · exact ⟨hv.1, hv.2, (H.fit.k k hk').2.2⟩
  · exact H.fit.k i hi'
theorem fit_mem {k : Nat} {m : Mm} (F : Fit c) (hk : k < c.mems.length) (e0 : m.addr.length = (c.mems.getD k default).addr.length) (e1 : m.data.length = (c.mems.getD k default).data.length) : Fit { c with mems := c.mems.set k m } := by
  refine ⟨F.n, F.s, by simp; exact F.m, F.o, F.k, F.t, fun i hi => ?_⟩
  have hi' : i < c.mems.length := by simpa using hi
  simp only [getD_set _ _ _ _ _ hk]
  split
  · rw [e0, e1]; exact F.a k hk
  · exact F.a i hi'
theorem OL.addr (H : OL c w q G g0 g1 g2 g3 h ha hd n n1 n2 n3 wr) (hm : ∀ k, k < n2 → ha k < q ∧ hd k < q) {k : Nat} (hk : k < n2) (j : Nat) (v : Int) : OL (readdr c k j v) w q G g0 g1 g2 g3 h ha hd n n1 n2 n3 (wr.setCell ⟨ha k, j, none⟩ (.int .i64 v)) := by
  have hk' : k < c.mems.length := by rw [← H.lens.2.2.1]; exact hk
  have h1 := H.low
  have h2 := H.own.low
  have h3 := (H.own.rm k hk').1
  have h4 := (hm k hk).1
  exact ⟨H.tabs, H.bel.setCell (by show w.heap.size ≤ ha k; omega) _, H.low, H.own.addr hk' j v, H.box.other (by show ha k ≠ q; omega) _, ⟨H.lens.1, H.lens.2.1, by simp [readdr]; exact H.lens.2.2.1, H.lens.2.2.2⟩, H.hq, fit_mem H.fit hk' (by simp) rfl⟩
theorem OL.data (H : OL c w q G g0 g1 g2 g3 h ha hd n n1 n2 n3 wr) (hm : ∀ k, k < n2 → ha k < q ∧ hd k < q) {k : Nat} (hk : k < n2) (j : Nat) (v : Int) : OL (redata c k j v) w q G g0 g1 g2 g3 h ha hd n n1 n2 n3 (wr.setCell ⟨hd k, j, none⟩ (.int .i64 v)) := by
  have hk' : k < c.mems.length := by rw [← H.lens.2.2.1]; exact hk
  have h1 := H.low
  have h2 := H.own.low
  have h3 := (H.own.rm k hk').2.2.1
  have h4 := (hm k hk).2
  exact ⟨H.tabs, H.bel.setCell (by show w.heap.size ≤ hd k; omega) _, H.low, H.own.data hk' j v, H.box.other (by show hd k ≠ q; omega) _, ⟨H.lens.1, H.lens.2.1, by simp [redata]; exact H.lens.2.2.1, H.lens.2.2.2⟩, H.hq, fit_mem H.fit hk' rfl (by simp)⟩
theorem OL.out (H : OL c w q G g0 g1 g2 g3 h ha hd n n1 n2 n3 wr) (j : Nat) (v : Int) : OL (reout c j v) w q G g0 g1 g2 g3 h ha hd n n1 n2 n3 (wr.setCell ⟨g3, j, none⟩ (.int .i64 v)) := by
  have h1 := H.low
  have h2 := H.own.low
  have h3 := H.hq.1
  exact ⟨H.tabs, H.bel.setCell (by show w.heap.size ≤ g3; omega) _, H.low, H.own.out j v, H.box.other (by show g3 ≠ q; omega) _, ⟨H.lens.1, H.lens.2.1, H.lens.2.2.1, by simp [reout]; exact H.lens.2.2.2⟩, H.hq, ⟨H.fit.n, H.fit.s, H.fit.m, by simp [reout]; exact H.fit.o, H.fit.k, H.fit.t, H.fit.a⟩⟩
/-- A memory's cells. -/
theorem OL.mem (H : OL c w q G g0 g1 g2 g3 h ha hd n n1 n2 n3 wr) {k : Nat} (hk : k < n2) :
    wr.cell? ⟨g2, k * 3, none⟩ = some (.slice (some ⟨ha k, 0, none⟩) (c.mems.getD k default).addr.length (c.mems.getD k default).addr.length) ∧ wr.cell? ⟨g2, k * 3 + 1, none⟩ = some (.slice (some ⟨hd k, 0, none⟩) (c.mems.getD k default).data.length (c.mems.getD k default).data.length) ∧
      (∀ m, m < (c.mems.getD k default).addr.length → wr.cell? ⟨ha k, m, none⟩ = some (.int .i64 ((c.mems.getD k default).addr.getD m 0))) ∧ (∀ m, m < (c.mems.getD k default).data.length → wr.cell? ⟨hd k, m, none⟩ = some (.int .i64 ((c.mems.getD k default).data.getD m 0))) ∧
      (∀ m, wr.frozen? ⟨ha k, m, none⟩ = false) ∧ (∀ m, wr.frozen? ⟨hd k, m, none⟩ = false) := by
  have hk' : k < c.mems.length := by rw [← H.lens.2.2.1]; exact hk
  obtain ⟨-, r1, -, r2⟩ := H.own.rm k hk'
  refine ⟨?_, ?_, fun m hm => r1.cell hm, fun m hm => r2.cell hm, fun m => r1.frozen m, fun m => r2.frozen m⟩
  · rw [H.own.f2.cell, mmC_get (by omega), mmF_0, if_pos hk']
  · rw [H.own.f2.cell, mmC_get (by omega), mmF_1, if_pos hk']
theorem OL.outc (H : OL c w q G g0 g1 g2 g3 h ha hd n n1 n2 n3 wr) : (∀ m, m < n3 → wr.cell? ⟨g3, m, none⟩ = some (.int .i64 (c.outs.getD m 0))) ∧ (∀ m, wr.frozen? ⟨g3, m, none⟩ = false) :=
  ⟨fun m hm => H.own.f3.cell (by rw [← H.lens.2.2.2]; exact hm), fun m => H.own.f3.frozen m⟩
/-- A copy is made, and lies in a new variable; its memories too lie below it. -/
theorem copy_m {v : Value} (hT : Tabs w) (hb : Below w.heap.size w W) (hc : Cir W W.heap.size v c) (hs : SzOk c) (hn : n = c.nodes.length) (h1 : n1 = c.names.length) (h2 : n2 = c.mems.length) (h3 : n3 = c.outs.length) :
    Calls Tryd.prog 13 #[v] W fun e w' => Below W.heap.size W w' ∧ ∃ g0 g1 g2 g3 h ha hd, e = .returned (.agg #[.slice (some ⟨g0, 0, none⟩) n n, .slice (some ⟨g1, 0, none⟩) n1 n1, .slice (some ⟨g2, 0, none⟩) n2 n2, .slice (some ⟨g3, 0, none⟩) n3 n3]) ∧ (∀ k, k < n2 → ha k < w'.heap.size ∧ hd k < w'.heap.size) ∧
      OL c w w'.heap.size W.heap.size g0 g1 g2 g3 h ha hd n n1 n2 n3 (w'.alloc (.cells #[.slice (some ⟨g0, 0, none⟩) n n, .slice (some ⟨g1, 0, none⟩) n1 n1, .slice (some ⟨g2, 0, none⟩) n2 n2, .slice (some ⟨g3, 0, none⟩) n3 n3] 27)) := by
  refine (copy_any c v W W.heap.size (Nat.le_refl _) hc hs).mono fun e w' ⟨hb2, g0, g1, g2, g3, h, ha, hd, he, ho⟩ => ?_
  subst hn h1 h2 h3
  exact ⟨hb2, g0, g1, g2, g3, h, ha, hd, he, fun k hk => ⟨(ho.rm k hk).2.1.lt, (ho.rm k hk).2.2.2.lt⟩, hT, below_new (joinB hb hb2) _, hb.size, ho.below (below_new (Below.refl _ _) _), heap_alloc_new _ _, ⟨rfl, rfl, rfl, rfl⟩, ⟨ho.f3.lt, fun k hk => (ho.rn k hk).2.lt⟩, hc.fit⟩
end

/-- The law's changes, up to node i. -/
structure Chg (c c' : Ck) (i : Nat) : Prop where
  nl : c'.nodes.length = c.nodes.length
  ni : ∀ j, (c'.nodes.getD j default).ins.length = (c.nodes.getD j default).ins.length
  k0 : ∀ j, j < i → j < c.nodes.length → (c'.nodes.getD j default).kind = IntKind.u8.wrap ((c.nodes.getD j default).kind + 1)
  k1 : ∀ j, i ≤ j → (c'.nodes.getD j default).kind = (c.nodes.getD j default).kind
  ml : c'.mems.length = c.mems.length
  ma : ∀ j, (c'.mems.getD j default).addr.length = (c.mems.getD j default).addr.length
  md : ∀ j, (c'.mems.getD j default).data.length = (c.mems.getD j default).data.length
  ol : c'.outs.length = c.outs.length
section
variable {c c' : Ck} {i : Nat}
theorem Chg.start (c : Ck) : Chg c c 0 := ⟨rfl, fun _ => rfl, fun j h => absurd h (by omega), fun _ _ => rfl, rfl, fun _ => rfl, fun _ => rfl, rfl⟩
theorem Chg.pin (H : Chg c c' i) {k : Nat} (hk : k < c.nodes.length) (j : Nat) (v : Int) : Chg c (repin c' k j v) i := by
  have hk' : k < c'.nodes.length := by rw [H.nl]; exact hk
  refine ⟨by rw [repin_len]; exact H.nl, fun j => ?_, fun j h1 h2 => by rw [repin_kind hk']; exact H.k0 j h1 h2, fun j h1 => by rw [repin_kind hk']; exact H.k1 j h1, H.ml, H.ma, H.md, H.ol⟩
  rw [repin_at hk']
  split
  · rename_i e; subst e; simp; exact H.ni _
  · exact H.ni j
theorem Chg.kind (H : Chg c c' i) (hk : i < c.nodes.length) : Chg c (rekind c' i (IntKind.u8.wrap ((c'.nodes.getD i default).kind + 1))) (i + 1) := by
  have hk' : i < c'.nodes.length := by rw [H.nl]; exact hk
  have hat : ∀ j v, (rekind c' i v).nodes.getD j default = if j = i then { c'.nodes.getD i default with kind := v } else c'.nodes.getD j default := fun j v => getD_set _ _ _ _ _ hk'
  refine ⟨by simp [rekind]; exact H.nl, fun j => ?_, fun j h1 h2 => ?_, fun j h1 => ?_, H.ml, H.ma, H.md, H.ol⟩
  · rw [hat]
    split
    · rename_i e; subst e; exact H.ni _
    · exact H.ni j
  · rw [hat]
    split
    · rename_i e; subst e
      rw [H.k1 j (Nat.le_refl _)]
    · exact H.k0 j (by omega) h2
  · rw [hat, if_neg (by omega)]
    exact H.k1 j (by omega)
theorem Chg.addr (H : Chg c c' i) {k : Nat} (hk : k < c.mems.length) (j : Nat) (v : Int) : Chg c (readdr c' k j v) i := by
  have hk' : k < c'.mems.length := by rw [H.ml]; exact hk
  have hat : ∀ j' m, (c'.mems.set k m).getD j' default = if j' = k then m else c'.mems.getD j' default := fun j m => getD_set _ _ _ _ _ hk'
  refine ⟨H.nl, H.ni, H.k0, H.k1, by simp [readdr]; exact H.ml, fun j => ?_, fun j => ?_, H.ol⟩
  · unfold readdr
    simp only [hat]
    split
    · rename_i e; subst e; simp; exact H.ma _
    · exact H.ma j
  · unfold readdr
    simp only [hat]
    split
    · rename_i e; subst e; exact H.md _
    · exact H.md j
theorem Chg.data (H : Chg c c' i) {k : Nat} (hk : k < c.mems.length) (j : Nat) (v : Int) : Chg c (redata c' k j v) i := by
  have hk' : k < c'.mems.length := by rw [H.ml]; exact hk
  have hat : ∀ j' m, (c'.mems.set k m).getD j' default = if j' = k then m else c'.mems.getD j' default := fun j m => getD_set _ _ _ _ _ hk'
  refine ⟨H.nl, H.ni, H.k0, H.k1, by simp [redata]; exact H.ml, fun j => ?_, fun j => ?_, H.ol⟩
  · unfold redata
    simp only [hat]
    split
    · rename_i e; subst e; exact H.ma _
    · exact H.ma j
  · unfold redata
    simp only [hat]
    split
    · rename_i e; subst e; simp; exact H.md _
    · exact H.md j
theorem Chg.out (H : Chg c c' i) (j : Nat) (v : Int) : Chg c (reout c' j v) i := ⟨H.nl, H.ni, H.k0, H.k1, H.ml, H.ma, H.md, by simp [reout]; exact H.ol⟩
theorem Chg.ne (H : Chg c c' i) (h0 : 0 < i) (hn : 0 < c.nodes.length) (hk : 0 ≤ (c.nodes.getD 0 default).kind ∧ (c.nodes.getD 0 default).kind ≤ 255) : c ≠ c' := by
  rintro rfl
  have := H.k0 0 h0 hn
  simp only [IntKind.wrap] at this
  revert this
  generalize (c.nodes.getD 0 default).kind = k at hk
  intro this
  simp [IntKind.bits, IntKind.signed] at this
  omega
end
section
variable {a c' : Ck} {W1 w wr W : World} {q G g0 g1 g2 g3 n n1 n2 n3 q5 G5 e0 e1 e2 e3 : Nat} {h ha hd k5 ka kd : Nat → Nat}
/-- A store below the circuit's own blocks. -/
theorem OL.off (H : OL a w q5 G5 e0 e1 e2 e3 k5 ka kd n n1 n2 n3 wr) {b : Nat} (hb : b < G5) (hw : w.heap.size ≤ b) (o : Nat) (v : Value) : OL a w q5 G5 e0 e1 e2 e3 k5 ka kd n n1 n2 n3 (wr.setCell ⟨b, o, none⟩ v) := by
  have hg := grown_set wr b o v
  have hl := H.own.low
  have hq := H.hq
  refine ⟨H.tabs, H.bel.setCell hw _, H.low, ⟨H.own.low, H.own.f0.kept hg (by simp; omega), H.own.f1.kept hg (by simp; omega), H.own.f2.kept hg (by simp; omega), H.own.f3.kept hg (by simp; omega), fun i hi => ?_, fun i hi => ?_, H.own.nn, H.own.nm, H.own.mm, H.own.ml⟩, H.box.other (by show b ≠ q5; omega) _, H.lens, H.hq, H.fit⟩
  · have hh := H.own.rn i hi
    exact ⟨hh.1, hh.2.kept hg (by simp; omega)⟩
  · obtain ⟨r1, r2, r3, r4⟩ := H.own.rm i hi
    exact ⟨r1, r2.kept hg (by simp; omega), r3, r4.kept hg (by simp; omega)⟩
/-- While the law changes its copy: the copy, the other copy, and what was there. -/
structure CW (a c' : Ck) (W1 w : World) (q G g0 g1 g2 g3 : Nat) (h ha hd : Nat → Nat) (q5 G5 e0 e1 e2 e3 : Nat) (k5 ka kd : Nat → Nat) (n n1 n2 n3 i : Nat) (wr : World) : Prop where
  bw : Below W1.heap.size W1 wr
  oc : OL c' w q G g0 g1 g2 g3 h ha hd n n1 n2 n3 wr
  og : OL a w q5 G5 e0 e1 e2 e3 k5 ka kd n n1 n2 n3 wr
  lo : W1.heap.size ≤ G ∧ q < G5 ∧ w.heap.size ≤ W1.heap.size
  hm : ∀ k, k < n2 → ha k < q ∧ hd k < q
  ch : Chg a c' i
section
variable {i : Nat} (H : CW a c' W1 w q G g0 g1 g2 g3 h ha hd q5 G5 e0 e1 e2 e3 k5 ka kd n n1 n2 n3 i wr)
include H
theorem CW.lens : n = a.nodes.length ∧ n1 = a.names.length ∧ n2 = a.mems.length ∧ n3 = a.outs.length := H.og.lens
theorem CW.pin {k : Nat} (hk : k < n) (j : Nat) (v : Int) : CW a (repin c' k j v) W1 w q G g0 g1 g2 g3 h ha hd q5 G5 e0 e1 e2 e3 k5 ka kd n n1 n2 n3 i (wr.setCell ⟨h k, j, none⟩ (.int .i64 v)) := by
  have h1 := H.oc.own.low
  have h2 := (H.oc.own.rn k (by rw [← H.oc.lens.1]; exact hk)).1
  have h3 := H.oc.hq.2 k hk
  have h4 := H.lo
  exact ⟨H.bw.setCell (by show W1.heap.size ≤ h k; omega) _, H.oc.pin hk j v, H.og.off (by omega) (by omega) _ _, H.lo, H.hm, H.ch.pin (by rw [← H.lens.1]; exact hk) j v⟩
theorem CW.kind (hk : i < n) {v : Int} (hv : v = IntKind.u8.wrap ((c'.nodes.getD i default).kind + 1)) : CW a (rekind c' i v) W1 w q G g0 g1 g2 g3 h ha hd q5 G5 e0 e1 e2 e3 k5 ka kd n n1 n2 n3 (i + 1) (wr.setCell ⟨g0, i * 4, none⟩ (.int .u8 v)) := by
  have h1 := H.oc.own.low
  have h3 := H.oc.hq.1
  have h4 := H.lo
  have hv2 : 0 ≤ v ∧ v ≤ 255 := by
    subst hv
    simp only [IntKind.wrap, IntKind.bits, IntKind.signed]
    simp
    omega
  refine ⟨H.bw.setCell (by show W1.heap.size ≤ g0; omega) _, H.oc.kind hk hv2, H.og.off (by omega) (by omega) _ _, H.lo, H.hm, ?_⟩
  subst hv
  exact H.ch.kind (by rw [← H.lens.1]; exact hk)
theorem CW.addr {k : Nat} (hk : k < n2) (j : Nat) (v : Int) : CW a (readdr c' k j v) W1 w q G g0 g1 g2 g3 h ha hd q5 G5 e0 e1 e2 e3 k5 ka kd n n1 n2 n3 i (wr.setCell ⟨ha k, j, none⟩ (.int .i64 v)) := by
  have h1 := H.oc.own.low
  have h2 := (H.oc.own.rm k (by rw [← H.oc.lens.2.2.1]; exact hk)).1
  have h3 := (H.hm k hk).1
  have h4 := H.lo
  exact ⟨H.bw.setCell (by show W1.heap.size ≤ ha k; omega) _, H.oc.addr H.hm hk j v, H.og.off (by omega) (by omega) _ _, H.lo, H.hm, H.ch.addr (by rw [← H.lens.2.2.1]; exact hk) j v⟩
theorem CW.data {k : Nat} (hk : k < n2) (j : Nat) (v : Int) : CW a (redata c' k j v) W1 w q G g0 g1 g2 g3 h ha hd q5 G5 e0 e1 e2 e3 k5 ka kd n n1 n2 n3 i (wr.setCell ⟨hd k, j, none⟩ (.int .i64 v)) := by
  have h1 := H.oc.own.low
  have h2 := (H.oc.own.rm k (by rw [← H.oc.lens.2.2.1]; exact hk)).2.2.1
  have h3 := (H.hm k hk).2
  have h4 := H.lo
  exact ⟨H.bw.setCell (by show W1.heap.size ≤ hd k; omega) _, H.oc.data H.hm hk j v, H.og.off (by omega) (by omega) _ _, H.lo, H.hm, H.ch.data (by rw [← H.lens.2.2.1]; exact hk) j v⟩
theorem CW.out (j : Nat) (v : Int) : CW a (reout c' j v) W1 w q G g0 g1 g2 g3 h ha hd q5 G5 e0 e1 e2 e3 k5 ka kd n n1 n2 n3 i (wr.setCell ⟨g3, j, none⟩ (.int .i64 v)) := by
  have h1 := H.oc.own.low
  have h3 := H.oc.hq.1
  have h4 := H.lo
  exact ⟨H.bw.setCell (by show W1.heap.size ≤ g3; omega) _, H.oc.out j v, H.og.off (by omega) (by omega) _ _, H.lo, H.hm, H.ch.out j v⟩
end
end
end Go.Proofs.YtmghdeodkeenoaaDoor
