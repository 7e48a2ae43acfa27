/- A circuit of the call's own in its variable: its nodes, its calls, a store into it. -/
import Derived.Test.YtmghdeodkeenoaaDoorOwn
import Derived.Test.YtmghdeodkeenoaaDoorLvs
namespace Go.Proofs.YtmghdeodkeenoaaDoor
open Go.RowKit

/-- A circuit with one pin replaced. -/
def repin (c : Ck) (n0 p : Nat) (tz : Int) : Ck := { c with nodes := c.nodes.set n0 { c.nodes.getD n0 default with ins := (c.nodes.getD n0 default).ins.set p tz } }
section
variable {c : Ck} {n0 p : Nat} {tz : Int}
theorem repin_at (h0 : n0 < c.nodes.length) (j : Nat) : (repin c n0 p tz).nodes.getD j default = if j = n0 then { c.nodes.getD n0 default with ins := (c.nodes.getD n0 default).ins.set p tz } else c.nodes.getD j default := by
  show (c.nodes.set n0 _).getD j default = _
  rw [getD_set _ _ _ _ _ h0]
theorem repin_len : (repin c n0 p tz).nodes.length = c.nodes.length := by simp [repin]
theorem repin_kind (h0 : n0 < c.nodes.length) (j : Nat) : ((repin c n0 p tz).nodes.getD j default).kind = (c.nodes.getD j default).kind := by
  rw [repin_at h0]
  split
  · rename_i e; subst e; rfl
  · rfl
end

structure OL (c : Ck) (w : World) (q G g0 g1 g2 g3 : Nat) (h ha hd : Nat → Nat) (n n1 n2 n3 : Nat) (wr : World) : Prop where
  tabs : Tabs w
  bel : Below w.heap.size w wr
  low : w.heap.size ≤ G
  own : OwnC c G g0 g1 g2 g3 h ha hd wr
  box : Fr wr q 27 [.slice (some ⟨g0, 0, none⟩) n n, .slice (some ⟨g1, 0, none⟩) n1 n1, .slice (some ⟨g2, 0, none⟩) n2 n2, .slice (some ⟨g3, 0, none⟩) n3 n3]
  lens : n = c.nodes.length ∧ n1 = c.names.length ∧ n2 = c.mems.length ∧ n3 = c.outs.length
  hq : g3 < q ∧ ∀ k, k < n → h k < q
  fit : Fit c
section
variable {c : Ck} {w wr W : World} {q G g0 g1 g2 g3 n n1 n2 n3 : Nat} {h ha hd : Nat → Nat}
theorem OL.next (H : OL c w q G g0 g1 g2 g3 h ha hd n n1 n2 n3 wr) (hb : Below wr.heap.size wr W) : OL c w q G g0 g1 g2 g3 h ha hd n n1 n2 n3 W :=
  ⟨H.tabs, joinB H.bel hb, H.low, H.own.below hb, H.box.below hb, H.lens, H.hq, H.fit⟩
theorem OL.cell0 (H : OL c w q G g0 g1 g2 g3 h ha hd n n1 n2 n3 wr) : wr.cell? ⟨q, 0, none⟩ = some (.slice (some ⟨g0, 0, none⟩) n n) := H.box.cell 0
theorem OL.cells (H : OL c w q G g0 g1 g2 g3 h ha hd n n1 n2 n3 wr) : wr.cell? ⟨q, 0, none⟩ = some (.slice (some ⟨g0, 0, none⟩) n n) ∧ wr.cell? ⟨q, 1, none⟩ = some (.slice (some ⟨g1, 0, none⟩) n1 n1) ∧ wr.cell? ⟨q, 2, none⟩ = some (.slice (some ⟨g2, 0, none⟩) n2 n2) ∧ wr.cell? ⟨q, 3, none⟩ = some (.slice (some ⟨g3, 0, none⟩) n3 n3) :=
  ⟨H.box.cell 0, H.box.cell 1, H.box.cell 2, H.box.cell 3⟩
/-- A node's cells. -/
theorem OL.node (H : OL c w q G g0 g1 g2 g3 h ha hd n n1 n2 n3 wr) {k : Nat} (hk : k < n) :
    wr.cell? ⟨g0, k * 4, none⟩ = some (.int .u8 (c.nodes.getD k default).kind) ∧ wr.cell? ⟨g0, k * 4 + 1, none⟩ = some (.slice (some ⟨h k, 0, none⟩) (c.nodes.getD k default).ins.length (c.nodes.getD k default).ins.length) ∧
      (∀ m, m < (c.nodes.getD k default).ins.length → wr.cell? ⟨h k, m, none⟩ = some (.int .i64 ((c.nodes.getD k default).ins.getD m 0))) ∧ (∀ m, wr.frozen? ⟨h k, m, none⟩ = false) := by
  have hk' : k < c.nodes.length := by rw [← H.lens.1]; exact hk
  refine ⟨?_, ?_, fun m hm => ?_, fun m => (H.own.rn k hk').2.frozen m⟩
  · rw [H.own.f0.cell, ndC_get (by omega), ndF_0]
  · rw [H.own.f0.cell, ndC_get (by omega), ndF_1, if_pos hk']
  · exact (H.own.rn k hk').2.cell hm
theorem OL.cir (H : OL c w q G g0 g1 g2 g3 h ha hd n n1 n2 n3 wr) : Cir wr wr.heap.size (.agg #[.slice (some ⟨g0, 0, none⟩) n n, .slice (some ⟨g1, 0, none⟩) n1 n1, .slice (some ⟨g2, 0, none⟩) n2 n2, .slice (some ⟨g3, 0, none⟩) n3 n3]) c := by
  have := H.own.cir H.fit
  unfold ownV at this
  rw [H.lens.1, H.lens.2.1, H.lens.2.2.1, H.lens.2.2.2]
  exact this
theorem chk_o (H : OL c w q G g0 g1 g2 g3 h ha hd n n1 n2 n3 wr) {z : Int} (hz : chkErr c = z) (hb : Below wr.heap.size wr W) :
    Calls Tryd.prog 14 #[.agg #[.slice (some ⟨g0, 0, none⟩) n n, .slice (some ⟨g1, 0, none⟩) n1 n1, .slice (some ⟨g2, 0, none⟩) n2 n2, .slice (some ⟨g3, 0, none⟩) n3 n3]] W
      fun e w' => e = .returned (.int .i64 z) ∧ Below wr.heap.size wr w' ∧ OL c w q G g0 g1 g2 g3 h ha hd n n1 n2 n3 w' := by
  have hn := H.next hb
  refine (check_any c _ W W.heap.size (Nat.le_refl _) (hn.tabs.below hn.bel) hn.cir).mono fun e w' ⟨h1, h2⟩ => ?_
  rw [hz] at h1
  exact ⟨h1, joinB hb h2, hn.next h2⟩
theorem lives_o (hT : Tabs w) (hb : Below w.heap.size w W) : Calls Tryd.prog 12 #[] W fun e w' => e = .returned (.bool true) ∧ Below w.heap.size w w' :=
  (lives_any W (hT.below hb)).mono fun e w' ⟨h1, h2⟩ => ⟨h1, joinB hb h2⟩
/-- A copy is made, and lies in a new variable. -/
theorem copy_o {v : Value} (hT : Tabs w) (hb : Below w.heap.size w W) (hc : Cir W W.heap.size v c) (hs : SzOk c) (hn : n = c.nodes.length) (h1 : n1 = c.names.length) (h2 : n2 = c.mems.length) (h3 : n3 = c.outs.length) :
    Calls Tryd.prog 13 #[v] W fun e w' => ∃ g0 g1 g2 g3 h ha hd, e = .returned (.agg #[.slice (some ⟨g0, 0, none⟩) n n, .slice (some ⟨g1, 0, none⟩) n1 n1, .slice (some ⟨g2, 0, none⟩) n2 n2, .slice (some ⟨g3, 0, none⟩) n3 n3]) ∧
      OL c w w'.heap.size W.heap.size g0 g1 g2 g3 h ha hd n n1 n2 n3 (w'.alloc (.cells #[.slice (some ⟨g0, 0, none⟩) n n, .slice (some ⟨g1, 0, none⟩) n1 n1, .slice (some ⟨g2, 0, none⟩) n2 n2, .slice (some ⟨g3, 0, none⟩) n3 n3] 27)) := by
  refine (copy_any c v W W.heap.size (Nat.le_refl _) hc hs).mono fun e w' ⟨hb2, g0, g1, g2, g3, h, ha, hd, he, ho⟩ => ?_
  subst hn h1 h2 h3
  exact ⟨g0, g1, g2, g3, h, ha, hd, he, hT, below_new (joinB hb hb2) _, hb.size, ho.below (below_new (Below.refl _ _) _), heap_alloc_new _ _, ⟨rfl, rfl, rfl, rfl⟩, ⟨ho.f3.lt, fun k hk => (ho.rn k hk).2.lt⟩, hc.fit⟩
theorem fit_repin {n0 p : Nat} {v : Int} (F : Fit c) (h0 : n0 < c.nodes.length) : Fit (repin c n0 p v) := by
  refine ⟨by rw [repin_len]; exact F.n, F.s, F.m, F.o, fun i hi => ?_, F.t, F.a⟩
  rw [repin_len] at hi
  rw [repin_at h0]
  split
  · have := F.k n0 h0
    exact ⟨this.1, this.2.1, by simpa using this.2.2⟩
  · exact F.k i hi
/-- A pin is replaced. -/
theorem OL.pin (H : OL c w q G g0 g1 g2 g3 h ha hd n n1 n2 n3 wr) {k : Nat} (hk : k < n) (j : Nat) (v : Int) : OL (repin c k j v) w q G g0 g1 g2 g3 h ha hd n n1 n2 n3 (wr.setCell ⟨h k, j, none⟩ (.int .i64 v)) := by
  have hk' : k < c.nodes.length := by rw [← H.lens.1]; exact hk
  have h1 := H.low
  have h2 := H.own.low
  have h3 := (H.own.rn k hk').1
  have h4 := H.hq.2 k hk
  refine ⟨H.tabs, H.bel.setCell (by show w.heap.size ≤ h k; omega) _, H.low, H.own.ins hk' j v, H.box.other (by show h k ≠ q; omega) _, ⟨by rw [repin_len]; exact H.lens.1, H.lens.2⟩, H.hq, fit_repin H.fit hk'⟩
end
end Go.Proofs.YtmghdeodkeenoaaDoor
