/- A circuit of the call's own in its variable: its nodes, its calls, a store into it. -/
import Derived.Test.YtmghdeodkeenoaaDoorLcv
import Derived.Test.YtmghdeodkeenoaaDoorOwn
import Derived.Test.YtmghdeodkeenoaaDoorLvs
namespace Go.Proofs.YtmghdeodkeenoaaDoor
open Go.RowKit


/-- A circuit with one pin replaced. -/
def repin (c : Ck) (n0 p : Nat) (tz : Int) : Ck := { c with nodes := c.nodes.set n0 { c.nodes.getD n0 default with ins := (c.nodes.getD n0 default).ins.set p tz } }
section
variable {c : Ck} {n0 p : Nat} {tz : Int}
theorem repin_at (h0 : n0 < c.nodes.length) (j : Nat) : (repin c n0 p tz).nodes.getD j default = if j = n0 then { c.nodes.getD n0 default with ins := (c.nodes.getD n0 default).ins.set p tz } else c.nodes.getD j default := by
  show (c.nodes.set n0 _).getD j default = _
  rw [getD_set _ _ _ _ _ h0]
theorem repin_len : (repin c n0 p tz).nodes.length = c.nodes.length := by simp [repin]
theorem repin_kind (h0 : n0 < c.nodes.length) (j : Nat) : ((repin c n0 p tz).nodes.getD j default).kind = (c.nodes.getD j default).kind := by
  rw [repin_at h0]
  split
  · rename_i e; subst e; rfl
  · rfl
end

structure OL (c : Ck) (w : World) (q G g0 g1 g2 g3 : Nat) (h ha hd : Nat → Nat) (n n1 n2 n3 : Nat) (wr : World) : Prop where
  tabs : Tabs w
  bel : Below w.heap.size w wr
  low : w.heap.size ≤ G
  own : OwnC c G g0 g1 g2 g3 h ha hd wr
  box : Fr wr q 27 [.slice (some ⟨g0, 0, none⟩) n n, .slice (some ⟨g1, 0, none⟩) n1 n1, .slice (some ⟨g2, 0, none⟩) n2 n2, .slice (some ⟨g3, 0, none⟩) n3 n3]
  lens : n = c.nodes.length ∧ n1 = c.names.length ∧ n2 = c.mems.length ∧ n3 = c.outs.length
  hq : g3 < q ∧ ∀ k, k < n → h k < q
  fit : Fit c
section
variable {c : Ck} {w wr W : World} {q G g0 g1 g2 g3 n n1 n2 n3 : Nat} {h ha hd : Nat → Nat}
theorem OL.next (H : OL c w q G g0 g1 g2 g3 h ha hd n n1 n2 n3 wr) (hb : Below wr.heap.size wr W) : OL c w q G g0 g1 g2 g3 h ha hd n n1 n2 n3 W :=
  ⟨H.tabs, joinB H.bel hb, H.low, H.own.below hb, H.box.below hb, H.lens, H.hq, H.fit⟩
theorem OL.cell0 (H : OL c w q G g0 g1 g2 g3 h ha hd n n1 n2 n3 wr) : wr.cell? ⟨q, 0, none⟩ = some (.slice (some ⟨g0, 0, none⟩) n n) := H.box.cell 0
theorem OL.cells (H : OL c w q G g0 g1 g2 g3 h ha hd n n1 n2 n3 wr) : wr.cell? ⟨q, 0, none⟩ = some (.slice (some ⟨g0, 0, none⟩) n n) ∧ wr.cell? ⟨q, 1, none⟩ = some (.slice (some ⟨g1, 0, none⟩) n1 n1) ∧ wr.cell? ⟨q, 2, none⟩ = some (.slice (some ⟨g2, 0, none⟩) n2 n2) ∧ wr.cell? ⟨q, 3, none⟩ = some (.slice (some ⟨g3, 0, none⟩) n3 n3) :=
  ⟨H.box.cell 0, H.box.cell 1, H.box.cell 2, H.box.cell 3⟩
/-- A node's cells. -/
theorem OL.node (H : OL c w q G g0 g1 g2 g3 h ha hd n n1 n2 n3 wr) {k : Nat} (hk : k < n) :
    wr.cell? ⟨g0, k * 4, none⟩ = some (.int .u8 (c.nodes.getD k default).kind) ∧ wr.cell? ⟨g0, k * 4 + 1, none⟩ = some (.slice (some ⟨h k, 0, none⟩) (c.nodes.getD k default).ins.length (c.nodes.getD k default).ins.length) ∧
      (∀ m, m < (c.nodes.getD k default).ins.length → wr.cell? ⟨h k, m, none⟩ = some (.int .i64 ((c.nodes.getD k default).ins.getD m 0))) ∧ (∀ m, wr.frozen? ⟨h k, m, none⟩ = false) := by
  have hk' : k < c.nodes.length := by rw [← H.lens.1]; exact hk
  refine ⟨?_, ?_, fun m hm => ?_, fun m => (H.own.rn k hk').2.frozen m⟩
  · rw [H.own.f0.cell, ndC_get (by omega), ndF_0]
  · rw [H.own.f0.cell, ndC_get (by omega), ndF_1, if_pos hk']
  · exact (H.own.rn k hk').2.cell hm
theorem OL.cir (H : OL c w q G g0 g1 g2 g3 h ha hd n n1 n2 n3 wr) : Cir wr wr.heap.size (.agg #[.slice (some ⟨g0, 0, none⟩) n n, .slice (some ⟨g1, 0, none⟩) n1 n1, .slice (some ⟨g2, 0, none⟩) n2 n2, .slice (some ⟨g3, 0, none⟩) n3 n3]) c := by
  have := H.own.cir H.fit
  unfold ownV at this
  rw [H.lens.1, H.lens.2.1, H.lens.2.2.1, H.lens.2.2.2]
  exact this
theorem chk_o (H : OL c w q G g0 g1 g2 g3 h ha hd n n1 n2 n3 wr) {z : Int} (hz : chkErr c = z) (hb : Below wr.heap.size wr W) :
    Calls Tryd.prog 14 #[.agg #[.slice (some ⟨g0, 0, none⟩) n n, .slice (some ⟨g1, 0, none⟩) n1 n1, .slice (some ⟨g2, 0, none⟩) n2 n2, .slice (some ⟨g3, 0, none⟩) n3 n3]] W
      fun e w' => e = .returned (.int .i64 z) ∧ Below wr.heap.size wr w' ∧ OL c w q G g0 g1 g2 g3 h ha hd n n1 n2 n3 w' := by
  have hn := H.next hb
  refine (check_any c _ W W.heap.size (Nat.le_refl _) (hn.tabs.below hn.bel) hn.cir).mono fun e w' ⟨h1, h2⟩ => ?_
  rw [hz] at h1
  exact ⟨h1, joinB hb h2, hn.next h2⟩
theorem lives_o (hT : Tabs w) (hb : Below w.heap.size w W) : Calls Tryd.prog 12 #[] W fun e w' => e = .returned (.bool true) ∧ Below w.heap.size w w' :=
  (lives_any W (hT.below hb)).mono fun e w' ⟨h1, h2⟩ => ⟨h1, joinB hb h2⟩
/-- A copy is made, and lies in a new variable. -/
theorem copy_o {v : Value} (hT : Tabs w) (hb : Below w.heap.size w W) (hc : Cir W W.heap.size v c) (hs : SzOk c) (hn : n = c.nodes.length) (h1 : n1 = c.names.length) (h2 : n2 = c.mems.length) (h3 : n3 = c.outs.length) :
    Calls Tryd.prog 13 #[v] W fun e w' => ∃ g0 g1 g2 g3 h ha hd, e = .returned (.agg #[.slice (some ⟨g0, 0, none⟩) n n, .slice (some ⟨g1, 0, none⟩) n1 n1, .slice (some ⟨g2, 0, none⟩) n2 n2, .slice (some ⟨g3, 0, none⟩) n3 n3]) ∧
      OL c w w'.heap.size W.heap.size g0 g1 g2 g3 h ha hd n n1 n2 n3 (w'.alloc (.cells #[.slice (some ⟨g0, 0, none⟩) n n, .slice (some ⟨g1, 0, none⟩) n1 n1, .slice (some ⟨g2, 0, none⟩) n2 n2, .slice (some ⟨g3, 0, none⟩) n3 n3] 27)) := by
  refine (copy_any c v W W.heap.size (Nat.le_refl _) hc hs).mono fun e w' ⟨hb2, g0, g1, g2, g3, h, ha, hd, he, ho⟩ => ?_
  subst hn h1 h2 h3
  exact ⟨g0, g1, g2, g3, h, ha, hd, he, hT, below_new (joinB hb hb2) _, hb.size, ho.below (below_new (Below.refl _ _) _), heap_alloc_new _ _, ⟨rfl, rfl, rfl, rfl⟩, ⟨ho.f3.lt, fun k hk => (ho.rn k hk).2.lt⟩, hc.fit⟩
theorem fit_repin {n0 p : Nat} {v : Int} (F : Fit c) (h0 : n0 < c.nodes.length) : Fit (repin c n0 p v) := by
  refine ⟨by rw [repin_len]; exact F.n, F.s, F.m, F.o, fun i hi => ?_, F.t, F.a⟩
  rw [repin_len] at hi
  rw [repin_at h0]
  split
  · have := F.k n0 h0
    exact ⟨this.1, this.2.1, by simpa using this.2.2⟩
  · exact F.k i hi
/-- A pin is replaced. -/
theorem OL.pin (H : OL c w q G g0 g1 g2 g3 h ha hd n n1 n2 n3 wr) {k : Nat} (hk : k < n) (j : Nat) (v : Int) : OL (repin c k j v) w q G g0 g1 g2 g3 h ha hd n n1 n2 n3 (wr.setCell ⟨h k, j, none⟩ (.int .i64 v)) := by
  have hk' : k < c.nodes.length := by rw [← H.lens.1]; exact hk
  have h1 := H.low
  have h2 := H.own.low
  have h3 := (H.own.rn k hk').1
  have h4 := H.hq.2 k hk
  refine ⟨H.tabs, H.bel.setCell (by show w.heap.size ≤ h k; omega) _, H.low, H.own.ins hk' j v, H.box.other (by show h k ≠ q; omega) _, ⟨by rw [repin_len]; exact H.lens.1, H.lens.2⟩, H.hq, fit_repin H.fit hk'⟩
end


/-- The nodes on which n0 has an effect, and n0. -/
inductive Rch (nodes : List Nd) (n0 : Nat) : Nat → Prop
  | self : Rch nodes n0 n0
  | step {i : Nat} {x : Int} : i < nodes.length → x ∈ dep nodes i → Rch nodes n0 x.toNat → Rch nodes n0 i
def bat (s : List Bool) (x : Int) : Bool := s.getD x.toNat false
theorem bat_nat (s : List Bool) (i : Nat) : bat s (i : Int) = s.getD i false := rfl
theorem bat_set {s : List Bool} {i : Nat} (b : Bool) (hi : i < s.length) (x : Int) : bat (s.set i b) x = if x.toNat = i then b else bat s x := by
  unfold bat
  rw [List.getD_eq_getElem?_getD, List.getD_eq_getElem?_getD, List.getElem?_set]
  by_cases e : i = x.toNat
  · subst e; rw [if_pos rfl, if_pos hi, if_pos rfl]; rfl
  · rw [if_neg e, if_neg (fun h => e h.symm)]
/-- Every node reads earlier ones. -/
def Early (nodes : List Nd) : Prop := ∀ i : Nat, i < nodes.length → ∀ y ∈ dep nodes i, 0 ≤ y ∧ y.toNat < i
/-- Round r, nodes before i done, the pins l of node i done. -/
structure ON (nodes : List Nd) (n0 r i : Nat) (l : List Int) (s : List Bool) : Prop where
  len : s.length = nodes.length
  self : s.getD n0 false = true
  sound : ∀ j : Nat, s.getD j false = true → Rch nodes n0 j
  all : 0 < r → ∀ j : Nat, j < nodes.length → ∀ x ∈ dep nodes j, bat s x = true → s.getD j false = true
  old : ∀ j : Nat, j < i → ∀ x ∈ dep nodes j, bat s x = true → s.getD j false = true
  now : ∀ x ∈ l, bat s x = true → s.getD i false = true
def orat (s : List Bool) (i : Nat) (x : Int) : List Bool := s.set i (s.getD i false || bat s x)
theorem ON.pin {nodes : List Nd} {n0 r i : Nat} {l : List Int} {s : List Bool} (he : Early nodes) (h : ON nodes n0 r i l s) (hi : i < nodes.length) {x : Int} (hx : x ∈ dep nodes i) : ON nodes n0 r i (l ++ [x]) (orat s i x) := by
  have hlen : i < s.length := by rw [h.len]; exact hi
  have hxi := he i hi x hx
  have hset : ∀ z : Int, bat (orat s i x) z = if z.toNat = i then (s.getD i false || bat s x) else bat s z := fun z => bat_set _ hlen z
  have hsetn : ∀ j : Nat, (orat s i x).getD j false = if j = i then (s.getD i false || bat s x) else s.getD j false := fun j => by
    have := hset (j : Int)
    rw [bat_nat, bat_nat, Int.toNat_natCast] at this
    exact this
  have hup : ∀ j : Nat, s.getD j false = true → (orat s i x).getD j false = true := fun j hj => by
    rw [hsetn]; split
    · rename_i e; subst e; rw [hj]; rfl
    · exact hj
  have hsame : 0 < r → ∀ z : Int, bat (orat s i x) z = bat s z := fun hr z => by
    rw [hset]; split
    · rename_i e
      have hz : bat s z = s.getD i false := by unfold bat; rw [e]
      rw [hz]
      cases hb : bat s x
      · rw [Bool.or_false]
      · rw [h.all hr i hi x hx hb]; rfl
    · rfl
  refine ⟨by simp [orat, h.len], hup _ h.self, fun j hj => ?_, fun hr j hj y hy hb => ?_, fun j hj y hy hb => ?_, fun y hy hb => ?_⟩
  · rw [hsetn] at hj
    split at hj
    · rename_i e; subst e
      rcases Bool.or_eq_true_iff.1 hj with h1 | h1
      · exact h.sound _ h1
      · exact .step hi hx (h.sound _ h1)
    · exact h.sound j hj
  · rw [hsame hr] at hb
    exact hup j (h.all hr j hj y hy hb)
  · have hyj := he j (by omega) y hy
    rw [hset, if_neg (by omega)] at hb
    exact hup j (h.old j hj y hy hb)
  · rw [hsetn, if_pos rfl]
    rcases List.mem_append.1 hy with hy | hy
    · by_cases hyi : y.toNat = i
      · rw [hset, if_pos hyi] at hb; exact hb
      · rw [hset, if_neg hyi] at hb
        rw [h.now y hy hb]; rfl
    · obtain rfl := List.mem_singleton.1 hy
      rw [hset, if_neg (by omega)] at hb
      rw [hb, Bool.or_true]
theorem ON.next {nodes : List Nd} {n0 r i : Nat} {s : List Bool} (h : ON nodes n0 r i (dep nodes i) s) : ON nodes n0 r (i + 1) [] s :=
  ⟨h.len, h.self, h.sound, h.all, fun j hj x hx hb => by
    by_cases e : j = i
    · subst e; exact h.now x hx hb
    · exact h.old j (by omega) x hx hb, fun x hx => absurd hx (List.not_mem_nil)⟩
theorem ON.round {nodes : List Nd} {n0 r : Nat} {s : List Bool} (h : ON nodes n0 r nodes.length [] s) : ON nodes n0 (r + 1) 0 [] s :=
  ⟨h.len, h.self, h.sound, fun _ => h.old, fun j hj => absurd hj (by omega), fun x hx => absurd hx (List.not_mem_nil)⟩
theorem ON.start {nodes : List Nd} {n0 : Nat} (h0 : n0 < nodes.length) : ON nodes n0 0 0 [] ((List.replicate nodes.length false).set n0 true) := by
  have hset : ∀ j : Nat, ((List.replicate nodes.length false).set n0 true).getD j false = if j = n0 then true else false := fun j => by
    have := bat_set (s := List.replicate nodes.length false) true (i := n0) (by simpa using h0) (j : Int)
    rw [bat_nat, bat_nat, Int.toNat_natCast] at this
    rw [this]
    split
    · rfl
    · rw [List.getD_eq_getElem?_getD, List.getElem?_replicate]; split <;> rfl
  refine ⟨by simp, (by rw [hset, if_pos rfl]), fun j hj => ?_, (fun h => absurd h (by omega)), fun j hj => absurd hj (by omega), fun x hx => absurd hx (List.not_mem_nil)⟩
  rw [hset] at hj
  split at hj
  · rename_i e; subst e; exact .self
  · cases hj

section
variable {c : Ck} {n0 p : Nat} {tz : Int}
theorem mem_set_of {l : List Int} {p : Nat} {x y : Int} (h : y ∈ l.set p x) : y = x ∨ y ∈ l := by
  rcases List.mem_or_eq_of_mem_set h with h | h
  · exact .inr h
  · exact .inl h
theorem repin_dep (h0 : n0 < c.nodes.length) (j : Nat) : dep (repin c n0 p tz).nodes (j : Int) = if j = n0 then (if cmb (c.nodes.getD n0 default).kind = true then (c.nodes.getD n0 default).ins.set p tz else []) else dep c.nodes (j : Int) := by
  unfold dep
  rw [Int.toNat_natCast, repin_at h0]
  split <;> rfl
theorem nodeErr_congr {c c' : Ck} (hl : c'.nodes.length = c.nodes.length) (hm : c'.mems = c.mems) (hk : ∀ j : Nat, (c'.nodes.getD j default).kind = (c.nodes.getD j default).kind) (x : Nd) : nodeErr c' x = nodeErr c x := by
  have h1 : notTri c' = notTri c := funext fun z => by unfold notTri; rw [hk]
  have h2 : placeOk c' x = placeOk c x := by unfold placeOk; rw [hm]
  unfold nodeErr
  rw [h1, h2, hl]
theorem nodeErr_mk {c : Ck} {x : Nd} (h1 : ¬ 15 < x.kind) (h2 : lo x.kind ≤ x.ins.length) (h3 : (x.ins.length : Int) ≤ hi x.kind) (h4 : areIdx c.nodes.length x.ins = true) (h5 : ¬ (x.kind = 13 ∧ anyP (notTri c) x.ins = true)) (h6 : placeOk c x = true) : nodeErr c x = 0 := by
  unfold nodeErr
  rw [if_neg h1, if_neg (by omega), if_neg (by omega), h4, if_neg (by decide), if_neg h5, h6]
  rfl
theorem shape_mk {c : Ck} (h1 : c.nodes.length ≤ 16384) (h2 : c.mems.length ≤ 16) (h3 : c.outs.length ≤ 16384) (h4 : c.names.length = c.nodes.length) (h5 : ∀ j, j < c.nodes.length → nodeErr c (c.nodes.getD j default) = 0) (h6 : namesOk c.names = true) (h7 : ∀ x ∈ c.mems, memErr c x = 0) (h8 : areIdx c.nodes.length c.outs = true) : shapeErr c = 0 := by
  have e5 := firstE_none default (nodeErr c) c.nodes h5
  have e7 := firstE_none default (memErr c) c.mems fun j hj => h7 _ (by rw [List.getD_eq_getElem?_getD, List.getElem?_eq_getElem hj]; exact List.getElem_mem hj)
  unfold shapeErr
  rw [if_neg (by omega), if_neg (by omega), e5, if_neg (by decide), h6, if_neg (by decide), e7, if_neg (by decide), h8]
  rfl
theorem repin_shape (hs : shapeErr c = 0) (h0 : n0 < c.nodes.length) (ht : 0 ≤ tz ∧ tz < (c.nodes.length : Int)) (hk : (c.nodes.getD n0 default).kind ≠ 13) : shapeErr (repin c n0 p tz) = 0 := by
  obtain ⟨s1, s2, s3, s4, s5, s6, s7, s8⟩ := shape_zero hs
  have hl : (repin c n0 p tz).nodes.length = c.nodes.length := repin_len
  refine shape_mk (by rw [hl]; exact s1) s2 s3 (by rw [hl]; exact s4) (fun j hj => ?_) s6 (fun x hx => ?_) (by rw [hl]; exact s8)
  · rw [nodeErr_congr hl rfl (fun j => repin_kind h0 j), repin_at h0]
    rw [hl] at hj
    split
    · obtain ⟨n1, n2, n3, n4, n5, n6⟩ := nodeErr_zero (s5 _ (getD_mem_nd h0))
      refine nodeErr_mk n1 (by simpa using n2) (by simpa using n3) ?_ (fun h => hk h.1) n6
      refine areIdx_iff.2 fun y hy => ?_
      rcases mem_set_of hy with rfl | hy
      · exact ht
      · exact areIdx_iff.1 n4 y hy
    · exact s5 _ (getD_mem_nd hj)
  · have h := s7 x hx
    unfold memErr at h ⊢
    rw [hl]
    exact h
/-- THE LOOPS: levels, exactly if the other net does not depend on the node. -/
theorem repin_lvl {L : List Int} {s : List Bool} (hw : Wf c.nodes) (hL : Lvl c.nodes L) (hs : ON c.nodes n0 1 0 [] s) (h0 : n0 < c.nodes.length) (hp : p < (c.nodes.getD n0 default).ins.length) (hc : cmb (c.nodes.getD n0 default).kind = true) (ht : 0 ≤ tz ∧ tz < (c.nodes.length : Int)) :
    (∃ L', Lvl (repin c n0 p tz).nodes L') ↔ bat s tz = false := by
  constructor
  · rintro ⟨L', hL'⟩
    cases hb : bat s tz
    · rfl
    exfalso
    have key : ∀ j : Nat, Rch c.nodes n0 j → lat L' n0 ≤ lat L' j := by
      intro j hr
      induction hr with
      | self => exact Int.le_refl _
      | @step i x hi hx _ ih =>
        by_cases e : i = n0
        · subst e; exact Int.le_refl _
        · have hx0 := (hw.dep (i := (i : Int)) (by simpa using hi) hx).1
          have h1 := hL'.lt (i := (i : Int)) (x := x) (by omega) (by rw [repin_len]; omega) (by rw [repin_dep h0, if_neg e]; exact hx)
          rw [lat_nat _ hx0] at ih
          omega
    have h1 := key tz.toNat (hs.sound _ hb)
    rw [lat_nat _ ht.1] at h1
    have h2 := hL'.lt (i := (n0 : Int)) (x := tz) (by omega) (by rw [repin_len]; omega) (by rw [repin_dep h0, if_pos rfl, if_pos hc]; exact List.mem_of_getElem? (i := p) (by rw [List.getElem?_set, if_pos rfl, if_pos hp]))
    omega
  · intro hb
    have hwf : Wf (repin c n0 p tz).nodes := by
      intro i hi x hx
      rw [repin_len] at hi ⊢
      rw [repin_at h0] at hx
      split at hx
      · rcases mem_set_of hx with rfl | hx
        · exact ht
        · exact hw n0 h0 x hx
      · exact hw i hi x hx
    have hf : ∀ j : Nat, j < c.nodes.length → lat ((List.range c.nodes.length).map fun (i : Nat) => lat L i + (if s.getD i false = true then (c.nodes.length : Int) else 0)) j = lat L j + (if s.getD j false = true then (c.nodes.length : Int) else 0) := fun j hj => by
      simp [lat, List.getD_eq_getElem?_getD, hj]
    have hpos : ∀ j : Nat, 0 ≤ lat ((List.range c.nodes.length).map fun (i : Nat) => lat L i + (if s.getD i false = true then (c.nodes.length : Int) else 0)) j := fun j => by
      by_cases hj : j < c.nodes.length
      · rw [hf j hj]
        have := hL.nonneg hj
        split <;> omega
      · unfold lat
        rw [List.getD_eq_getElem?_getD, List.getElem?_eq_none (by simp; omega)]; exact Int.le_refl _
    refine lvl_of_rank hwf _ hpos fun j hj x hx => ?_
    rw [repin_len] at hj
    rw [repin_dep h0] at hx
    have old : x ∈ dep c.nodes (j : Int) → lat ((List.range c.nodes.length).map fun (i : Nat) => lat L i + (if s.getD i false = true then (c.nodes.length : Int) else 0)) x + 1 ≤ lat ((List.range c.nodes.length).map fun (i : Nat) => lat L i + (if s.getD i false = true then (c.nodes.length : Int) else 0)) j := fun hx => by
      have hb' := hw.dep (i := (j : Int)) (by simpa using hj) hx
      have h1 := hL.lt (i := (j : Int)) (by omega) (by omega) hx
      have h2 := hf x.toNat (by omega)
      rw [lat_nat _ hb'.1, lat_nat _ hb'.1] at h2
      rw [h2, hf j hj]
      have h3 := hs.all (by decide) j hj x hx
      unfold bat at h3
      by_cases e : s.getD x.toNat false = true
      · rw [if_pos e, if_pos (h3 e)]; omega
      · rw [if_neg e]; split <;> omega
    by_cases e : j = n0
    · subst e
      rw [if_pos rfl, if_pos hc] at hx
      rcases mem_set_of hx with rfl | hx
      · have h2 := hf x.toNat (by omega)
        rw [lat_nat _ ht.1, lat_nat _ ht.1] at h2
        have h3 : s.getD x.toNat false = false := hb
        rw [h2, hf j hj, h3, hs.self, if_pos rfl, if_neg (by decide)]
        have h4 := hL.bound hw (i := x.toNat) (by omega)
        rw [lat_nat _ ht.1] at h4
        have h5 := hL.nonneg hj
        omega
      · exact old (by unfold dep depsOf; rw [Int.toNat_natCast, if_pos hc]; exact hx)
    · rw [if_neg e] at hx
      exact old hx
theorem repin_chk {L : List Int} {s : List Bool} (hok : chkErr c = 0) (hL : Lvl c.nodes L) (hs : ON c.nodes n0 1 0 [] s) (h0 : n0 < c.nodes.length) (hp : p < (c.nodes.getD n0 default).ins.length) (hc : cmb (c.nodes.getD n0 default).kind = true) (hk : (c.nodes.getD n0 default).kind ≠ 13) (ht : 0 ≤ tz ∧ tz < (c.nodes.length : Int)) :
    chkErr (repin c n0 p tz) = if bat s tz = true then 6 else 0 := by
  have hsh := chk_shape hok
  have h1 := repin_lvl (tz := tz) (wf_of_shape hsh) hL hs h0 hp hc ht
  unfold chkErr
  rw [if_neg (by rw [repin_shape hsh h0 ht hk]; decide)]
  cases hb : bat s tz
  · rw [if_pos (h1.2 hb), if_neg (by decide)]
  · rw [if_neg (fun h => by have := h1.1 h; rw [hb] at this; cases this), if_pos rfl]
end

theorem ofC_early (x : Cx) (hx : Cok x) : Early (ofC x).nodes := by
  have hlen : (nodesN x).length = sizeN x := dffTo_len x _
  have hwf : Wf (ofC x).nodes := wf_of_shape (ofC_shape x hx)
  intro i hi y hy
  refine ⟨(hwf.dep (i := (i : Int)) (by simpa using hi) hy).1, ?_⟩
  rw [show (ofC x).nodes = nodesN x from rfl, hlen] at hi
  unfold dep depsOf at hy
  rw [Int.toNat_natCast, show (ofC x).nodes = nodesN x from rfl] at hy
  rcases node_cases x hx i hi with ⟨-, h⟩ | ⟨d, h⟩ | ⟨-, h | h⟩ | ⟨k, g, hk, hik, hg, h⟩
  · rw [h] at hy; cases hy
  · rw [h, show cmb (dffN (ix d (sizeN x))).kind = false from rfl] at hy; cases hy
  · rw [h] at hy; cases hy
  · rw [h] at hy; cases hy
  · rw [h] at hy
    split at hy
    · obtain ⟨j, rfl, hj⟩ := (gate_good x.bus g hg (gatesTo x k) (by rw [gatesTo_len, baseN_len]; have := firstN_le x; omega)).ins y hy
      rw [Int.toNat_natCast]; omega
    · cases hy
/-- Without buses no node of C is one. -/
theorem ofC_nobus (x : Cx) (hx : Cok x) (hb : x.bus = false) (i : Nat) (hi : i < sizeN x) : ((ofC x).nodes.getD i default).kind ≠ 13 := by
  rw [show (ofC x).nodes = nodesN x from rfl]
  rcases node_cases x hx i hi with ⟨-, h⟩ | ⟨d, h⟩ | ⟨-, h | h⟩ | ⟨k, g, hk, hik, hg, h⟩
  · rw [h]; decide
  · rw [h]; show (14 : Int) ≠ 13; decide
  · rw [h]; decide
  · rw [h]; decide
  · rw [h, hb]
    have h9 : kindG false g.kind = g.kind % 9 := by unfold kindG; rw [if_neg (by decide)]
    have hu := hg.1
    have hu0 := hg.2.1
    unfold U8 at hu hu0
    unfold gateN
    rw [h9]
    split
    · show (5 + g.kind % 9 : Int) ≠ 13; omega
    split
    · show (4 : Int) ≠ 13; decide
    split
    · show (11 : Int) ≠ 13; decide
    split
    · show (12 : Int) ≠ 13; decide
    split
    · omega
    split
    · show (1 + g.i0 % 2 : Int) ≠ 13; omega
    · show (3 : Int) ≠ 13; decide


theorem szok_c (x : Cx) (hx : Cok x) : SzOk (ofC x) := by
  have hz := sizeN_le x
  have hl := ofC_len x
  have hs := shape_zero (ofC_shape x hx)
  refine ⟨by omega, by rw [hs.2.2.2.1]; omega, by have := hs.2.1; omega, by have := hs.2.2.1; omega, fun k hk => ?_, fun k hk => ?_, fun k hk => ?_⟩
  · have h := (nodeErr_zero (hs.2.2.2.2.1 _ (getD_mem_nd hk))).2.2.1
    have := hi_le ((ofC x).nodes.getD k default).kind
    omega
  · have h := hs.2.2.2.2.2.2.1 ((ofC x).mems.getD k default) (by rw [List.getD_eq_getElem?_getD, List.getElem?_eq_getElem hk]; exact List.getElem_mem hk)
    unfold memErr at h
    split at h
    · cases h
    · omega
  · have h := hs.2.2.2.2.2.2.1 ((ofC x).mems.getD k default) (by rw [List.getD_eq_getElem?_getD, List.getElem?_eq_getElem hk]; exact List.getElem_mem hk)
    unfold memErr at h
    split at h
    · cases h
    · omega
end Go.Proofs.YtmghdeodkeenoaaDoor
