/- NetlistsSpoil: stores into a circuit of the call's own. -/
import Derived.Test.YtmghdeodkeenoaaDoorLol
namespace Go.Proofs.YtmghdeodkeenoaaDoor
open Go.RowKit

theorem firstE_same {α : Type} (d : α) (f : α → Int) {e : Int} (he : e ≠ 0) : ∀ (l : List α), (∀ j, j < l.length → f (l.getD j d) = 0 ∨ f (l.getD j d) = e) → (∃ j, j < l.length ∧ f (l.getD j d) = e) → firstE f l = e
  | [], _, ⟨j, hj, _⟩ => absurd hj (by simp)
  | x :: l, h, ⟨j, hj, hje⟩ => by
    have h00 := h 0 (by simp)
    simp only [List.getD_cons_zero] at h00
    unfold firstE
    by_cases hx : f x = 0
    · rw [if_pos hx]
      refine firstE_same d f he l (fun j hj => by have := h (j + 1) (by simpa using hj); simpa using this) ?_
      cases j with
      | zero => simp only [List.getD_cons_zero] at hje; exact absurd (hje.symm.trans hx) he
      | succ j => exact ⟨j, by simpa using hj, by simpa using hje⟩
    · rw [if_neg hx]
      rcases h00 with h' | h'
      · exact absurd h' hx
      · exact h'
theorem chk_of_shape {c : Ck} {e : Int} (h : shapeErr c = e) (he : e ≠ 0) : chkErr c = e := by
  unfold chkErr
  rw [if_pos (by rw [h]; exact he), h]
section
variable {c : Ck} {k : Nat} {nd : Nd}
/-- One node is another. -/
def renode (c : Ck) (k : Nat) (nd : Nd) : Ck := { c with nodes := c.nodes.set k nd }
theorem renode_len : (renode c k nd).nodes.length = c.nodes.length := by simp [renode]
theorem renode_at (hk : k < c.nodes.length) (j : Nat) : (renode c k nd).nodes.getD j default = if j = k then nd else c.nodes.getD j default := by
  show (c.nodes.set k _).getD j default = _
  rw [getD_set _ _ _ _ _ hk]
theorem renode_shape {e : Int} (hs : shapeErr c = 0) (hk : k < c.nodes.length) (he : e ≠ 0) (h1 : nodeErr (renode c k nd) nd = e) (h2 : ∀ j, j < c.nodes.length → nodeErr (renode c k nd) (c.nodes.getD j default) = 0 ∨ nodeErr (renode c k nd) (c.nodes.getD j default) = e) : shapeErr (renode c k nd) = e := by
  obtain ⟨s1, s2, s3, s4, s5, s6, s7, s8⟩ := shape_zero hs
  have hl : (renode c k nd).nodes.length = c.nodes.length := renode_len
  have hf : firstE (nodeErr (renode c k nd)) (renode c k nd).nodes = e := firstE_same default _ he _ (fun j hj => by
    rw [hl] at hj
    rw [renode_at hk]
    split
    · exact .inr h1
    · exact h2 j hj) ⟨k, by rw [hl]; exact hk, by rw [renode_at hk, if_pos rfl]; exact h1⟩
  unfold shapeErr
  rw [if_neg (by rw [hl]; show ¬ (16384 < c.nodes.length ∨ 16 < c.mems.length ∨ 16384 < c.outs.length); omega), if_neg (by rw [hl]; show ¬ c.names.length ≠ c.nodes.length; omega), hf, if_pos he]
/-- The same kinds: the other nodes are as they were. -/
theorem renode_others (hs : shapeErr c = 0) (hk : k < c.nodes.length) (hkd : nd.kind = (c.nodes.getD k default).kind) (j : Nat) (hj : j < c.nodes.length) : nodeErr (renode c k nd) (c.nodes.getD j default) = 0 := by
  rw [nodeErr_congr (c := c) renode_len rfl (fun i => by
    rw [renode_at hk]
    split
    · rename_i e; subst e; exact hkd
    · rfl)]
  exact (shape_zero hs).2.2.2.2.1 _ (getD_mem_nd hj)
theorem spoil_kind (hs : shapeErr c = 0) (hk : k < c.nodes.length) {v : Int} (hv : 15 < v) : chkErr (renode c k { c.nodes.getD k default with kind := v }) = 7 := by
  refine chk_of_shape (renode_shape hs hk (by decide) (by unfold nodeErr; rw [if_pos hv]) fun j hj => ?_) (by decide)
  obtain ⟨n1, n2, n3, n4, n5, n6⟩ := nodeErr_zero ((shape_zero hs).2.2.2.2.1 _ (getD_mem_nd hj))
  unfold nodeErr
  rw [if_neg n1, if_neg (by omega), if_neg (by omega), renode_len, n4, if_neg (by decide)]
  split
  · exact .inr rfl
  · left
    rw [show placeOk (renode c k { c.nodes.getD k default with kind := v }) (c.nodes.getD j default) = placeOk c (c.nodes.getD j default) from rfl, n6]
    rfl
theorem spoil_wide (hs : shapeErr c = 0) (hk : k < c.nodes.length) {l : List Int} (hl : 16 < l.length) : chkErr (renode c k { c.nodes.getD k default with ins := l }) = 8 := by
  refine chk_of_shape (renode_shape hs hk (by decide) ?_ fun j hj => .inl (renode_others hs hk (by rfl) j hj)) (by decide)
  obtain ⟨n1, -⟩ := nodeErr_zero ((shape_zero hs).2.2.2.2.1 _ (getD_mem_nd hk))
  have := hi_le (c.nodes.getD k default).kind
  unfold nodeErr
  rw [if_neg n1]
  split
  · rfl
  · dsimp only; rw [if_pos (by omega)]
theorem spoil_pin (hs : shapeErr c = 0) (hk : k < c.nodes.length) {p : Nat} (hp : p < (c.nodes.getD k default).ins.length) {v : Int} (hv : (c.nodes.length : Int) ≤ v) : chkErr (renode c k { c.nodes.getD k default with ins := (c.nodes.getD k default).ins.set p v }) = 1 := by
  refine chk_of_shape (renode_shape hs hk (by decide) ?_ fun j hj => .inl (renode_others hs hk (by rfl) j hj)) (by decide)
  obtain ⟨n1, n2, n3, n4, n5, n6⟩ := nodeErr_zero ((shape_zero hs).2.2.2.2.1 _ (getD_mem_nd hk))
  unfold nodeErr
  rw [if_neg n1]
  dsimp only
  rw [if_neg (by rw [List.length_set]; omega), if_neg (by rw [List.length_set]; omega), if_pos]
  rw [renode_len]
  cases h : areIdx c.nodes.length ((c.nodes.getD k default).ins.set p v)
  · rfl
  · have := areIdx_iff.1 h v (List.mem_of_getElem? (i := p) (by rw [List.getElem?_set, if_pos rfl, if_pos hp]))
    omega
theorem spoil_place (hs : shapeErr c = 0) (hk : k < c.nodes.length) (h1 : nd.kind = (c.nodes.getD k default).kind) (h2 : nd.ins = (c.nodes.getD k default).ins) (h3 : placeOk c nd = false) : chkErr (renode c k nd) = 1 := by
  refine chk_of_shape (renode_shape hs hk (by decide) ?_ fun j hj => .inl (renode_others hs hk h1 j hj)) (by decide)
  obtain ⟨n1, n2, n3, n4, n5, n6⟩ := nodeErr_zero ((shape_zero hs).2.2.2.2.1 _ (getD_mem_nd hk))
  rw [nodeErr_congr (c := c) renode_len rfl (fun i => by
    rw [renode_at hk]
    split
    · rename_i e; subst e; exact h1
    · rfl)]
  unfold nodeErr
  rw [h1, h2, if_neg n1, if_neg (by omega), if_neg (by omega), n4, if_neg (by decide), if_neg n5, if_pos h3]
theorem spoil_bit (hs : shapeErr c = 0) (hk : k < c.nodes.length) : chkErr (renode c k { c.nodes.getD k default with bit := -1 }) = 1 := by
  refine spoil_place hs hk rfl rfl ?_
  unfold placeOk
  dsimp only
  split
  · simp [isIdx]
  · simp
theorem spoil_mem (hs : shapeErr c = 0) (hk : k < c.nodes.length) (hm : c.mems.length ≤ 1) : chkErr (renode c k { c.nodes.getD k default with mem := 1 }) = 1 := by
  refine spoil_place hs hk rfl rfl ?_
  unfold placeOk
  dsimp only
  split
  · have : isIdx c.mems.length 1 = false := by unfold isIdx; simp; omega
    rw [this]; rfl
  · rfl
theorem spoil_self (hs : shapeErr c = 0) (hk : k < c.nodes.length) {p : Nat} (hp : p < (c.nodes.getD k default).ins.length) (hc : cmb (c.nodes.getD k default).kind = true) (hb : (c.nodes.getD k default).kind ≠ 13) : chkErr (repin c k p (k : Int)) = 6 := by
  unfold chkErr
  rw [if_neg (by rw [repin_shape hs hk ⟨by omega, by omega⟩ hb]; decide), if_neg]
  rintro ⟨L, hL⟩
  have := hL.lt (i := (k : Int)) (x := (k : Int)) (by omega) (by rw [repin_len]; omega) (by rw [repin_dep hk, if_pos rfl, if_pos hc]; exact List.mem_of_getElem? (i := p) (by rw [List.getElem?_set, if_pos rfl, if_pos hp]))
  omega
/-- Other names. -/
theorem spoil_names (hs : shapeErr c = 0) {l : List ByteArray} (hl : l.length = c.names.length) (hb : namesOk l = false) : chkErr { c with names := l } = 5 := by
  obtain ⟨s1, s2, s3, s4, s5, s6, s7, s8⟩ := shape_zero hs
  refine chk_of_shape ?_ (by decide)
  have hf : firstE (nodeErr { c with names := l }) c.nodes = 0 := firstE_none default _ _ fun j hj => (nodeErr_congr (c := c) (c' := { c with names := l }) rfl rfl (fun _ => rfl) _).trans (s5 _ (getD_mem_nd hj))
  unfold shapeErr
  dsimp only
  rw [if_neg (by omega), if_neg (by omega), hf, if_neg (by decide), if_pos hb]
theorem spoil_cut (hs : shapeErr c = 0) {l : List ByteArray} (hl : l.length ≠ c.nodes.length) : chkErr { c with names := l } = 8 := by
  obtain ⟨s1, s2, s3, s4, s5, s6, s7, s8⟩ := shape_zero hs
  refine chk_of_shape ?_ (by decide)
  unfold shapeErr
  dsimp only
  rw [if_neg (by omega), if_pos hl]
theorem spoil_outs (hs : shapeErr c = 0) {v : Int} (hv : v < 0) (ho : c.outs.length < 16384) : chkErr { c with outs := c.outs ++ [v] } = 1 := by
  obtain ⟨s1, s2, s3, s4, s5, s6, s7, s8⟩ := shape_zero hs
  refine chk_of_shape ?_ (by decide)
  have hf : firstE (nodeErr { c with outs := c.outs ++ [v] }) c.nodes = 0 := firstE_none default _ _ fun j hj => (nodeErr_congr (c := c) (c' := { c with outs := c.outs ++ [v] }) rfl rfl (fun _ => rfl) _).trans (s5 _ (getD_mem_nd hj))
  have hm : firstE (memErr { c with outs := c.outs ++ [v] }) c.mems = 0 := firstE_none default _ _ fun j hj => s7 _ (by rw [List.getD_eq_getElem?_getD, List.getElem?_eq_getElem hj]; exact List.getElem_mem hj)
  unfold shapeErr
  dsimp only
  rw [if_neg (by simp; omega), if_neg (by omega), hf, if_neg (by decide), s6, if_neg (by decide), hm, if_neg (by decide), if_pos]
  cases h : areIdx c.nodes.length (c.outs ++ [v])
  · rfl
  · have := areIdx_iff.1 h v (by simp)
    omega
theorem spoil_mems (hs : shapeErr c = 0) (hm : c.mems.length < 16) {m : Mm} {e : Int} (he : e ≠ 0) (h1 : memErr c m = e) : chkErr { c with mems := c.mems ++ [m] } = e := by
  obtain ⟨s1, s2, s3, s4, s5, s6, s7, s8⟩ := shape_zero hs
  refine chk_of_shape ?_ he
  have hf : firstE (nodeErr { c with mems := c.mems ++ [m] }) c.nodes = 0 := firstE_none default _ _ fun j hj => by
    obtain ⟨n1, n2, n3, n4, n5, n6⟩ := nodeErr_zero (s5 _ (getD_mem_nd hj))
    refine nodeErr_mk n1 n2 n3 n4 n5 ?_
    unfold placeOk at n6 ⊢
    split
    · rename_i h15
      rw [if_pos h15] at n6
      obtain ⟨h2, h3⟩ := Bool.and_eq_true_iff.1 n6
      have h2' := isIdx_iff.1 h2
      rw [Bool.and_eq_true_iff]
      refine ⟨isIdx_iff.2 ⟨h2'.1, by show _ < ((c.mems ++ [m]).length : Int); rw [List.length_append]; have := h2'.2; omega⟩, ?_⟩
      dsimp only
      rw [getD_append_left' _ _ _ _ (by omega)]
      exact h3
    · rename_i h15
      rw [if_neg h15] at n6
      exact n6
  have hmm : firstE (memErr { c with mems := c.mems ++ [m] }) (c.mems ++ [m]) = e := firstE_same default _ he _ (fun j hj => by
    rw [getD_snoc' _ _ _ _ (by simpa using hj)]
    split
    · exact .inr h1
    · exact .inl (s7 _ (by rw [List.getD_eq_getElem?_getD, List.getElem?_eq_getElem (by simp at hj; omega)]; exact List.getElem_mem _))) ⟨c.mems.length, by simp, by rw [getD_snoc' _ _ _ _ (by omega), if_pos rfl]; exact h1⟩
  unfold shapeErr
  dsimp only
  rw [if_neg (by simp; omega), if_neg (by omega), hf, if_neg (by decide), s6, if_neg (by decide), hmm, if_pos he]
theorem names_empty {l : List ByteArray} (hk : k < l.length) : namesOk (l.set k ⟨#[]⟩) = false := by
  refine namesOk_no k (by simpa using hk) ?_
  unfold badName
  rw [getD_set _ _ _ _ _ hk, if_pos rfl]
  simp [nameOk]
theorem names_twice {l : List ByteArray} (hk : k < l.length) {j : Nat} (hj : j < l.length) (hjk : j ≠ k) : namesOk (l.set k (l.getD j ByteArray.empty)) = false := by
  rcases Nat.lt_or_gt_of_ne hjk with h | h
  · refine namesOk_no k (by simpa using hk) ?_
    unfold badName
    rw [getD_set _ _ _ _ _ hk, if_pos rfl, Bool.or_eq_true]
    left
    rw [decide_eq_true_iff]
    refine List.mem_map.2 ⟨l.getD j ByteArray.empty, ?_, rfl⟩
    refine List.mem_of_getElem? (i := j) ?_
    rw [List.getElem?_take, if_pos h, List.getElem?_set, if_neg (by omega), List.getD_eq_getElem?_getD, List.getElem?_eq_getElem hj]; rfl
  · refine namesOk_no j (by simpa using hj) ?_
    unfold badName
    rw [getD_set _ _ _ _ _ hk, if_neg hjk, Bool.or_eq_true]
    left
    rw [decide_eq_true_iff]
    refine List.mem_map.2 ⟨l.getD j ByteArray.empty, ?_, rfl⟩
    refine List.mem_of_getElem? (i := k) ?_
    rw [List.getElem?_take, if_pos h, List.getElem?_set, if_pos rfl, if_pos hk]
end


section
variable {x : Ck} {G g0 g1 g2 g3 : Nat} {h ha hd : Nat → Nat} {w w' : World}
theorem ndC_mem (l : List Nd) (k : Nat) (hk : k < l.length) (v : Int) (o : Nat → Value) :
    ndC (l.set k { l.getD k default with mem := v }) h o (l.set k { l.getD k default with mem := v }).length = (ndC l h o l.length).set (k * 4 + 2) (.int .i64 v) := by
  apply List.ext_getElem?
  intro j
  rw [List.getElem?_set]
  by_cases hj : j < l.length * 4
  · rw [ndC_get (by rw [List.length_set]; exact hj), ndC_get hj, List.length_set]
    by_cases e0 : k * 4 + 2 = j
    · subst e0
      rw [if_pos rfl, if_pos (by simp [ndC_len]; omega), ndF_2, getD_set _ _ _ _ _ hk, if_pos rfl]
    · rw [if_neg e0]
      unfold ndF
      rw [getD_set _ _ _ _ _ hk]
      by_cases e : j / 4 = k
      · rw [if_pos e, e]
        have h00 : j % 4 = 0 ∨ j % 4 = 1 ∨ j % 4 = 3 := by omega
        rcases h00 with h0 | h0 | h0 <;> simp [h0]
      · rw [if_neg e]
  · rw [List.getElem?_eq_none (by simp [ndC_len]; omega), List.getElem?_eq_none (by simp [ndC_len]; omega), if_neg (by omega)]
theorem ndC_bit (l : List Nd) (k : Nat) (hk : k < l.length) (v : Int) (o : Nat → Value) :
    ndC (l.set k { l.getD k default with bit := v }) h o (l.set k { l.getD k default with bit := v }).length = (ndC l h o l.length).set (k * 4 + 3) (.int .i64 v) := by
  apply List.ext_getElem?
  intro j
  rw [List.getElem?_set]
  by_cases hj : j < l.length * 4
  · rw [ndC_get (by rw [List.length_set]; exact hj), ndC_get hj, List.length_set]
    by_cases e0 : k * 4 + 3 = j
    · subst e0
      rw [if_pos rfl, if_pos (by simp [ndC_len]; omega), ndF_3, getD_set _ _ _ _ _ hk, if_pos rfl]
    · rw [if_neg e0]
      unfold ndF
      rw [getD_set _ _ _ _ _ hk]
      by_cases e : j / 4 = k
      · rw [if_pos e, e]
        have h00 : j % 4 = 0 ∨ j % 4 = 1 ∨ j % 4 = 2 := by omega
        rcases h00 with h0 | h0 | h0 <;> simp [h0]
      · rw [if_neg e]
  · rw [List.getElem?_eq_none (by simp [ndC_len]; omega), List.getElem?_eq_none (by simp [ndC_len]; omega), if_neg (by omega)]
theorem OwnC.fld (H : OwnC x G g0 g1 g2 g3 h ha hd w) {k : Nat} (hk : k < x.nodes.length) {nd : Nd} (hi : nd.ins = (x.nodes.getD k default).ins) (j : Nat) (u : Value)
    (he : ndC (x.nodes.set k nd) h (fun _ => undef) (x.nodes.set k nd).length = (ndC x.nodes h (fun _ => undef) x.nodes.length).set j u) :
    OwnC (renode x k nd) G g0 g1 g2 g3 h ha hd (w.setCell ⟨g0, j, none⟩ u) := by
  have hg := grown_set w g0 j u
  have hl := H.low
  refine ⟨H.low, ?_, H.f1.kept hg (by simp; omega), H.f2.kept hg (by simp; omega), H.f3.kept hg (by simp; omega), ?_, ?_, ?_, ?_, H.mm, H.ml⟩
  · show Fr _ _ _ (ndC (x.nodes.set k nd) _ _ _)
    have hf := H.f0.set j u
    rw [← he] at hf
    exact hf
  · intro i hi'
    have hi2 : i < x.nodes.length := by simpa [renode] using hi'
    have hh := (H.rn i hi2).1
    refine ⟨hh, ?_⟩
    show Row _ _ ((x.nodes.set k nd).getD i default).ins
    have e2 : ((x.nodes.set k nd).getD i default).ins = (x.nodes.getD i default).ins := by
      rw [getD_set _ _ _ _ _ hk]
      by_cases e : i = k
      · rw [if_pos e, e]; exact hi
      · rw [if_neg e]
    rw [e2]
    exact (H.rn i hi2).2.kept hg (by simp; omega)
  · intro i hi'
    obtain ⟨r1, r2, r3, r4⟩ := H.rm i hi'
    exact ⟨r1, r2.kept hg (by simp; omega), r3, r4.kept hg (by simp; omega)⟩
  · intro i j' hij hj'
    exact H.nn i j' hij (by simpa [renode] using hj')
  · intro i j' hi' hj'
    exact H.nm i j' (by simpa [renode] using hi') hj'
end
section
variable {c : Ck} {w wr W : World} {q G g0 g1 g2 g3 n n1 n2 n3 : Nat} {h ha hd : Nat → Nat}
/-- Block g0, k-th node, field j. -/
theorem OL.fld (H : OL c w q G g0 g1 g2 g3 h ha hd n n1 n2 n3 wr) {k : Nat} (hk : k < n) {nd : Nd} (hi : nd.ins = (c.nodes.getD k default).ins) (hkd : 0 ≤ nd.kind ∧ nd.kind ≤ 255) (j : Nat) (u : Value)
    (he : ndC (c.nodes.set k nd) h (fun _ => undef) (c.nodes.set k nd).length = (ndC c.nodes h (fun _ => undef) c.nodes.length).set j u) :
    OL (renode c k nd) w q G g0 g1 g2 g3 h ha hd n n1 n2 n3 (wr.setCell ⟨g0, j, none⟩ u) := by
  have hk' : k < c.nodes.length := by rw [← H.lens.1]; exact hk
  have h1 := H.low
  have h2 := H.own.low
  have h3 := H.hq.1
  refine ⟨H.tabs, H.bel.setCell (by show w.heap.size ≤ g0; omega) _, H.low, H.own.fld hk' hi j u he, H.box.other (by show g0 ≠ q; omega) _, ⟨by rw [renode_len]; exact H.lens.1, H.lens.2⟩, H.hq, ?_⟩
  refine ⟨by rw [renode_len]; exact H.fit.n, H.fit.s, H.fit.m, H.fit.o, fun i hi' => ?_, H.fit.t, H.fit.a⟩
  rw [renode_len] at hi'
  rw [renode_at hk']
  split
  · exact ⟨hkd.1, hkd.2, by rw [hi]; exact (H.fit.k k hk').2.2⟩
  · exact H.fit.k i hi'
theorem OL.name (H : OL c w q G g0 g1 g2 g3 h ha hd n n1 n2 n3 wr) (k : Nat) {s : ByteArray} (hs : s.size ≤ maxLen) : OL { c with names := c.names.set k s } w q G g0 g1 g2 g3 h ha hd n n1 n2 n3 (wr.setCell ⟨g1, k, none⟩ (.string s)) := by
  have h1 := H.low
  have h2 := H.own.low
  have h3 := H.hq.1
  refine ⟨H.tabs, H.bel.setCell (by show w.heap.size ≤ g1; omega) _, H.low, H.own.name k s, H.box.other (by show g1 ≠ q; omega) _, ⟨H.lens.1, by show n1 = (c.names.set k s).length; rw [List.length_set]; exact H.lens.2.1, H.lens.2.2⟩, H.hq, ?_⟩
  refine ⟨H.fit.n, by show (c.names.set k s).length ≤ maxLen; rw [List.length_set]; exact H.fit.s, H.fit.m, H.fit.o, H.fit.k, fun i hi' => ?_, H.fit.a⟩
  have hi2 : i < c.names.length := by simpa using hi'
  show ((c.names.set k s).getD i ByteArray.empty).size ≤ maxLen
  by_cases e : i = k
  · subst e
    rw [getD_set _ _ _ _ _ hi2, if_pos rfl]; exact hs
  · rw [List.getD_eq_getElem?_getD, List.getElem?_set, if_neg (fun h => e h.symm), ← List.getD_eq_getElem?_getD]; exact H.fit.t i hi2

/-- Behind the change. -/
def SP (W0 : World) (q : Nat) (r : Int) (wt : Value) (wx : World) : Prop :=
  ∃ (c' : Ck) (e : Int) (A0 A1 A2 A3 : Option Addr) (n0 m0 n1 m1 n2 m2 n3 m3 : Nat), wt = .int .i64 e ∧ Below W0.heap.size W0 wx ∧ Fr wx q 27 [.slice A0 n0 m0, .slice A1 n1 m1, .slice A2 n2 m2, .slice A3 n3 m3] ∧
    Cir wx wx.heap.size (.agg #[.slice A0 n0 m0, .slice A1 n1 m1, .slice A2 n2 m2, .slice A3 n3 m3]) c' ∧ chkErr c' = if r = 6 ∧ n1 < 2 then 0 else e
theorem SP.of {r e : Int} (H : OL c w q G g0 g1 g2 g3 h ha hd n n1 n2 n3 wr) (hc : chkErr c = if r = 6 ∧ n1 < 2 then 0 else e) : SP w q r (.int .i64 e) wr :=
  ⟨c, e, _, _, _, _, _, _, _, _, _, _, _, _, rfl, H.bel, H.box, H.cir, hc⟩
/-- A copy is made, and lies in a new variable; below it lies all of it. -/
theorem copy_q {v : Value} (hT : Tabs w) (hb : Below w.heap.size w W) (hc : Cir W W.heap.size v c) (hs : SzOk c) (hn : n = c.nodes.length) (h1 : n1 = c.names.length) (h2 : n2 = c.mems.length) (h3 : n3 = c.outs.length) :
    Calls Tryd.prog 13 #[v] W fun e w' => ∃ g0 g1 g2 g3 h ha hd, e = .returned (.agg #[.slice (some ⟨g0, 0, none⟩) n n, .slice (some ⟨g1, 0, none⟩) n1 n1, .slice (some ⟨g2, 0, none⟩) n2 n2, .slice (some ⟨g3, 0, none⟩) n3 n3]) ∧
      OL c w w'.heap.size W.heap.size g0 g1 g2 g3 h ha hd n n1 n2 n3 (w'.alloc (.cells #[.slice (some ⟨g0, 0, none⟩) n n, .slice (some ⟨g1, 0, none⟩) n1 n1, .slice (some ⟨g2, 0, none⟩) n2 n2, .slice (some ⟨g3, 0, none⟩) n3 n3] 27)) ∧
      Cir (w'.alloc (.cells #[.slice (some ⟨g0, 0, none⟩) n n, .slice (some ⟨g1, 0, none⟩) n1 n1, .slice (some ⟨g2, 0, none⟩) n2 n2, .slice (some ⟨g3, 0, none⟩) n3 n3] 27)) w'.heap.size (.agg #[.slice (some ⟨g0, 0, none⟩) n n, .slice (some ⟨g1, 0, none⟩) n1 n1, .slice (some ⟨g2, 0, none⟩) n2 n2, .slice (some ⟨g3, 0, none⟩) n3 n3]) c ∧ (∀ k, k < n2 → ha k < w'.heap.size ∧ hd k < w'.heap.size) := by
  refine (copy_any c v W W.heap.size (Nat.le_refl _) hc hs).mono fun e w' ⟨hb2, g0, g1, g2, g3, h, ha, hd, he, ho⟩ => ?_
  subst hn h1 h2 h3
  exact ⟨g0, g1, g2, g3, h, ha, hd, he, ⟨hT, below_new (joinB hb hb2) _, hb.size, ho.below (below_new (Below.refl _ _) _), heap_alloc_new _ _, ⟨rfl, rfl, rfl, rfl⟩, ⟨ho.f3.lt, fun k hk => (ho.rn k hk).2.lt⟩, hc.fit⟩, (ho.cir hc.fit).below (below_new (Below.refl _ _) _), fun k hk => ⟨(ho.rm k hk).2.1.lt, (ho.rm k hk).2.2.2.lt⟩⟩
/-- What lies below the variable is as it was. -/
theorem kept_low {w4 w6 : World} {q : Nat} (hq : q ≤ w4.heap.size) (hb : Below w4.heap.size w4 w6) (j : Nat) (v : Value) : ∀ p : Addr, p.block < q → (w6.setCell ⟨q, j, none⟩ v).cell? p = w4.cell? p := fun p hp => by
  rw [World.cell?_setCell_other _ _ _ _ (fun e => by first | (rw [e] at hp; exact absurd hp (Nat.lt_irrefl _)) | (rw [← e] at hp; exact absurd hp (Nat.lt_irrefl _)))]
  exact hb.cell (by omega)
theorem sp_outs {w4 w6 : World} {r e v : Int} {B c9 : Nat} {A9 : Option Addr} (H : OL c w q G g0 g1 g2 g3 h ha hd n n1 n2 n3 w4) (HQ : Cir w4 q (.agg #[.slice (some ⟨g0, 0, none⟩) n n, .slice (some ⟨g1, 0, none⟩) n1 n1, .slice (some ⟨g2, 0, none⟩) n2 n2, .slice (some ⟨g3, 0, none⟩) n3 n3]) c)
    (hb : Below w4.heap.size w4 w6) (hown : w6.ownsRow B 3 1 (.slice A9 (n3 + 1) c9) (n3 + 1) (c.outs.map (Value.int .i64) ++ [.int .i64 v])) (hB : w4.heap.size ≤ B) (hm : n3 + 1 ≤ maxLen) (hr : r ≠ 6) (hck : chkErr { c with outs := c.outs ++ [v] } = e) :
    SP w q r (.int .i64 e) (w6.setCell ⟨q, 3, none⟩ (.slice A9 (n3 + 1) c9)) := by
  have hq := H.box.lt
  have hk := kept_low (Nat.le_of_lt hq) hb 3 (.slice A9 (n3 + 1) c9)
  have hle : q ≤ (w6.setCell ⟨q, 3, none⟩ (.slice A9 (n3 + 1) c9)).heap.size := by rw [World.size_setCell]; have := hb.size; omega
  obtain ⟨v0, v1, v2, v3, ev, q0, q1, q2, q3⟩ := HQ
  simp only [Value.agg.injEq, Array.mk.injEq, List.cons.injEq, and_true] at ev
  obtain ⟨rfl, rfl, rfl, rfl⟩ := ev
  have hst : Stk (w6.setCell ⟨q, 3, none⟩ (.slice A9 (n3 + 1) c9)) B (.slice A9 (n3 + 1) c9) (c.outs ++ [v]) := by
    have h1 : Stk w6 B (.slice A9 (n3 + 1) c9) (c.outs ++ [v]) := by
      unfold Stk
      rw [List.length_append, List.map_append, List.length_singleton, ← H.lens.2.2.2]
      exact hown
    exact h1.kept (grown_set _ _ _ _) (fun p e => by cases e; omega)
  refine ⟨{ c with outs := c.outs ++ [v] }, e, _, _, _, _, _, _, _, _, _, _, _, _, rfl, (joinB H.bel hb).setCell (by show w.heap.size ≤ q; have := H.low; have := H.own.low; have := H.hq.1; omega) _, (H.box.below hb).set 3 _, ⟨_, _, _, _, rfl, q0.keep hle hk, q1.keep hle hk, q2.keep hle hk, hst.all (by rw [List.length_append, List.length_singleton, ← H.lens.2.2.2]; exact hm)⟩, ?_⟩
  rw [if_neg (fun h => hr h.1)]; exact hck
theorem sp_mems {w4 w6 : World} {r e : Int} {B c9 : Nat} {A9 : Option Addr} {s t : Value} {m : Mm} (H : OL c w q G g0 g1 g2 g3 h ha hd n n1 n2 n3 w4) (HQ : Cir w4 q (.agg #[.slice (some ⟨g0, 0, none⟩) n n, .slice (some ⟨g1, 0, none⟩) n1 n1, .slice (some ⟨g2, 0, none⟩) n2 n2, .slice (some ⟨g3, 0, none⟩) n3 n3]) c)
    (hb : Below w4.heap.size w4 w6) (hown : w6.ownsRow B 70 3 (.slice A9 (n2 + 1) c9) (n2 + 1) (mmC c.mems ha hd (fun _ => undef) (fun _ => undef) c.mems.length ++ [s, t, .int .i64 m.write])) (hB : w4.heap.size ≤ B) (hm : n2 + 1 ≤ maxLen)
    (hmq : ∀ k, k < n2 → ha k < q ∧ hd k < q) (hs : ∀ w7, Kp w4.heap.size none w6 w7 → Is w7 w7.heap.size s m.addr ∧ Is w7 w7.heap.size t m.data) (hr : r ≠ 6) (hck : chkErr { c with mems := c.mems ++ [m] } = e) :
    SP w q r (.int .i64 e) (w6.setCell ⟨q, 2, none⟩ (.slice A9 (n2 + 1) c9)) := by
  have hq := H.box.lt
  have hk := kept_low (Nat.le_of_lt hq) hb 2 (.slice A9 (n2 + 1) c9)
  have hle : q ≤ (w6.setCell ⟨q, 2, none⟩ (.slice A9 (n2 + 1) c9)).heap.size := by rw [World.size_setCell]; have := hb.size; omega
  obtain ⟨v0, v1, v2, v3, ev, q0, q1, q2, q3⟩ := HQ
  simp only [Value.agg.injEq, Array.mk.injEq, List.cons.injEq, and_true] at ev
  obtain ⟨rfl, rfl, rfl, rfl⟩ := ev
  obtain ⟨hs1, hs2⟩ := hs (w6.setCell ⟨q, 2, none⟩ (.slice A9 (n2 + 1) c9)) (Kp.set (a := ⟨q, 2, none⟩) _ hq _)
  have hl2 := H.lens.2.2.1
  have hon := own_kp hown (w' := w6.setCell ⟨q, 2, none⟩ (.slice A9 (n2 + 1) c9)) (T' := q + 1) (R := none) (by omega) (Kp.set (a := ⟨q, 2, none⟩) _ (by show q < q + 1; omega) _) (Classical.em _)
  have hms : Ms (w6.setCell ⟨q, 2, none⟩ (.slice A9 (n2 + 1) c9)) (w6.setCell ⟨q, 2, none⟩ (.slice A9 (n2 + 1) c9)).heap.size (.slice A9 (n2 + 1) c9) (c.mems ++ [m]) := by
    rcases id hon.2 with ⟨-, hn⟩ | ⟨g9, cap, cur, e9, hb9, hg9, hle9, hm9, -⟩
    · omega
    · have e9' := e9
      simp only [Value.slice.injEq] at e9
      obtain ⟨rfl, -, rfl⟩ := e9
      have hlen : (c.mems ++ [m]).length = n2 + 1 := by rw [List.length_append, List.length_singleton, hl2]
      refine ⟨_, g9, 0, c9, by rw [hlen], fun _ => rfl, by rw [hlen]; exact hle9, by rw [hlen]; exact hm, fun k hk' => ⟨(Array.getElem?_eq_some_iff.1 hg9).1, ?_⟩⟩
      rw [hlen] at hk'
      have hml : (mmC c.mems ha hd (fun _ => undef) (fun _ => undef) c.mems.length).length = n2 * 3 := by rw [mmC_len, hl2]
      have hcl : ∀ j u, (mmC c.mems ha hd (fun _ => undef) (fun _ => undef) c.mems.length ++ [s, t, .int .i64 m.write])[j]? = some u → j < (n2 + 1) * 3 → (w6.setCell ⟨q, 2, none⟩ (.slice (some ⟨g9, 0, none⟩) (n2 + 1) c9)).cell? ⟨g9, j, none⟩ = some u := fun j u hu hj => by
        rw [hon.cellAt j hj]; exact hu
      rw [getD_snoc' _ _ _ _ (by rw [← hl2]; exact hk'), Nat.zero_add]
      by_cases e : k = c.mems.length
      · rw [if_pos e]
        have e2 : k = n2 := by omega
        subst e2
        refine ⟨s, t, hcl (k * 3) _ ?_ (by omega), hcl (k * 3 + 1) _ ?_ (by omega), hcl (k * 3 + 2) _ ?_ (by omega), hs1, hs2⟩
        · rw [List.getElem?_append_right (by omega), hml]; simp
        · rw [List.getElem?_append_right (by omega), hml]; simp
        · rw [List.getElem?_append_right (by omega), hml]; simp
      · rw [if_neg e]
        have hk2 : k < c.mems.length := by omega
        obtain ⟨r1, r2, r3, r4⟩ := H.own.rm k hk2
        obtain ⟨f1, f2⟩ := H.fit.a k hk2
        have hkw : ∀ {g : Nat} {l : List Int}, Row w4 g l → g ≠ q → l.length ≤ maxLen → Is (w6.setCell ⟨q, 2, none⟩ (.slice (some ⟨g9, 0, none⟩) (n2 + 1) c9)) (w6.setCell ⟨q, 2, none⟩ (.slice (some ⟨g9, 0, none⟩) (n2 + 1) c9)).heap.size (.slice (some ⟨g, 0, none⟩) l.length l.length) l := fun {g l} hr hg hm =>
          ((hr.below hb).otherS (fun e => hg e.symm) _).is hm
        have hhq := hmq k (by omega)
        refine ⟨_, _, hcl (k * 3) _ ?_ (by omega), hcl (k * 3 + 1) _ ?_ (by omega), hcl (k * 3 + 2) _ ?_ (by omega), hkw r2 (by omega) f1, hkw r4 (by omega) f2⟩
        · rw [List.getElem?_append_left (by omega), mmC_get (by omega), mmF_0, if_pos hk2]
        · rw [List.getElem?_append_left (by omega), mmC_get (by omega), mmF_1, if_pos hk2]
        · rw [List.getElem?_append_left (by omega), mmC_get (by omega), mmF_2]
  refine ⟨{ c with mems := c.mems ++ [m] }, e, _, _, _, _, _, _, _, _, _, _, _, _, rfl, (joinB H.bel hb).setCell (by show w.heap.size ≤ q; have := H.low; have := H.own.low; have := H.hq.1; omega) _, (H.box.below hb).set 2 _, ⟨_, _, _, _, rfl, q0.keep hle hk, q1.keep hle hk, hms, q3.keep hle hk⟩, ?_⟩
  rw [if_neg (fun h => hr h.1)]; exact hck
theorem add0 (g j : Nat) : (⟨g, 0, none⟩ : Addr).add j = ⟨g, j, none⟩ := by unfold Addr.add; split <;> simp_all
theorem is_one {w6 : World} {T D : Nat} {v : Int} (hD : T ≤ D) (hc : w6.cell? ⟨D, 0, none⟩ = some (.int .i64 v)) : ∀ w7, Kp T none w6 w7 → Is w7 w7.heap.size (.slice (some ⟨D, 0, none⟩) 1 1) [v] := fun w7 hk => by
  have hl := cell_lt hc
  refine ⟨some ⟨D, 0, none⟩, D, 0, 1, rfl, fun _ => rfl, by simp, by simp [maxLen], fun j hj => ?_⟩
  obtain rfl : j = 0 := by simp at hj; omega
  exact ⟨Nat.lt_of_lt_of_le hl hk.1, (World.cell?_of_block (hk.2 D hD hl (by simp))).trans hc⟩
theorem sp_wide {w4 w6 : World} {r e : Int} {D k : Nat} {l : List Int} (H : OL c w q G g0 g1 g2 g3 h ha hd n n1 n2 n3 w4) (hb : Below w4.heap.size w4 w6) (hk : k < n) (hD : w4.heap.size ≤ D) (hrow : Row w6 D l) (hl : l.length ≤ maxLen) (hr : r ≠ 6)
    (hck : chkErr (renode c k { c.nodes.getD k default with ins := l }) = e) : SP w q r (.int .i64 e) (w6.setCell ⟨g0, k * 4 + 1, none⟩ (.slice (some ⟨D, 0, none⟩) l.length l.length)) := by
  have hk' : k < c.nodes.length := by rw [← H.lens.1]; exact hk
  have O := H.own.below hb
  have F := H.fit
  have hlow := O.low
  have hq := H.hq.1
  have hg := grown_set w6 g0 (k * 4 + 1) (.slice (some ⟨D, 0, none⟩) l.length l.length)
  have hD0 : D ≠ g0 := by have := H.own.f0.lt; omega
  have f0 := O.f0.set (k * 4 + 1) (.slice (some ⟨D, 0, none⟩) l.length l.length)
  have f1 := O.f1.kept hg (by simp; omega)
  have f2 := O.f2.kept hg (by simp; omega)
  have f3 := O.f3.kept hg (by simp; omega)
  have fD := hrow.kept hg (by simpa using hD0)
  have hrn : ∀ j, j < c.nodes.length → Row (w6.setCell ⟨g0, k * 4 + 1, none⟩ (.slice (some ⟨D, 0, none⟩) l.length l.length)) (h j) (c.nodes.getD j default).ins := fun j hj => (O.rn j hj).2.kept hg (by have := (O.rn j hj).1; simp; omega)
  have hlen := H.lens
  refine ⟨_, e, _, _, _, _, _, _, _, _, _, _, _, _, rfl, (joinB H.bel hb).setCell (by show w.heap.size ≤ g0; have := H.low; omega) _, (H.box.below hb).other (by show g0 ≠ q; omega) _, ⟨_, _, _, _, rfl, ?_, ?_, ?_, ?_⟩, by rw [if_neg (fun h => hr h.1)]; exact hck⟩
  · refine ⟨_, g0, 0, _, by rw [renode_len, ← hlen.1], fun _ => rfl, by rw [renode_len, ← hlen.1]; exact Nat.le_refl _, by rw [renode_len]; exact F.n, fun j hj => ⟨f0.lt, ?_⟩⟩
    rw [renode_len] at hj
    rw [renode_at hk', Nat.zero_add]
    obtain ⟨k1, k2, k3⟩ := F.k j hj
    have hc : ∀ i, i ≠ k * 4 + 1 → i < c.nodes.length * 4 → (w6.setCell ⟨g0, k * 4 + 1, none⟩ (.slice (some ⟨D, 0, none⟩) l.length l.length)).cell? ⟨g0, i, none⟩ = some (ndF c.nodes h (fun _ => undef) c.nodes.length i) := fun i hi hi2 => by
      rw [f0.cell, List.getElem?_set, if_neg (fun e => hi e.symm), ndC_get hi2]
    by_cases e : j = k
    · subst e
      rw [if_pos rfl]
      refine ⟨.slice (some ⟨D, 0, none⟩) l.length l.length, ?_, ?_, ?_, ?_, fD.is hl, k1, k2⟩
      · rw [hc _ (by omega) (by omega), ndF_0]
      · rw [f0.cell, List.getElem?_set, if_pos rfl, if_pos (by rw [ndC_len]; omega)]
      · rw [hc _ (by omega) (by omega), ndF_2]
      · rw [hc _ (by omega) (by omega), ndF_3]
    · rw [if_neg e]
      refine ⟨_, ?_, ?_, ?_, ?_, (hrn j hj).is k3, k1, k2⟩
      · rw [hc _ (by omega) (by omega), ndF_0]
      · rw [hc _ (by omega) (by omega), ndF_1, if_pos hj]
      · rw [hc _ (by omega) (by omega), ndF_2]
      · rw [hc _ (by omega) (by omega), ndF_3]
  · rw [hlen.2.1]
    refine ⟨_, g1, 0, _, rfl, fun _ => rfl, Nat.le_refl _, F.s, fun j hj => ⟨f1.lt, ?_, F.t j hj⟩⟩
    rw [Nat.zero_add, Nat.mul_one, f1.cell]
    have hj' : j < c.names.length := hj
    rw [List.getElem?_map, List.getElem?_eq_getElem hj']
    simp [renode, List.getD_eq_getElem?_getD, hj']
  · rw [hlen.2.2.1]
    refine ⟨_, g2, 0, _, rfl, fun _ => rfl, Nat.le_refl _, F.m, fun j hj => ⟨f2.lt, ?_⟩⟩
    have hj' : j < c.mems.length := hj
    obtain ⟨k1, k2⟩ := F.a j hj'
    obtain ⟨r0, r1, r3, r2⟩ := O.rm j hj'
    refine ⟨_, _, ?_, ?_, ?_, (r1.kept hg (by simp; omega)).is k1, (r2.kept hg (by simp; omega)).is k2⟩
    · rw [Nat.zero_add, f2.cell, mmC_get (by omega), mmF_0, if_pos hj']
    · rw [Nat.zero_add, f2.cell, mmC_get (by omega), mmF_1, if_pos hj']
    · rw [Nat.zero_add, f2.cell, mmC_get (by omega), mmF_2]; rfl
  · rw [hlen.2.2.2]
    exact f3.is F.o
end
theorem step_make {P : Program} {w : World} {ops : Array Oper} {o : Oper} {a : Act} {K : Act → World → Prop} {Q : Exit → Act → World → Prop} {E : Prop} (hgd : o.guard = none) (l c : Operand) (t : TypeId) (ho : o.op = Op.makeSlice t l c)
    (base : Nat) (e : TypeId) (i : TypeInfo) (z : Value) (size : Nat) (h1 : P.underlying t = some (.slice e)) (h2 : P.info? e = some i) (h3 : i.zero = some z) (h4 : i.size = size) (kl kc : IntKind) (n : Nat) (hl : a.eval l = .int kl (n : Int)) (hc : a.eval c = .int kc (n : Int))
    (b2 : i.bytes * n ≤ 281474976710656) (b3 : n ≤ maxLen) (b4 : base ≤ w.heap.size) (H : Nat) (hH : w.heap.size = H)
    (hK : ∀ w', w'.ownsRow base e size (.slice (some ⟨H, 0, none⟩) n n) n (madeCells z.cells (n * size)).toList → w.grownBy w' none → K (a.put o.dst (.slice (some ⟨H, 0, none⟩) n n)) w') :
    if Region.wanted o (yielded ops a.tmps) = true then Oper.wp P o a w K Q else E := by
  have hw : Region.wanted o (yielded ops a.tmps) = true := by simp [Region.wanted, hgd]
  rw [if_pos hw]
  obtain ⟨w', hrun, r1, r2⟩ := run_make_full (P := P) w base t e i z size h1 h2 h3 h4 kl kc n b2 b3 b4
  subst hH
  unfold Oper.wp
  simp [execOp, ho, hl, hc, hrun, Result.andThen]
  exact hK w' r1 r2
section
end
end Go.Proofs.YtmghdeodkeenoaaDoor
