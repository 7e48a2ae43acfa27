/- NetlistsRenumbered: the new numbers in their row; the closure on a list of c. -/
import Derived.Test.YtmghdeodkeenoaaDoorLcv
import Derived.Test.YtmghdeodkeenoaaDoorLol
import Derived.Test.YtmghdeodkeenoaaDoorHel
import Derived.Deep.RegionHeld3
import Derived.Test.YtmghdeodkeenoaaDoorSpl
import Derived.Test.YtmghdeodkeenoaaDoorLvr
namespace Go.Proofs.YtmghdeodkeenoaaDoor
open Go.RowKit

/-- A renumbering of n indices. -/
structure Perm (n : Nat) (p : Nat → Nat) : Prop where
  lt : ∀ i, i < n → p i < n
  inj : ∀ i j, i < n → j < n → p i = p j → i = j
theorem nodup_len : ∀ (n : Nat) (l : List Nat), l.Nodup → (∀ x ∈ l, x < n) → l.length ≤ n
  | 0, l, _, hm => by
    cases l with
    | nil => simp
    | cons a l => have := hm a List.mem_cons_self; omega
  | n + 1, l, hn, hm => by
    have h1 := nodup_len n (l.erase n) (hn.erase _) fun x hx => by
      have h2 := (hn.mem_erase_iff).1 hx
      have h3 := hm x h2.2
      have h4 := h2.1
      omega
    have h2 := List.length_erase (a := n) (l := l)
    split at h2 <;> omega
theorem Perm.sur {n : Nat} {p : Nat → Nat} (P : Perm n p) {j : Nat} (hj : j < n) : ∃ i, i < n ∧ p i = j := by
  refine Classical.byContradiction fun hno => ?_
  have hn : ((List.range n).map p).Nodup := by
    refine List.pairwise_map.2 ?_
    refine List.Pairwise.imp_of_mem (R := (· ≠ ·)) (fun {a b} ha hb hab e => hab (P.inj a b (List.mem_range.1 ha) (List.mem_range.1 hb) e)) List.nodup_range
  have h1 := nodup_len n (j :: (List.range n).map p) (List.nodup_cons.2 ⟨fun hm => by
    obtain ⟨i, hi, e⟩ := List.mem_map.1 hm
    exact hno ⟨i, List.mem_range.1 hi, e⟩, hn⟩) fun x hx => by
      rcases List.mem_cons.1 hx with rfl | hx
      · exact hj
      · obtain ⟨i, hi, rfl⟩ := List.mem_map.1 hx
        exact P.lt i (List.mem_range.1 hi)
  simp at h1
  omega
/-- The rank by keys. -/
def before (ks : Nat → Int) (k i : Nat) : Bool := decide (ks (k % 16) < ks (i % 16)) || (ks (k % 16) == ks (i % 16) && decide (k < i))
def rk (ks : Nat → Int) (i m : Nat) : Nat := (List.range m).countP fun k => before ks k i
theorem rk_succ (ks : Nat → Int) (i m : Nat) : rk ks i (m + 1) = rk ks i m + if before ks m i = true then 1 else 0 := by
  unfold rk
  rw [List.range_succ, List.countP_append]
  simp [List.countP_cons]
theorem rk_le (ks : Nat → Int) (i m : Nat) : rk ks i m ≤ m := by
  unfold rk
  have := List.countP_le_length (p := fun k => before ks k i) (l := List.range m)
  simpa using this
theorem before_iff {ks : Nat → Int} {k i : Nat} : before ks k i = true ↔ ks (k % 16) < ks (i % 16) ∨ (ks (k % 16) = ks (i % 16) ∧ k < i) := by
  unfold before; simp
theorem rk_lt {ks : Nat → Int} {i j n : Nat} (hi : i < n) (h : before ks i j = true) : rk ks i n < rk ks j n := by
  have := countP_lt (l := List.range n) (p := fun k => before ks k i) (q := fun k => before ks k j) (fun x _ hx => by
    rw [before_iff] at *
    omega) ⟨i, List.mem_range.2 hi, h, by
      cases hb : before ks i i
      · rfl
      · rw [before_iff] at hb; omega⟩
  unfold rk
  omega
theorem rk_perm (ks : Nat → Int) (n : Nat) : Perm n fun i => rk ks i n := by
  refine ⟨fun i hi => ?_, fun i j hi hj e => ?_⟩
  · have := countP_lt (l := List.range n) (p := fun k => before ks k i) (q := fun _ => true) (fun _ _ _ => rfl) ⟨i, List.mem_range.2 hi, rfl, by
      cases hb : before ks i i
      · rfl
      · rw [before_iff] at hb; omega⟩
    simp at this
    unfold rk
    simp
    omega
  · refine Classical.byContradiction fun hne => ?_
    have e' : rk ks i n = rk ks j n := e
    by_cases h : before ks i j = true
    · have := rk_lt hi h; omega
    · have h' : before ks j i = true := by rw [before_iff] at *; omega
      have := rk_lt hj h'; omega

/-- d is c with its nodes moved. -/
structure Moved (c d : Ck) (p : Nat → Nat) : Prop where
  perm : Perm c.nodes.length p
  len : d.nodes.length = c.nodes.length
  node : ∀ i, i < c.nodes.length → d.nodes.getD (p i) default = { c.nodes.getD i default with ins := (c.nodes.getD i default).ins.map fun x => ((p x.toNat : Nat) : Int) }
  nlen : d.names.length = c.nodes.length
  name : ∀ i, i < c.nodes.length → (d.names.getD (p i) ByteArray.empty).data.toList = 120 :: (c.names.getD i ByteArray.empty).data.toList
  mems : d.mems = c.mems.map fun m => ⟨m.addr.map fun x => ((p x.toNat : Nat) : Int), m.data.map fun x => ((p x.toNat : Nat) : Int), ((p m.write.toNat : Nat) : Int)⟩
  outs : d.outs = c.outs.map fun x => ((p x.toNat : Nat) : Int)
section
variable {c d : Ck} {p : Nat → Nat}
theorem areIdx_map (P : Perm c.nodes.length p) {l : List Int} (h : areIdx c.nodes.length l = true) : areIdx c.nodes.length (l.map fun x => ((p x.toNat : Nat) : Int)) = true := by
  refine areIdx_iff.2 fun y hy => ?_
  obtain ⟨x, hx, rfl⟩ := List.mem_map.1 hy
  have h1 := areIdx_iff.1 h x hx
  have := P.lt x.toNat (by omega)
  omega
theorem Moved.dep (M : Moved c d p) {i : Nat} (hi : i < c.nodes.length) : dep d.nodes (p i) = (dep c.nodes i).map fun x => ((p x.toNat : Nat) : Int) := by
  unfold Proofs.YtmghdeodkeenoaaDoor.dep depsOf
  rw [Int.toNat_natCast, Int.toNat_natCast, M.node i hi]
  dsimp only
  split <;> simp
theorem Moved.kind (M : Moved c d p) {i : Nat} (hi : i < c.nodes.length) : (d.nodes.getD (p i) default).kind = (c.nodes.getD i default).kind := by rw [M.node i hi]
theorem levf_map {L L' : List Int} {f : Int → Int} : ∀ {l : List Int}, (∀ x ∈ l, lat L' (f x) = lat L x) → levf L' (l.map f) = levf L l := by
  have key : ∀ (l : List Int) (a : Int), (∀ x ∈ l, lat L' (f x) = lat L x) → (l.map f).foldl (fun a x => max a (lat L' x + 1)) a = l.foldl (fun a x => max a (lat L x + 1)) a := by
    intro l
    induction l with
    | nil => intro a _; rfl
    | cons y l ih =>
      intro a h
      rw [List.map_cons, List.foldl_cons, List.foldl_cons, h y List.mem_cons_self]
      exact ih _ fun x hx => h x (List.mem_cons_of_mem _ hx)
  exact fun {l} h => key l 0 h
/-- THE LEVELS move with the nodes. -/
theorem Moved.lvl (M : Moved c d p) (hw : Wf c.nodes) {L : List Int} (hL : Lvl c.nodes L) : ∃ L', Lvl d.nodes L' ∧ ∀ i, i < c.nodes.length → lat L' ((p i : Nat) : Int) = lat L (i : Int) := by
  have hinv : ∀ j, ∃ i, j < c.nodes.length → i < c.nodes.length ∧ p i = j := fun j => by
    by_cases hj : j < c.nodes.length
    · obtain ⟨i, h1, h2⟩ := M.perm.sur hj
      exact ⟨i, fun _ => ⟨h1, h2⟩⟩
    · exact ⟨0, fun h => absurd h hj⟩
  obtain ⟨q, hq⟩ := Classical.axiomOfChoice hinv
  have hat : ∀ j : Nat, j < c.nodes.length → lat ((List.range c.nodes.length).map fun (j : Nat) => lat L ((q j : Nat) : Int)) (j : Int) = lat L ((q j : Nat) : Int) := fun j hj => by
    simp [lat, List.getD_eq_getElem?_getD, hj]
  have hp : ∀ i, i < c.nodes.length → lat ((List.range c.nodes.length).map fun (j : Nat) => lat L ((q j : Nat) : Int)) ((p i : Nat) : Int) = lat L (i : Int) := fun i hi => by
    have h1 := M.perm.lt i hi
    rw [hat _ h1, M.perm.inj (q (p i)) i (hq _ h1).1 hi (hq _ h1).2]
  refine ⟨_, ⟨by simp [M.len], fun j hj => ?_⟩, hp⟩
  rw [M.len] at hj
  obtain ⟨i, hi, rfl⟩ := M.perm.sur hj
  rw [hp i hi, M.dep hi, hL.2 i hi]
  refine (levf_map fun x hx => ?_).symm
  have hb := hw.dep (i := (i : Int)) (by simpa using hi) hx
  have := hp x.toNat (by omega)
  rw [this, lat_nat _ hb.1]
theorem Moved.ok (M : Moved c d p) (hok : chkErr c = 0) (hnm : ∀ i, i < c.nodes.length → nameOk (120 :: (c.names.getD i ByteArray.empty).data.toList) = true) : chkErr d = 0 := by
  have hs := chk_shape hok
  obtain ⟨s1, s2, s3, s4, s5, s6, s7, s8⟩ := shape_zero hs
  have hw := wf_of_shape hs
  have hsh : shapeErr d = 0 := by
    refine shape_mk (by rw [M.len]; exact s1) (by rw [M.mems, List.length_map]; exact s2) (by rw [M.outs, List.length_map]; exact s3) (by rw [M.nlen, M.len]) (fun j hj => ?_) ?_ (fun m hm => ?_) ?_
    · rw [M.len] at hj
      obtain ⟨i, hi, rfl⟩ := M.perm.sur hj
      obtain ⟨n1, n2, n3, n4, n5, n6⟩ := nodeErr_zero (s5 _ (getD_mem_nd hi))
      rw [M.node i hi]
      refine nodeErr_mk n1 (by simpa using n2) (by simpa using n3) (by rw [M.len]; exact areIdx_map M.perm n4) (fun h => n5 ⟨h.1, ?_⟩) ?_
      · obtain ⟨y, hy, hn⟩ := List.any_eq_true.1 h.2
        obtain ⟨x, hx, rfl⟩ := List.mem_map.1 hy
        have hb := areIdx_iff.1 n4 x hx
        refine List.any_eq_true.2 ⟨x, hx, ?_⟩
        unfold notTri at hn ⊢
        rw [Int.toNat_natCast, M.kind (by omega)] at hn
        exact hn
      · unfold placeOk at n6 ⊢
        dsimp only
        split
        · rename_i h15
          rw [if_pos h15] at n6
          obtain ⟨h2, h3⟩ := Bool.and_eq_true_iff.1 n6
          have h2' := isIdx_iff.1 h2
          rw [Bool.and_eq_true_iff]
          refine ⟨by rw [M.mems, List.length_map]; exact h2, ?_⟩
          have e : (d.mems.getD (c.nodes.getD i default).mem.toNat default).data.length = (c.mems.getD (c.nodes.getD i default).mem.toNat default).data.length := by
            have hml : (c.nodes.getD i default).mem.toNat < c.mems.length := by omega
            rw [M.mems]
            generalize (c.nodes.getD i default).mem.toNat = z at hml
            simp [List.getD_eq_getElem?_getD, hml]
          rw [e]; exact h3
        · rename_i h15
          rw [if_neg h15] at n6
          exact n6
    · refine namesOk_yes fun j hj => ?_
      rw [M.nlen] at hj
      obtain ⟨i, hi, rfl⟩ := M.perm.sur hj
      have hall : ∀ k, k < c.nodes.length → badName c.names k = false := fun k hk => by
        cases hb : badName c.names k
        · rfl
        · rw [namesOk_no k (by omega) hb] at s6; cases s6
      have hdis : ∀ a b, a < b → b < c.nodes.length → (c.names.getD a ByteArray.empty).data.toList ≠ (c.names.getD b ByteArray.empty).data.toList := fun a b hab hb e => by
        have h1 := hall b hb
        unfold badName at h1
        rw [Bool.or_eq_false_iff] at h1
        refine (decide_eq_false_iff_not.1 h1.1) (List.mem_map.2 ⟨c.names.getD a ByteArray.empty, List.mem_of_getElem? (i := a) ?_, e⟩)
        rw [List.getElem?_take, if_pos hab, List.getD_eq_getElem?_getD, List.getElem?_eq_getElem (by omega)]; rfl
      unfold badName
      rw [M.name i hi, hnm i hi, Bool.or_eq_false_iff]
      refine ⟨decide_eq_false_iff_not.2 fun hm => ?_, rfl⟩
      obtain ⟨s, hs', e⟩ := List.mem_map.1 hm
      obtain ⟨k, hk, hke⟩ := List.getElem_of_mem hs'
      rw [List.length_take] at hk
      rw [List.getElem_take] at hke
      obtain ⟨i', hi', rfl⟩ := M.perm.sur (j := k) (by rw [← M.nlen]; omega)
      have h2 := M.name i' hi'
      rw [List.getD_eq_getElem?_getD, List.getElem?_eq_getElem (by omega)] at h2
      simp only [Option.getD_some] at h2
      rw [hke, e] at h2
      have h3 := (List.cons.inj h2).2
      have hne : i ≠ i' := fun h => by subst h; omega
      rcases Nat.lt_or_gt_of_ne hne with h | h
      · exact hdis i i' h hi' h3
      · exact hdis i' i h hi h3.symm
    · rw [M.mems] at hm
      obtain ⟨m0, hm0, rfl⟩ := List.mem_map.1 hm
      have h := s7 m0 hm0
      unfold memErr at h ⊢
      rw [M.len]
      simp only [List.length_map]
      split at h
      · cases h
      · rename_i h1
        rw [if_neg h1]
        split at h
        · cases h
        · rename_i h2
          have h2' : isIdx c.nodes.length m0.write = true ∧ areIdx c.nodes.length m0.addr = true ∧ areIdx c.nodes.length m0.data = true := by
            refine ⟨?_, ?_, ?_⟩
            · cases hh : isIdx c.nodes.length m0.write
              · exact absurd (.inl hh) h2
              · rfl
            · cases hh : areIdx c.nodes.length m0.addr
              · exact absurd (.inr (.inl hh)) h2
              · rfl
            · cases hh : areIdx c.nodes.length m0.data
              · exact absurd (.inr (.inr hh)) h2
              · rfl
          rw [if_neg]
          rw [areIdx_map M.perm h2'.2.1, areIdx_map M.perm h2'.2.2]
          have hb := isIdx_iff.1 h2'.1
          have h3 : isIdx c.nodes.length ((p m0.write.toNat : Nat) : Int) = true := isIdx_iff.2 ⟨by omega, by have := M.perm.lt m0.write.toNat (by omega); omega⟩
          rw [h3]
          simp
    · rw [M.len, M.outs]; exact areIdx_map M.perm s8
  unfold chkErr
  rw [if_neg (by rw [hsh]; decide), if_pos]
  unfold chkErr at hok
  rw [if_neg (by rw [hs]; decide)] at hok
  by_cases hex : ∃ L, Lvl c.nodes L
  · obtain ⟨L, hL⟩ := hex
    obtain ⟨L', h1, -⟩ := M.lvl hw hL
    exact ⟨L', h1⟩
  · rw [if_neg hex] at hok; cases hok
end


set_option maxRecDepth 100000 in
set_option maxHeartbeats 8000000 in
theorem moved_any (l ps : List Int) (s : Value) (w : World) (B g bx n : Nat) (hB : B ≤ w.heap.size) (hs : Is w B s l) (hb : w.cell? ⟨bx, 0, none⟩ = some (.slice (some ⟨g, 0, none⟩) n n)) (hn : n = ps.length) (hr : Row w g ps) (hl : ∀ x ∈ l, 0 ≤ x ∧ x < (n : Int)) (hm : l.length ≤ 1000000) :
    Calls Tryd.prog 34 #[s, .pointer (some ⟨bx, 0, none⟩)] w fun e w' => (∃ s', e = .returned s' ∧ Stk w' w.heap.size s' (l.map fun x => lat ps x)) ∧ Below w.heap.size w w' := by
  obtain ⟨A5, b5, o5, c5, rfl, hA5, -, hm5, hc5⟩ := hs.opens
  have hbx : bx < w.heap.size := cell_lt hb
  have hg := hr.lt
  have HC5 := Lib.hid hc5
  have HA5 := Lib.hid hA5
  have HR := Lib.hid hr
  have HL0 := Lib.hid hl
  have HNP := Lib.hid hn
  have HBX := Lib.hid hb
  unfold maxLen at hm5
  clear hc5 hA5 hr hl hs hn hb
  obtain ⟨m, HM⟩ := named l.length
  rw [← HM.out] at HC5 HA5 hm5 hm
  rw [← HM.out]
  obtain ⟨i1, hi1, hz0, hz1, hz2⟩ := info_parts info_int
  have HI := Lib.hid (And.intro hi1 (And.intro hz0 (And.intro hz1 hz2)))
  clear hi1 hz0 hz1 hz2
  go_enter Tryd.func34, Tryd.ntmps34
  go_wp2
  go_loopw [4, 5] (fun sv i wr => ∃ k : Nat, k ≤ m ∧ i = .int .i64 k ∧ Below w.heap.size w wr ∧ Stk wr w.heap.size sv ((l.take k).map fun x => lat ps x)) (fun _ i _ => m - (intOf i).toNat)
  case atStart => exact ⟨0, Nat.zero_le _, rfl, Below.refl _ _, Stk.nil _ _⟩
  case round =>
    obtain ⟨k, hk, rfl, hb, hst⟩ := hrel
    obtain ⟨A4, c4, rfl, -⟩ := hst.form
    have hlen : ((l.take k).map fun x => lat ps x).length = k := by rw [List.length_map, List.length_take, ← HM.out]; omega
    rw [hlen] at hst ⊢
    by_cases hkm : k < m
    · obtain rfl := HA5.out (by omega)
      obtain ⟨hb5, d1⟩ := HC5.out k hkm
      have hx := HL0.out _ (getD_in (l := l) (k := k) (by rw [← HM.out]; exact hkm))
      have hsu : (l.take (k + 1)).map (fun x => lat ps x) = (l.take k).map (fun x => lat ps x) ++ [lat ps (l.getD k 0)] := by rw [take_succ_getD l k (by rw [← HM.out]; exact hkm), List.map_append]; rfl
      obtain ⟨xv, HX⟩ := named (l.getD k 0)
      rw [← HX.out] at d1 hx hsu
      obtain ⟨xn, rfl⟩ : ∃ xn : Nat, xv = (xn : Int) := ⟨xv.toNat, by omega⟩
      have hxn : xn < n := by omega
      have d2 := HR.out.cell (j := xn) (by rw [← HNP.out]; exact hxn)
      obtain ⟨y, HYY⟩ := named (lat ps xn)
      rw [← HYY.out] at d2 hsu
      have hce0 : ∀ w', Below w.heap.size w w' → Below w.heap.size w w' ∧ w'.cell? ⟨bx, 0, none⟩ = some (.slice (some ⟨g, 0, none⟩) n n) ∧ w'.cell? ⟨b5, o5 + k, none⟩ = some (.int .i64 (xn : Int)) ∧ w'.cell? ⟨g, xn, none⟩ = some (.int .i64 y) := fun w' h =>
        ⟨h, (h.cell (p := ⟨bx, 0, none⟩) hbx).trans HBX.out, (h.cell (p := ⟨b5, o5 + k, none⟩) (by show b5 < w.heap.size; omega)).trans d1, (h.cell (p := ⟨g, xn, none⟩) hg).trans d2⟩
      have HCE := Lib.hid hce0
      obtain ⟨L, HL⟩ := named ((l.take k).map fun x => lat ps x)
      rw [← HL.out] at hst hsu hlen
      have HST := Lib.hid hst
      have HSU := Lib.hid hsu
      have HLN := Lib.hid hlen
      have HB := Lib.hid hb
      have hwz := hb.size
      clear hce0 hst hsu hlen hb d1 d2
      go_wp2
      have HS0 := Lib.hid (HCE.out _ HB.out.drew)
      refine AnyX.start (S := fun w' => Below w.heap.size w w' ∧ w'.cell? ⟨bx, 0, none⟩ = some (.slice (some ⟨g, 0, none⟩) n n) ∧ w'.cell? ⟨b5, o5 + k, none⟩ = some (.int .i64 (xn : Int)) ∧ w'.cell? ⟨g, xn, none⟩ = some (.int .i64 y)) (t := 10) (by kernel_rfl) ?_
      refine AnyX.take (i := 0) (oi := ⟨some 12, _, _, _, _, _⟩) (v := .slice A4 k c4) rfl rfl (by kernel_rfl) (by kernel_rfl) (by kernel_rfl) (by kernel_rfl) (fun _ _ _ h => h) (Or.inl ⟨by rfl, ?_⟩) HS0.out ?_
      · intro w' hSw
        obtain ⟨-, c0', c1', c2'⟩ := hSw
        first | (go_simp; done) | (go_simp; with_reducible rfl)
      simp only [Act.put, List.setIfInBounds_toArray, List.set_cons_zero, List.set_cons_succ]
      refine AnyX.take (i := 1) (oi := ⟨some 13, _, _, _, _, _⟩) (v := .slice (some ⟨g, 0, none⟩) n n) rfl rfl (by kernel_rfl) (by kernel_rfl) (by kernel_rfl) (by kernel_rfl) (fun _ _ _ h => h) (Or.inl ⟨by rfl, ?_⟩) HS0.out ?_
      · intro w' hSw
        obtain ⟨-, c0', c1', c2'⟩ := hSw
        first | (go_simp; done) | (go_simp; with_reducible rfl)
      simp only [Act.put, List.setIfInBounds_toArray, List.set_cons_zero, List.set_cons_succ]
      refine AnyX.take (i := 2) (oi := ⟨some 14, _, _, _, _, _⟩) (v := .slice (some ⟨b5, o5, none⟩) m c5) rfl rfl (by kernel_rfl) (by kernel_rfl) (by kernel_rfl) (by kernel_rfl) (fun _ _ _ h => h) (Or.inl ⟨by rfl, ?_⟩) HS0.out ?_
      · intro w' hSw
        obtain ⟨-, c0', c1', c2'⟩ := hSw
        first | (go_simp; done) | (go_simp; with_reducible rfl)
      simp only [Act.put, List.setIfInBounds_toArray, List.set_cons_zero, List.set_cons_succ]
      refine AnyX.take (i := 3) (oi := ⟨some 15, _, _, _, _, _⟩) (v := .int .i64 (k : Int)) rfl rfl (by kernel_rfl) (by kernel_rfl) (by kernel_rfl) (by kernel_rfl) (fun _ _ _ h => h) (Or.inl ⟨by rfl, ?_⟩) HS0.out ?_
      · intro w' hSw
        obtain ⟨-, c0', c1', c2'⟩ := hSw
        first | (go_simp; done) | (go_simp; with_reducible rfl)
      simp only [Act.put, List.setIfInBounds_toArray, List.set_cons_zero, List.set_cons_succ]
      refine AnyX.take (i := 4) (oi := ⟨some 16, _, _, _, _, _⟩) (v := .pointer (some ⟨b5, o5 + k, none⟩)) rfl rfl (by kernel_rfl) (by kernel_rfl) (by kernel_rfl) (by kernel_rfl) (fun _ _ _ h => h) (Or.inl ⟨by rfl, ?_⟩) HS0.out ?_
      · intro w' hSw
        obtain ⟨-, c0', c1', c2'⟩ := hSw
        first | (go_simp; done) | (go_simp; with_reducible rfl)
      simp only [Act.put, List.setIfInBounds_toArray, List.set_cons_zero, List.set_cons_succ]
      refine AnyX.take (i := 5) (oi := ⟨some 17, _, _, _, _, _⟩) (v := .int .i64 (xn : Int)) rfl rfl (by kernel_rfl) (by kernel_rfl) (by kernel_rfl) (by kernel_rfl) (fun _ _ _ h => h) (Or.inl ⟨by rfl, ?_⟩) HS0.out ?_
      · intro w' hSw
        obtain ⟨-, c0', c1', c2'⟩ := hSw
        first | (go_simp; done) | (go_simp; with_reducible rfl)
      simp only [Act.put, List.setIfInBounds_toArray, List.set_cons_zero, List.set_cons_succ]
      refine AnyX.take (i := 6) (oi := ⟨some 18, _, _, _, _, _⟩) (v := .pointer (some ⟨g, xn, none⟩)) rfl rfl (by kernel_rfl) (by kernel_rfl) (by kernel_rfl) (by kernel_rfl) (fun _ _ _ h => h) (Or.inl ⟨by rfl, ?_⟩) HS0.out ?_
      · intro w' hSw
        obtain ⟨-, c0', c1', c2'⟩ := hSw
        first | (go_simp; done) | (go_simp; with_reducible rfl)
      simp only [Act.put, List.setIfInBounds_toArray, List.set_cons_zero, List.set_cons_succ]
      refine AnyX.take (i := 7) (oi := ⟨some 19, _, _, _, _, _⟩) (v := .int .i64 y) rfl rfl (by kernel_rfl) (by kernel_rfl) (by kernel_rfl) (by kernel_rfl) (fun _ _ _ h => h) (Or.inl ⟨by rfl, ?_⟩) HS0.out ?_
      · intro w' hSw
        obtain ⟨-, c0', c1', c2'⟩ := hSw
        first | (go_simp; done) | (go_simp; with_reducible rfl)
      simp only [Act.put, List.setIfInBounds_toArray, List.set_cons_zero, List.set_cons_succ]
      clear HS0
      refine AnyX.one (i := 8) (o := ⟨some 20, _, _, _, _, _⟩) (by kernel_rfl) rfl (fun K' hK => ?_)
      have HK := Lib.hid hK
      clear hK
      go_simp
      refine HK.out _ _ (fun _ => HCE.out _ (below_new HB.out _).drew) ?_
      clear HK
      (try simp only [Act.put, List.setIfInBounds_toArray, List.set_cons_zero, List.set_cons_succ])
      refine AnyX.one (i := 9) (o := ⟨some 21, _, _, _, _, _⟩) (by kernel_rfl) rfl (fun K' hK => ?_)
      have HK := Lib.hid hK
      clear hK
      refine step_append_lies _ (by rfl) (.tmp 12) (.tmp 20) 25 (by rfl) w.heap.size 3 i1 (.int .i64 0) 1 8 Tryd.underlying25 HI.out.1 HI.out.2.1 HI.out.2.2.1 HI.out.2.2.2 rfl (by decide) (.slice A4 k c4) k (L.map (Value.int .i64)) (by simp [Act.eval, Act.put]) (stk_al HST.out HLN.out _) ⟨wr.heap.size, 0, none⟩ 1 1 [.int .i64 y] (by simp [Act.eval, Act.put]) rfl (by exact one_new wr _ _) (by simp [Value.oneCell']) (by decide) (by unfold maxLen; omega) (by omega) (by simp; omega) _ rfl ?_
      intro g9 c9 w2 hown' hgrow hat hlt
      have hb2 : Below w.heap.size w w2 := (below_new HB.out (.cells #[.int .i64 y] 3)).drew.grown hgrow (by simp; omega) (fun q h => (World.ownsRow.lt HST.out q h).1)
      have HB2 := Lib.hid hb2
      have HR2 := Lib.hid hown'
      clear hown' hgrow hat hlt hb2
      refine HK.out _ _ (fun _ => HCE.out _ HB2.out) ?_
      clear HK
      (try simp only [Act.put, List.setIfInBounds_toArray, List.set_cons_zero, List.set_cons_succ])
      refine AnyX.one (i := 10) (o := ⟨some 4, _, _, _, _, _⟩) (by kernel_rfl) rfl (fun K' hK => ?_)
      have HK := Lib.hid hK
      clear hK
      go_simp
      refine HK.out _ _ (fun h => absurd rfl h) ?_
      clear HK
      (try simp only [Act.put, List.setIfInBounds_toArray, List.set_cons_zero, List.set_cons_succ])
      refine AnyX.done (by kernel_rfl) ?_ _
      go_wp2
      go_roundw
      case rel => exact ⟨k + 1, by omega, by go_num, HB2.out, stk_of HSU.out HLN.out HR2.out⟩
      case measure => simp [intOf]; omega
    · obtain rfl : m = k := by omega
      have hf : (l.take m).map (fun x => lat ps x) = l.map fun x => lat ps x := by rw [HM.out, List.take_length]
      rw [hf] at hst
      have HST := Lib.hid hst
      have HB := Lib.hid hb
      clear hst hb hf hlen
      go_wp2
      go_ret
      exact ⟨⟨_, rfl, HST.out⟩, HB.out⟩


theorem own_full {w : World} {base : Nat} {e : TypeId} {size g n : Nat} {xs : List Value} (h : w.ownsRow base e size (.slice (some ⟨g, 0, none⟩) n n) n xs) : Fr w g e xs ∧ base ≤ g ∧ xs.length = n * size := by
  obtain ⟨h1, h2⟩ := h
  rcases h2 with ⟨e', -⟩ | ⟨g', cap, cur, e', hb, hg, hle, hm, hs, ht⟩
  · cases e'
  · simp only [Value.slice.injEq, Option.some.injEq, Addr.mk.injEq, and_true, true_and] at e'
    obtain ⟨rfl, rfl⟩ := e'
    refine ⟨?_, hb, h1⟩
    have hc : cur = xs.toArray := by
      apply Array.ext'
      rw [← ht, List.take_of_length_le (by simp; omega)]
    unfold Fr
    rw [hg, hc]
theorem Fr.apart {w : World} {g g' : Nat} {t t' : TypeId} {cs cs' : List Value} (h : Fr w g t cs) (h' : Fr w g' t' cs') (ht : t ≠ t') : g ≠ g' := fun e => by
  subst e
  unfold Fr at h h'
  rw [h] at h'
  simp only [Option.some.injEq, Obj.cells.injEq] at h'
  exact ht h'.2.1
theorem Stk.apart {w : World} {base g : Nat} {v : Value} {l : List Int} {t : TypeId} {cs : List Value} (h : Stk w base v l) (h' : Fr w g t cs) (ht : t ≠ 3) : v.ownBlock ≠ some g := fun e => by
  obtain ⟨-, h2⟩ := h
  rcases h2 with ⟨rfl, -⟩ | ⟨g', cap, cur, rfl, hb, hg, -⟩
  · cases e
  · simp only [Value.ownBlock, Option.some.injEq] at e
    subst e
    unfold Fr at h'
    rw [h'] at hg
    simp only [Option.some.injEq, Obj.cells.injEq] at hg
    exact ht hg.2.1
theorem Stk.sets {w : World} {base g j : Nat} {v u : Value} {l : List Int} {t : TypeId} {cs : List Value} (h : Stk w base v l) (h' : Fr w g t cs) (ht : t ≠ 3) : Stk (w.setCell ⟨g, j, none⟩ u) base v l := h.set_other (h.apart h' ht) j u

/-- The moved list. -/
def mvL (p : Nat → Nat) (l : List Int) : List Int := l.map fun x => ((p x.toNat : Nat) : Int)
/-- The other circuit in its variable at gd: its nodes up to i and its names up to k are in place. -/
structure DS (c : Ck) (p : Nat → Nat) (nm : Nat → ByteArray) (n : Nat) (wb : World) (gd gN gS : Nat) (sM sO : Value) (i k : Nat) (W : World) : Prop where
  bel : Below wb.heap.size wb W
  ld : wb.heap.size ≤ gd
  lN : wb.heap.size ≤ gN
  lS : wb.heap.size ≤ gS
  box : Fr W gd 27 [.slice (some ⟨gN, 0, none⟩) n n, .slice (some ⟨gS, 0, none⟩) n n, sM, sO]
  nod : ∃ cs, Fr W gN 49 cs ∧ cs.length = n * 4 ∧ ∀ j, j < i → ∃ s, cs[p j * 4]? = some (.int .u8 (c.nodes.getD j default).kind) ∧ cs[p j * 4 + 1]? = some s ∧ cs[p j * 4 + 2]? = some (.int .i64 (c.nodes.getD j default).mem) ∧ cs[p j * 4 + 3]? = some (.int .i64 (c.nodes.getD j default).bit) ∧ Stk W wb.heap.size s (mvL p (c.nodes.getD j default).ins)
  nam : ∃ cs, Fr W gS 9 cs ∧ cs.length = n ∧ ∀ j, j < k → cs[p j]? = some (.string (nm j))
  out : Stk W wb.heap.size sO (mvL p c.outs)
section
variable {c : Ck} {p : Nat → Nat} {nm : Nat → ByteArray} {n : Nat} {wb W W' : World} {gd gN gS i k : Nat} {sM sO : Value}
theorem DS.next (H : DS c p nm n wb gd gN gS sM sO i k W) (hb : Below W.heap.size W W') : DS c p nm n wb gd gN gS sM sO i k W' := by
  obtain ⟨cs, f, hl, hc⟩ := H.nod
  obtain ⟨ds, g, hl', hd⟩ := H.nam
  refine ⟨joinB H.bel hb, H.ld, H.lN, H.lS, H.box.below hb, ⟨cs, f.below hb, hl, fun j hj => ?_⟩, ⟨ds, g.below hb, hl', hd⟩, H.out.below hb⟩
  obtain ⟨s, h0, h1, h2, h3, h4⟩ := hc j hj
  exact ⟨s, h0, h1, h2, h3, h4.below hb⟩
/-- A node is stored in its new place. -/
theorem DS.node (H : DS c p nm n wb gd gN gS sM sO i k W) (P : Perm n p) (hi : i < n) {s : Value} (hs : Stk W wb.heap.size s (mvL p (c.nodes.getD i default).ins)) :
    DS c p nm n wb gd gN gS sM sO (i + 1) k ((((W.setCell ⟨gN, p i * 4, none⟩ (.int .u8 (c.nodes.getD i default).kind)).setCell ⟨gN, p i * 4 + 1, none⟩ s).setCell ⟨gN, p i * 4 + 2, none⟩ (.int .i64 (c.nodes.getD i default).mem)).setCell ⟨gN, p i * 4 + 3, none⟩ (.int .i64 (c.nodes.getD i default).bit)) := by
  obtain ⟨cs, f, hl, hc⟩ := H.nod
  obtain ⟨ds, g, hl', hd⟩ := H.nam
  have hp := P.lt i hi
  have hB : gN ≠ gd := f.apart H.box (by decide)
  have hS : gN ≠ gS := f.apart g (by decide)
  have f1 := f.set (p i * 4) (.int .u8 (c.nodes.getD i default).kind)
  have f2 := f1.set (p i * 4 + 1) s
  have f3 := f2.set (p i * 4 + 2) (.int .i64 (c.nodes.getD i default).mem)
  have f4 := f3.set (p i * 4 + 3) (.int .i64 (c.nodes.getD i default).bit)
  have st : ∀ v l, Stk W wb.heap.size v l → Stk ((((W.setCell ⟨gN, p i * 4, none⟩ (.int .u8 (c.nodes.getD i default).kind)).setCell ⟨gN, p i * 4 + 1, none⟩ s).setCell ⟨gN, p i * 4 + 2, none⟩ (.int .i64 (c.nodes.getD i default).mem)).setCell ⟨gN, p i * 4 + 3, none⟩ (.int .i64 (c.nodes.getD i default).bit)) wb.heap.size v l := fun v l h =>
    (((h.sets f (by decide)).sets f1 (by decide)).sets f2 (by decide)).sets f3 (by decide)
  have ot : ∀ g' t cs', gN ≠ g' → Fr W g' t cs' → Fr ((((W.setCell ⟨gN, p i * 4, none⟩ (.int .u8 (c.nodes.getD i default).kind)).setCell ⟨gN, p i * 4 + 1, none⟩ s).setCell ⟨gN, p i * 4 + 2, none⟩ (.int .i64 (c.nodes.getD i default).mem)).setCell ⟨gN, p i * 4 + 3, none⟩ (.int .i64 (c.nodes.getD i default).bit)) g' t cs' := fun g' t cs' hne h =>
    (((h.other (a := ⟨gN, _, none⟩) hne _).other (a := ⟨gN, _, none⟩) hne _).other (a := ⟨gN, _, none⟩) hne _).other (a := ⟨gN, _, none⟩) hne _
  refine ⟨(((H.bel.setCell H.lN _).setCell H.lN _).setCell H.lN _).setCell H.lN _, H.ld, H.lN, H.lS, ot _ _ _ hB H.box, ⟨_, f4, by simp [hl], fun j hj => ?_⟩, ⟨ds, ot _ _ _ hS g, hl', hd⟩, st _ _ H.out⟩
  by_cases e : j = i
  · subst e
    refine ⟨s, ?_, ?_, ?_, ?_, st _ _ hs⟩
    · simp [List.getElem?_set, hl]; omega
    · simp [List.getElem?_set, hl]; omega
    · simp [List.getElem?_set, hl]; omega
    · simp [List.getElem?_set, hl]; omega
  · obtain ⟨s', h0, h1, h2, h3, h4⟩ := hc j (by omega)
    have hne : p j ≠ p i := fun h => e (P.inj j i (by omega) hi h)
    refine ⟨s', ?_, ?_, ?_, ?_, st _ _ h4⟩
    · rw [List.getElem?_set_ne (by omega), List.getElem?_set_ne (by omega), List.getElem?_set_ne (by omega), List.getElem?_set_ne (by omega)]; exact h0
    · rw [List.getElem?_set_ne (by omega), List.getElem?_set_ne (by omega), List.getElem?_set_ne (by omega), List.getElem?_set_ne (by omega)]; exact h1
    · rw [List.getElem?_set_ne (by omega), List.getElem?_set_ne (by omega), List.getElem?_set_ne (by omega), List.getElem?_set_ne (by omega)]; exact h2
    · rw [List.getElem?_set_ne (by omega), List.getElem?_set_ne (by omega), List.getElem?_set_ne (by omega), List.getElem?_set_ne (by omega)]; exact h3
/-- A name is stored in its new place. -/
theorem DS.name (H : DS c p nm n wb gd gN gS sM sO i k W) (P : Perm n p) (hk : k < n) : DS c p nm n wb gd gN gS sM sO i (k + 1) (W.setCell ⟨gS, p k, none⟩ (.string (nm k))) := by
  obtain ⟨cs, f, hl, hc⟩ := H.nod
  obtain ⟨ds, g, hl', hd⟩ := H.nam
  have hp := P.lt k hk
  refine ⟨H.bel.setCell H.lS _, H.ld, H.lN, H.lS, H.box.other (a := ⟨gS, _, none⟩) (g.apart H.box (by decide)) _, ⟨cs, f.other (a := ⟨gS, _, none⟩) (g.apart f (by decide)) _, hl, fun j hj => ?_⟩, ⟨_, g.set (p k) (.string (nm k)), by simp [hl'], fun j hj => ?_⟩, H.out.sets g (by decide)⟩
  · obtain ⟨s, h0, h1, h2, h3, h4⟩ := hc j hj
    exact ⟨s, h0, h1, h2, h3, h4.sets g (by decide)⟩
  · by_cases e : j = k
    · subst e; simp [List.getElem?_set, hl']; omega
    · have hne : p j ≠ p k := fun h => e (P.inj j k (by omega) hk h)
      rw [List.getElem?_set_ne (by omega)]
      exact hd j (by omega)
end

/-- The other circuit. -/
theorem moved_mk {c : Ck} {p : Nat → Nat} {nm : Nat → ByteArray} (P : Perm c.nodes.length p) (hnm : ∀ i, i < c.nodes.length → (nm i).data.toList = 120 :: (c.names.getD i ByteArray.empty).data.toList) :
    ∃ d : Ck, Moved c d p ∧ ∀ i, i < c.nodes.length → d.names.getD (p i) ByteArray.empty = nm i := by
  have hinv : ∀ j, ∃ i, j < c.nodes.length → i < c.nodes.length ∧ p i = j := fun j => by
    by_cases hj : j < c.nodes.length
    · obtain ⟨i, h1, h2⟩ := P.sur hj
      exact ⟨i, fun _ => ⟨h1, h2⟩⟩
    · exact ⟨0, fun h => absurd h hj⟩
  obtain ⟨q, hq⟩ := Classical.axiomOfChoice hinv
  have hqp : ∀ i, i < c.nodes.length → q (p i) = i := fun i hi => P.inj _ _ (hq _ (P.lt i hi)).1 hi (hq _ (P.lt i hi)).2
  have hname : ∀ i, i < c.nodes.length → ((List.range c.nodes.length).map fun j => nm (q j)).getD (p i) ByteArray.empty = nm i := fun i hi => by
    have hp := P.lt i hi
    simp [List.getD_eq_getElem?_getD, hp, hqp i hi]
  refine ⟨⟨(List.range c.nodes.length).map fun j => { c.nodes.getD (q j) default with ins := (c.nodes.getD (q j) default).ins.map fun x => ((p x.toNat : Nat) : Int) }, (List.range c.nodes.length).map fun j => nm (q j),
    c.mems.map fun m => ⟨m.addr.map fun x => ((p x.toNat : Nat) : Int), m.data.map fun x => ((p x.toNat : Nat) : Int), ((p m.write.toNat : Nat) : Int)⟩, c.outs.map fun x => ((p x.toNat : Nat) : Int)⟩, ⟨P, by simp, fun i hi => ?_, by simp, fun i hi => ?_, rfl, rfl⟩, hname⟩
  · have hp := P.lt i hi
    simp [List.getD_eq_getElem?_getD, hp, hqp i hi]
  · exact (congrArg (fun s : ByteArray => s.data.toList) (hname i hi)).trans (hnm i hi)
section
variable {c d : Ck} {p : Nat → Nat} {nm : Nat → ByteArray} {n : Nat} {wb W W' : World} {gd gN gS i k : Nat} {sM sO : Value}
theorem DS.cir (H : DS c p nm n wb gd gN gS sM sO n n W) (M : Moved c d p) (hn : n = c.nodes.length) (hm : n ≤ 1000000) (hd : ∀ i, i < c.nodes.length → d.names.getD (p i) ByteArray.empty = nm i) (hs : ∀ i, i < c.nodes.length → (nm i).size ≤ maxLen)
    (hk : ∀ i, i < c.nodes.length → 0 ≤ (c.nodes.getD i default).kind ∧ (c.nodes.getD i default).kind ≤ 255 ∧ (c.nodes.getD i default).ins.length ≤ maxLen) (ho : c.outs.length ≤ maxLen) (hM : Ms W W.heap.size sM d.mems) :
    Cir W W.heap.size (.agg #[.slice (some ⟨gN, 0, none⟩) n n, .slice (some ⟨gS, 0, none⟩) n n, sM, sO]) d := by
  obtain ⟨cs, f, hl, hc⟩ := H.nod
  obtain ⟨ds, g, hl', hdd⟩ := H.nam
  have e1 : d.nodes.length = n := by rw [M.len, hn]
  have e2 : d.names.length = n := by rw [M.nlen, hn]
  refine ⟨_, _, _, _, rfl, ⟨some ⟨gN, 0, none⟩, gN, 0, n, by rw [e1], fun _ => rfl, by omega, by unfold maxLen; omega, fun j hj => ⟨f.lt, ?_⟩⟩, ⟨some ⟨gS, 0, none⟩, gS, 0, n, by rw [e2], fun _ => rfl, by omega, by unfold maxLen; omega, fun j hj => ⟨g.lt, ?_⟩⟩, hM, ?_⟩
  · rw [e1] at hj
    obtain ⟨i, hi, rfl⟩ := M.perm.sur (j := j) (by omega)
    obtain ⟨s, h0, h1, h2, h3, h4⟩ := hc i (by omega)
    rw [M.node i hi, Nat.zero_add]
    obtain ⟨k1, k2, k3⟩ := hk i hi
    refine ⟨s, ?_, ?_, ?_, ?_, h4.all (by unfold mvL; rw [List.length_map]; exact k3), k1, k2⟩
    · rw [f.cell]; exact h0
    · rw [f.cell]; exact h1
    · rw [f.cell]; exact h2
    · rw [f.cell]; exact h3
  · rw [e2] at hj
    obtain ⟨i, hi, rfl⟩ := M.perm.sur (j := j) (by omega)
    rw [hd i hi, Nat.zero_add, Nat.mul_one]
    exact ⟨by rw [g.cell]; exact hdd i (by omega), hs i hi⟩
  · rw [M.outs]
    exact H.out.all (by unfold mvL; rw [List.length_map]; exact ho)
end


/-- The frame with five temporaries of its own. -/
def Gq (a : Act) (v11 v71 v73 v77 v78 : Value) : Act := (((((a.put (some 11) v11).put (some 71) v71).put (some 73) v73).put (some 77) v77).put (some 78) v78)
section
variable (a : Act) (v11 v71 v73 v77 v78 u : Value)
theorem Gq.p11 : (Gq a v11 v71 v73 v77 v78).put (some 11) u = Gq a u v71 v73 v77 v78 := by
  simp only [Gq, Act.put, Act.mk.injEq, and_true]; apply Array.ext_getElem?; intro i; by_cases h11 : 11 = i; (subst h11; simp [Array.getElem?_setIfInBounds]); by_cases h71 : 71 = i; (subst h71; simp [Array.getElem?_setIfInBounds]); by_cases h73 : 73 = i; (subst h73; simp [Array.getElem?_setIfInBounds]); by_cases h77 : 77 = i; (subst h77; simp [Array.getElem?_setIfInBounds]); by_cases h78 : 78 = i; (subst h78; simp [Array.getElem?_setIfInBounds]); simp [Array.getElem?_setIfInBounds, h11, h71, h73, h77, h78]
theorem Gq.p71 : (Gq a v11 v71 v73 v77 v78).put (some 71) u = Gq a v11 u v73 v77 v78 := by
  simp only [Gq, Act.put, Act.mk.injEq, and_true]; apply Array.ext_getElem?; intro i; by_cases h11 : 11 = i; (subst h11; simp [Array.getElem?_setIfInBounds]); by_cases h71 : 71 = i; (subst h71; simp [Array.getElem?_setIfInBounds]); by_cases h73 : 73 = i; (subst h73; simp [Array.getElem?_setIfInBounds]); by_cases h77 : 77 = i; (subst h77; simp [Array.getElem?_setIfInBounds]); by_cases h78 : 78 = i; (subst h78; simp [Array.getElem?_setIfInBounds]); simp [Array.getElem?_setIfInBounds, h11, h71, h73, h77, h78]
theorem Gq.p73 : (Gq a v11 v71 v73 v77 v78).put (some 73) u = Gq a v11 v71 u v77 v78 := by
  simp only [Gq, Act.put, Act.mk.injEq, and_true]; apply Array.ext_getElem?; intro i; by_cases h11 : 11 = i; (subst h11; simp [Array.getElem?_setIfInBounds]); by_cases h71 : 71 = i; (subst h71; simp [Array.getElem?_setIfInBounds]); by_cases h73 : 73 = i; (subst h73; simp [Array.getElem?_setIfInBounds]); by_cases h77 : 77 = i; (subst h77; simp [Array.getElem?_setIfInBounds]); by_cases h78 : 78 = i; (subst h78; simp [Array.getElem?_setIfInBounds]); simp [Array.getElem?_setIfInBounds, h11, h71, h73, h77, h78]
theorem Gq.p77 : (Gq a v11 v71 v73 v77 v78).put (some 77) u = Gq a v11 v71 v73 u v78 := by
  simp only [Gq, Act.put, Act.mk.injEq, and_true]; apply Array.ext_getElem?; intro i; by_cases h11 : 11 = i; (subst h11; simp [Array.getElem?_setIfInBounds]); by_cases h71 : 71 = i; (subst h71; simp [Array.getElem?_setIfInBounds]); by_cases h73 : 73 = i; (subst h73; simp [Array.getElem?_setIfInBounds]); by_cases h77 : 77 = i; (subst h77; simp [Array.getElem?_setIfInBounds]); by_cases h78 : 78 = i; (subst h78; simp [Array.getElem?_setIfInBounds]); simp [Array.getElem?_setIfInBounds, h11, h71, h73, h77, h78]
theorem Gq.p78 : (Gq a v11 v71 v73 v77 v78).put (some 78) u = Gq a v11 v71 v73 v77 u := by
  simp only [Gq, Act.put, Act.mk.injEq, and_true]; apply Array.ext_getElem?; intro i; by_cases h11 : 11 = i; (subst h11; simp [Array.getElem?_setIfInBounds]); by_cases h71 : 71 = i; (subst h71; simp [Array.getElem?_setIfInBounds]); by_cases h73 : 73 = i; (subst h73; simp [Array.getElem?_setIfInBounds]); by_cases h77 : 77 = i; (subst h77; simp [Array.getElem?_setIfInBounds]); by_cases h78 : 78 = i; (subst h78; simp [Array.getElem?_setIfInBounds]); simp [Array.getElem?_setIfInBounds, h11, h71, h73, h77, h78]
theorem Gq.e11 (hz : 80 ≤ a.tmps.size) : (Gq a v11 v71 v73 v77 v78).eval (.tmp 11) = v11 := by
  have k11 : 11 < a.tmps.size := (by omega); have k71 : 71 < a.tmps.size := (by omega); have k73 : 73 < a.tmps.size := (by omega); have k77 : 77 < a.tmps.size := (by omega); have k78 : 78 < a.tmps.size := (by omega); simp [Gq, Act.put, Act.eval, Array.getElem?_setIfInBounds, *]
theorem Gq.e71 (hz : 80 ≤ a.tmps.size) : (Gq a v11 v71 v73 v77 v78).eval (.tmp 71) = v71 := by
  have k11 : 11 < a.tmps.size := (by omega); have k71 : 71 < a.tmps.size := (by omega); have k73 : 73 < a.tmps.size := (by omega); have k77 : 77 < a.tmps.size := (by omega); have k78 : 78 < a.tmps.size := (by omega); simp [Gq, Act.put, Act.eval, Array.getElem?_setIfInBounds, *]
theorem Gq.e73 (hz : 80 ≤ a.tmps.size) : (Gq a v11 v71 v73 v77 v78).eval (.tmp 73) = v73 := by
  have k11 : 11 < a.tmps.size := (by omega); have k71 : 71 < a.tmps.size := (by omega); have k73 : 73 < a.tmps.size := (by omega); have k77 : 77 < a.tmps.size := (by omega); have k78 : 78 < a.tmps.size := (by omega); simp [Gq, Act.put, Act.eval, Array.getElem?_setIfInBounds, *]
theorem Gq.e77 (hz : 80 ≤ a.tmps.size) : (Gq a v11 v71 v73 v77 v78).eval (.tmp 77) = v77 := by
  have k11 : 11 < a.tmps.size := (by omega); have k71 : 71 < a.tmps.size := (by omega); have k73 : 73 < a.tmps.size := (by omega); have k77 : 77 < a.tmps.size := (by omega); have k78 : 78 < a.tmps.size := (by omega); simp [Gq, Act.put, Act.eval, Array.getElem?_setIfInBounds, *]
theorem Gq.e78 (hz : 80 ≤ a.tmps.size) : (Gq a v11 v71 v73 v77 v78).eval (.tmp 78) = v78 := by
  have k11 : 11 < a.tmps.size := (by omega); have k71 : 71 < a.tmps.size := (by omega); have k73 : 73 < a.tmps.size := (by omega); have k77 : 77 < a.tmps.size := (by omega); have k78 : 78 < a.tmps.size := (by omega); simp [Gq, Act.put, Act.eval, Array.getElem?_setIfInBounds, *]
theorem Gq.e70 (hz : 80 ≤ a.tmps.size) : (Gq a v11 v71 v73 v77 v78).eval (.tmp 70) = a.eval (.tmp 70) := by
  have k11 : 11 < a.tmps.size := (by omega); have k71 : 71 < a.tmps.size := (by omega); have k73 : 73 < a.tmps.size := (by omega); have k77 : 77 < a.tmps.size := (by omega); have k78 : 78 < a.tmps.size := (by omega); simp [Gq, Act.put, Act.eval, Array.getElem?_setIfInBounds, *]
theorem Gq.e72 (hz : 80 ≤ a.tmps.size) : (Gq a v11 v71 v73 v77 v78).eval (.tmp 72) = a.eval (.tmp 72) := by
  have k11 : 11 < a.tmps.size := (by omega); have k71 : 71 < a.tmps.size := (by omega); have k73 : 73 < a.tmps.size := (by omega); have k77 : 77 < a.tmps.size := (by omega); have k78 : 78 < a.tmps.size := (by omega); simp [Gq, Act.put, Act.eval, Array.getElem?_setIfInBounds, *]
theorem Gq.e74 (hz : 80 ≤ a.tmps.size) : (Gq a v11 v71 v73 v77 v78).eval (.tmp 74) = a.eval (.tmp 74) := by
  have k11 : 11 < a.tmps.size := (by omega); have k71 : 71 < a.tmps.size := (by omega); have k73 : 73 < a.tmps.size := (by omega); have k77 : 77 < a.tmps.size := (by omega); have k78 : 78 < a.tmps.size := (by omega); simp [Gq, Act.put, Act.eval, Array.getElem?_setIfInBounds, *]
theorem Gq.e76 (hz : 80 ≤ a.tmps.size) : (Gq a v11 v71 v73 v77 v78).eval (.tmp 76) = a.eval (.tmp 76) := by
  have k11 : 11 < a.tmps.size := (by omega); have k71 : 71 < a.tmps.size := (by omega); have k73 : 73 < a.tmps.size := (by omega); have k77 : 77 < a.tmps.size := (by omega); have k78 : 78 < a.tmps.size := (by omega); simp [Gq, Act.put, Act.eval, Array.getElem?_setIfInBounds, *]
end

section
variable {P : Program} {md : Region.Mode} {ops : Array Oper} {i : Nat} {a : Act} {w : World} {K : Act → World → Prop} {Q : Exit → Act → World → Prop}
theorem op_makeR {d : Tmp} {deps : List Nat} {l c : Operand} {t : TypeId} (ho : OpAt md ops i (some d) (.makeSlice t l c) deps)
    (base : Nat) (e : TypeId) (ti : TypeInfo) (z : Value) (size : Nat) (h1 : P.underlying t = some (.slice e)) (h2 : P.info? e = some ti) (h3 : ti.zero = some z) (h4 : ti.size = size) (kl kc : IntKind) (n : Nat) (hl : a.eval l = .int kl (n : Int)) (hc : a.eval c = .int kc (n : Int))
    (b2 : ti.bytes * n ≤ 281474976710656) (b3 : n ≤ maxLen) (b4 : base ≤ w.heap.size)
    (hK : ∀ w' g, base ≤ g → Fr w' g e (madeCells z.cells (n * size)).toList → Below w.heap.size w w' → K (a.put (some d) (.slice (some ⟨g, 0, none⟩) n n)) w') : wpOp P ops Q i K a w := by
  obtain ⟨o, ho, hgd, hd, hop, _⟩ := ho
  refine wpOp_step ho fun K' hK' => ?_
  refine step_make hgd l c t hop base e ti z size h1 h2 h3 h4 kl kc n hl hc b2 b3 b4 w.heap.size rfl fun w' r1 r2 => ?_
  obtain ⟨r3, r4, -⟩ := own_full r1
  rw [hd]
  exact hK' _ _ (hK w' _ r4 r3 ((Below.refl _ _).grown r2 (Nat.le_refl _) (fun k h => by cases h)))
theorem op_buildC {d t0 t1 t3 : Tmp} {deps : List Nat} (ho : OpAt md ops i (some d) (.build 27 #[(0, .tmp t0), (1, .tmp t1), (3, .tmp t3)]) deps) (hP : P = Tryd.prog) {A0 A1 A3 : Option Addr} {n0 n1 n3 k0 k1 k3 : Nat} (h0 : a.eval (.tmp t0) = .slice A0 n0 k0) (h1 : a.eval (.tmp t1) = .slice A1 n1 k1) (h3 : a.eval (.tmp t3) = .slice A3 n3 k3)
    (h : K (a.put (some d) (.agg #[.slice A0 n0 k0, .slice A1 n1 k1, .slice none 0 0, .slice A3 n3 k3])) w) : wpOp P ops Q i K a w := by
  obtain ⟨o, ho, hgd, hd, hop, _⟩ := ho
  refine wpOp_step ho fun K' hK => ?_
  have hw : Region.wanted o (yielded ops a.tmps) = true := by simp [Region.wanted, hgd]
  rw [if_pos hw]
  subst hP
  have hk := hK _ _ h
  have e0 : a.tmps[t0]?.getD undef = .slice A0 n0 k0 := by rw [← h0]; simp [Act.eval]
  have e1 : a.tmps[t1]?.getD undef = .slice A1 n1 k1 := by rw [← h1]; simp [Act.eval]
  have e3 : a.tmps[t3]?.getD undef = .slice A3 n3 k3 := by rw [← h3]; simp [Act.eval]
  unfold Oper.wp execOp
  simp only [hop]
  simp [go_sem, hd, e0, e1, e3]
  exact hk
theorem op_storeK {p x : Operand} {deps : List Nat} (ho : OpAt md ops i none (.store 27 p x) deps) (hP : P = Tryd.prog)
    (g : Nat) (l : List Value) (s0 s1 s2 s3 : Option Addr) (m0 m1 m2 m3 k0 k1 k2 k3 : Nat) (hp : a.eval p = .pointer (some ⟨g, 0, none⟩)) (hx : a.eval x = .agg #[.slice s0 m0 k0, .slice s1 m1 k1, .slice s2 m2 k2, .slice s3 m3 k3]) (hl : l.length = 4) (hb : Fr w g 27 l)
    (h : K a ((((w.setCell ⟨g, 0, none⟩ (.slice s0 m0 k0)).setCell ⟨g, 1, none⟩ (.slice s1 m1 k1)).setCell ⟨g, 2, none⟩ (.slice s2 m2 k2)).setCell ⟨g, 3, none⟩ (.slice s3 m3 k3))) :
    wpOp P ops Q i K a w := by
  obtain ⟨o, ho, hgd, hd, hop, _⟩ := ho
  refine wpOp_step ho fun K' hK => ?_
  have hw : Region.wanted o (yielded ops a.tmps) = true := by simp [Region.wanted, hgd]
  rw [if_pos hw]
  subst hP
  have hk := hK _ _ h
  have c0 := hb.cell 0
  have c1 := hb.cell 1
  have c2 := hb.cell 2
  have c3 := hb.cell 3
  have f0 := hb.frozen 0
  have f1 := hb.frozen 1
  have f2 := hb.frozen 2
  have f3 := hb.frozen 3
  match l, hl with
  | [y0, y1, y2, y3], _ =>
    simp at c0 c1 c2 c3
    unfold Oper.wp execOp
    simp only [hop, hp, hx]
    simp [go_sem, hd, c0, c1, c2, c3, f0, f1, f2, f3]
    exact hk
theorem op_callM {d t u : Tmp} {deps : List Nat} (ho : OpAt md ops i (some d) (.call { callee := .value (.tmp u), args := #[.tmp t], argTypes := #[25] }) deps) (hP : P = Tryd.prog)
    {bx : Nat} {s : Value} (hu : a.eval (.tmp u) = .func (.func 34) #[] #[.pointer (some ⟨bx, 0, none⟩)]) (hx : a.eval (.tmp t) = s)
    {R : Value → World → Prop} (hc : Calls Tryd.prog 34 #[s, .pointer (some ⟨bx, 0, none⟩)] w fun e w' => ∃ s', e = .returned s' ∧ R s' w')
    (h : ∀ v w', R v w' → K (a.put (some d) v) w') : wpOp P ops Q i K a w := by
  obtain ⟨o, ho, hgd, hd, hop, _⟩ := ho
  refine wpOp_step ho fun K' hK => ?_
  have hw : Region.wanted o (yielded ops a.tmps) = true := by simp [Region.wanted, hgd]
  rw [if_pos hw]
  subst hP
  unfold Oper.wp execOp
  simp only [hop]
  have hx2 : a.tmps[t]?.getD undef = s := by rw [← hx]; simp [Act.eval]
  have hu2 : a.tmps[u]?.getD undef = .func (.func 34) #[] #[.pointer (some ⟨bx, 0, none⟩)] := by rw [← hu]; simp [Act.eval]
  simp [go_sem, hd, hu2, hx2]
  with_reducible refine Calls.mono hc ?_
  rintro e w' ⟨v, rfl, hr⟩
  exact hK _ _ (h v w' hr)
end

/-- What holds whatever has come up. -/
structure Inr (n : Nat) (wb : World) (lo : List Int) (b1 b3 b7 b8 b9 b10 : Bool) (v11 v71 v73 v77 v78 : Value) (gN gS gd : Nat) (w : World) : Prop where
  bel : Below wb.heap.size wb w
  m1 : b1 = true → v71 = .slice (some ⟨gN, 0, none⟩) n n ∧ wb.heap.size ≤ gN ∧ ∃ cs, Fr w gN 49 cs ∧ cs.length = n * 4
  m3 : b3 = true → v73 = .slice (some ⟨gS, 0, none⟩) n n ∧ wb.heap.size ≤ gS ∧ ∃ cs, Fr w gS 9 cs ∧ cs.length = n
  m7 : b7 = true → Stk w wb.heap.size v77 lo
  m8 : b8 = true → v78 = .agg #[v71, v73, .slice none 0 0, v77] ∧ b1 = true ∧ b3 = true ∧ b7 = true
  m9 : b9 = true → v11 = .pointer (some ⟨gd, 0, none⟩) ∧ wb.heap.size ≤ gd ∧ ∃ l, l.length = 4 ∧ Fr w gd 27 l ∧ (b10 = true → l = [v71, v73, .slice none 0 0, v77])
  d10 : b10 = true → b8 = true ∧ b9 = true
section
variable {n : Nat} {wb : World} {lo : List Int} {b1 b3 b7 b8 b9 b10 : Bool} {v11 v71 v73 v77 v78 : Value} {gN gS gd : Nat} {w w' : World}
theorem Inr.next (I : Inr n wb lo b1 b3 b7 b8 b9 b10 v11 v71 v73 v77 v78 gN gS gd w) (hb : Below w.heap.size w w') : Inr n wb lo b1 b3 b7 b8 b9 b10 v11 v71 v73 v77 v78 gN gS gd w' :=
  ⟨joinB I.bel hb, fun e => by obtain ⟨h1, h2, cs, h3, h4⟩ := I.m1 e; exact ⟨h1, h2, cs, h3.below hb, h4⟩, fun e => by obtain ⟨h1, h2, cs, h3, h4⟩ := I.m3 e; exact ⟨h1, h2, cs, h3.below hb, h4⟩, fun e => (I.m7 e).below hb, I.m8,
    fun e => by obtain ⟨h1, h2, l, h3, h4, h5⟩ := I.m9 e; exact ⟨h1, h2, l, h3, h4.below hb, h5⟩, I.d10⟩
end
def Jnr (n : Nat) (wb : World) (lo : List Int) (a9 : Act) (l : Array Bool) (a : Act) (w : World) : Prop :=
  ∃ (b1 b3 b7 b8 b9 b10 : Bool) (v11 v71 v73 v77 v78 : Value) (gN gS gd : Nat), l = #[true, b1, true, b3, true, true, true, b7, b8, b9, b10] ∧ a = Gq a9 v11 v71 v73 v77 v78 ∧ Inr n wb lo b1 b3 b7 b8 b9 b10 v11 v71 v73 v77 v78 gN gS gd w

theorem rnd_reg {Q : Exit → Act → World → Prop} {md : Region.Mode} {ops : Array Oper} {n bx : Nat} {wb : World} {lo : List Int} {sO : Value} (a9 : Act) (hn : n ≤ 1000000)
    (h11 : ops.size = 11) (hea : early ops = true)
    (h1 : OpAt md ops 1 (some 71) (.makeSlice 22 (.tmp 70) (.tmp 70)) [])
    (h3 : OpAt md ops 3 (some 73) (.makeSlice 23 (.tmp 72) (.tmp 72)) [])
    (h7 : OpAt md ops 7 (some 77) (.call { callee := .value (.tmp 74), args := #[.tmp 76], argTypes := #[25] }) [])
    (h8 : OpAt md ops 8 (some 78) (.build 27 #[(0, .tmp 71), (1, .tmp 73), (3, .tmp 77)]) [1, 3, 7])
    (h9 : OpAt md ops 9 (some 11) (.alloc 27) [])
    (h10 : OpAt md ops 10 none (.store 27 (.tmp 11) (.tmp 78)) [8, 9, 1, 3, 7])
    (hz : 80 ≤ a9.tmps.size) (e70 : a9.eval (.tmp 70) = .int .i64 (n : Int)) (e72 : a9.eval (.tmp 72) = .int .i64 (n : Int)) (e74 : a9.eval (.tmp 74) = .func (.func 34) #[] #[.pointer (some ⟨bx, 0, none⟩)]) (e76 : a9.eval (.tmp 76) = sO)
    (hfr : a9 = Gq a9 undef undef undef undef undef)
    (hcall : ∀ W, Below wb.heap.size wb W → Calls Tryd.prog 34 #[sO, .pointer (some ⟨bx, 0, none⟩)] W fun e w' => ∃ s', e = .returned s' ∧ Stk w' wb.heap.size s' lo ∧ Below W.heap.size W w')
    (hQ : ∀ v11 v71 v73 v77 v78 gN gS gd w', Inr n wb lo true true true true true true v11 v71 v73 v77 v78 gN gS gd w' → Q .normal (Gq a9 v11 v71 v73 v77 v78) w')
    (w : World) (hw : Below wb.heap.size wb w) : wpAnyH Tryd.prog md ops Q (fun w' => Below wb.heap.size wb w') 6 #[true, false, true, false, true, true, true, false, false, false, false] a9 w := by
  obtain ⟨i1, hi1, hz0, hz1, hz2⟩ := info_parts info_nd
  obtain ⟨i2, hj1, hj0, hj2, hj3⟩ := info_parts info_str
  refine held_inv (Jnr n wb lo a9) ?_ ?_ ?_ ?_ 6 _ a9 w (by decide) ?_
  · rintro l a w ⟨b1, b3, b7, b8, b9, b10, v11, v71, v73, v77, v78, gN, gS, gd, rfl, -⟩
    rw [h11]; rfl
  · rintro l a w ⟨b1, b3, b7, b8, b9, b10, v11, v71, v73, v77, v78, gN, gS, gd, -, -, I⟩
    exact I.bel
  · rintro l a w i o ⟨b1, b3, b7, b8, b9, b10, v11, v71, v73, v77, v78, gN, gS, gd, rfl, rfl, I⟩ ho h0 hall
    have hi : i < 11 := h11 ▸ (Array.getElem?_eq_some_iff.1 ho).1
    have hcs : i = 0 ∨ i = 1 ∨ i = 2 ∨ i = 3 ∨ i = 4 ∨ i = 5 ∨ i = 6 ∨ i = 7 ∨ i = 8 ∨ i = 9 ∨ i = 10 := by omega
    rcases hcs with rfl | rfl | rfl | rfl | rfl | rfl | rfl | rfl | rfl | rfl | rfl
    · exact absurd (show true = false from h0) (by decide)
    · obtain rfl : b1 = false := h0
      obtain rfl : b8 = false := by cases b8; · rfl
                                    · exact absurd (I.m8 rfl).2.1 (by simp)
      obtain rfl : b10 = false := by cases b10; · rfl
                                     · exact absurd (I.d10 rfl).1 (by simp)
      refine op_makeR h1 wb.heap.size 49 i1 (.agg #[.int .u8 0, .slice none 0 0, .int .i64 0, .int .i64 0]) 4 Tryd.underlying22 hi1 hz0 hz1 .i64 .i64 n ((Gq.e70 _ _ _ _ _ _ hz).trans e70) ((Gq.e70 _ _ _ _ _ _ hz).trans e70) (by rw [hz2]; omega) (by unfold maxLen; omega) I.bel.size fun w' g hg hf hb => ?_
      have J := I.next hb
      exact ⟨true, b3, b7, false, b9, false, v11, _, v73, v77, v78, g, gS, gd, rfl, Gq.p71 .., J.bel, fun _ => ⟨rfl, hg, _, hf, by simp [madeCells]⟩, J.m3, J.m7, fun e => (by cases e), fun e => (by obtain ⟨h1, h2, l, h3, h4, -⟩ := J.m9 e; exact ⟨h1, h2, l, h3, h4, fun e => by cases e⟩), fun e => by cases e⟩
    · exact absurd (show true = false from h0) (by decide)
    · obtain rfl : b3 = false := h0
      obtain rfl : b8 = false := by cases b8; · rfl
                                    · exact absurd (I.m8 rfl).2.2.1 (by simp)
      obtain rfl : b10 = false := by cases b10; · rfl
                                     · exact absurd (I.d10 rfl).1 (by simp)
      refine op_makeR h3 wb.heap.size 9 i2 (.string ⟨#[]⟩) 1 Tryd.underlying23 hj1 hj0 hj2 .i64 .i64 n ((Gq.e72 _ _ _ _ _ _ hz).trans e72) ((Gq.e72 _ _ _ _ _ _ hz).trans e72) (by rw [hj3]; omega) (by unfold maxLen; omega) I.bel.size fun w' g hg hf hb => ?_
      have J := I.next hb
      exact ⟨b1, true, b7, false, b9, false, v11, v71, _, v77, v78, gN, g, gd, rfl, Gq.p73 .., J.bel, J.m1, fun _ => ⟨rfl, hg, _, hf, by simp [madeCells]⟩, J.m7, fun e => (by cases e), fun e => (by obtain ⟨h1, h2, l, h3, h4, -⟩ := J.m9 e; exact ⟨h1, h2, l, h3, h4, fun e => by cases e⟩), fun e => by cases e⟩
    · exact absurd (show true = false from h0) (by decide)
    · exact absurd (show true = false from h0) (by decide)
    · exact absurd (show true = false from h0) (by decide)
    · obtain rfl : b7 = false := h0
      obtain rfl : b8 = false := by cases b8; · rfl
                                    · exact absurd (I.m8 rfl).2.2.2 (by simp)
      obtain rfl : b10 = false := by cases b10; · rfl
                                     · exact absurd (I.d10 rfl).1 (by simp)
      refine op_callM h7 rfl ((Gq.e74 _ _ _ _ _ _ hz).trans e74) ((Gq.e76 _ _ _ _ _ _ hz).trans e76) (hcall w I.bel) fun v w' hr => ?_
      obtain ⟨hst, hb⟩ := hr
      have J := I.next hb
      exact ⟨b1, b3, true, false, b9, false, v11, v71, v73, _, v78, gN, gS, gd, rfl, Gq.p77 .., J.bel, J.m1, J.m3, fun _ => hst, fun e => (by cases e), fun e => (by obtain ⟨h1, h2, l, h3, h4, -⟩ := J.m9 e; exact ⟨h1, h2, l, h3, h4, fun e => by cases e⟩), fun e => by cases e⟩
    · obtain rfl : b8 = false := h0
      obtain rfl : b1 = true := dep_of h8 ho hall 1 (by decide)
      obtain rfl : b3 = true := dep_of h8 ho hall 3 (by decide)
      obtain rfl : b7 = true := dep_of h8 ho hall 7 (by decide)
      obtain rfl : b10 = false := by cases b10; · rfl
                                     · exact absurd (I.d10 rfl).1 (by simp)
      obtain ⟨r1, -⟩ := id (I.m1 rfl)
      obtain ⟨r3, -⟩ := id (I.m3 rfl)
      obtain ⟨A7, c7, r7, -⟩ := (I.m7 rfl).form
      subst r1 r3 r7
      refine op_buildC h8 rfl (Gq.e71 _ _ _ _ _ _ hz) (Gq.e73 _ _ _ _ _ _ hz) (Gq.e77 _ _ _ _ _ _ hz) ?_
      exact ⟨true, true, true, true, b9, false, v11, _, _, _, _, gN, gS, gd, rfl, Gq.p78 .., I.bel, I.m1, I.m3, I.m7, fun _ => ⟨rfl, rfl, rfl, rfl⟩, I.m9, fun e => by cases e⟩
    · obtain rfl : b9 = false := h0
      obtain rfl : b10 = false := by cases b10; · rfl
                                     · exact absurd (I.d10 rfl).2 (by simp)
      refine op_allocC h9 rfl fun g w' l hg hll hX hb => ?_
      have J := I.next hb
      exact ⟨b1, b3, b7, b8, true, false, _, v71, v73, v77, v78, gN, gS, g, rfl, Gq.p11 .., J.bel, J.m1, J.m3, J.m7, J.m8, fun _ => ⟨rfl, hg ▸ I.bel.size, l, hll, hX, fun e => by cases e⟩, fun e => by cases e⟩
    · obtain rfl : b10 = false := h0
      obtain rfl : b8 = true := dep_of h10 ho hall 8 (by decide)
      obtain rfl : b9 = true := dep_of h10 ho hall 9 (by decide)
      obtain ⟨rfl, rfl, rfl, rfl⟩ := I.m8 rfl
      obtain ⟨rfl, n1, cs, f1, l1⟩ := I.m1 rfl
      obtain ⟨rfl, n3, ds, f3, l3⟩ := I.m3 rfl
      obtain ⟨rfl, n9, l, hll, hX, -⟩ := I.m9 rfl
      have hst := I.m7 rfl
      obtain ⟨A7, c7, rfl, -⟩ := hst.form
      refine op_storeK h10 rfl gd l (some ⟨gN, 0, none⟩) (some ⟨gS, 0, none⟩) none A7 n n 0 lo.length n n 0 c7 (Gq.e11 _ _ _ _ _ _ hz) (Gq.e78 _ _ _ _ _ _ hz) hll hX ?_
      have hx1 := hX.set 0 (.slice (some ⟨gN, 0, none⟩) n n)
      have hx2 := hx1.set 1 (.slice (some ⟨gS, 0, none⟩) n n)
      have hx3 := hx2.set 2 (.slice none 0 0)
      have hx4 := hx3.set 3 (.slice A7 lo.length c7)
      refine ⟨true, true, true, true, true, true, _, _, _, _, _, gN, gS, gd, rfl, rfl, (((I.bel.setCell n9 _).setCell n9 _).setCell n9 _).setCell n9 _, fun _ => ⟨rfl, n1, cs, ?_, l1⟩, fun _ => ⟨rfl, n3, ds, ?_, l3⟩, fun _ => ?_, fun _ => ⟨rfl, rfl, rfl, rfl⟩, fun _ => ⟨rfl, n9, _, ?_, hx4, fun _ => ?_⟩, fun _ => ⟨rfl, rfl⟩⟩
      · have hne := hX.apart f1 (by decide)
        exact (((f1.other (a := ⟨gd, _, none⟩) hne _).other (a := ⟨gd, _, none⟩) hne _).other (a := ⟨gd, _, none⟩) hne _).other (a := ⟨gd, _, none⟩) hne _
      · have hne := hX.apart f3 (by decide)
        exact (((f3.other (a := ⟨gd, _, none⟩) hne _).other (a := ⟨gd, _, none⟩) hne _).other (a := ⟨gd, _, none⟩) hne _).other (a := ⟨gd, _, none⟩) hne _
      · exact (((hst.sets hX (by decide)).sets hx1 (by decide)).sets hx2 (by decide)).sets hx3 (by decide)
      · simpa using hll
      · match l, hll with
        | [_, _, _, _], _ => rfl
  · rintro l a w ⟨b1, b3, b7, b8, b9, b10, v11, v71, v73, v77, v78, gN, gS, gd, rfl, rfl, I⟩ hr
    have hs : (#[true, b1, true, b3, true, true, true, b7, b8, b9, b10] : Array Bool).size = ops.size := by rw [h11]; rfl
    obtain rfl : b1 = true := all_up hea hs hr 1 (by omega)
    obtain rfl : b3 = true := all_up hea hs hr 3 (by omega)
    obtain rfl : b7 = true := all_up hea hs hr 7 (by omega)
    obtain rfl : b8 = true := all_up hea hs hr 8 (by omega)
    obtain rfl : b9 = true := all_up hea hs hr 9 (by omega)
    obtain rfl : b10 = true := all_up hea hs hr 10 (by omega)
    exact hQ _ _ _ _ _ _ _ _ _ I
  · exact ⟨false, false, false, false, false, false, undef, undef, undef, undef, undef, 0, 0, 0, rfl, hfr, hw, fun e => (by cases e), fun e => (by cases e), fun e => (by cases e), fun e => (by cases e), fun e => (by cases e), fun e => by cases e⟩
section
variable {c : Ck} {p : Nat → Nat} {nm : Nat → ByteArray} {n : Nat} {wb W : World} {gd gN gS i k : Nat} {sM sO : Value}
/-- A store elsewhere. -/
theorem DS.off (H : DS c p nm n wb gd gN gS sM sO i k W) {b : Nat} {t : TypeId} {cs : List Value} (hf : Fr W b t cs) (ht : t ≠ 3) (h1 : b ≠ gd) (h2 : b ≠ gN) (h3 : b ≠ gS) (hb : wb.heap.size ≤ b) (j : Nat) (u : Value) : DS c p nm n wb gd gN gS sM sO i k (W.setCell ⟨b, j, none⟩ u) := by
  obtain ⟨cs, f, hl, hc⟩ := H.nod
  obtain ⟨ds, g, hl', hd⟩ := H.nam
  refine ⟨H.bel.setCell hb _, H.ld, H.lN, H.lS, H.box.other (a := ⟨b, _, none⟩) h1 _, ⟨cs, f.other (a := ⟨b, _, none⟩) h2 _, hl, fun j hj => ?_⟩, ⟨ds, g.other (a := ⟨b, _, none⟩) h3 _, hl', hd⟩, H.out.sets hf ht⟩
  obtain ⟨s, h0, h1, h2, h3, h4⟩ := hc j hj
  exact ⟨s, h0, h1, h2, h3, h4.sets hf ht⟩
theorem DS.tops (H : DS c p nm n wb gd gN gS sM sO i k W) : gd < W.heap.size ∧ gN < W.heap.size ∧ gS < W.heap.size := by
  obtain ⟨cs, f, -⟩ := H.nod
  obtain ⟨ds, g, -⟩ := H.nam
  exact ⟨H.box.lt, f.lt, g.lt⟩
theorem DS.cells (H : DS c p nm n wb gd gN gS sM sO i k W) : W.cell? ⟨gd, 0, none⟩ = some (.slice (some ⟨gN, 0, none⟩) n n) ∧ W.cell? ⟨gd, 1, none⟩ = some (.slice (some ⟨gS, 0, none⟩) n n) ∧ W.cell? ⟨gd, 2, none⟩ = some sM ∧ W.cell? ⟨gd, 3, none⟩ = some sO ∧ (∀ j, W.frozen? ⟨gN, j, none⟩ = false) ∧ (∀ j, W.frozen? ⟨gS, j, none⟩ = false) ∧ (∀ j, W.frozen? ⟨gd, j, none⟩ = false) := by
  obtain ⟨cs, f, -⟩ := H.nod
  obtain ⟨ds, g, -⟩ := H.nam
  exact ⟨H.box.cell 0, H.box.cell 1, H.box.cell 2, H.box.cell 3, f.frozen, g.frozen, H.box.frozen⟩
theorem ds_of {v11 v71 v73 v77 v78 : Value} {lo : List Int} (I : Inr n wb lo true true true true true true v11 v71 v73 v77 v78 gN gS gd W) (hlo : lo = mvL p c.outs) (nm : Nat → ByteArray) :
    ∃ A7 c7, v11 = .pointer (some ⟨gd, 0, none⟩) ∧ v71 = .slice (some ⟨gN, 0, none⟩) n n ∧ v73 = .slice (some ⟨gS, 0, none⟩) n n ∧ v77 = .slice A7 lo.length c7 ∧ v78 = .agg #[.slice (some ⟨gN, 0, none⟩) n n, .slice (some ⟨gS, 0, none⟩) n n, .slice none 0 0, .slice A7 lo.length c7] ∧
      DS c p nm n wb gd gN gS (.slice none 0 0) (.slice A7 lo.length c7) 0 0 W := by
  obtain ⟨rfl, -, -, -⟩ := I.m8 rfl
  obtain ⟨rfl, n1, cs, f1, l1⟩ := I.m1 rfl
  obtain ⟨rfl, n3, ds, f3, l3⟩ := I.m3 rfl
  obtain ⟨rfl, n9, l, hll, hX, hl⟩ := I.m9 rfl
  obtain rfl := hl rfl
  have hst := I.m7 rfl
  obtain ⟨A7, c7, rfl, -⟩ := hst.form
  exact ⟨A7, c7, rfl, rfl, rfl, rfl, rfl, I.bel, n9, n1, n3, hX, ⟨cs, f1, l1, fun j hj => absurd hj (by omega)⟩, ⟨ds, f3, l3, fun j hj => absurd hj (by omega)⟩, hlo ▸ hst⟩
end


/-- The ranks while they are counted: rows before i done, row i for the first k. -/
def plist (ks : Nat → Int) (n i k : Nat) : List Int := (List.range n).map fun (j : Nat) => if j < i then ((rk ks j n : Nat) : Int) else if j = i then ((rk ks j k : Nat) : Int) else 0
theorem plist_len (ks : Nat → Int) (n i k : Nat) : (plist ks n i k).length = n := by simp [plist]
theorem plist_lat {ks : Nat → Int} {n i k j : Nat} (hj : j < n) : lat (plist ks n i k) (j : Int) = if j < i then ((rk ks j n : Nat) : Int) else if j = i then ((rk ks j k : Nat) : Int) else 0 := by
  simp [plist, lat, List.getD_eq_getElem?_getD, hj]
theorem plist_start (ks : Nat → Int) (n : Nat) : List.replicate n 0 = plist ks n 0 0 := by
  refine ext_lat (by simp [plist_len]) fun i hi => ?_
  have hi' : i < n := by simpa using hi
  rw [plist_lat hi']
  have : lat (List.replicate n 0) (i : Int) = 0 := by simp [lat, List.getD_eq_getElem?_getD, hi']
  rw [this, if_neg (by omega)]
  split
  · simp [rk]
  · rfl
theorem plist_next (ks : Nat → Int) (n i : Nat) : plist ks n i n = plist ks n (i + 1) 0 := by
  refine ext_lat (by simp [plist_len]) fun j hj => ?_
  rw [plist_len] at hj
  rw [plist_lat hj, plist_lat hj]
  by_cases h1 : j < i
  · rw [if_pos h1, if_pos (by omega)]
  · rw [if_neg h1]
    by_cases h2 : j = i
    · rw [if_pos h2, if_pos (by omega)]
    · rw [if_neg h2, if_neg (by omega)]
      split
      · simp [rk]
      · rfl
theorem plist_inc {ks : Nat → Int} {n i k : Nat} (hi : i < n) : plist ks n i (k + 1) = if before ks k i = true then (plist ks n i k).set i (((rk ks i k : Nat) : Int) + 1) else plist ks n i k := by
  have hr := rk_succ ks i k
  split
  · rename_i hb
    rw [if_pos hb] at hr
    refine ext_lat (by simp [plist_len]) fun j hj => ?_
    rw [plist_len] at hj
    rw [lat_set _ (by omega), plist_len, plist_lat hj, plist_lat hj]
    by_cases e : j = i
    · subst e
      rw [if_neg (by omega), if_pos rfl, if_pos ⟨rfl, hi⟩, hr]; omega
    · rw [if_neg (fun h : (j : Int) = (i : Int) ∧ i < n => e (by omega)), if_neg e, if_neg e]
  · rename_i hb
    rw [if_neg hb] at hr
    refine ext_lat (by simp [plist_len]) fun j hj => ?_
    rw [plist_len] at hj
    rw [plist_lat hj, plist_lat hj]
    by_cases e : j = i
    · subst e
      rw [if_neg (by omega), if_pos rfl, if_neg (by omega), if_pos rfl, hr]; omega
    · rw [if_neg e, if_neg e]


theorem plist_p {ks : Nat → Int} {n : Nat} {x : Int} (h0 : 0 ≤ x) (hx : x < (n : Int)) : lat (plist ks n n 0) x = ((rk ks x.toNat n : Nat) : Int) := by
  have h := plist_lat (ks := ks) (n := n) (i := n) (k := 0) (j := x.toNat) (by omega)
  rw [if_pos (by omega)] at h
  rw [← h]
  congr 1
  omega
theorem Stk.lower {w : World} {base base' : Nat} {v : Value} {l : List Int} (h : Stk w base v l) (hb : base' ≤ base) : Stk w base' v l := by
  obtain ⟨h1, h2⟩ := h
  refine ⟨h1, ?_⟩
  rcases h2 with h2 | ⟨g, cap, cur, h3, h4, h5⟩
  · exact .inl h2
  · exact .inr ⟨g, cap, cur, h3, Nat.le_trans hb h4, h5⟩
/-- The closure on a list of c. -/
theorem moved_c {ks : Nat → Int} {n S PB : Nat} {wr W : World} (hr : Row wr S (plist ks n n 0)) (hp : Fr wr PB 25 [.slice (some ⟨S, 0, none⟩) n n]) (hb : Below wr.heap.size wr W) {l : List Int} {s : Value} (hs : Is W W.heap.size s l) (hl : areIdx n l = true) (hm : l.length ≤ 1000000) :
    Calls Tryd.prog 34 #[s, .pointer (some ⟨PB, 0, none⟩)] W fun e w' => ∃ s', e = .returned s' ∧ Stk w' wr.heap.size s' (mvL (fun i => rk ks i n) l) ∧ Below W.heap.size W w' := by
  have hl' := areIdx_iff.1 hl
  refine (moved_any l (plist ks n n 0) s W W.heap.size S PB n (Nat.le_refl _) hs ((hp.below hb).cell 0) (plist_len ..).symm (hr.below hb) hl' hm).mono fun e w' ⟨⟨s', h1, h2⟩, h3⟩ => ?_
  refine ⟨s', h1, ?_, h3⟩
  have e : (l.map fun x => lat (plist ks n n 0) x) = mvL (fun i => rk ks i n) l := by
    unfold mvL
    exact List.map_congr_left fun x hx => plist_p (hl' x hx).1 (hl' x hx).2
  rw [← e]
  exact h2.lower hb.size
theorem nameB_ok : ∀ i, i < 100 → nameOk (120 :: (nameB i).data.toList) = true ∧ (nameB i).size = 3 := by decide
theorem ofC_nm (x : Cx) {i : Nat} (hi : i < sizeN x) : (ofC x).names.getD i ByteArray.empty = nameB i := by
  show ((List.range (sizeN x)).map nameB).getD i _ = _
  simp [List.getD_eq_getElem?_getD, hi]
/-- A name with its x. -/
def xnm (c : Ck) (i : Nat) : ByteArray := (⟨#[120]⟩ : ByteArray) ++ c.names.getD i ByteArray.empty
theorem xnm_list (c : Ck) (i : Nat) : (xnm c i).data.toList = 120 :: (c.names.getD i ByteArray.empty).data.toList := by
  unfold xnm
  rw [ByteArray.data_append]
  simp
theorem LC.parts {c : Ck} {w w1 : World} {q : Nat} {A0 A1 A2 A3 : Option Addr} {n n1 n2 n3 c0 c1 c2 c3 : Nat} (h : LC c w q A0 A1 A2 A3 n n1 n2 n3 c0 c1 c2 c3 w1) :
    (Ns w1 q (.slice A0 n c0) c.nodes ∧ Ss w1 q (.slice A1 n1 c1) c.names ∧ Ms w1 q (.slice A2 n2 c2) c.mems ∧ Is w1 q (.slice A3 n3 c3) c.outs) ∧ n = c.nodes.length ∧ n1 = c.names.length ∧ n2 = c.mems.length ∧ n3 = c.outs.length := by
  obtain ⟨v0, v1, v2, v3, e, h0, h1, h2, h3⟩ := h.cir
  simp only [Value.agg.injEq, Array.mk.injEq, List.cons.injEq, and_true] at e
  obtain ⟨rfl, rfl, rfl, rfl⟩ := e
  refine ⟨⟨h0, h1, h2, h3⟩, ?_, ?_, ?_, ?_⟩
  · obtain ⟨A, b, o, cc, e, -⟩ := h0
    simp only [Value.slice.injEq] at e
    exact e.2.1
  · obtain ⟨A, b, o, cc, e, -⟩ := h1
    simp only [Value.slice.injEq] at e
    exact e.2.1
  · obtain ⟨A, b, o, cc, e, -⟩ := h2
    simp only [Value.slice.injEq] at e
    exact e.2.1
  · obtain ⟨A, b, o, cc, e, -⟩ := h3
    simp only [Value.slice.injEq] at e
    exact e.2.1
theorem arr_form {α : Type} {d : α} {sz : Nat} {R : World → Nat → Nat → Nat → α → Prop} {w : World} {B : Nat} {A : Option Addr} {n cc : Nat} {l : List α} (h : Arr d sz R w B (.slice A n cc) l) (h0 : 0 < n) :
    ∃ b o, A = some ⟨b, o, none⟩ ∧ b < B ∧ ∀ k, k < n → R w B b (o + k * sz) (l.getD k d) := by
  obtain ⟨A', b, o, c', e, hA, -, -, hc⟩ := h
  simp only [Value.slice.injEq] at e
  obtain ⟨rfl, rfl, -⟩ := e
  exact ⟨b, o, hA h0, (hc 0 h0).1, fun k hk => (hc k hk).2⟩
theorem DS.has {c : Ck} {p : Nat → Nat} {nm : Nat → ByteArray} {n : Nat} {wb W : World} {gd gN gS i k : Nat} {sM sO : Value} (H : DS c p nm n wb gd gN gS sM sO i k W) : (∀ j, j < n * 4 → ∃ v, W.cell? ⟨gN, j, none⟩ = some v) ∧ (∀ j, j < n → ∃ v, W.cell? ⟨gS, j, none⟩ = some v) := by
  obtain ⟨cs, f, hl, -⟩ := H.nod
  obtain ⟨ds, g, hl', -⟩ := H.nam
  exact ⟨fun j hj => ⟨cs[j]'(by omega), by rw [f.cell]; simp⟩, fun j hj => ⟨ds[j]'(by omega), by rw [g.cell]; simp⟩⟩
theorem mem_new (w : World) (a b c : Value) (t : TypeId) {n : Nat} (hn : n = w.heap.size) : ∀ (j : Nat) (x : Value), [a, b, c][j]? = some x → (w.alloc (.cells #[a, b, c] t)).cell? ((⟨n, 0, none⟩ : Addr).add j) = some x := by
  subst hn
  intro j x hj
  have hadd : (⟨w.heap.size, 0, none⟩ : Addr).add j = ⟨w.heap.size, j, none⟩ := by unfold Addr.add; split <;> simp_all
  rw [hadd, World.cell?_alloc_at _ _ _ _ rfl]
  simpa using hj
/-- A memory moved. -/
def mvM (p : Nat → Nat) (m : Mm) : Mm := ⟨m.addr.map fun x => ((p x.toNat : Nat) : Int), m.data.map fun x => ((p x.toNat : Nat) : Int), ((p m.write.toNat : Nat) : Int)⟩
/-- What the append leaves reads as the one memory. -/
theorem ms_one {w : World} {base g cap : Nat} {sA sD : Value} {la ld : List Int} {wr : Int} (h : w.ownsRow base 70 3 (.slice (some ⟨g, 0, none⟩) 1 cap) 1 [sA, sD, .int .i64 wr]) (hg : g < w.heap.size) (hA : Is w w.heap.size sA la) (hD : Is w w.heap.size sD ld) :
    Ms w w.heap.size (.slice (some ⟨g, 0, none⟩) 1 cap) [⟨la, ld, wr⟩] := by
  have hcap : 1 ≤ cap := by
    obtain ⟨-, h2⟩ := h
    rcases h2 with ⟨e, -⟩ | ⟨g', cap', cur, e, hb, hgg, hle, hm, hs, ht⟩
    · cases e
    · simp only [Value.slice.injEq] at e
      omega
  refine ⟨some ⟨g, 0, none⟩, g, 0, cap, rfl, fun _ => rfl, hcap, by simp [maxLen], fun k hk => ⟨hg, ?_⟩⟩
  obtain rfl : k = 0 := by simp at hk; omega
  refine ⟨sA, sD, ?_, ?_, ?_, hA, hD⟩
  · exact (World.ownsRow.cellAt h 0 (by omega)).trans rfl
  · exact (World.ownsRow.cellAt h 1 (by omega)).trans rfl
  · exact (World.ownsRow.cellAt h 2 (by omega)).trans rfl
theorem mem_ok {c : Ck} {m : Mm} (h : memErr c m = 0) : m.addr.length ≤ 8 ∧ m.data.length ≤ 32 ∧ isIdx c.nodes.length m.write = true ∧ areIdx c.nodes.length m.addr = true ∧ areIdx c.nodes.length m.data = true := by
  unfold memErr at h
  split at h
  · cases h
  · rename_i h1
    split at h
    · cases h
    · rename_i h2
      refine ⟨by omega, by omega, ?_, ?_, ?_⟩
      · cases hh : isIdx c.nodes.length m.write
        · exact absurd (.inl hh) h2
        · rfl
      · cases hh : areIdx c.nodes.length m.addr
        · exact absurd (.inr (.inl hh)) h2
        · rfl
      · cases hh : areIdx c.nodes.length m.data
        · exact absurd (.inr (.inr hh)) h2
        · rfl
theorem mem_only {l : List Mm} (h : l.length = 1) : l = [l.getD 0 default] := by
  match l, h with
  | [_], _ => rfl
theorem xnm_size {c : Ck} {i : Nat} (h : (c.names.getD i ByteArray.empty).size = 3) : (xnm c i).size ≤ maxLen := by
  unfold xnm
  rw [ByteArray.size_append, h]
  show 1 + 3 ≤ maxLen
  unfold maxLen
  omega
/-- The memories' slice is stored. -/
theorem DS.mems {c : Ck} {p : Nat → Nat} {nm : Nat → ByteArray} {n : Nat} {wb W : World} {gd gN gS i k : Nat} {sM sO : Value} (H : DS c p nm n wb gd gN gS sM sO i k W) (u : Value) : DS c p nm n wb gd gN gS u sO i k (W.setCell ⟨gd, 2, none⟩ u) := by
  obtain ⟨cs, f, hl, hc⟩ := H.nod
  obtain ⟨ds, g, hl', hd⟩ := H.nam
  have hcd := H.box.apart f (by decide)
  have hcs := H.box.apart g (by decide)
  refine ⟨H.bel.setCell H.ld _, H.ld, H.lN, H.lS, H.box.set 2 u, ⟨cs, f.other (a := ⟨gd, _, none⟩) hcd _, hl, fun j hj => ?_⟩, ⟨ds, g.other (a := ⟨gd, _, none⟩) hcs _, hl', hd⟩, H.out.sets H.box (by decide)⟩
  obtain ⟨s, h0, h1, h2, h3, h4⟩ := hc j hj
  exact ⟨s, h0, h1, h2, h3, h4.sets H.box (by decide)⟩
theorem own_set {w : World} {base size n g : Nat} {e t : TypeId} {v : Value} {xs cs : List Value} (h : w.ownsRow base e size v n xs) (hf : Fr w g t cs) (ht : t ≠ e) (j : Nat) (u : Value) : (w.setCell ⟨g, j, none⟩ u).ownsRow base e size v n xs := by
  refine h.kept (grown_set w g j u) (.inr fun eq => ?_)
  obtain ⟨-, h2⟩ := h
  rcases h2 with ⟨rfl, -⟩ | ⟨g', cap, cur, rfl, hb, hgg, -⟩
  · cases eq
  · simp only [Value.ownBlock, Option.some.injEq] at eq
    subst eq
    unfold Fr at hf
    rw [hf] at hgg
    simp only [Option.some.injEq, Obj.cells.injEq] at hgg
    exact ht hgg.2.1
end Go.Proofs.YtmghdeodkeenoaaDoor
