/- The reference's levels and order: the plain side. -/
import Derived.Test.YtfcdhoaccmckoaaGreatDoorSor
namespace Go.Proofs.YtfcdhoaccmckoaaGreatDoor

theorem lat_nat (lv : List Int) {x : Int} (h : 0 ≤ x) : lat lv ((x.toNat : Nat) : Int) = lat lv x := by rw [Int.toNat_of_nonneg h]
/-- One pin of node i: its level is raised. -/
def rpin (i : Nat) (s : List Int × Bool) (x : Int) : List Int × Bool := if lat s.1 i < lat s.1 x + 1 then (s.1.set i (lat s.1 x + 1), true) else s

/-- A round from prev: nodes before k, and the pins l of node k, are done. -/
structure RI (nodes : List Nd) (prev : List Int) (k : Nat) (l : List Int) (s : List Int × Bool) : Prop where
  len : s.1.length = nodes.length
  pos : ∀ i : Nat, 0 ≤ lat s.1 i
  up : ∀ i : Nat, lat prev i ≤ lat s.1 i
  same : s.2 = false → s.1 = prev
  le : ∀ L, Lvl nodes L → ∀ i : Nat, i < nodes.length → lat s.1 i ≤ lat L i
  old : ∀ j : Nat, j < k → ∀ x ∈ dep nodes j, lat prev x + 1 ≤ lat s.1 j
  now : ∀ x ∈ l, lat prev x + 1 ≤ lat s.1 k
  chg : s.2 = true → ∃ i : Nat, i < nodes.length ∧ lat prev i < lat s.1 i
theorem RI.pin {nodes : List Nd} {prev : List Int} {k : Nat} {l : List Int} {s : List Int × Bool} (hw : Wf nodes) (h : RI nodes prev k l s) (hk : k < nodes.length) {x : Int} (hx : x ∈ dep nodes k) : RI nodes prev k (l ++ [x]) (rpin k s x) := by
  have hb := hw.dep (i := (k : Int)) (by simpa using hk) hx
  have hup := h.up x.toNat
  rw [lat_nat _ hb.1, lat_nat _ hb.1] at hup
  unfold rpin
  by_cases hr : lat s.1 k < lat s.1 x + 1
  · rw [if_pos hr]
    have hset : ∀ i : Nat, lat (s.1.set k (lat s.1 x + 1)) i = if i = k then lat s.1 x + 1 else lat s.1 i := fun i => by
      rw [lat_set _ (by omega)]
      by_cases e : i = k
      · rw [if_pos e, if_pos ⟨by omega, by rw [h.len]; exact hk⟩]
      · rw [if_neg e, if_neg (fun h' => e (by omega))]
    have hge : ∀ i : Nat, lat s.1 i ≤ lat (s.1.set k (lat s.1 x + 1)) i := fun i => by
      rw [hset]
      split
      · rename_i e; subst e; omega
      · exact Int.le_refl _
    refine ⟨by simp [h.len], fun i => Int.le_trans (h.pos i) (hge i), fun i => Int.le_trans (h.up i) (hge i), (fun e => by cases e), fun L hL i hi => ?_, fun j hj y hy => Int.le_trans (h.old j hj y hy) (hge j), fun y hy => ?_, fun _ => ⟨k, hk, ?_⟩⟩
    · show lat (s.1.set k (lat s.1 x + 1)) i ≤ _
      rw [hset]
      split
      · rename_i e; subst e
        have h1 := h.le L hL x.toNat (by omega)
        rw [lat_nat _ hb.1, lat_nat _ hb.1] at h1
        have h2 := hL.lt (i := (i : Int)) (by omega) (by omega) hx
        omega
      · exact h.le L hL i hi
    · show _ ≤ lat (s.1.set k (lat s.1 x + 1)) k
      rcases List.mem_append.1 hy with hy | hy
      · exact Int.le_trans (h.now y hy) (hge k)
      · obtain rfl := List.mem_singleton.1 hy
        rw [hset, if_pos rfl]; omega
    · show _ < lat (s.1.set k (lat s.1 x + 1)) k
      rw [hset, if_pos rfl]
      have := h.up k
      omega
  · rw [if_neg hr]
    refine ⟨h.len, h.pos, h.up, h.same, h.le, h.old, fun y hy => ?_, h.chg⟩
    rcases List.mem_append.1 hy with hy | hy
    · exact h.now y hy
    · obtain rfl := List.mem_singleton.1 hy
      omega
theorem RI.next {nodes : List Nd} {prev : List Int} {k : Nat} {s : List Int × Bool} (h : RI nodes prev k (dep nodes k) s) : RI nodes prev (k + 1) [] s :=
  ⟨h.len, h.pos, h.up, h.same, h.le, fun j hj x hx => by
    by_cases e : j = k
    · subst e; exact h.now x hx
    · exact h.old j (by omega) x hx, fun x hx => absurd hx (List.not_mem_nil), h.chg⟩

/-- Between the rounds. -/
structure RO (nodes : List Nd) (k : Nat) (out : List Int) : Prop where
  len : out.length = nodes.length
  pos : ∀ i : Nat, 0 ≤ lat out i
  le : ∀ L, Lvl nodes L → ∀ i : Nat, i < nodes.length → lat out i ≤ lat L i
  eq : ∀ L, Lvl nodes L → ∀ i : Nat, i < nodes.length → lat L i ≤ (k : Int) → lat out i = lat L i
theorem RO.start (nodes : List Nd) : RO nodes 0 (List.replicate nodes.length 0) := by
  have hz : ∀ i : Nat, lat (List.replicate nodes.length 0) i = 0 := fun i => by
    unfold lat; rw [List.getD_eq_getElem?_getD, List.getElem?_replicate]; split <;> rfl
  refine ⟨by simp, fun i => (by rw [hz]; exact Int.le_refl _), fun L hL i hi => (by rw [hz]; exact hL.nonneg hi), fun L hL i hi h => ?_⟩
  have := hL.nonneg hi
  rw [hz]; omega
theorem RO.begin {nodes : List Nd} {k : Nat} {out : List Int} (h : RO nodes k out) : RI nodes out 0 [] (out, false) :=
  ⟨h.len, h.pos, fun _ => Int.le_refl _, fun _ => rfl, h.le, fun j hj => absurd hj (by omega), fun x hx => absurd hx (List.not_mem_nil), fun e => by cases e⟩
theorem levf_ge {L : List Int} {l : List Int} {b : Int} (h0 : 0 ≤ b) (h : ∀ x ∈ l, lat L x + 1 ≤ b) : levf L l ≤ b := by
  rcases levf_is L l with e | ⟨x, hx, e⟩
  · omega
  · have := h x hx; omega
theorem RO.next {nodes : List Nd} {k : Nat} {out : List Int} {s : List Int × Bool} (hw : Wf nodes) (h : RO nodes k out) (hs : RI nodes out nodes.length [] s) : RO nodes (k + 1) s.1 := by
  refine ⟨hs.len, hs.pos, hs.le, fun L hL i hi hlt => ?_⟩
  have h1 := hs.le L hL i hi
  have h2 : lat L i = levf out (dep nodes i) := by
    rw [hL.2 i hi]
    refine levf_congr fun x hx => ?_
    have hb := hw.dep (i := (i : Int)) (by simpa using hi) hx
    have h3 := hL.lt (i := (i : Int)) (by omega) (by omega) hx
    have h4 := h.eq L hL x.toNat (by omega) (by rw [lat_nat _ hb.1]; omega)
    rw [lat_nat _ hb.1, lat_nat _ hb.1] at h4
    exact h4.symm
  have h3 := levf_ge (hs.pos i) (hs.old i hi)
  omega

theorem countP_lt {α : Type} {p q : α → Bool} : ∀ {l : List α}, (∀ x ∈ l, p x = true → q x = true) → (∃ x ∈ l, q x = true ∧ p x = false) → l.countP p + 1 ≤ l.countP q
  | [], _, ⟨x, hx, _⟩ => absurd hx (List.not_mem_nil)
  | y :: l, h, ⟨x, hx, hq, hp⟩ => by
    have hmono : l.countP p ≤ l.countP q := List.countP_mono_left fun x hx h' => h x (List.mem_cons_of_mem _ hx) h'
    rw [List.countP_cons, List.countP_cons]
    rcases List.mem_cons.1 hx with rfl | hx
    · rw [hq, hp]; simp; omega
    · have ih := countP_lt (l := l) (fun x hx => h x (List.mem_cons_of_mem _ hx)) ⟨x, hx, hq, hp⟩
      by_cases hy : p y = true
      · have := h y List.mem_cons_self hy
        rw [hy, this]; simp; omega
      · have : p y = false := by simpa using hy
        rw [this]
        simp; split <;> omega
/-- Below a node of a level every level has a node. -/
theorem Lvl.down {nodes : List Nd} {L : List Int} (hw : Wf nodes) (h : Lvl nodes L) : ∀ (m : Nat) (i : Nat), i < nodes.length → lat L i = (m : Int) → ∀ m' : Nat, m' ≤ m → ∃ j : Nat, j < nodes.length ∧ lat L j = (m' : Int)
  | 0, i, hi, e, m', hm => ⟨i, hi, by rw [e]; omega⟩
  | m + 1, i, hi, e, m', hm => by
    by_cases hmm : m' = m + 1
    · subst hmm; exact ⟨i, hi, e⟩
    · rcases levf_is L (dep nodes i) with e0 | ⟨x, hx, e0⟩
      · rw [← h.2 i hi] at e0; omega
      · rw [← h.2 i hi] at e0
        have hb := hw.dep (i := (i : Int)) (by simpa using hi) hx
        exact Lvl.down hw h m x.toNat (by omega) (by rw [lat_nat _ hb.1]; omega) m' (by omega)
theorem Lvl.bound {nodes : List Nd} {L : List Int} (hw : Wf nodes) (h : Lvl nodes L) {i : Nat} (hi : i < nodes.length) : lat L i < (nodes.length : Int) := by
  have h0 := h.nonneg hi
  have key : ∀ m : Nat, (m : Int) ≤ lat L i → m + 1 ≤ (List.range nodes.length).countP fun (j : Nat) => decide (lat L j ≤ (m : Int)) := by
    intro m
    induction m with
    | zero =>
      intro hm
      obtain ⟨j, hj, e⟩ := h.down hw (lat L i).toNat i hi (by omega) 0 (Nat.zero_le _)
      have : 0 < (List.range nodes.length).countP fun (j : Nat) => decide (lat L j ≤ ((0 : Nat) : Int)) := List.countP_pos_iff.2 ⟨j, List.mem_range.2 hj, by simp [e]⟩
      omega
    | succ m ih =>
      intro hm
      have h1 := ih (by omega)
      obtain ⟨j, hj, e⟩ := h.down hw (lat L i).toNat i hi (by omega) (m + 1) (by omega)
      have := countP_lt (l := List.range nodes.length) (p := fun (j : Nat) => decide (lat L j ≤ (m : Int))) (q := fun (j : Nat) => decide (lat L j ≤ ((m + 1 : Nat) : Int)))
        (fun x _ hx => by simp at hx ⊢; omega) ⟨j, List.mem_range.2 hj, by simp [e], by simp [e]; omega⟩
      omega
  have := key (lat L i).toNat (by omega)
  have h2 : (List.range nodes.length).countP (fun (j : Nat) => decide (lat L j ≤ (((lat L i).toNat : Nat) : Int))) ≤ (List.range nodes.length).length := List.countP_le_length
  rw [List.length_range] at h2
  omega
/-- A round that changes something: there is another. -/
theorem RO.more {nodes : List Nd} {k : Nat} {out : List Int} {s : List Int × Bool} (hw : Wf nodes) (h : RO nodes k out) (hs : RI nodes out nodes.length [] s) (ht : s.2 = true) (hL : ∃ L, Lvl nodes L) : k + 1 ≤ nodes.length := by
  obtain ⟨L, hL⟩ := hL
  refine Classical.byContradiction fun hk => ?_
  obtain ⟨i, hi, hlt⟩ := hs.chg ht
  have h1 := hL.bound hw hi
  have h2 := h.eq L hL i hi (by omega)
  have h3 := hs.le L hL i hi
  omega

/-- Ranks give levels. -/
def lvIt (nodes : List Nd) : Nat → List Int
  | 0 => List.replicate nodes.length 0
  | m + 1 => (List.range nodes.length).map fun (i : Nat) => levf (lvIt nodes m) (dep nodes i)
theorem lvIt_at (nodes : List Nd) (m : Nat) {i : Nat} (hi : i < nodes.length) : lat (lvIt nodes (m + 1)) i = levf (lvIt nodes m) (dep nodes i) := by
  simp [lvIt, lat, List.getD_eq_getElem?_getD, hi]
theorem lvl_of_rank {nodes : List Nd} (hw : Wf nodes) (f : List Int) (h0 : ∀ i : Nat, 0 ≤ lat f i) (h : ∀ j : Nat, j < nodes.length → ∀ x ∈ dep nodes j, lat f x + 1 ≤ lat f j) : ∃ L, Lvl nodes L := by
  have hst : ∀ m : Nat, ∀ i : Nat, i < nodes.length → lat f i < (m : Int) → lat (lvIt nodes m) i = lat (lvIt nodes (m + 1)) i := by
    intro m
    induction m with
    | zero => intro i hi hlt; have := h0 i; omega
    | succ m ih =>
      intro i hi hlt
      rw [lvIt_at _ _ hi, lvIt_at _ _ hi]
      refine levf_congr fun x hx => ?_
      have hb := hw.dep (i := (i : Int)) (by simpa using hi) hx
      have h1 := h i hi x hx
      have h2 := ih x.toNat (by omega) (by rw [lat_nat _ hb.1]; omega)
      rw [lat_nat _ hb.1, lat_nat _ hb.1] at h2
      exact h2
  have hM : ∀ l : List Int, ∃ M : Nat, ∀ x ∈ l, x < (M : Int) := by
    intro l
    induction l with
    | nil => exact ⟨0, fun x hx => absurd hx (List.not_mem_nil)⟩
    | cons a l ih =>
      obtain ⟨M, hM⟩ := ih
      refine ⟨max M (a.toNat + 1), fun x hx => ?_⟩
      rcases List.mem_cons.1 hx with rfl | hx
      · omega
      · have := hM x hx; omega
  obtain ⟨M, hM⟩ := hM f
  have hb : ∀ i : Nat, lat f i < ((M + 1 : Nat) : Int) := fun i => by
    unfold lat
    by_cases hl : (i : Int).toNat < f.length
    · rw [List.getD_eq_getElem?_getD, List.getElem?_eq_getElem hl]
      have h1 := hM _ (List.getElem_mem hl)
      show f[(i : Int).toNat] < _
      omega
    · rw [List.getD_eq_getElem?_getD, List.getElem?_eq_none (by omega)]
      show (0 : Int) < _
      omega
  refine ⟨lvIt nodes (M + 1), by simp [lvIt], fun i hi => ?_⟩
  rw [hst (M + 1) i hi (hb i), lvIt_at _ _ hi]
/-- A round that changes nothing: these are the levels. -/
theorem RO.stop {nodes : List Nd} {out : List Int} {s : List Int × Bool} (hw : Wf nodes) (hs : RI nodes out nodes.length [] s) (hf : s.2 = false) : Lvl nodes s.1 := by
  have e := hs.same hf
  have hold : ∀ j : Nat, j < nodes.length → ∀ x ∈ dep nodes j, lat s.1 x + 1 ≤ lat s.1 j := by rw [e]; have := hs.old; rw [e] at this; exact this
  obtain ⟨L, hL⟩ := lvl_of_rank hw s.1 hs.pos hold
  have key : ∀ (m : Nat) (i : Nat), i < nodes.length → lat L i < (m : Int) → lat s.1 i = lat L i := by
    intro m
    induction m with
    | zero => intro i hi hlt; have := hL.nonneg hi; omega
    | succ m ih =>
      intro i hi hlt
      have h1 := hs.le L hL i hi
      have h2 : lat L i = levf s.1 (dep nodes i) := by
        rw [hL.2 i hi]
        refine levf_congr fun x hx => ?_
        have hb := hw.dep (i := (i : Int)) (by simpa using hi) hx
        have h3 := hL.lt (i := (i : Int)) (by omega) (by omega) hx
        have h4 := ih x.toNat (by omega) (by rw [lat_nat _ hb.1]; omega)
        rw [lat_nat _ hb.1, lat_nat _ hb.1] at h4
        exact h4.symm
      have h3 := levf_ge (hs.pos i) (hold i hi)
      omega
  have e2 : s.1 = L := ext_lat (by rw [hs.len, hL.1]) fun i hi => key (lat L i + 1).toNat i (by rw [hs.len] at hi; exact hi) (by have := hL.nonneg (i := i) (by rw [hs.len] at hi; exact hi); omega)
  rw [e2]; exact hL

/-! The order. -/
theorem sorted_sub {α : Type} {r : α → α → Prop} (ht : ∀ a b c, r a b → r b c → r a c) (hi : ∀ a, ¬ r a a) : ∀ {l2 l1 : List α}, l1.Pairwise r → l2.Pairwise r → (∀ x ∈ l1, x ∈ l2) → l1.Sublist l2
  | [], l1, _, _, h => by
    cases l1 with
    | nil => exact List.Sublist.slnil
    | cons a l => exact absurd (h a List.mem_cons_self) (List.not_mem_nil)
  | b :: l2, [], _, _, _ => List.nil_sublist _
  | b :: l2, a :: t, h1, h2, h => by
    obtain ⟨h11, h12⟩ := List.pairwise_cons.1 h1
    obtain ⟨h21, h22⟩ := List.pairwise_cons.1 h2
    rcases List.mem_cons.1 (h a List.mem_cons_self) with e | hm
    · subst e
      refine List.Sublist.cons_cons _ (sorted_sub ht hi h12 h22 fun x hx => ?_)
      rcases List.mem_cons.1 (h x (List.mem_cons_of_mem _ hx)) with e | hm
      · subst e; exact absurd (h11 _ hx) (hi _)
      · exact hm
    · refine List.Sublist.cons _ (sorted_sub ht hi h1 h22 fun x hx => ?_)
      rcases List.mem_cons.1 hx with e | hx'
      · rw [e]; exact hm
      · rcases List.mem_cons.1 (h x hx) with e | hm'
        · subst e; exact absurd (ht _ _ _ (h21 a hm) (h11 _ hx')) (hi _)
        · exact hm'
theorem Lex.trans {L : List Int} {a b c : Int} (h : Lex L a b) (h' : Lex L b c) : Lex L a c := by
  rcases h with h | ⟨h, h2⟩ <;> rcases h' with h' | ⟨h', h3⟩
  · exact .inl (by omega)
  · exact .inl (by omega)
  · exact .inl (by omega)
  · exact .inr ⟨by omega, by omega⟩
theorem Lex.irr {L : List Int} (a : Int) : ¬ Lex L a a := fun h => by
  rcases h with h | ⟨-, h⟩ <;> omega
/-- The nodes before k of level v. -/
def atLv (L : List Int) (v k : Nat) : List Int := ((List.range k).filter fun (i : Nat) => lat L i == (v : Int)).map fun (i : Nat) => (i : Int)
def ordTo (L : List Int) (n : Nat) : Nat → List Int
  | 0 => []
  | m + 1 => ordTo L n m ++ atLv L m n
theorem atLv_succ (L : List Int) (v k : Nat) : atLv L v (k + 1) = if (lat L k == (v : Int)) = true then atLv L v k ++ [(k : Int)] else atLv L v k := by
  unfold atLv
  rw [List.range_succ, List.filter_append, List.map_append]
  by_cases h : (lat L k == (v : Int)) = true
  · rw [if_pos h]; simp [h]
  · rw [if_neg h]; simp [h]
theorem atLv_mem {L : List Int} {v k : Nat} {x : Int} : x ∈ atLv L v k ↔ ∃ i : Nat, x = (i : Int) ∧ i < k ∧ lat L i = (v : Int) := by
  unfold atLv
  simp only [List.mem_map, List.mem_filter, List.mem_range, beq_iff_eq]
  constructor
  · rintro ⟨i, ⟨h1, h2⟩, rfl⟩; exact ⟨i, rfl, h1, h2⟩
  · rintro ⟨i, rfl, h1, h2⟩; exact ⟨i, ⟨h1, h2⟩, rfl⟩
theorem atLv_len (L : List Int) (v k : Nat) : (atLv L v k).length ≤ k := by
  unfold atLv
  rw [List.length_map]
  have := List.length_filter_le (fun (i : Nat) => lat L i == (v : Int)) (List.range k)
  simpa using this
theorem ordTo_mem {L : List Int} {n : Nat} {x : Int} : ∀ {m : Nat}, x ∈ ordTo L n m ↔ ∃ i : Nat, x = (i : Int) ∧ i < n ∧ 0 ≤ lat L i ∧ lat L i < (m : Int)
  | 0 => by
    simp only [ordTo, List.not_mem_nil, false_iff]
    rintro ⟨i, _, _, h1, h2⟩; omega
  | m + 1 => by
    rw [ordTo, List.mem_append, ordTo_mem (m := m), atLv_mem]
    constructor
    · rintro (⟨i, h1, h2, h3, h4⟩ | ⟨i, h1, h2, h3⟩)
      · exact ⟨i, h1, h2, h3, by omega⟩
      · exact ⟨i, h1, h2, by omega, by omega⟩
    · rintro ⟨i, h1, h2, h3, h4⟩
      by_cases h : lat L i = (m : Int)
      · exact .inr ⟨i, h1, h2, h⟩
      · exact .inl ⟨i, h1, h2, h3, by omega⟩
theorem atLv_sorted (L : List Int) (v : Nat) : ∀ k, (atLv L v k).Pairwise (Lex L)
  | 0 => List.Pairwise.nil
  | k + 1 => by
    rw [atLv_succ]
    split
    · rename_i h
      refine List.pairwise_append.2 ⟨atLv_sorted L v k, List.pairwise_singleton _ _, fun a ha b hb => ?_⟩
      obtain rfl := List.mem_singleton.1 hb
      obtain ⟨i, rfl, h1, h2⟩ := atLv_mem.1 ha
      have h3 : lat L k = (v : Int) := by simpa using h
      exact .inr ⟨by omega, by omega⟩
    · exact atLv_sorted L v k
theorem ordTo_sorted (L : List Int) (n : Nat) : ∀ m, (ordTo L n m).Pairwise (Lex L)
  | 0 => List.Pairwise.nil
  | m + 1 => by
    refine List.pairwise_append.2 ⟨ordTo_sorted L n m, atLv_sorted L m n, fun a ha b hb => ?_⟩
    obtain ⟨i, rfl, h1, h2, h3⟩ := ordTo_mem.1 ha
    obtain ⟨j, rfl, h4, h5⟩ := atLv_mem.1 hb
    exact .inl (by omega)
theorem sorted_len {L : List Int} {n : Nat} {l : List Int} (h : l.Pairwise (Lex L)) (hm : ∀ x ∈ l, 0 ≤ x ∧ x < (n : Int)) : l.length ≤ n := by
  have hn : l.Nodup := h.imp fun {a b} hab e => by subst e; exact Lex.irr _ hab
  have key : ∀ (n : Nat) (l : List Int), l.Nodup → (∀ x ∈ l, 0 ≤ x ∧ x < (n : Int)) → l.length ≤ n := by
    intro n
    induction n with
    | zero =>
      intro l _ hm
      cases l with
      | nil => simp
      | cons a l => have := hm a List.mem_cons_self; omega
    | succ n ih =>
      intro l hn hm
      have h1 := ih (l.erase (n : Int)) (hn.erase _) fun x hx => by
        have h2 := (hn.mem_erase_iff).1 hx
        have h3 := hm x h2.2
        exact ⟨h3.1, by have := h2.1; omega⟩
      have h2 := List.length_erase (a := (n : Int)) (l := l)
      split at h2 <;> omega
  exact key n l hn hm
theorem ordTo_len (L : List Int) (n m : Nat) : (ordTo L n m).length ≤ n := sorted_len (ordTo_sorted L n m) fun x hx => by
  obtain ⟨i, rfl, h1, -⟩ := ordTo_mem.1 hx
  omega
/-- THE ORDER is the reference's. -/
theorem ord_eq {L : List Int} {n m : Nat} {R : List Int} (hR : SortTo L n n R) (hL : ∀ i : Nat, i < n → 0 ≤ lat L i ∧ lat L i < (m : Int)) : R = ordTo L n m := by
  obtain ⟨S, h1, h2, -, h4, h5⟩ := hR
  have e : R = S := by rw [h1]; simp [rng]
  subst e
  have hs : R.Sublist (ordTo L n m) := sorted_sub (r := Lex L) (fun _ _ _ h h' => Lex.trans h h') Lex.irr h4 (ordTo_sorted L n m) fun x hx => by
    have hb := h5 x hx
    refine ordTo_mem.2 ⟨x.toNat, by omega, by omega, ?_, ?_⟩
    · exact (hL x.toNat (by omega)).1
    · exact (hL x.toNat (by omega)).2
  exact hs.eq_of_length_le (by rw [h2]; exact ordTo_len L n m)
theorem ordTo_full {L : List Int} {n m : Nat} (hL : ∀ i : Nat, i < n → 0 ≤ lat L i ∧ lat L i < (m : Int)) : (ordTo L n m).length = n := by
  have h1 := ordTo_len L n m
  have h2 : (rng 0 n).length ≤ (ordTo L n m).length := by
    have hn : (rng 0 n).Nodup := by
      unfold rng
      refine List.pairwise_map.2 (List.nodup_range.imp ?_)
      intro a b h e; simp only [Nat.zero_add] at e; omega
    have hsub : ∀ (l l' : List Int), l.Nodup → (∀ x ∈ l, x ∈ l') → l.length ≤ l'.length := by
      intro l
      induction l with
      | nil => intro l' _ _; simp
      | cons a l ih =>
        intro l' hn hm
        have h1 := List.nodup_cons.1 hn
        have h2 := ih (l'.erase a) h1.2 fun x hx => by
          have hne : x ≠ a := fun e => h1.1 (e ▸ hx)
          exact (List.mem_erase_of_ne hne).2 (hm x (List.mem_cons_of_mem _ hx))
        have h3 := List.length_erase_of_mem (hm a List.mem_cons_self)
        have h4 := List.length_pos_of_mem (hm a List.mem_cons_self)
        simp only [List.length_cons]; omega
    refine hsub _ _ hn fun x hx => ?_
    unfold rng at hx
    obtain ⟨i, hi, rfl⟩ := List.mem_map.1 hx
    have hi' := List.mem_range.1 hi
    exact ordTo_mem.2 ⟨i, by omega, by omega, (hL i (by omega)).1, (hL i (by omega)).2⟩
  rw [rng_len] at h2
  omega
end Go.Proofs.YtfcdhoaccmckoaaGreatDoor

