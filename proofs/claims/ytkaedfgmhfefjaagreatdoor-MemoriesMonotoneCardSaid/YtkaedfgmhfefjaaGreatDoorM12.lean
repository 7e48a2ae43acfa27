/- The texts Rlp Smp LgMono Smq Smv Smw Cln. -/
import Derived.Test.YtkaedfgmhfefjaaGreatDoorM08
import Derived.Test.YtkaedfgmhfefjaaGreatDoorM01
import Derived.Test.YtkaedfgmhfefjaaGreatDoorM07
import Derived.Test.YtkaedfgmhfefjaaGreatDoorM11
import Derived.Test.YtkaedfgmhfefjaaGreatDoorM06
import Derived.Laws.CopyRow
import Derived.Laws.CopyOwn
namespace Go.Proofs.YtkaedfgmhfefjaaGreatDoor

theorem lat_nat (lv : List Int) {x : Int} (h : 0 ≤ x) : lat lv ((x.toNat : Nat) : Int) = lat lv x := by rw [Int.toNat_of_nonneg h]
/-- One pin of node i: its level is raised. -/
def rpin (i : Nat) (s : List Int × Bool) (x : Int) : List Int × Bool := if lat s.1 i < lat s.1 x + 1 then (s.1.set i (lat s.1 x + 1), true) else s

/-- A round from prev: nodes before k, and the pins l of node k, are done. -/
structure RI (nodes : List Nd) (prev : List Int) (k : Nat) (l : List Int) (s : List Int × Bool) : Prop where
  len : s.1.length = nodes.length
  pos : ∀ i : Nat, 0 ≤ lat s.1 i
  up : ∀ i : Nat, lat prev i ≤ lat s.1 i
  same : s.2 = false → s.1 = prev
  le : ∀ L, Lvl nodes L → ∀ i : Nat, i < nodes.length → lat s.1 i ≤ lat L i
  old : ∀ j : Nat, j < k → ∀ x ∈ dep nodes j, lat prev x + 1 ≤ lat s.1 j
  now : ∀ x ∈ l, lat prev x + 1 ≤ lat s.1 k
  chg : s.2 = true → ∃ i : Nat, i < nodes.length ∧ lat prev i < lat s.1 i
theorem RI.pin {nodes : List Nd} {prev : List Int} {k : Nat} {l : List Int} {s : List Int × Bool} (hw : Wf nodes) (h : RI nodes prev k l s) (hk : k < nodes.length) {x : Int} (hx : x ∈ dep nodes k) : RI nodes prev k (l ++ [x]) (rpin k s x) := by
  have hb := hw.dep (i := (k : Int)) (by simpa using hk) hx
  have hup := h.up x.toNat
  rw [lat_nat _ hb.1, lat_nat _ hb.1] at hup
  unfold rpin
  by_cases hr : lat s.1 k < lat s.1 x + 1
  · rw [if_pos hr]
    have hset : ∀ i : Nat, lat (s.1.set k (lat s.1 x + 1)) i = if i = k then lat s.1 x + 1 else lat s.1 i := fun i => by
      rw [lat_set _ (by omega)]
      by_cases e : i = k
      · rw [if_pos e, if_pos ⟨by omega, by rw [h.len]; exact hk⟩]
      · rw [if_neg e, if_neg (fun h' => e (by omega))]
    have hge : ∀ i : Nat, lat s.1 i ≤ lat (s.1.set k (lat s.1 x + 1)) i := fun i => by
      rw [hset]
      split
      · rename_i e; subst e; omega
      · exact Int.le_refl _
    refine ⟨by simp [h.len], fun i => Int.le_trans (h.pos i) (hge i), fun i => Int.le_trans (h.up i) (hge i), (fun e => by cases e), fun L hL i hi => ?_, fun j hj y hy => Int.le_trans (h.old j hj y hy) (hge j), fun y hy => ?_, fun _ => ⟨k, hk, ?_⟩⟩
    · show lat (s.1.set k (lat s.1 x + 1)) i ≤ _
      rw [hset]
      split
      · rename_i e; subst e
        have h1 := h.le L hL x.toNat (by omega)
        rw [lat_nat _ hb.1, lat_nat _ hb.1] at h1
        have h2 := hL.lt (i := (i : Int)) (by omega) (by omega) hx
        omega
      · exact h.le L hL i hi
    · show _ ≤ lat (s.1.set k (lat s.1 x + 1)) k
      rcases List.mem_append.1 hy with hy | hy
      · exact Int.le_trans (h.now y hy) (hge k)
      · obtain rfl := List.mem_singleton.1 hy
        rw [hset, if_pos rfl]; omega
    · show _ < lat (s.1.set k (lat s.1 x + 1)) k
      rw [hset, if_pos rfl]
      have := h.up k
      omega
  · rw [if_neg hr]
    refine ⟨h.len, h.pos, h.up, h.same, h.le, h.old, fun y hy => ?_, h.chg⟩
    rcases List.mem_append.1 hy with hy | hy
    · exact h.now y hy
    · obtain rfl := List.mem_singleton.1 hy
      omega
theorem RI.next {nodes : List Nd} {prev : List Int} {k : Nat} {s : List Int × Bool} (h : RI nodes prev k (dep nodes k) s) : RI nodes prev (k + 1) [] s :=
  ⟨h.len, h.pos, h.up, h.same, h.le, fun j hj x hx => by
    by_cases e : j = k
    · subst e; exact h.now x hx
    · exact h.old j (by omega) x hx, fun x hx => absurd hx (List.not_mem_nil), h.chg⟩

/-- Between the rounds. -/
structure RO (nodes : List Nd) (k : Nat) (out : List Int) : Prop where
  len : out.length = nodes.length
  pos : ∀ i : Nat, 0 ≤ lat out i
  le : ∀ L, Lvl nodes L → ∀ i : Nat, i < nodes.length → lat out i ≤ lat L i
  eq : ∀ L, Lvl nodes L → ∀ i : Nat, i < nodes.length → lat L i ≤ (k : Int) → lat out i = lat L i
theorem RO.start (nodes : List Nd) : RO nodes 0 (List.replicate nodes.length 0) := by
  have hz : ∀ i : Nat, lat (List.replicate nodes.length 0) i = 0 := fun i => by
    unfold lat; rw [List.getD_eq_getElem?_getD, List.getElem?_replicate]; split <;> rfl
  refine ⟨by simp, fun i => (by rw [hz]; exact Int.le_refl _), fun L hL i hi => (by rw [hz]; exact hL.nonneg hi), fun L hL i hi h => ?_⟩
  have := hL.nonneg hi
  rw [hz]; omega
theorem levf_ge {L : List Int} {l : List Int} {b : Int} (h0 : 0 ≤ b) (h : ∀ x ∈ l, lat L x + 1 ≤ b) : levf L l ≤ b := by
  rcases levf_is L l with e | ⟨x, hx, e⟩
  · omega
  · have := h x hx; omega
theorem RO.next {nodes : List Nd} {k : Nat} {out : List Int} {s : List Int × Bool} (hw : Wf nodes) (h : RO nodes k out) (hs : RI nodes out nodes.length [] s) : RO nodes (k + 1) s.1 := by
  refine ⟨hs.len, hs.pos, hs.le, fun L hL i hi hlt => ?_⟩
  have h1 := hs.le L hL i hi
  have h2 : lat L i = levf out (dep nodes i) := by
    rw [hL.2 i hi]
    refine levf_congr fun x hx => ?_
    have hb := hw.dep (i := (i : Int)) (by simpa using hi) hx
    have h3 := hL.lt (i := (i : Int)) (by omega) (by omega) hx
    have h4 := h.eq L hL x.toNat (by omega) (by rw [lat_nat _ hb.1]; omega)
    rw [lat_nat _ hb.1, lat_nat _ hb.1] at h4
    exact h4.symm
  have h3 := levf_ge (hs.pos i) (hs.old i hi)
  omega

theorem countP_lt {α : Type} {p q : α → Bool} : ∀ {l : List α}, (∀ x ∈ l, p x = true → q x = true) → (∃ x ∈ l, q x = true ∧ p x = false) → l.countP p + 1 ≤ l.countP q
  | [], _, ⟨x, hx, _⟩ => absurd hx (List.not_mem_nil)
  | y :: l, h, ⟨x, hx, hq, hp⟩ => by
    have hmono : l.countP p ≤ l.countP q := List.countP_mono_left fun x hx h' => h x (List.mem_cons_of_mem _ hx) h'
    rw [List.countP_cons, List.countP_cons]
    rcases List.mem_cons.1 hx with rfl | hx
    · rw [hq, hp]; simp; omega
    · have ih := countP_lt (l := l) (fun x hx => h x (List.mem_cons_of_mem _ hx)) ⟨x, hx, hq, hp⟩
      by_cases hy : p y = true
      · have := h y List.mem_cons_self hy
        rw [hy, this]; simp; omega
      · have : p y = false := by simpa using hy
        rw [this]
        simp; split <;> omega
/-- Below a node of a level every level has a node. -/
theorem Lvl.down {nodes : List Nd} {L : List Int} (hw : Wf nodes) (h : Lvl nodes L) : ∀ (m : Nat) (i : Nat), i < nodes.length → lat L i = (m : Int) → ∀ m' : Nat, m' ≤ m → ∃ j : Nat, j < nodes.length ∧ lat L j = (m' : Int)
  | 0, i, hi, e, m', hm => ⟨i, hi, by rw [e]; omega⟩
  | m + 1, i, hi, e, m', hm => by
    by_cases hmm : m' = m + 1
    · subst hmm; exact ⟨i, hi, e⟩
    · rcases levf_is L (dep nodes i) with e0 | ⟨x, hx, e0⟩
      · rw [← h.2 i hi] at e0; omega
      · rw [← h.2 i hi] at e0
        have hb := hw.dep (i := (i : Int)) (by simpa using hi) hx
        exact Lvl.down hw h m x.toNat (by omega) (by rw [lat_nat _ hb.1]; omega) m' (by omega)
theorem Lvl.bound {nodes : List Nd} {L : List Int} (hw : Wf nodes) (h : Lvl nodes L) {i : Nat} (hi : i < nodes.length) : lat L i < (nodes.length : Int) := by
  have h0 := h.nonneg hi
  have key : ∀ m : Nat, (m : Int) ≤ lat L i → m + 1 ≤ (List.range nodes.length).countP fun (j : Nat) => decide (lat L j ≤ (m : Int)) := by
    intro m
    induction m with
    | zero =>
      intro hm
      obtain ⟨j, hj, e⟩ := h.down hw (lat L i).toNat i hi (by omega) 0 (Nat.zero_le _)
      have : 0 < (List.range nodes.length).countP fun (j : Nat) => decide (lat L j ≤ ((0 : Nat) : Int)) := List.countP_pos_iff.2 ⟨j, List.mem_range.2 hj, by simp [e]⟩
      omega
    | succ m ih =>
      intro hm
      have h1 := ih (by omega)
      obtain ⟨j, hj, e⟩ := h.down hw (lat L i).toNat i hi (by omega) (m + 1) (by omega)
      have := countP_lt (l := List.range nodes.length) (p := fun (j : Nat) => decide (lat L j ≤ (m : Int))) (q := fun (j : Nat) => decide (lat L j ≤ ((m + 1 : Nat) : Int)))
        (fun x _ hx => by simp at hx ⊢; omega) ⟨j, List.mem_range.2 hj, by simp [e], by simp [e]; omega⟩
      omega
  have := key (lat L i).toNat (by omega)
  have h2 : (List.range nodes.length).countP (fun (j : Nat) => decide (lat L j ≤ (((lat L i).toNat : Nat) : Int))) ≤ (List.range nodes.length).length := List.countP_le_length
  rw [List.length_range] at h2
  omega
/-- A round that changes something: there is another. -/
theorem RO.more {nodes : List Nd} {k : Nat} {out : List Int} {s : List Int × Bool} (hw : Wf nodes) (h : RO nodes k out) (hs : RI nodes out nodes.length [] s) (ht : s.2 = true) (hL : ∃ L, Lvl nodes L) : k + 1 ≤ nodes.length := by
  obtain ⟨L, hL⟩ := hL
  refine Classical.byContradiction fun hk => ?_
  obtain ⟨i, hi, hlt⟩ := hs.chg ht
  have h1 := hL.bound hw hi
  have h2 := h.eq L hL i hi (by omega)
  have h3 := hs.le L hL i hi
  omega

/-- Ranks give levels. -/
def lvIt (nodes : List Nd) : Nat → List Int
  | 0 => List.replicate nodes.length 0
  | m + 1 => (List.range nodes.length).map fun (i : Nat) => levf (lvIt nodes m) (dep nodes i)
theorem lvIt_at (nodes : List Nd) (m : Nat) {i : Nat} (hi : i < nodes.length) : lat (lvIt nodes (m + 1)) i = levf (lvIt nodes m) (dep nodes i) := by
  simp [lvIt, lat, List.getD_eq_getElem?_getD, hi]
theorem lvl_of_rank {nodes : List Nd} (hw : Wf nodes) (f : List Int) (h0 : ∀ i : Nat, 0 ≤ lat f i) (h : ∀ j : Nat, j < nodes.length → ∀ x ∈ dep nodes j, lat f x + 1 ≤ lat f j) : ∃ L, Lvl nodes L := by
  have hst : ∀ m : Nat, ∀ i : Nat, i < nodes.length → lat f i < (m : Int) → lat (lvIt nodes m) i = lat (lvIt nodes (m + 1)) i := by
    intro m
    induction m with
    | zero => intro i hi hlt; have := h0 i; omega
    | succ m ih =>
      intro i hi hlt
      rw [lvIt_at _ _ hi, lvIt_at _ _ hi]
      refine levf_congr fun x hx => ?_
      have hb := hw.dep (i := (i : Int)) (by simpa using hi) hx
      have h1 := h i hi x hx
      have h2 := ih x.toNat (by omega) (by rw [lat_nat _ hb.1]; omega)
      rw [lat_nat _ hb.1, lat_nat _ hb.1] at h2
      exact h2
  have hM : ∀ l : List Int, ∃ M : Nat, ∀ x ∈ l, x < (M : Int) := by
    intro l
    induction l with
    | nil => exact ⟨0, fun x hx => absurd hx (List.not_mem_nil)⟩
    | cons a l ih =>
      obtain ⟨M, hM⟩ := ih
      refine ⟨max M (a.toNat + 1), fun x hx => ?_⟩
      rcases List.mem_cons.1 hx with rfl | hx
      · omega
      · have := hM x hx; omega
  obtain ⟨M, hM⟩ := hM f
  have hb : ∀ i : Nat, lat f i < ((M + 1 : Nat) : Int) := fun i => by
    unfold lat
    by_cases hl : (i : Int).toNat < f.length
    · rw [List.getD_eq_getElem?_getD, List.getElem?_eq_getElem hl]
      have h1 := hM _ (List.getElem_mem hl)
      show f[(i : Int).toNat] < _
      omega
    · rw [List.getD_eq_getElem?_getD, List.getElem?_eq_none (by omega)]
      show (0 : Int) < _
      omega
  refine ⟨lvIt nodes (M + 1), by simp [lvIt], fun i hi => ?_⟩
  rw [hst (M + 1) i hi (hb i), lvIt_at _ _ hi]
/-- A round that changes nothing: these are the levels. -/
theorem RO.stop {nodes : List Nd} {out : List Int} {s : List Int × Bool} (hw : Wf nodes) (hs : RI nodes out nodes.length [] s) (hf : s.2 = false) : Lvl nodes s.1 := by
  have e := hs.same hf
  have hold : ∀ j : Nat, j < nodes.length → ∀ x ∈ dep nodes j, lat s.1 x + 1 ≤ lat s.1 j := by rw [e]; have := hs.old; rw [e] at this; exact this
  obtain ⟨L, hL⟩ := lvl_of_rank hw s.1 hs.pos hold
  have key : ∀ (m : Nat) (i : Nat), i < nodes.length → lat L i < (m : Int) → lat s.1 i = lat L i := by
    intro m
    induction m with
    | zero => intro i hi hlt; have := hL.nonneg hi; omega
    | succ m ih =>
      intro i hi hlt
      have h1 := hs.le L hL i hi
      have h2 : lat L i = levf s.1 (dep nodes i) := by
        rw [hL.2 i hi]
        refine levf_congr fun x hx => ?_
        have hb := hw.dep (i := (i : Int)) (by simpa using hi) hx
        have h3 := hL.lt (i := (i : Int)) (by omega) (by omega) hx
        have h4 := ih x.toNat (by omega) (by rw [lat_nat _ hb.1]; omega)
        rw [lat_nat _ hb.1, lat_nat _ hb.1] at h4
        exact h4.symm
      have h3 := levf_ge (hs.pos i) (hold i hi)
      omega
  have e2 : s.1 = L := ext_lat (by rw [hs.len, hL.1]) fun i hi => key (lat L i + 1).toNat i (by rw [hs.len] at hi; exact hi) (by have := hL.nonneg (i := i) (by rw [hs.len] at hi; exact hi); omega)
  rw [e2]; exact hL

/-! The order. -/
theorem sorted_sub {α : Type} {r : α → α → Prop} (ht : ∀ a b c, r a b → r b c → r a c) (hi : ∀ a, ¬ r a a) : ∀ {l2 l1 : List α}, l1.Pairwise r → l2.Pairwise r → (∀ x ∈ l1, x ∈ l2) → l1.Sublist l2
  | [], l1, _, _, h => by
    cases l1 with
    | nil => exact List.Sublist.slnil
    | cons a l => exact absurd (h a List.mem_cons_self) (List.not_mem_nil)
  | b :: l2, [], _, _, _ => List.nil_sublist _
  | b :: l2, a :: t, h1, h2, h => by
    obtain ⟨h11, h12⟩ := List.pairwise_cons.1 h1
    obtain ⟨h21, h22⟩ := List.pairwise_cons.1 h2
    rcases List.mem_cons.1 (h a List.mem_cons_self) with e | hm
    · subst e
      refine List.Sublist.cons_cons _ (sorted_sub ht hi h12 h22 fun x hx => ?_)
      rcases List.mem_cons.1 (h x (List.mem_cons_of_mem _ hx)) with e | hm
      · subst e; exact absurd (h11 _ hx) (hi _)
      · exact hm
    · refine List.Sublist.cons _ (sorted_sub ht hi h1 h22 fun x hx => ?_)
      rcases List.mem_cons.1 hx with e | hx'
      · rw [e]; exact hm
      · rcases List.mem_cons.1 (h x hx) with e | hm'
        · subst e; exact absurd (ht _ _ _ (h21 a hm) (h11 _ hx')) (hi _)
        · exact hm'
theorem Lex.trans {L : List Int} {a b c : Int} (h : Lex L a b) (h' : Lex L b c) : Lex L a c := by
  rcases h with h | ⟨h, h2⟩ <;> rcases h' with h' | ⟨h', h3⟩
  · exact .inl (by omega)
  · exact .inl (by omega)
  · exact .inl (by omega)
  · exact .inr ⟨by omega, by omega⟩
theorem Lex.irr {L : List Int} (a : Int) : ¬ Lex L a a := fun h => by
  rcases h with h | ⟨-, h⟩ <;> omega
/-- The nodes before k of level v. -/
def atLv (L : List Int) (v k : Nat) : List Int := ((List.range k).filter fun (i : Nat) => lat L i == (v : Int)).map fun (i : Nat) => (i : Int)
def ordTo (L : List Int) (n : Nat) : Nat → List Int
  | 0 => []
  | m + 1 => ordTo L n m ++ atLv L m n
theorem atLv_succ (L : List Int) (v k : Nat) : atLv L v (k + 1) = if (lat L k == (v : Int)) = true then atLv L v k ++ [(k : Int)] else atLv L v k := by
  unfold atLv
  rw [List.range_succ, List.filter_append, List.map_append]
  by_cases h : (lat L k == (v : Int)) = true
  · rw [if_pos h]; simp [h]
  · rw [if_neg h]; simp [h]
theorem atLv_mem {L : List Int} {v k : Nat} {x : Int} : x ∈ atLv L v k ↔ ∃ i : Nat, x = (i : Int) ∧ i < k ∧ lat L i = (v : Int) := by
  unfold atLv
  simp only [List.mem_map, List.mem_filter, List.mem_range, beq_iff_eq]
  constructor
  · rintro ⟨i, ⟨h1, h2⟩, rfl⟩; exact ⟨i, rfl, h1, h2⟩
  · rintro ⟨i, rfl, h1, h2⟩; exact ⟨i, ⟨h1, h2⟩, rfl⟩
theorem ordTo_mem {L : List Int} {n : Nat} {x : Int} : ∀ {m : Nat}, x ∈ ordTo L n m ↔ ∃ i : Nat, x = (i : Int) ∧ i < n ∧ 0 ≤ lat L i ∧ lat L i < (m : Int)
  | 0 => by
    simp only [ordTo, List.not_mem_nil, false_iff]
    rintro ⟨i, _, _, h1, h2⟩; omega
  | m + 1 => by
    rw [ordTo, List.mem_append, ordTo_mem (m := m), atLv_mem]
    constructor
    · rintro (⟨i, h1, h2, h3, h4⟩ | ⟨i, h1, h2, h3⟩)
      · exact ⟨i, h1, h2, h3, by omega⟩
      · exact ⟨i, h1, h2, by omega, by omega⟩
    · rintro ⟨i, h1, h2, h3, h4⟩
      by_cases h : lat L i = (m : Int)
      · exact .inr ⟨i, h1, h2, h⟩
      · exact .inl ⟨i, h1, h2, h3, by omega⟩
theorem atLv_sorted (L : List Int) (v : Nat) : ∀ k, (atLv L v k).Pairwise (Lex L)
  | 0 => List.Pairwise.nil
  | k + 1 => by
    rw [atLv_succ]
    split
    · rename_i h
      refine List.pairwise_append.2 ⟨atLv_sorted L v k, List.pairwise_singleton _ _, fun a ha b hb => ?_⟩
      obtain rfl := List.mem_singleton.1 hb
      obtain ⟨i, rfl, h1, h2⟩ := atLv_mem.1 ha
      have h3 : lat L k = (v : Int) := by simpa using h
      exact .inr ⟨by omega, by omega⟩
    · exact atLv_sorted L v k
theorem ordTo_sorted (L : List Int) (n : Nat) : ∀ m, (ordTo L n m).Pairwise (Lex L)
  | 0 => List.Pairwise.nil
  | m + 1 => by
    refine List.pairwise_append.2 ⟨ordTo_sorted L n m, atLv_sorted L m n, fun a ha b hb => ?_⟩
    obtain ⟨i, rfl, h1, h2, h3⟩ := ordTo_mem.1 ha
    obtain ⟨j, rfl, h4, h5⟩ := atLv_mem.1 hb
    exact .inl (by omega)
theorem sorted_len {L : List Int} {n : Nat} {l : List Int} (h : l.Pairwise (Lex L)) (hm : ∀ x ∈ l, 0 ≤ x ∧ x < (n : Int)) : l.length ≤ n := by
  have hn : l.Nodup := h.imp fun {a b} hab e => by subst e; exact Lex.irr _ hab
  have key : ∀ (n : Nat) (l : List Int), l.Nodup → (∀ x ∈ l, 0 ≤ x ∧ x < (n : Int)) → l.length ≤ n := by
    intro n
    induction n with
    | zero =>
      intro l _ hm
      cases l with
      | nil => simp
      | cons a l => have := hm a List.mem_cons_self; omega
    | succ n ih =>
      intro l hn hm
      have h1 := ih (l.erase (n : Int)) (hn.erase _) fun x hx => by
        have h2 := (hn.mem_erase_iff).1 hx
        have h3 := hm x h2.2
        exact ⟨h3.1, by have := h2.1; omega⟩
      have h2 := List.length_erase (a := (n : Int)) (l := l)
      split at h2 <;> omega
  exact key n l hn hm
theorem ordTo_len (L : List Int) (n m : Nat) : (ordTo L n m).length ≤ n := sorted_len (ordTo_sorted L n m) fun x hx => by
  obtain ⟨i, rfl, h1, -⟩ := ordTo_mem.1 hx
  omega
/-- THE ORDER is the reference's. -/
theorem ord_eq {L : List Int} {n m : Nat} {R : List Int} (hR : SortTo L n n R) (hL : ∀ i : Nat, i < n → 0 ≤ lat L i ∧ lat L i < (m : Int)) : R = ordTo L n m := by
  obtain ⟨S, h1, h2, -, h4, h5⟩ := hR
  have e : R = S := by rw [h1]; simp [rng]
  subst e
  have hs : R.Sublist (ordTo L n m) := sorted_sub (r := Lex L) (fun _ _ _ h h' => Lex.trans h h') Lex.irr h4 (ordTo_sorted L n m) fun x hx => by
    have hb := h5 x hx
    refine ordTo_mem.2 ⟨x.toNat, by omega, by omega, ?_, ?_⟩
    · exact (hL x.toNat (by omega)).1
    · exact (hL x.toNat (by omega)).2
  exact hs.eq_of_length_le (by rw [h2]; exact ordTo_len L n m)
theorem ordTo_full {L : List Int} {n m : Nat} (hL : ∀ i : Nat, i < n → 0 ≤ lat L i ∧ lat L i < (m : Int)) : (ordTo L n m).length = n := by
  have h1 := ordTo_len L n m
  have h2 : (rng 0 n).length ≤ (ordTo L n m).length := by
    have hn : (rng 0 n).Nodup := by
      unfold rng
      refine List.pairwise_map.2 (List.nodup_range.imp ?_)
      intro a b h e; simp only [Nat.zero_add] at e; omega
    have hsub : ∀ (l l' : List Int), l.Nodup → (∀ x ∈ l, x ∈ l') → l.length ≤ l'.length := by
      intro l
      induction l with
      | nil => intro l' _ _; simp
      | cons a l ih =>
        intro l' hn hm
        have h1 := List.nodup_cons.1 hn
        have h2 := ih (l'.erase a) h1.2 fun x hx => by
          have hne : x ≠ a := fun e => h1.1 (e ▸ hx)
          exact (List.mem_erase_of_ne hne).2 (hm x (List.mem_cons_of_mem _ hx))
        have h3 := List.length_erase_of_mem (hm a List.mem_cons_self)
        have h4 := List.length_pos_of_mem (hm a List.mem_cons_self)
        simp only [List.length_cons]; omega
    refine hsub _ _ hn fun x hx => ?_
    unfold rng at hx
    obtain ⟨i, hi, rfl⟩ := List.mem_map.1 hx
    have hi' := List.mem_range.1 hi
    exact ordTo_mem.2 ⟨i, by omega, by omega, (hL i (by omega)).1, (hL i (by omega)).2⟩
  rw [rng_len] at h2
  omega
end Go.Proofs.YtkaedfgmhfefjaaGreatDoor

namespace Go.Proofs.YtkaedfgmhfefjaaGreatDoor

/-- What node i computes of the values out. -/
def gateV (nodes : List Nd) (out : List Int) (i : Int) : Int := evalL (nodes.getD i.toNat default).kind ((nodes.getD i.toNat default).ins.map fun x => cln (lat out x))
/-- One node settled. -/
def stl (nodes : List Nd) (out : List Int) (i : Int) : List Int := if cmb (nodes.getD i.toNat default).kind = true then out.set i.toNat (gateV nodes out i) else out
/-- out are the values of the nets, base those of the nodes that are not combinational. -/
def Net (nodes : List Nd) (base out : List Int) : Prop := out.length = nodes.length ∧ ∀ i : Nat, i < nodes.length → lat out i = if cmb (nodes.getD i default).kind = true then gateV nodes out i else lat base i
/-- The nodes of P are settled. -/
structure StI (nodes : List Nd) (base P out : List Int) : Prop where
  len : out.length = nodes.length
  off : ∀ i : Nat, i < nodes.length → cmb (nodes.getD i default).kind = false → lat out i = lat base i
  on : ∀ y ∈ P, cmb (nodes.getD y.toNat default).kind = true → lat out y = gateV nodes out y

theorem gateV_congr {nodes : List Nd} {out out' : List Int} {i : Int} (h : ∀ x ∈ (nodes.getD i.toNat default).ins, lat out x = lat out' x) : gateV nodes out i = gateV nodes out' i := by
  unfold gateV
  congr 1
  exact List.map_congr_left fun x hx => by rw [h x hx]
theorem dep_ins {nodes : List Nd} {i : Int} (h : cmb (nodes.getD i.toNat default).kind = true) : dep nodes i = (nodes.getD i.toNat default).ins := by
  unfold dep depsOf; rw [if_pos h]
theorem StI.start (nodes : List Nd) (base : List Int) (h : base.length = nodes.length) : StI nodes base [] base := ⟨h, fun _ _ _ => rfl, fun y hy => by cases hy⟩
theorem StI.step {nodes : List Nd} {base P out L : List Int} (hw : Wf nodes) (hL : Lvl nodes L) (h : StI nodes base P out) {x : Int} (h0 : 0 ≤ x) (hx : x < (nodes.length : Int))
    (hP : ∀ y ∈ P, 0 ≤ y ∧ y < (nodes.length : Int) ∧ y ≠ x ∧ lat L y ≤ lat L x) : StI nodes base (P ++ [x]) (stl nodes out x) := by
  unfold stl
  by_cases hc : cmb (nodes.getD x.toNat default).kind = true
  · rw [if_pos hc]
    have hset : ∀ y : Int, 0 ≤ y → y ≠ x → lat (out.set x.toNat (gateV nodes out x)) y = lat out y := fun y hy hyx => by
      rw [lat_set _ hy, if_neg (fun e => hyx (by omega))]
    have hx2 : lat (out.set x.toNat (gateV nodes out x)) x = gateV nodes out x := by
      rw [lat_set _ h0, if_pos ⟨by omega, by rw [h.len]; omega⟩]
    have hself : ∀ z ∈ (nodes.getD x.toNat default).ins, lat (out.set x.toNat (gateV nodes out x)) z = lat out z := fun z hz => by
      have hz' : z ∈ dep nodes x := by rw [dep_ins hc]; exact hz
      have := hw.dep (i := x) (by omega) hz'
      exact hset z this.1 fun e => by have := hL.lt h0 (by omega) hz'; rw [e] at this; omega
    refine ⟨by rw [List.length_set]; exact h.len, fun i hi hn => ?_, fun y hy hyc => ?_⟩
    · rw [hset i (by omega) (fun e => by rw [← e] at hc; rw [Int.toNat_natCast] at hc; rw [hc] at hn; cases hn)]
      exact h.off i hi hn
    · rcases List.mem_append.1 hy with hy | hy
      · obtain ⟨p0, p1, p2, p3⟩ := hP y hy
        rw [hset y p0 p2, h.on y hy hyc]
        refine gateV_congr fun z hz => ?_
        have hz' : z ∈ dep nodes y := by rw [dep_ins hyc]; exact hz
        have q := hw.dep (i := y) (by omega) hz'
        exact (hset z q.1 fun e => by have := hL.lt p0 (by omega) hz'; rw [e] at this; omega).symm
      · obtain rfl : y = x := by simpa using hy
        rw [hx2]
        exact (gateV_congr hself).symm
  · rw [if_neg hc]
    refine ⟨h.len, h.off, fun y hy hyc => ?_⟩
    rcases List.mem_append.1 hy with hy | hy
    · exact h.on y hy hyc
    · obtain rfl : y = x := by simpa using hy
      exact absurd hyc hc
theorem StI.stop {nodes : List Nd} {base P out : List Int} (h : StI nodes base P out) (hP : ∀ i : Nat, i < nodes.length → (i : Int) ∈ P) : Net nodes base out :=
  ⟨h.len, fun i hi => by
    by_cases hc : cmb (nodes.getD i default).kind = true
    · rw [if_pos hc]
      exact h.on i (hP i hi) (by rw [Int.toNat_natCast]; exact hc)
    · rw [if_neg hc]
      exact h.off i hi (by simpa using hc)⟩
theorem Net.same {nodes : List Nd} {base base' out out' L : List Int} (hw : Wf nodes) (hL : Lvl nodes L) (h : Net nodes base out) (h' : Net nodes base' out') (hb : ∀ i : Nat, i < nodes.length → cmb (nodes.getD i default).kind = false → lat base i = lat base' i) : out = out' := by
  have key : ∀ (m : Nat) (i : Nat), i < nodes.length → lat L i < (m : Int) → lat out i = lat out' i := by
    intro m
    induction m with
    | zero => intro i hi hlt; have := hL.nonneg hi; omega
    | succ m ih =>
      intro i hi hlt
      rw [h.2 i hi, h'.2 i hi]
      by_cases hc : cmb (nodes.getD i default).kind = true
      · rw [if_pos hc, if_pos hc]
        refine gateV_congr fun z hz => ?_
        have hz' : z ∈ dep nodes i := by rw [dep_ins (by rw [Int.toNat_natCast]; exact hc)]; exact hz
        have q := hw.dep (i := (i : Int)) (by omega) hz'
        have hl := hL.lt (i := (i : Int)) (by omega) (by omega) hz'
        obtain ⟨k, rfl⟩ := Int.eq_ofNat_of_zero_le q.1
        exact ih k (by omega) (by omega)
      · rw [if_neg hc, if_neg hc]
        exact hb i hi (by simpa using hc)
  refine ext_lat (h.1.trans h'.1.symm) fun i hi => ?_
  have hi' : i < nodes.length := by rw [← h.1]; exact hi
  exact key ((lat L i).toNat + 1) i hi' (by have := hL.nonneg hi'; omega)
/-- The prefix of an order is settled, node by node. -/
theorem order_before {L R : List Int} {n : Nat} (h : SortTo L n n R) {k : Nat} (hk : k < n) : 0 ≤ lat R k ∧ lat R k < (n : Int) ∧ ∀ y ∈ R.take k, 0 ≤ y ∧ y < (n : Int) ∧ y ≠ lat R k ∧ lat L y ≤ lat L (lat R k) := by
  obtain ⟨S, h1, h2, h3, h4, h5⟩ := h
  have hR : R = S := by rw [h1]; simp [rng]
  subst hR
  have hk' : k < R.length := by omega
  have e : lat R k = R[k] := by unfold lat; rw [Int.toNat_natCast, List.getD_eq_getElem?_getD, List.getElem?_eq_getElem hk']; rfl
  rw [e]
  refine ⟨(h5 _ (List.getElem_mem hk')).1, (h5 _ (List.getElem_mem hk')).2, fun y hy => ?_⟩
  have hm := h5 y (List.mem_of_mem_take hy)
  obtain ⟨j, hj, ej⟩ := List.mem_iff_getElem.1 hy
  rw [List.length_take] at hj
  rw [List.getElem_take] at ej
  have hjk : j < k := by omega
  have := List.pairwise_iff_getElem.1 h4 j k (by omega) hk' hjk
  rw [ej] at this
  refine ⟨hm.1, hm.2, fun e2 => ?_, ?_⟩
  · rw [e2] at this; exact Lex.irr _ this
  · rcases this with h | h <;> omega
end Go.Proofs.YtkaedfgmhfefjaaGreatDoor

namespace Go.Proofs.YtkaedfgmhfefjaaGreatDoor.Lg

theorem blw_iff (a b : Int) : blw a b = true ↔ cln a = cln b ∨ cln a = 2 := by simp [blw]
theorem blw_refl (a : Int) : blw a a = true := by simp [blw]
theorem blw_X (b : Int) : blw 2 b = true := by simp [blw, show cln 2 = 2 by decide]
theorem cln_0 {b : Int} (h : cln b = 0) : b = 0 := by unfold cln at h; split at h <;> omega
theorem cln_1 {b : Int} (h : cln b = 1) : b = 1 := by unfold cln at h; split at h <;> omega
theorem blw_of_0 {b : Int} (h : blw 0 b = true) : b = 0 := by
  rcases (blw_iff _ _).1 h with h | h
  · exact cln_0 (by rw [← h]; decide)
  · exact absurd h (by decide)
theorem blw_of_1 {b : Int} (h : blw 1 b = true) : b = 1 := by
  rcases (blw_iff _ _).1 h with h | h
  · exact cln_1 (by rw [← h]; decide)
  · exact absurd h (by decide)
/-- Of two values, the one below the other: both the same known value, or it is read as X. -/
theorem blw_cases {a b : Int} (h : blw a b = true) : (a = 0 ∧ b = 0) ∨ (a = 1 ∧ b = 1) ∨ rd a = 2 := by
  rcases knw_cases a with ⟨rfl, _⟩ | ⟨rfl, _⟩ | ⟨_, _, _, h2⟩
  · exact .inl ⟨rfl, blw_of_0 h⟩
  · exact .inr (.inl ⟨rfl, blw_of_1 h⟩)
  · exact .inr (.inr h2)
theorem rd_mono {a b : Int} (h : blw a b = true) : blw (rd a) (rd b) = true := by
  rcases blw_cases h with ⟨rfl, rfl⟩ | ⟨rfl, rfl⟩ | h2
  · exact blw_refl _
  · exact blw_refl _
  · rw [h2]; exact blw_X _
theorem nt_2 {a : Int} (h : rd a = 2) : nt a = 2 := by simp [nt, h]
theorem nt_mono {a b : Int} (h : blw a b = true) : blw (nt a) (nt b) = true := by
  rcases blw_cases h with ⟨rfl, rfl⟩ | ⟨rfl, rfl⟩ | h2
  · exact blw_refl _
  · exact blw_refl _
  · rw [nt_2 h2]; exact blw_X _
theorem mx_mono {s a b s' a' b' : Int} (hs : blw s s' = true) (ha : blw a a' = true) (hb : blw b b' = true) : blw (mx s a b) (mx s' a' b') = true := by
  rcases blw_cases hs with ⟨rfl, rfl⟩ | ⟨rfl, rfl⟩ | h2
  · exact rd_mono ha
  · exact rd_mono hb
  · unfold mx
    rw [h2]
    rcases blw_cases ha with ⟨rfl, rfl⟩ | ⟨rfl, rfl⟩ | h3
    · rcases blw_cases hb with ⟨rfl, rfl⟩ | ⟨rfl, rfl⟩ | h4
      · rcases rd_cases s' with h | h | h <;> rw [h] <;> decide
      · rcases rd_cases s' with h | h | h <;> rw [h] <;> decide
      · rw [h4]; exact blw_X _
    · rcases blw_cases hb with ⟨rfl, rfl⟩ | ⟨rfl, rfl⟩ | h4
      · rcases rd_cases s' with h | h | h <;> rw [h] <;> decide
      · rcases rd_cases s' with h | h | h <;> rw [h] <;> decide
      · rw [h4]; exact blw_X _
    · rw [h3]
      have e : (if (2 : Int) = 0 then (2 : Int) else if (2 : Int) = 1 then rd b else if (2 : Int) = rd b then 2 else 2) = 2 := by simp
      rw [e]; exact blw_X _
theorem tr_mono {a b a' b' : Int} (ha : blw a a' = true) (hb : blw b b' = true) : blw (tr a b) (tr a' b') = true := by
  rcases blw_cases ha with ⟨rfl, rfl⟩ | ⟨rfl, rfl⟩ | h2
  · exact blw_refl _
  · exact rd_mono hb
  · have e : tr a b = 2 := by simp [tr, h2]
    rw [e]; exact blw_X _

/-- Each value of the one list is below that of the other. -/
def LeL (l m : List Int) : Prop := l.length = m.length ∧ ∀ j, j < l.length → blw (l.getD j 0) (m.getD j 0) = true
theorem anyIs_iff {g : Int → Int} {x : Int} {l : List Int} : anyIs g x l = true ↔ ∃ j, j < l.length ∧ g (l.getD j 0) = x := by
  constructor
  · intro h
    obtain ⟨v, hv, hx⟩ := List.any_eq_true.1 h
    obtain ⟨k, hk, rfl⟩ := List.mem_iff_getElem.1 hv
    refine ⟨k, hk, ?_⟩
    rw [List.getD_eq_getElem?_getD, List.getElem?_eq_getElem hk]
    simpa using hx
  · rintro ⟨k, hk, h⟩
    exact anyIs_yes k hk (by simpa using h)
theorem LeL.known {l m : List Int} (h : LeL l m) (x : Int) (hx : x = 0 ∨ x = 1) (hl : anyIs rd x l = true) : anyIs rd x m = true := by
  obtain ⟨j, hj, e⟩ := anyIs_iff.1 hl
  refine anyIs_iff.2 ⟨j, by rw [← h.1]; exact hj, ?_⟩
  rcases blw_cases (h.2 j hj) with ⟨h1, h2⟩ | ⟨h1, h2⟩ | h1
  · rw [h2, ← h1]; exact e
  · rw [h2, ← h1]; exact e
  · omega
theorem LeL.eq_ {l m : List Int} (h : LeL l m) (hl : anyIs rd 2 l = false) : l = m := by
  apply List.ext_getElem h.1
  intro j h1 h2
  have e1 : l.getD j 0 = l[j] := by rw [List.getD_eq_getElem?_getD, List.getElem?_eq_getElem h1]; rfl
  have e2 : m.getD j 0 = m[j] := by rw [List.getD_eq_getElem?_getD, List.getElem?_eq_getElem h2]; rfl
  rw [← e1, ← e2]
  rcases blw_cases (h.2 j h1) with ⟨h3, h4⟩ | ⟨h3, h4⟩ | h3
  · rw [h3, h4]
  · rw [h3, h4]
  · have := bit_of_any hl j h1
    rcases this with h5 | h5 <;> rw [h5] at h3 <;> exact absurd h3 (by decide)
theorem and_mono {l m : List Int} (h : LeL l m) : blw (andL l) (andL m) = true := by
  cases h0 : anyIs rd 0 l
  · cases h2 : anyIs rd 2 l
    · rw [h.eq_ h2]; exact blw_refl _
    · have e : andL l = 2 := by simp [andL, h0, h2]
      rw [e]; exact blw_X _
  · have e : andL l = 0 := by simp [andL, h0]
    have e' : andL m = 0 := by simp [andL, h.known 0 (.inl rfl) h0]
    rw [e, e']; exact blw_refl _
theorem or_mono {l m : List Int} (h : LeL l m) : blw (orL l) (orL m) = true := by
  cases h0 : anyIs rd 1 l
  · cases h2 : anyIs rd 2 l
    · rw [h.eq_ h2]; exact blw_refl _
    · have e : orL l = 2 := by simp [orL, h0, h2]
      rw [e]; exact blw_X _
  · have e : orL l = 1 := by simp [orL, h0]
    have e' : orL m = 1 := by simp [orL, h.known 1 (.inr rfl) h0]
    rw [e, e']; exact blw_refl _
theorem xor_mono {l m : List Int} (h : LeL l m) : blw (xorL l) (xorL m) = true := by
  cases h2 : anyIs rd 2 l
  · rw [h.eq_ h2]; exact blw_refl _
  · have e : xorL l = 2 := by simp [xorL, h2]
    rw [e]; exact blw_X _
theorem anyIs_map (g : Int → Int) (x : Int) (l : List Int) : anyIs g x l = (l.map g).any (· == x) := by
  unfold anyIs; rw [List.any_map]; rfl
theorem bus_mono {l m : List Int} (h : LeL l m) : blw (busL l) (busL m) = true := by
  cases h2 : anyIs cln 2 l
  · have e : l.map cln = m.map cln := by
      apply List.ext_getElem (by simpa using h.1)
      intro j h1 h3
      have hj : j < l.length := by simpa using h1
      have hj' : j < m.length := by simpa using h3
      have e1 : l.getD j 0 = l[j] := by rw [List.getD_eq_getElem?_getD, List.getElem?_eq_getElem hj]; rfl
      have e2 : m.getD j 0 = m[j] := by rw [List.getD_eq_getElem?_getD, List.getElem?_eq_getElem hj']; rfl
      rw [List.getElem_map, List.getElem_map, ← e1, ← e2]
      rcases (blw_iff _ _).1 (h.2 j hj) with h4 | h4
      · exact h4
      · have := (anyIs_iff (g := cln) (x := 2) (l := l)).2 ⟨j, hj, h4⟩
        rw [h2] at this; cases this
    have e' : ∀ x, anyIs cln x l = anyIs cln x m := fun x => by rw [anyIs_map, anyIs_map, e]
    have : busL l = busL m := by unfold busL conL; rw [e' 2, e' 0, e' 1]
    rw [this]; exact blw_refl _
  · have e : busL l = 2 := by simp [busL, h2]
    rw [e]; exact blw_X _
theorem LeL.at_ {l m : List Int} (h : LeL l m) (j : Nat) : blw (l.getD j 0) (m.getD j 0) = true := by
  by_cases hj : j < l.length
  · exact h.2 j hj
  · rw [List.getD_eq_getElem?_getD, List.getD_eq_getElem?_getD, List.getElem?_eq_none (by omega), List.getElem?_eq_none (by rw [← h.1]; omega)]
    exact blw_refl _
theorem ite_mono {c : Prop} [Decidable c] {a b a' b' : Int} (h1 : blw a a' = true) (h2 : blw b b' = true) : blw (if c then a else b) (if c then a' else b') = true := by
  split
  · exact h1
  · exact h2
theorem fun_mono (k : Int) {l m : List Int} (h : LeL l m) : blw (funL k l) (funL k m) = true := by
  unfold funL
  refine ite_mono (blw_refl _) ?_
  refine ite_mono (blw_refl _) ?_
  refine ite_mono (rd_mono (h.at_ 0)) ?_
  refine ite_mono (nt_mono (h.at_ 0)) ?_
  refine ite_mono (and_mono h) ?_
  refine ite_mono (nt_mono (and_mono h)) ?_
  refine ite_mono (or_mono h) ?_
  refine ite_mono (nt_mono (or_mono h)) ?_
  refine ite_mono (xor_mono h) ?_
  refine ite_mono (nt_mono (xor_mono h)) ?_
  refine ite_mono (mx_mono (h.at_ 0) (h.at_ 1) (h.at_ 2)) ?_
  refine ite_mono (tr_mono (h.at_ 0) (h.at_ 1)) ?_
  refine ite_mono (bus_mono h) ?_
  exact blw_refl _
theorem eval_mono (k : Int) {l m : List Int} (h : LeL l m) : blw (evalL k l) (evalL k m) = true := by
  unfold evalL
  rw [← h.1]
  exact ite_mono (blw_refl _) (fun_mono k h)

end Go.Proofs.YtkaedfgmhfefjaaGreatDoor.Lg

namespace Go.Proofs.YtkaedfgmhfefjaaGreatDoor

theorem cln_cln (a : Int) : cln (cln a) = cln a := by unfold cln; split <;> simp_all
theorem blw_cln (a b : Int) : blw (cln a) (cln b) = blw a b := by unfold blw; rw [cln_cln, cln_cln]
theorem Net.mono {nodes : List Nd} {base base' out out' L : List Int} (hw : Wf nodes) (hL : Lvl nodes L) (h : Net nodes base out) (h' : Net nodes base' out')
    (hb : ∀ i : Nat, i < nodes.length → cmb (nodes.getD i default).kind = false → blw (lat base i) (lat base' i) = true) : ∀ i : Nat, i < nodes.length → blw (lat out i) (lat out' i) = true := by
  have key : ∀ (m : Nat) (i : Nat), i < nodes.length → lat L i < (m : Int) → blw (lat out i) (lat out' i) = true := by
    intro m
    induction m with
    | zero => intro i hi hlt; have := hL.nonneg hi; omega
    | succ m ih =>
      intro i hi hlt
      rw [h.2 i hi, h'.2 i hi]
      by_cases hc : cmb (nodes.getD i default).kind = true
      · rw [if_pos hc, if_pos hc]
        refine Lg.eval_mono _ ⟨by simp, fun j hj => ?_⟩
        have hj' : j < (nodes.getD ((i : Int).toNat) default).ins.length := by simpa using hj
        have e : ∀ o : List Int, ((nodes.getD ((i : Int).toNat) default).ins.map fun x => cln (lat o x)).getD j 0 = cln (lat o ((nodes.getD ((i : Int).toNat) default).ins[j])) := fun o => by
          rw [List.getD_eq_getElem?_getD, List.getElem?_map, List.getElem?_eq_getElem hj']; rfl
        rw [e, e, blw_cln]
        have hz : (nodes.getD ((i : Int).toNat) default).ins[j] ∈ dep nodes i := by rw [dep_ins (by rw [Int.toNat_natCast]; exact hc)]; exact List.getElem_mem hj'
        have q := hw.dep (i := (i : Int)) (by omega) hz
        have hl := hL.lt (i := (i : Int)) (by omega) (by omega) hz
        generalize (nodes.getD ((i : Int).toNat) default).ins[j] = z at *
        obtain ⟨k, rfl⟩ := Int.eq_ofNat_of_zero_le q.1
        exact ih k (by omega) (by omega)
      · rw [if_neg hc, if_neg hc]
        exact hb i hi (by simpa using hc)
  exact fun i hi => key ((lat L i).toNat + 1) i hi (by have := hL.nonneg hi; omega)

/-- The values vs laid over the nodes of l. -/
def asg (out l vs : List Int) : List Int := (l.zip vs).foldl (fun o p => o.set p.1.toNat p.2) out
theorem asg_len (out l vs : List Int) : (asg out l vs).length = out.length := by
  unfold asg
  induction l.zip vs generalizing out with
  | nil => rfl
  | cons p t ih => rw [List.foldl_cons, ih, List.length_set]
/-- What the nodes that are not combinational have for a pattern: ins and sts are their indices. -/
def baseV (n : Nat) (ins sts pin pst : List Int) : List Int := asg (asg (List.replicate n 0) ins pin) sts pst
theorem baseV_len (n : Nat) (ins sts pin pst : List Int) : (baseV n ins sts pin pst).length = n := by simp [baseV, asg_len]
end Go.Proofs.YtkaedfgmhfefjaaGreatDoor

namespace Go.Proofs.YtkaedfgmhfefjaaGreatDoor
open Go.RowKit

/-- A row of values of the call's own, in block g. -/
def VRow (w : World) (g : Nat) (l : List Int) : Prop := w.ownsRow g 77 1 (.slice (some ⟨g, 0, none⟩) l.length l.length) l.length (l.map (Value.int .u8))
section
variable {w w' : World} {g : Nat} {l : List Int}
theorem VRow.cell (h : VRow w g l) {j : Nat} (hj : j < l.length) : w.cell? ⟨g, j, none⟩ = some (.int .u8 (lat l j)) := by
  have := World.ownsRow.cellAt h j (by omega)
  rw [this, List.getElem?_map, List.getElem?_eq_getElem hj]
  simp [lat, List.getD_eq_getElem?_getD, List.getElem?_eq_getElem hj]
theorem VRow.frozen (h : VRow w g l) (j : Nat) : w.frozen? ⟨g, j, none⟩ = false := World.ownsRow.frozenAt h j
theorem VRow.set (h : VRow w g l) (j : Nat) (x : Int) : VRow (w.setCell ⟨g, j, none⟩ (.int .u8 x)) g (l.set j x) := by
  have := (World.ownsRow.stored h j (.int .u8 x)).1
  unfold VRow
  rw [List.length_set, List.map_set]
  exact this
theorem VRow.lt (h : VRow w g l) : g < w.heap.size := (World.ownsRow.lt h g rfl).2
theorem VRow.len (h : VRow w g l) : l.length ≤ maxLen := by
  rcases h.2 with ⟨e, -⟩ | ⟨g', cap, cur, e, hb', hg', hle, hmx, hs', ht'⟩
  · cases e
  · simp only [Value.slice.injEq] at e; omega
theorem VRow.kept {row : Option Nat} (h : VRow w g l) (hg : w.grownBy w' row) (hne : some g ≠ row) : VRow w' g l := World.ownsRow.kept h hg (.inr hne)
theorem VRow.below (h : VRow w g l) (hb : Below w.heap.size w w') : VRow w' g l :=
  h.kept (row := none) ⟨hb.os, hb.tape, hb.output, hb.size, fun i hi _ => hb.block i hi⟩ (by simp)
theorem VRow.ks (h : VRow w g l) : Ks w w.heap.size (.slice (some ⟨g, 0, none⟩) l.length l.length) l :=
  ⟨_, g, 0, _, rfl, fun _ => rfl, Nat.le_refl _, h.len, fun k hk => ⟨h.lt, by
    have := h.cell hk
    unfold lat at this
    rw [Int.toNat_natCast] at this
    show w.cell? ⟨g, 0 + k * 1, none⟩ = _
    rw [Nat.zero_add, Nat.mul_one]; exact this⟩⟩
theorem VRow.of {B n : Nat} (h : w.ownsRow B 77 1 (.slice (some ⟨g, 0, none⟩) n n) n (l.map (Value.int .u8))) (hl : l.length = n) : VRow w g l := by
  subst hl
  unfold VRow
  refine ⟨h.1, ?_⟩
  rcases h.2 with ⟨e, -⟩ | ⟨g', cap, cur, e, hb', hg', hle, hmx, hs', ht'⟩
  · cases e
  · simp only [Value.slice.injEq, Option.some.injEq, Addr.mk.injEq] at e
    obtain ⟨⟨rfl, -⟩, -, rfl⟩ := e
    exact .inr ⟨g, _, cur, rfl, Nat.le_refl _, hg', hle, hmx, hs', ht'⟩
end
theorem info_val : (Tryz.prog.info? 77).map (fun i => (i.zero, i.size, i.bytes)) = some (some (.int .u8 0), 1, 1) := by kernel_rfl

theorem ret_v {a b : Int} (h : a = b) : Ending.returned (.int .u8 a) = .returned (.int .u8 b) := by rw [h]
/-- The value of net x among the values l. -/
def valA (l : List Int) (x : Int) : Int := if x < 0 ∨ (l.length : Int) ≤ x then 2 else cln (lat l x)
theorem Ks.vs {w : World} {B : Nat} {v : Value} {l : List Int} (h : Ks w B v l) : Lg.Vs w B v l := by
  obtain ⟨A, b, o, c, rfl, hA, hle, hm, hc⟩ := h.opens
  by_cases h0 : 0 < l.length
  · obtain rfl := hA h0
    exact ⟨b, o, c, .inl rfl, hm, hc⟩
  · obtain rfl : l = [] := List.eq_nil_of_length_eq_zero (by omega)
    exact ⟨b, o, c, .inr ⟨rfl, A, rfl⟩, hm, hc⟩
/-- The variable q holds the values l. -/
def Nv (w : World) (q : Nat) (l : List Int) : Prop := ∃ A c, w.cell? ⟨q, 0, none⟩ = some (.slice A l.length c) ∧ Ks w w.heap.size (.slice A l.length c) l
theorem Nv.below {w w' : World} {q : Nat} {l : List Int} (h : Nv w q l) (hb : Below w.heap.size w w') : Nv w' q l := by
  obtain ⟨A, c, h1, h2⟩ := h
  exact ⟨A, c, (hb.cell (p := ⟨q, 0, none⟩) (cell_lt h1)).trans h1, Arr.keep stays_u8 h2 hb.size fun _ hp => hb.cell hp⟩

set_option maxHeartbeats 1000000 in
theorem val1_any (l : List Int) (x : Int) (q : Nat) (w : World) (hq : Nv w q l) :
    Calls Tryz.prog 110 #[.int .i64 x, .pointer (some ⟨q, 0, none⟩)] w fun e w' => e = .returned (.int .u8 (valA l x)) ∧ w = w' := by
  obtain ⟨y, HY⟩ := named (valA l x)
  rw [← HY.out]
  obtain ⟨A, c, h1, h2⟩ := hq
  obtain ⟨A', b, o, c', e, hA, hle, hm, hc⟩ := h2.opens
  simp only [Value.slice.injEq, true_and] at e
  obtain ⟨rfl, rfl⟩ := e
  have HA := Lib.hid hA
  have HC := Lib.hid hc
  unfold maxLen at hm
  clear hA hc h2
  obtain ⟨n, HN⟩ := named l.length
  rw [← HN.out] at h1 hm HA HC hle
  have HCL := Lib.hid (fun w => Lg.clean_any (lat l x) w)
  obtain ⟨z, HZ⟩ := named (lat l x)
  obtain ⟨cz, HCZ⟩ := named (cln (lat l x))
  rw [← HCZ.out, ← HZ.out] at HCL
  have HYD : Hid (y = if x < 0 ∨ (n : Int) ≤ x then 2 else cz) := Lib.hid (by rw [HY.out, HN.out, HCZ.out]; rfl)
  by_cases h0 : x < 0
  · have hy : y = 2 := by rw [HYD.out]; exact if_pos (.inl h0)
    have HYF := Lib.hid hy
    clear hy
    go_enter Tryz.func110, Tryz.ntmps110
    go_wp2
    go_ret
    exact ⟨ret_v HYF.out.symm, rfl⟩
  by_cases hn : (n : Int) ≤ x
  · have hy : y = 2 := by rw [HYD.out]; exact if_pos (.inr hn)
    have HYF := Lib.hid hy
    clear hy
    go_enter Tryz.func110, Tryz.ntmps110
    go_wp2
    go_ret
    exact ⟨ret_v HYF.out.symm, rfl⟩
  have hy : y = cz := by rw [HYD.out]; exact if_neg (by omega)
  have HYF := Lib.hid hy
  obtain ⟨k, rfl⟩ := Int.eq_ofNat_of_zero_le (show 0 ≤ x by omega)
  have hk : k < n := by omega
  obtain rfl := HA.out (by omega)
  have hcell := (HC.out k hk).2
  have HZ2 : Hid (l.getD k 0 = z) := Lib.hid (by rw [HZ.out]; unfold lat; rw [Int.toNat_natCast])
  rw [HZ2.out] at hcell
  clear hy
  go_enter Tryz.func110, Tryz.ntmps110
  go_wp2_with (go_at_call 94; (with_reducible refine (HCL.out _).mono ?_); rintro e w' ⟨rfl, rfl⟩)
  go_ret
  exact ⟨ret_v HYF.out.symm, rfl⟩
end Go.Proofs.YtkaedfgmhfefjaaGreatDoor

namespace Go.Proofs.YtkaedfgmhfefjaaGreatDoor
open Go.RowKit

/-- A row of values made for the call: block g. -/
def ValsPost (l : List Int) (w : World) (e : Ending) (w' : World) : Prop :=
  ∃ g, e = .returned (.slice (some ⟨g, 0, none⟩) l.length l.length) ∧ VRow w' g l ∧ w.heap.size ≤ g ∧ Below w.heap.size w w'
theorem fillL_vals (f : Int → Int) (z : Value) (l : List Int) : fillL (fun j => .int .u8 (f (lat l j))) z l.length l.length = (l.map f).map (Value.int .u8) := by
  apply List.ext_getElem?
  intro j
  by_cases hj : j < l.length
  · rw [fillL_get _ _ _ _ _ hj, if_pos hj]; simp [hj, lat, List.getD_eq_getElem?_getD]
  · rw [List.getElem?_eq_none (by simp [fillL_len]; omega), List.getElem?_eq_none (by simp; omega)]

set_option maxRecDepth 100000 in
set_option maxHeartbeats 4000000 in
theorem values_any (nets l : List Int) (A0 A1 A2 A3 : Option Addr) (n0 n1 n2 n3 c0 c1 c2 c3 : Nat) (s : Value) (q : Nat) (w : World) (B : Nat) (hB : B ≤ w.heap.size) (hq : Nv w q nets) (hs : Is w B s l) (hsz : l.length ≤ 17592186044416) :
    Calls Tryz.prog 72 #[.agg #[.slice A0 n0 c0, .slice A1 n1 c1, .slice A2 n2 c2, .slice A3 n3 c3, .func (.func 110) #[] #[.pointer (some ⟨q, 0, none⟩)]], s] w (ValsPost (l.map (valA nets)) w) := by
  obtain ⟨A, b, o, c, rfl, hA, hle, hm, hc⟩ := hs.opens
  have HA := Lib.hid hA
  have HC := Lib.hid hc
  clear hA hc hs hm hle
  obtain ⟨m, HM⟩ := named l.length
  rw [← HM.out] at HA HC hsz
  rw [← HM.out]
  obtain ⟨W1, HW1⟩ := named (w.alloc (.cells #[.slice A0 n0 c0, .slice A1 n1 c1, .slice A2 n2 c2, .slice A3 n3 c3, .func (.func 110) #[] #[.pointer (some ⟨q, 0, none⟩)]] 121))
  have hb1 : Below w.heap.size w W1 := by rw [HW1.out]; exact below_new (Below.refl _ _) _
  have hfx : W1.cell? ⟨w.heap.size, 4, none⟩ = some (.func (.func 110) #[] #[.pointer (some ⟨q, 0, none⟩)]) := by rw [HW1.out, World.cell?_alloc_at _ _ _ _ rfl]; rfl
  have hz1 : w.heap.size < W1.heap.size := by rw [HW1.out]; simp
  have HFX : Hid (∀ W, Below W1.heap.size W1 W → W.cell? ⟨w.heap.size, 4, none⟩ = some (.func (.func 110) #[] #[.pointer (some ⟨q, 0, none⟩)])) := Lib.hid fun W hb => (hb.cell (p := ⟨w.heap.size, 4, none⟩) hz1).trans hfx
  have HQ : Hid (∀ W, Below W1.heap.size W1 W → ∀ x, Calls Tryz.prog 110 #[.int .i64 x, .pointer (some ⟨q, 0, none⟩)] W fun e w' => e = .returned (.int .u8 (valA nets x)) ∧ W = w') :=
    Lib.hid fun W hb x => val1_any nets x q W (hq.below (joinB hb1 hb))
  have HB1 := Lib.hid hb1
  have hBz : B < W1.heap.size := by omega
  clear hq hb1 hfx
  obtain ⟨i0, hi, hz0, hz1', hz2⟩ := info_parts info_val
  have HI := Lib.hid (And.intro hi (And.intro hz0 (And.intro hz1' hz2)))
  clear hi hz0 hz1' hz2
  go_enter Tryz.func72, Tryz.ntmps72
  go_upto_region 1 with (fail)
  rw [← HW1.out]
  go_wp2_with (at_make; refine wpList_make_full _ rfl _ _ 41 rfl W1.heap.size 77 i0 (.int .u8 0) 1 Tryz.underlying41 HI.out.1 HI.out.2.1 HI.out.2.2.1 .i64 .i64 _ _ m rfl rfl rfl rfl ?b2 ?b3 ?b4 ?_)
  case b2 => rw [HI.out.2.2.2]; omega
  case b3 => unfold maxLen; omega
  case b4 => exact Nat.le_refl _
  intro w2 hown hgr
  rw [fillL_start (fun j => .int .u8 (valA nets (lat l j)))] at hown
  have hb2 : Below W1.heap.size W1 w2 := (Below.refl _ _).grown hgr (Nat.le_refl _) (fun k h => by cases h)
  have HO := Lib.hid hown
  have HB2 := Lib.hid hb2
  obtain ⟨g, HG⟩ := named W1.heap.size
  rw [← HG.out] at HO
  have hgz : W1.heap.size ≤ g := by rw [HG.out]; exact Nat.le_refl _
  have hgz2 : w.heap.size < g := by rw [HG.out]; exact hz1
  rw [← HG.out]
  clear hown hgr hb2
  go_wp2
  go_loopw [13] (fun i wr => ∃ k : Nat, k ≤ m ∧ i = .int .i64 k ∧ Below W1.heap.size W1 wr ∧ wr.ownsRow g 77 1 (.slice (some ⟨g, 0, none⟩) m m) m (fillL (fun j => .int .u8 (valA nets (lat l j))) (.int .u8 0) m k)) (fun i _ => m - (intOf i).toNat)
  case atStart => exact ⟨0, Nat.zero_le _, rfl, HB2.out, HO.out⟩
  case round =>
    clear HO HB2
    obtain ⟨k, hk, rfl, hb, hown⟩ := hrel
    have HBL := Lib.hid hb
    have HO := Lib.hid hown
    have hbx := HFX.out _ hb
    clear hb hown
    by_cases hlt : k < m
    · obtain rfl := HA.out (by omega)
      obtain ⟨hlb, hx⟩ := HC.out k hlt
      have hx2 : wr.cell? ⟨b, o + k, none⟩ = some (.int .i64 (l.getD k 0)) := ((joinB HB1.out HBL.out).cell (p := ⟨b, o + k, none⟩) (by show b < w.heap.size; omega)).trans hx
      have hfz : wr.frozen? ⟨g, k, none⟩ = false := HO.out.frozenAt k
      have hcl : wr.cell? ⟨g, k, none⟩ = some (.int .u8 0) := by
        rw [HO.out.cellAt k (by omega), fillL_get _ _ _ _ _ hlt, if_neg (by omega)]
      obtain ⟨x, HX⟩ := named (l.getD k 0)
      rw [← HX.out] at hx2
      have HLX : Hid (lat l (k : Int) = x) := Lib.hid (by rw [HX.out]; unfold lat; rw [Int.toNat_natCast])
      obtain ⟨u, HU⟩ := named (valA nets x)
      have HCL := Lib.hid (HQ.out wr HBL.out x)
      rw [← HU.out] at HCL
      have HS := Lib.hid (HO.out.stored k (.int .u8 u)).1
      clear hx
      go_wp2_with (go_at_call 110; (with_reducible refine HCL.out.mono ?_); rintro e w' ⟨rfl, rfl⟩)
      go_roundw
      case rel =>
        refine ⟨k + 1, by omega, by go_num, HBL.out.setCell hgz _, ?_⟩
        have h := HS.out
        rw [HU.out, ← HLX.out] at h
        rw [HU.out, ← HLX.out, ← fillL_set (fun j => .int .u8 (valA nets (lat l j))) (.int .u8 0) m k]
        exact h
      case measure => simp [intOf]; omega
    · obtain rfl : m = k := by omega
      go_wp2
      go_ret
      have h := HO.out
      rw [HM.out, fillL_vals] at h
      refine ⟨g, congrArg (fun n => Ending.returned (.slice (some ⟨g, 0, none⟩) n n)) (by rw [List.length_map]; exact HM.out), VRow.of (n := l.length) h (by rw [List.length_map]), Nat.le_of_lt hgz2, joinB HB1.out HBL.out⟩

/-- What a Dff with the inputs l reads. -/
def dataV (nets l : List Int) : Int := if l.length = 1 then rd (valA nets (l.getD 0 0)) else 2
set_option maxRecDepth 100000 in
set_option maxHeartbeats 4000000 in
theorem data_any (c : Ck) (nets : List Int) (A0 A1 A2 A3 : Option Addr) (n1 n2 n3 c0 c1 c2 c3 : Nat) (i q : Nat) (w : World) (B : Nat) (hB : B ≤ w.heap.size) (hq : Nv w q nets) (hc : Ns w B (.slice A0 c.nodes.length c0) c.nodes) (hi : i < c.nodes.length) :
    Calls Tryz.prog 120 #[.agg #[.slice A0 c.nodes.length c0, .slice A1 n1 c1, .slice A2 n2 c2, .slice A3 n3 c3, .func (.func 110) #[] #[.pointer (some ⟨q, 0, none⟩)]], .int .i64 (i : Int)] w
      fun e w' => e = .returned (.int .u8 (dataV nets (c.nodes.getD i default).ins)) ∧ Below w.heap.size w w' := by
  obtain ⟨y, HY⟩ := named (dataV nets (c.nodes.getD i default).ins)
  rw [← HY.out]
  obtain ⟨A, b, o, c', e, hA, hle, hm, hcell⟩ := hc
  simp only [Value.slice.injEq, true_and] at e
  obtain ⟨rfl, rfl⟩ := e
  obtain ⟨hlb, s, e0, e1, -, -, h4, -, -⟩ := hcell i hi
  obtain rfl := hA (by omega)
  obtain ⟨A4, b4, o4, c4, rfl, hA4, hle4, hm4, hc4⟩ := h4.opens
  obtain ⟨n, HN⟩ := named c.nodes.length
  rw [← HN.out] at hi hm
  rw [← HN.out]
  unfold maxLen at hm hm4
  obtain ⟨l, HL⟩ := named (c.nodes.getD i default).ins
  rw [← HL.out] at e1 h4 hA4 hc4 hm4 HY
  obtain ⟨W1, HW1⟩ := named (w.alloc (.cells #[.slice (some ⟨b, o, none⟩) n c0, .slice A1 n1 c1, .slice A2 n2 c2, .slice A3 n3 c3, .func (.func 110) #[] #[.pointer (some ⟨q, 0, none⟩)]] 121))
  have hb1 : Below w.heap.size w W1 := by rw [HW1.out]; exact below_new (Below.refl _ _) _
  have x0 : W1.cell? ⟨w.heap.size, 0, none⟩ = some (.slice (some ⟨b, o, none⟩) n c0) := by rw [HW1.out, World.cell?_alloc_at _ _ _ _ rfl]; rfl
  have x4 : W1.cell? ⟨w.heap.size, 4, none⟩ = some (.func (.func 110) #[] #[.pointer (some ⟨q, 0, none⟩)]) := by rw [HW1.out, World.cell?_alloc_at _ _ _ _ rfl]; rfl
  have f1 : W1.cell? ⟨b, o + i * 4 + 1, none⟩ = some (.slice A4 l.length c4) := (hb1.cell (p := ⟨b, _, none⟩) (by show b < w.heap.size; omega)).trans e1
  have HQ : Hid (∀ W, Below W1.heap.size W1 W → ∀ x, Calls Tryz.prog 110 #[.int .i64 x, .pointer (some ⟨q, 0, none⟩)] W fun e w' => e = .returned (.int .u8 (valA nets x)) ∧ W = w') :=
    Lib.hid fun W hb x => val1_any nets x q W (hq.below (joinB hb1 hb))
  have hz1 : w.heap.size < W1.heap.size := by rw [HW1.out]; simp
  have HB1 := Lib.hid hb1
  have HA4 := Lib.hid hA4
  have HC4 := Lib.hid hc4
  clear hA hcell e0 e1 h4 hA4 hc4 hle4 hq hle
  have HF1 := Lib.hid f1
  have HX0 := Lib.hid x0
  have HX4 := Lib.hid x4
  by_cases h1 : l.length = 1
  · obtain rfl := HA4.out (by omega)
    obtain ⟨hlb4, hx⟩ := HC4.out 0 (by omega)
    rw [Nat.add_zero] at hx
    have g0 : ∀ xx : Beh W1, xx.x.cell? ⟨b4, o4, none⟩ = some (.int .i64 (l.getD 0 0)) := fun xx => ((joinB HB1.out xx.below).cell (p := ⟨b4, o4, none⟩) (by show b4 < w.heap.size; omega)).trans hx
    have g4 : ∀ xx : Beh W1, xx.x.cell? ⟨w.heap.size, 4, none⟩ = some (.func (.func 110) #[] #[.pointer (some ⟨q, 0, none⟩)]) := fun xx => (xx.below.cell (p := ⟨w.heap.size, 4, none⟩) hz1).trans HX4.out
    have hy : y = rd (valA nets (l.getD 0 0)) := by rw [HY.out]; unfold dataV; rw [if_pos h1]
    rw [h1] at f1
    have H1 := Lib.hid h1
    obtain ⟨x, HX⟩ := named (l.getD 0 0)
    rw [← HX.out] at g0 hy
    obtain ⟨u, HU⟩ := named (valA nets x)
    rw [← HU.out] at hy
    have HYF := Lib.hid hy
    have HV : Hid (∀ xx : Beh W1, Calls Tryz.prog 110 #[.int .i64 x, .pointer (some ⟨q, 0, none⟩)] xx.x fun e w' => e = .returned (.int .u8 u) ∧ xx.x = w') := Lib.hid fun xx => by have := HQ.out xx.x xx.below x; rw [← HU.out] at this; exact this
    have HR : Hid (∀ xx : Beh W1, Calls Tryz.prog 112 #[.int .u8 u] xx.x fun e w' => e = .returned (.int .u8 y) ∧ xx.x = w') := Lib.hid fun xx => by rw [HYF.out]; exact Lg.read_any u xx.x
    clear hx hy h1
    go_enter Tryz.func120, Tryz.ntmps120
    go_upto_region 1 with (fail)
    rw [← HW1.out]
    go_upto_region 4 with (fail)
    refine region_class (w0 := W1) (Below.refl _ _) (by kernel_rfl) (by kernel_rfl) ?_
    repeat (first
      | go_big_quiet_skip
      | (go_big_quiet_want; go_big_quiet_op; first
        | go_big_quiet_on
        | (apply Exists.intro
           refine ⟨fun xx => ?_, ?_⟩
           focus first
            | (go_at_call 110; with_reducible exact beh_same (HV.out xx))
            | (go_at_call 112; with_reducible exact beh_same (HR.out xx))
           go_big_quiet_on)))
    refine wpQuiet_nil ?_
    rintro w9 ⟨⟨wz, hz⟩, rfl⟩
    go_wp2
    go_ret
    exact ⟨rfl, joinB HB1.out hz⟩
  · have hy : y = 2 := by rw [HY.out]; unfold dataV; exact if_neg h1
    obtain ⟨m, HM⟩ := named l.length
    rw [← HM.out] at h1 f1 hm4
    have t1 : ((m : Int) != 1) = true := by rw [bne_iff_ne]; omega
    have HYF := Lib.hid hy
    clear hy
    go_enter Tryz.func120, Tryz.ntmps120
    go_upto_region 1 with (fail)
    rw [← HW1.out]
    go_wp2
    go_ret
    exact ⟨ret_v HYF.out.symm, HB1.out⟩
end Go.Proofs.YtkaedfgmhfefjaaGreatDoor

namespace Go.Proofs.YtkaedfgmhfefjaaGreatDoor
open Go.RowKit

/-- The cells that lie from o on. -/
def rdC (w : World) (b o m : Nat) : List Value := (List.range m).map fun j => (w.cell? ⟨b, o + j, none⟩).getD undef
/-- Block g of w' is a row of the cells cs. -/
def Fr (w : World) (g : Nat) (t : TypeId) (cs : List Value) : Prop := w.heap[g]? = some (.cells cs.toArray t (0, 0))
theorem Fr.lt {w : World} {g : Nat} {t : TypeId} {cs : List Value} (h : Fr w g t cs) : g < w.heap.size := (Array.getElem?_eq_some_iff.1 h).1
theorem Fr.cell {w : World} {g : Nat} {t : TypeId} {cs : List Value} (h : Fr w g t cs) (j : Nat) : w.cell? ⟨g, j, none⟩ = cs[j]? := by
  unfold Fr at h; simp [World.cell?, h]
theorem Fr.frozen {w : World} {g : Nat} {t : TypeId} {cs : List Value} (h : Fr w g t cs) (j : Nat) : w.frozen? ⟨g, j, none⟩ = false := by
  unfold Fr at h; simp [World.frozen?, h]
theorem Fr.set {w : World} {g : Nat} {t : TypeId} {cs : List Value} (h : Fr w g t cs) (j : Nat) (v : Value) : Fr (w.setCell ⟨g, j, none⟩ v) g t (cs.set j v) := by
  unfold Fr at *
  rw [setCell_eq_setRow w g j cs.toArray t (0, 0) v h]
  rw [setRow_heap w g cs.toArray _ t _ h]
  simp
theorem Fr.kept {w w' : World} {g : Nat} {t : TypeId} {cs : List Value} {row : Option Nat} (h : Fr w g t cs) (hg : w.grownBy w' row) (hne : some g ≠ row) : Fr w' g t cs := (hg.block g h.lt hne).trans h
theorem Fr.below {w w' : World} {g : Nat} {t : TypeId} {cs : List Value} (h : Fr w g t cs) (hb : Below w.heap.size w w') : Fr w' g t cs := (hb.block g h.lt).trans h
theorem Fr.row {w : World} {g : Nat} {l : List Int} (h : Fr w g 3 (l.map (Value.int .i64))) (hm : l.length ≤ maxLen) : Row w g l := by
  refine ⟨by simp, .inr ⟨g, l.length, _, rfl, Nat.le_refl _, h, Nat.le_refl _, hm, by simp, by rw [List.toList_toArray, Nat.mul_one, List.take_of_length_le (by simp)]⟩⟩

theorem info_str : (Tryz.prog.info? 9).map (fun i => (i.zero, i.size, i.bytes)) = some (some (.string ⟨#[]⟩), 1, 16) := by kernel_rfl

end Go.Proofs.YtkaedfgmhfefjaaGreatDoor
