/- The texts Nms Rlp. -/
import Derived.Test.YtcaikkfcjeojiaaDoorM13
import Derived.Test.YtcaikkfcjeojiaaDoorM09
namespace Go.Proofs.YtcaikkfcjeojiaaDoor
open Go.RowKit

/-- r is where s stands first, or -1. -/
def First (l : List ByteArray) (s : ByteArray) (r : Int) : Prop :=
  (r = -1 ∧ ∀ j : Nat, j < l.length → (s.toList == (l.getD j ByteArray.empty).toList) = false) ∨ ∃ k : Nat, k < l.length ∧ r = (k : Int) ∧ (s.toList == (l.getD k ByteArray.empty).toList) = true ∧ ∀ j : Nat, j < k → (s.toList == (l.getD j ByteArray.empty).toList) = false
theorem First.ge {l : List ByteArray} {s : ByteArray} {r : Int} (h : First l s r) : -1 ≤ r ∧ r < l.length := by
  rcases h with ⟨rfl, _⟩ | ⟨k, hk, rfl, _⟩ <;> omega

/-- What the search from behind keeps: r is where s stands first from k on, or -1. -/
def From (l : List ByteArray) (s : ByteArray) (k : Nat) (r : Int) : Prop :=
  (r = -1 ∧ ∀ j : Nat, k ≤ j → j < l.length → (s.toList == (l.getD j ByteArray.empty).toList) = false) ∨ ∃ m : Nat, k ≤ m ∧ m < l.length ∧ r = (m : Int) ∧ (s.toList == (l.getD m ByteArray.empty).toList) = true ∧ ∀ j : Nat, k ≤ j → j < m → (s.toList == (l.getD j ByteArray.empty).toList) = false
theorem From.first {l : List ByteArray} {s : ByteArray} {r : Int} (h : From l s 0 r) : First l s r := by
  rcases h with ⟨h1, h2⟩ | ⟨m, _, h1, h2, h3, h4⟩
  · exact .inl ⟨h1, fun j hj => h2 j (Nat.zero_le _) hj⟩
  · exact .inr ⟨m, h1, h2, h3, fun j hj => h4 j (Nat.zero_le _) hj⟩
theorem From.no {l : List ByteArray} {s : ByteArray} {r : Int} {k : Nat} (h : From l s (k + 1) r) (hk : (s.toList == (l.getD k ByteArray.empty).toList) = false) : From l s k r := by
  rcases h with ⟨h1, h2⟩ | ⟨m, h0, h1, h2, h3, h4⟩
  · refine .inl ⟨h1, fun j hj hl => ?_⟩
    by_cases e : j = k
    · rw [e]; exact hk
    · exact h2 j (by omega) hl
  · refine .inr ⟨m, by omega, h1, h2, h3, fun j hj hm => ?_⟩
    by_cases e : j = k
    · rw [e]; exact hk
    · exact h4 j (by omega) hm
end Go.Proofs.YtcaikkfcjeojiaaDoor

namespace Go.Proofs.YtcaikkfcjeojiaaDoor

theorem lat_nat (lv : List Int) {x : Int} (h : 0 ≤ x) : lat lv ((x.toNat : Nat) : Int) = lat lv x := by rw [Int.toNat_of_nonneg h]
/-- One pin of node i: its level is raised. -/
def rpin (i : Nat) (s : List Int × Bool) (x : Int) : List Int × Bool := if lat s.1 i < lat s.1 x + 1 then (s.1.set i (lat s.1 x + 1), true) else s

/-- A round from prev: nodes before k, and the pins l of node k, are done. -/
structure RI (nodes : List Nd) (prev : List Int) (k : Nat) (l : List Int) (s : List Int × Bool) : Prop where
  len : s.1.length = nodes.length
  pos : ∀ i : Nat, 0 ≤ lat s.1 i
  up : ∀ i : Nat, lat prev i ≤ lat s.1 i
  same : s.2 = false → s.1 = prev
  le : ∀ L, Lvl nodes L → ∀ i : Nat, i < nodes.length → lat s.1 i ≤ lat L i
  old : ∀ j : Nat, j < k → ∀ x ∈ dep nodes j, lat prev x + 1 ≤ lat s.1 j
  now : ∀ x ∈ l, lat prev x + 1 ≤ lat s.1 k
  chg : s.2 = true → ∃ i : Nat, i < nodes.length ∧ lat prev i < lat s.1 i
theorem RI.pin {nodes : List Nd} {prev : List Int} {k : Nat} {l : List Int} {s : List Int × Bool} (hw : Wf nodes) (h : RI nodes prev k l s) (hk : k < nodes.length) {x : Int} (hx : x ∈ dep nodes k) : RI nodes prev k (l ++ [x]) (rpin k s x) := by
  have hb := hw.dep (i := (k : Int)) (by simpa using hk) hx
  have hup := h.up x.toNat
  rw [lat_nat _ hb.1, lat_nat _ hb.1] at hup
  unfold rpin
  by_cases hr : lat s.1 k < lat s.1 x + 1
  · rw [if_pos hr]
    have hset : ∀ i : Nat, lat (s.1.set k (lat s.1 x + 1)) i = if i = k then lat s.1 x + 1 else lat s.1 i := fun i => by
      rw [lat_set _ (by omega)]
      by_cases e : i = k
      · rw [if_pos e, if_pos ⟨by omega, by rw [h.len]; exact hk⟩]
      · rw [if_neg e, if_neg (fun h' => e (by omega))]
    have hge : ∀ i : Nat, lat s.1 i ≤ lat (s.1.set k (lat s.1 x + 1)) i := fun i => by
      rw [hset]
      split
      · rename_i e; subst e; omega
      · exact Int.le_refl _
    refine ⟨by simp [h.len], fun i => Int.le_trans (h.pos i) (hge i), fun i => Int.le_trans (h.up i) (hge i), (fun e => by cases e), fun L hL i hi => ?_, fun j hj y hy => Int.le_trans (h.old j hj y hy) (hge j), fun y hy => ?_, fun _ => ⟨k, hk, ?_⟩⟩
    · show lat (s.1.set k (lat s.1 x + 1)) i ≤ _
      rw [hset]
      split
      · rename_i e; subst e
        have h1 := h.le L hL x.toNat (by omega)
        rw [lat_nat _ hb.1, lat_nat _ hb.1] at h1
        have h2 := hL.lt (i := (i : Int)) (by omega) (by omega) hx
        omega
      · exact h.le L hL i hi
    · show _ ≤ lat (s.1.set k (lat s.1 x + 1)) k
      rcases List.mem_append.1 hy with hy | hy
      · exact Int.le_trans (h.now y hy) (hge k)
      · obtain rfl := List.mem_singleton.1 hy
        rw [hset, if_pos rfl]; omega
    · show _ < lat (s.1.set k (lat s.1 x + 1)) k
      rw [hset, if_pos rfl]
      have := h.up k
      omega
  · rw [if_neg hr]
    refine ⟨h.len, h.pos, h.up, h.same, h.le, h.old, fun y hy => ?_, h.chg⟩
    rcases List.mem_append.1 hy with hy | hy
    · exact h.now y hy
    · obtain rfl := List.mem_singleton.1 hy
      omega
theorem RI.next {nodes : List Nd} {prev : List Int} {k : Nat} {s : List Int × Bool} (h : RI nodes prev k (dep nodes k) s) : RI nodes prev (k + 1) [] s :=
  ⟨h.len, h.pos, h.up, h.same, h.le, fun j hj x hx => by
    by_cases e : j = k
    · subst e; exact h.now x hx
    · exact h.old j (by omega) x hx, fun x hx => absurd hx (List.not_mem_nil), h.chg⟩

/-- Between the rounds. -/
structure RO (nodes : List Nd) (k : Nat) (out : List Int) : Prop where
  len : out.length = nodes.length
  pos : ∀ i : Nat, 0 ≤ lat out i
  le : ∀ L, Lvl nodes L → ∀ i : Nat, i < nodes.length → lat out i ≤ lat L i
  eq : ∀ L, Lvl nodes L → ∀ i : Nat, i < nodes.length → lat L i ≤ (k : Int) → lat out i = lat L i
theorem levf_ge {L : List Int} {l : List Int} {b : Int} (h0 : 0 ≤ b) (h : ∀ x ∈ l, lat L x + 1 ≤ b) : levf L l ≤ b := by
  rcases levf_is L l with e | ⟨x, hx, e⟩
  · omega
  · have := h x hx; omega
theorem RO.next {nodes : List Nd} {k : Nat} {out : List Int} {s : List Int × Bool} (hw : Wf nodes) (h : RO nodes k out) (hs : RI nodes out nodes.length [] s) : RO nodes (k + 1) s.1 := by
  refine ⟨hs.len, hs.pos, hs.le, fun L hL i hi hlt => ?_⟩
  have h1 := hs.le L hL i hi
  have h2 : lat L i = levf out (dep nodes i) := by
    rw [hL.2 i hi]
    refine levf_congr fun x hx => ?_
    have hb := hw.dep (i := (i : Int)) (by simpa using hi) hx
    have h3 := hL.lt (i := (i : Int)) (by omega) (by omega) hx
    have h4 := h.eq L hL x.toNat (by omega) (by rw [lat_nat _ hb.1]; omega)
    rw [lat_nat _ hb.1, lat_nat _ hb.1] at h4
    exact h4.symm
  have h3 := levf_ge (hs.pos i) (hs.old i hi)
  omega

theorem countP_lt {α : Type} {p q : α → Bool} : ∀ {l : List α}, (∀ x ∈ l, p x = true → q x = true) → (∃ x ∈ l, q x = true ∧ p x = false) → l.countP p + 1 ≤ l.countP q
  | [], _, ⟨x, hx, _⟩ => absurd hx (List.not_mem_nil)
  | y :: l, h, ⟨x, hx, hq, hp⟩ => by
    have hmono : l.countP p ≤ l.countP q := List.countP_mono_left fun x hx h' => h x (List.mem_cons_of_mem _ hx) h'
    rw [List.countP_cons, List.countP_cons]
    rcases List.mem_cons.1 hx with rfl | hx
    · rw [hq, hp]; simp; omega
    · have ih := countP_lt (l := l) (fun x hx => h x (List.mem_cons_of_mem _ hx)) ⟨x, hx, hq, hp⟩
      by_cases hy : p y = true
      · have := h y List.mem_cons_self hy
        rw [hy, this]; simp; omega
      · have : p y = false := by simpa using hy
        rw [this]
        simp; split <;> omega
/-- Below a node of a level every level has a node. -/
theorem Lvl.down {nodes : List Nd} {L : List Int} (hw : Wf nodes) (h : Lvl nodes L) : ∀ (m : Nat) (i : Nat), i < nodes.length → lat L i = (m : Int) → ∀ m' : Nat, m' ≤ m → ∃ j : Nat, j < nodes.length ∧ lat L j = (m' : Int)
  | 0, i, hi, e, m', hm => ⟨i, hi, by rw [e]; omega⟩
  | m + 1, i, hi, e, m', hm => by
    by_cases hmm : m' = m + 1
    · subst hmm; exact ⟨i, hi, e⟩
    · rcases levf_is L (dep nodes i) with e0 | ⟨x, hx, e0⟩
      · rw [← h.2 i hi] at e0; omega
      · rw [← h.2 i hi] at e0
        have hb := hw.dep (i := (i : Int)) (by simpa using hi) hx
        exact Lvl.down hw h m x.toNat (by omega) (by rw [lat_nat _ hb.1]; omega) m' (by omega)
theorem Lvl.bound {nodes : List Nd} {L : List Int} (hw : Wf nodes) (h : Lvl nodes L) {i : Nat} (hi : i < nodes.length) : lat L i < (nodes.length : Int) := by
  have h0 := h.nonneg hi
  have key : ∀ m : Nat, (m : Int) ≤ lat L i → m + 1 ≤ (List.range nodes.length).countP fun (j : Nat) => decide (lat L j ≤ (m : Int)) := by
    intro m
    induction m with
    | zero =>
      intro hm
      obtain ⟨j, hj, e⟩ := h.down hw (lat L i).toNat i hi (by omega) 0 (Nat.zero_le _)
      have : 0 < (List.range nodes.length).countP fun (j : Nat) => decide (lat L j ≤ ((0 : Nat) : Int)) := List.countP_pos_iff.2 ⟨j, List.mem_range.2 hj, by simp [e]⟩
      omega
    | succ m ih =>
      intro hm
      have h1 := ih (by omega)
      obtain ⟨j, hj, e⟩ := h.down hw (lat L i).toNat i hi (by omega) (m + 1) (by omega)
      have := countP_lt (l := List.range nodes.length) (p := fun (j : Nat) => decide (lat L j ≤ (m : Int))) (q := fun (j : Nat) => decide (lat L j ≤ ((m + 1 : Nat) : Int)))
        (fun x _ hx => by simp at hx ⊢; omega) ⟨j, List.mem_range.2 hj, by simp [e], by simp [e]; omega⟩
      omega
  have := key (lat L i).toNat (by omega)
  have h2 : (List.range nodes.length).countP (fun (j : Nat) => decide (lat L j ≤ (((lat L i).toNat : Nat) : Int))) ≤ (List.range nodes.length).length := List.countP_le_length
  rw [List.length_range] at h2
  omega
/-- A round that changes something: there is another. -/
theorem RO.more {nodes : List Nd} {k : Nat} {out : List Int} {s : List Int × Bool} (hw : Wf nodes) (h : RO nodes k out) (hs : RI nodes out nodes.length [] s) (ht : s.2 = true) (hL : ∃ L, Lvl nodes L) : k + 1 ≤ nodes.length := by
  obtain ⟨L, hL⟩ := hL
  refine Classical.byContradiction fun hk => ?_
  obtain ⟨i, hi, hlt⟩ := hs.chg ht
  have h1 := hL.bound hw hi
  have h2 := h.eq L hL i hi (by omega)
  have h3 := hs.le L hL i hi
  omega

/-! The order. -/
theorem Lex.trans {L : List Int} {a b c : Int} (h : Lex L a b) (h' : Lex L b c) : Lex L a c := by
  rcases h with h | ⟨h, h2⟩ <;> rcases h' with h' | ⟨h', h3⟩
  · exact .inl (by omega)
  · exact .inl (by omega)
  · exact .inl (by omega)
  · exact .inr ⟨by omega, by omega⟩
end Go.Proofs.YtcaikkfcjeojiaaDoor
