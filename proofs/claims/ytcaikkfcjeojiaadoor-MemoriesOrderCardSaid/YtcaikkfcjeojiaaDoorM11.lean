/- The texts Rlp Rlv Smp. -/
import Derived.Test.YtcaikkfcjeojiaaDoorM06
import Derived.Test.YtcaikkfcjeojiaaDoorM10
import Derived.Test.YtcaikkfcjeojiaaDoorM07
namespace Go.Proofs.YtcaikkfcjeojiaaDoor

theorem lat_nat (lv : List Int) {x : Int} (h : 0 ≤ x) : lat lv ((x.toNat : Nat) : Int) = lat lv x := by rw [Int.toNat_of_nonneg h]
/-- One pin of node i: its level is raised. -/
def rpin (i : Nat) (s : List Int × Bool) (x : Int) : List Int × Bool := if lat s.1 i < lat s.1 x + 1 then (s.1.set i (lat s.1 x + 1), true) else s

/-- A round from prev: nodes before k, and the pins l of node k, are done. -/
structure RI (nodes : List Nd) (prev : List Int) (k : Nat) (l : List Int) (s : List Int × Bool) : Prop where
  len : s.1.length = nodes.length
  pos : ∀ i : Nat, 0 ≤ lat s.1 i
  up : ∀ i : Nat, lat prev i ≤ lat s.1 i
  same : s.2 = false → s.1 = prev
  le : ∀ L, Lvl nodes L → ∀ i : Nat, i < nodes.length → lat s.1 i ≤ lat L i
  old : ∀ j : Nat, j < k → ∀ x ∈ dep nodes j, lat prev x + 1 ≤ lat s.1 j
  now : ∀ x ∈ l, lat prev x + 1 ≤ lat s.1 k
  chg : s.2 = true → ∃ i : Nat, i < nodes.length ∧ lat prev i < lat s.1 i
theorem RI.pin {nodes : List Nd} {prev : List Int} {k : Nat} {l : List Int} {s : List Int × Bool} (hw : Wf nodes) (h : RI nodes prev k l s) (hk : k < nodes.length) {x : Int} (hx : x ∈ dep nodes k) : RI nodes prev k (l ++ [x]) (rpin k s x) := by
  have hb := hw.dep (i := (k : Int)) (by simpa using hk) hx
  have hup := h.up x.toNat
  rw [lat_nat _ hb.1, lat_nat _ hb.1] at hup
  unfold rpin
  by_cases hr : lat s.1 k < lat s.1 x + 1
  · rw [if_pos hr]
    have hset : ∀ i : Nat, lat (s.1.set k (lat s.1 x + 1)) i = if i = k then lat s.1 x + 1 else lat s.1 i := fun i => by
      rw [lat_set _ (by omega)]
      by_cases e : i = k
      · rw [if_pos e, if_pos ⟨by omega, by rw [h.len]; exact hk⟩]
      · rw [if_neg e, if_neg (fun h' => e (by omega))]
    have hge : ∀ i : Nat, lat s.1 i ≤ lat (s.1.set k (lat s.1 x + 1)) i := fun i => by
      rw [hset]
      split
      · rename_i e; subst e; omega
      · exact Int.le_refl _
    refine ⟨by simp [h.len], fun i => Int.le_trans (h.pos i) (hge i), fun i => Int.le_trans (h.up i) (hge i), (fun e => by cases e), fun L hL i hi => ?_, fun j hj y hy => Int.le_trans (h.old j hj y hy) (hge j), fun y hy => ?_, fun _ => ⟨k, hk, ?_⟩⟩
    · show lat (s.1.set k (lat s.1 x + 1)) i ≤ _
      rw [hset]
      split
      · rename_i e; subst e
        have h1 := h.le L hL x.toNat (by omega)
        rw [lat_nat _ hb.1, lat_nat _ hb.1] at h1
        have h2 := hL.lt (i := (i : Int)) (by omega) (by omega) hx
        omega
      · exact h.le L hL i hi
    · show _ ≤ lat (s.1.set k (lat s.1 x + 1)) k
      rcases List.mem_append.1 hy with hy | hy
      · exact Int.le_trans (h.now y hy) (hge k)
      · obtain rfl := List.mem_singleton.1 hy
        rw [hset, if_pos rfl]; omega
    · show _ < lat (s.1.set k (lat s.1 x + 1)) k
      rw [hset, if_pos rfl]
      have := h.up k
      omega
  · rw [if_neg hr]
    refine ⟨h.len, h.pos, h.up, h.same, h.le, h.old, fun y hy => ?_, h.chg⟩
    rcases List.mem_append.1 hy with hy | hy
    · exact h.now y hy
    · obtain rfl := List.mem_singleton.1 hy
      omega
theorem RI.next {nodes : List Nd} {prev : List Int} {k : Nat} {s : List Int × Bool} (h : RI nodes prev k (dep nodes k) s) : RI nodes prev (k + 1) [] s :=
  ⟨h.len, h.pos, h.up, h.same, h.le, fun j hj x hx => by
    by_cases e : j = k
    · subst e; exact h.now x hx
    · exact h.old j (by omega) x hx, fun x hx => absurd hx (List.not_mem_nil), h.chg⟩

/-- Between the rounds. -/
structure RO (nodes : List Nd) (k : Nat) (out : List Int) : Prop where
  len : out.length = nodes.length
  pos : ∀ i : Nat, 0 ≤ lat out i
  le : ∀ L, Lvl nodes L → ∀ i : Nat, i < nodes.length → lat out i ≤ lat L i
  eq : ∀ L, Lvl nodes L → ∀ i : Nat, i < nodes.length → lat L i ≤ (k : Int) → lat out i = lat L i
theorem levf_ge {L : List Int} {l : List Int} {b : Int} (h0 : 0 ≤ b) (h : ∀ x ∈ l, lat L x + 1 ≤ b) : levf L l ≤ b := by
  rcases levf_is L l with e | ⟨x, hx, e⟩
  · omega
  · have := h x hx; omega
theorem RO.next {nodes : List Nd} {k : Nat} {out : List Int} {s : List Int × Bool} (hw : Wf nodes) (h : RO nodes k out) (hs : RI nodes out nodes.length [] s) : RO nodes (k + 1) s.1 := by
  refine ⟨hs.len, hs.pos, hs.le, fun L hL i hi hlt => ?_⟩
  have h1 := hs.le L hL i hi
  have h2 : lat L i = levf out (dep nodes i) := by
    rw [hL.2 i hi]
    refine levf_congr fun x hx => ?_
    have hb := hw.dep (i := (i : Int)) (by simpa using hi) hx
    have h3 := hL.lt (i := (i : Int)) (by omega) (by omega) hx
    have h4 := h.eq L hL x.toNat (by omega) (by rw [lat_nat _ hb.1]; omega)
    rw [lat_nat _ hb.1, lat_nat _ hb.1] at h4
    exact h4.symm
  have h3 := levf_ge (hs.pos i) (hs.old i hi)
  omega

theorem countP_lt {α : Type} {p q : α → Bool} : ∀ {l : List α}, (∀ x ∈ l, p x = true → q x = true) → (∃ x ∈ l, q x = true ∧ p x = false) → l.countP p + 1 ≤ l.countP q
  | [], _, ⟨x, hx, _⟩ => absurd hx (List.not_mem_nil)
  | y :: l, h, ⟨x, hx, hq, hp⟩ => by
    have hmono : l.countP p ≤ l.countP q := List.countP_mono_left fun x hx h' => h x (List.mem_cons_of_mem _ hx) h'
    rw [List.countP_cons, List.countP_cons]
    rcases List.mem_cons.1 hx with rfl | hx
    · rw [hq, hp]; simp; omega
    · have ih := countP_lt (l := l) (fun x hx => h x (List.mem_cons_of_mem _ hx)) ⟨x, hx, hq, hp⟩
      by_cases hy : p y = true
      · have := h y List.mem_cons_self hy
        rw [hy, this]; simp; omega
      · have : p y = false := by simpa using hy
        rw [this]
        simp; split <;> omega
/-- Below a node of a level every level has a node. -/
theorem Lvl.down {nodes : List Nd} {L : List Int} (hw : Wf nodes) (h : Lvl nodes L) : ∀ (m : Nat) (i : Nat), i < nodes.length → lat L i = (m : Int) → ∀ m' : Nat, m' ≤ m → ∃ j : Nat, j < nodes.length ∧ lat L j = (m' : Int)
  | 0, i, hi, e, m', hm => ⟨i, hi, by rw [e]; omega⟩
  | m + 1, i, hi, e, m', hm => by
    by_cases hmm : m' = m + 1
    · subst hmm; exact ⟨i, hi, e⟩
    · rcases levf_is L (dep nodes i) with e0 | ⟨x, hx, e0⟩
      · rw [← h.2 i hi] at e0; omega
      · rw [← h.2 i hi] at e0
        have hb := hw.dep (i := (i : Int)) (by simpa using hi) hx
        exact Lvl.down hw h m x.toNat (by omega) (by rw [lat_nat _ hb.1]; omega) m' (by omega)
theorem Lvl.bound {nodes : List Nd} {L : List Int} (hw : Wf nodes) (h : Lvl nodes L) {i : Nat} (hi : i < nodes.length) : lat L i < (nodes.length : Int) := by
  have h0 := h.nonneg hi
  have key : ∀ m : Nat, (m : Int) ≤ lat L i → m + 1 ≤ (List.range nodes.length).countP fun (j : Nat) => decide (lat L j ≤ (m : Int)) := by
    intro m
    induction m with
    | zero =>
      intro hm
      obtain ⟨j, hj, e⟩ := h.down hw (lat L i).toNat i hi (by omega) 0 (Nat.zero_le _)
      have : 0 < (List.range nodes.length).countP fun (j : Nat) => decide (lat L j ≤ ((0 : Nat) : Int)) := List.countP_pos_iff.2 ⟨j, List.mem_range.2 hj, by simp [e]⟩
      omega
    | succ m ih =>
      intro hm
      have h1 := ih (by omega)
      obtain ⟨j, hj, e⟩ := h.down hw (lat L i).toNat i hi (by omega) (m + 1) (by omega)
      have := countP_lt (l := List.range nodes.length) (p := fun (j : Nat) => decide (lat L j ≤ (m : Int))) (q := fun (j : Nat) => decide (lat L j ≤ ((m + 1 : Nat) : Int)))
        (fun x _ hx => by simp at hx ⊢; omega) ⟨j, List.mem_range.2 hj, by simp [e], by simp [e]; omega⟩
      omega
  have := key (lat L i).toNat (by omega)
  have h2 : (List.range nodes.length).countP (fun (j : Nat) => decide (lat L j ≤ (((lat L i).toNat : Nat) : Int))) ≤ (List.range nodes.length).length := List.countP_le_length
  rw [List.length_range] at h2
  omega
/-- A round that changes something: there is another. -/
theorem RO.more {nodes : List Nd} {k : Nat} {out : List Int} {s : List Int × Bool} (hw : Wf nodes) (h : RO nodes k out) (hs : RI nodes out nodes.length [] s) (ht : s.2 = true) (hL : ∃ L, Lvl nodes L) : k + 1 ≤ nodes.length := by
  obtain ⟨L, hL⟩ := hL
  refine Classical.byContradiction fun hk => ?_
  obtain ⟨i, hi, hlt⟩ := hs.chg ht
  have h1 := hL.bound hw hi
  have h2 := h.eq L hL i hi (by omega)
  have h3 := hs.le L hL i hi
  omega

/-! The order. -/
theorem Lex.trans {L : List Int} {a b c : Int} (h : Lex L a b) (h' : Lex L b c) : Lex L a c := by
  rcases h with h | ⟨h, h2⟩ <;> rcases h' with h' | ⟨h', h3⟩
  · exact .inl (by omega)
  · exact .inl (by omega)
  · exact .inl (by omega)
  · exact .inr ⟨by omega, by omega⟩
end Go.Proofs.YtcaikkfcjeojiaaDoor

namespace Go.Proofs.YtcaikkfcjeojiaaDoor
open Go.RowKit

section
variable {w wr w1 : World} {vs : List Value} {out : List Int}
end
/-- Bounded by b. -/
def Bd (l : List Int) (b : Nat) : Prop := ∀ i : Nat, lat l i ≤ (b : Int)
theorem Bd.zero (n : Nat) : Bd (List.replicate n 0) 0 := fun i => by
  unfold lat; rw [List.getD_eq_getElem?_getD, List.getElem?_replicate]; split <;> exact Int.le_refl _
theorem Bd.pin {s : List Int × Bool} {b k : Nat} (h : Bd s.1 b) {x : Int} (hx : 0 ≤ x) : Bd (rpin k s x).1 (b + 1) := fun i => by
  have h1 := h i
  have h2 := h x.toNat
  rw [lat_nat _ hx] at h2
  unfold rpin
  split
  · show lat (s.1.set k _) i ≤ _
    rw [lat_set _ (by omega)]
    split <;> omega
  · omega
theorem Bd.le {l : List Int} {b b' : Nat} (h : Bd l b) (hb : b ≤ b') : Bd l b' := fun i => by have := h i; omega
end Go.Proofs.YtcaikkfcjeojiaaDoor

namespace Go.Proofs.YtcaikkfcjeojiaaDoor

/-- What node i computes of the values out. -/
def gateV (nodes : List Nd) (out : List Int) (i : Int) : Int := evalL (nodes.getD i.toNat default).kind ((nodes.getD i.toNat default).ins.map fun x => cln (lat out x))
/-- One node settled. -/
def stl (nodes : List Nd) (out : List Int) (i : Int) : List Int := if cmb (nodes.getD i.toNat default).kind = true then out.set i.toNat (gateV nodes out i) else out
/-- out are the values of the nets, base those of the nodes that are not combinational. -/
def Net (nodes : List Nd) (base out : List Int) : Prop := out.length = nodes.length ∧ ∀ i : Nat, i < nodes.length → lat out i = if cmb (nodes.getD i default).kind = true then gateV nodes out i else lat base i
/-- The nodes of P are settled. -/
structure StI (nodes : List Nd) (base P out : List Int) : Prop where
  len : out.length = nodes.length
  off : ∀ i : Nat, i < nodes.length → cmb (nodes.getD i default).kind = false → lat out i = lat base i
  on : ∀ y ∈ P, cmb (nodes.getD y.toNat default).kind = true → lat out y = gateV nodes out y

theorem gateV_congr {nodes : List Nd} {out out' : List Int} {i : Int} (h : ∀ x ∈ (nodes.getD i.toNat default).ins, lat out x = lat out' x) : gateV nodes out i = gateV nodes out' i := by
  unfold gateV
  congr 1
  exact List.map_congr_left fun x hx => by rw [h x hx]
theorem dep_ins {nodes : List Nd} {i : Int} (h : cmb (nodes.getD i.toNat default).kind = true) : dep nodes i = (nodes.getD i.toNat default).ins := by
  unfold dep depsOf; rw [if_pos h]
theorem StI.step {nodes : List Nd} {base P out L : List Int} (hw : Wf nodes) (hL : Lvl nodes L) (h : StI nodes base P out) {x : Int} (h0 : 0 ≤ x) (hx : x < (nodes.length : Int))
    (hP : ∀ y ∈ P, 0 ≤ y ∧ y < (nodes.length : Int) ∧ y ≠ x ∧ lat L y ≤ lat L x) : StI nodes base (P ++ [x]) (stl nodes out x) := by
  unfold stl
  by_cases hc : cmb (nodes.getD x.toNat default).kind = true
  · rw [if_pos hc]
    have hset : ∀ y : Int, 0 ≤ y → y ≠ x → lat (out.set x.toNat (gateV nodes out x)) y = lat out y := fun y hy hyx => by
      rw [lat_set _ hy, if_neg (fun e => hyx (by omega))]
    have hx2 : lat (out.set x.toNat (gateV nodes out x)) x = gateV nodes out x := by
      rw [lat_set _ h0, if_pos ⟨by omega, by rw [h.len]; omega⟩]
    have hself : ∀ z ∈ (nodes.getD x.toNat default).ins, lat (out.set x.toNat (gateV nodes out x)) z = lat out z := fun z hz => by
      have hz' : z ∈ dep nodes x := by rw [dep_ins hc]; exact hz
      have := hw.dep (i := x) (by omega) hz'
      exact hset z this.1 fun e => by have := hL.lt h0 (by omega) hz'; rw [e] at this; omega
    refine ⟨by rw [List.length_set]; exact h.len, fun i hi hn => ?_, fun y hy hyc => ?_⟩
    · rw [hset i (by omega) (fun e => by rw [← e] at hc; rw [Int.toNat_natCast] at hc; rw [hc] at hn; cases hn)]
      exact h.off i hi hn
    · rcases List.mem_append.1 hy with hy | hy
      · obtain ⟨p0, p1, p2, p3⟩ := hP y hy
        rw [hset y p0 p2, h.on y hy hyc]
        refine gateV_congr fun z hz => ?_
        have hz' : z ∈ dep nodes y := by rw [dep_ins hyc]; exact hz
        have q := hw.dep (i := y) (by omega) hz'
        exact (hset z q.1 fun e => by have := hL.lt p0 (by omega) hz'; rw [e] at this; omega).symm
      · obtain rfl : y = x := by simpa using hy
        rw [hx2]
        exact (gateV_congr hself).symm
  · rw [if_neg hc]
    refine ⟨h.len, h.off, fun y hy hyc => ?_⟩
    rcases List.mem_append.1 hy with hy | hy
    · exact h.on y hy hyc
    · obtain rfl : y = x := by simpa using hy
      exact absurd hyc hc
theorem Net.same {nodes : List Nd} {base base' out out' L : List Int} (hw : Wf nodes) (hL : Lvl nodes L) (h : Net nodes base out) (h' : Net nodes base' out') (hb : ∀ i : Nat, i < nodes.length → cmb (nodes.getD i default).kind = false → lat base i = lat base' i) : out = out' := by
  have key : ∀ (m : Nat) (i : Nat), i < nodes.length → lat L i < (m : Int) → lat out i = lat out' i := by
    intro m
    induction m with
    | zero => intro i hi hlt; have := hL.nonneg hi; omega
    | succ m ih =>
      intro i hi hlt
      rw [h.2 i hi, h'.2 i hi]
      by_cases hc : cmb (nodes.getD i default).kind = true
      · rw [if_pos hc, if_pos hc]
        refine gateV_congr fun z hz => ?_
        have hz' : z ∈ dep nodes i := by rw [dep_ins (by rw [Int.toNat_natCast]; exact hc)]; exact hz
        have q := hw.dep (i := (i : Int)) (by omega) hz'
        have hl := hL.lt (i := (i : Int)) (by omega) (by omega) hz'
        obtain ⟨k, rfl⟩ := Int.eq_ofNat_of_zero_le q.1
        exact ih k (by omega) (by omega)
      · rw [if_neg hc, if_neg hc]
        exact hb i hi (by simpa using hc)
  refine ext_lat (h.1.trans h'.1.symm) fun i hi => ?_
  have hi' : i < nodes.length := by rw [← h.1]; exact hi
  exact key ((lat L i).toNat + 1) i hi' (by have := hL.nonneg hi'; omega)
end Go.Proofs.YtcaikkfcjeojiaaDoor
