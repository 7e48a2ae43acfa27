/- The reference's Order. -/
import Derived.Test.YtmghdeodkeenoaaDoorRlv
namespace Go.Proofs.YtmghdeodkeenoaaDoor
open Go.RowKit

theorem ordTo_done {L : List Int} {n m : Nat} (h : (ordTo L n m).length = n) (hm : m ≤ n) (hL : ∀ i : Nat, i < n → 0 ≤ lat L i ∧ lat L i < (n : Int)) : ordTo L n m = ordTo L n n := by
  have hs : (ordTo L n m).Sublist (ordTo L n n) := sorted_sub (r := Lex L) (fun _ _ _ h h' => Lex.trans h h') Lex.irr (ordTo_sorted L n m) (ordTo_sorted L n n) fun x hx => by
    obtain ⟨i, rfl, h1, h2, h3⟩ := ordTo_mem.1 hx
    exact ordTo_mem.2 ⟨i, rfl, h1, h2, by omega⟩
  exact hs.eq_of_length_le (by rw [h]; exact ordTo_len L n n)

/-- What stands while the reference's Order runs. -/
structure OO (w : World) (vs : List Value) (g T : Nat) (L : List Int) (wr : World) (sv : Value) (l : List Int) : Prop where
  bel : Below w.heap.size w wr
  box : Fr wr w.heap.size 27 vs
  row : Row wr g L
  stk : Stk wr T sv l
  hg : g < T
  hw : w.heap.size < T
  hT : T ≤ wr.heap.size
theorem OO.push {w wr w1 : World} {vs : List Value} {g T : Nat} {L l : List Int} {sv v' : Value} {x : Int} {o : Obj} (h : OO w vs g T L wr sv l) (hown : w1.ownsRow T 3 1 v' (l.length + 1) (l.map (Value.int .i64) ++ [.int .i64 x])) (hgr : (wr.alloc o).grownBy w1 sv.ownBlock) : OO w vs g T L w1 v' (l ++ [x]) := by
  have hlt := World.ownsRow.lt h.stk
  have h1 := h.hg
  have h2 := h.hw
  have hq : ∀ q, sv.ownBlock = some q → T ≤ q := fun q e => (hlt q e).1
  have h3 := h.hT
  refine ⟨(below_new h.bel o).grown hgr (by simp; have := h.bel.size; omega) (fun q e => by have := hq q e; omega), ?_, (h.row.kept (World.grownBy_alloc wr o none) (by simp)).kept hgr (fun e => by have := hq g e.symm; omega), ?_, h1, h2, by have := hgr.size; simp at this; omega⟩
  · exact (h.box.alloc o).kept hgr (fun e => by have := hq _ e.symm; omega)
  · unfold Stk
    rw [List.length_append, List.map_append]
    exact hown

set_option maxRecDepth 100000 in
set_option maxHeartbeats 8000000 in
theorem rord_any (c : Ck) (v : Value) (w : World) (B : Nat) (hB : B ≤ w.heap.size) (hc : Cir w B v c) (hw : Wf c.nodes) (hsz : c.nodes.length ≤ 1000000) (hpn : ∀ k, k < c.nodes.length → (c.nodes.getD k default).ins.length ≤ 100) (L : List Int) (hL : Lvl c.nodes L) :
    Calls Tryd.prog 33 #[v] w fun e w' => (∃ s, e = .returned s ∧ Is w' w'.heap.size s (ordTo L c.nodes.length c.nodes.length)) ∧ Below w.heap.size w w' := by
  have hb0 := hc
  obtain ⟨v0, v1, v2, v3, rfl, hns, hss, hms, hos⟩ := hc
  obtain ⟨A0, b, o, c0, rfl, -⟩ := id hns
  obtain ⟨A1, b1, o1, c1, rfl, -⟩ := id hss
  obtain ⟨A2, b2, o2, c2, rfl, -⟩ := id hms
  obtain ⟨A3, b3, o3, c3, rfl, -⟩ := id hos
  have hbW : Below w.heap.size w (w.alloc (.cells #[.slice A0 c.nodes.length c0, .slice A1 c.names.length c1, .slice A2 c.mems.length c2, .slice A3 c.outs.length c3] 27)) := (Below.refl _ _).alloc (Nat.le_refl _) _
  have hfr : Fr (w.alloc (.cells #[.slice A0 c.nodes.length c0, .slice A1 c.names.length c1, .slice A2 c.mems.length c2, .slice A3 c.outs.length c3] 27)) w.heap.size 27 [.slice A0 c.nodes.length c0, .slice A1 c.names.length c1, .slice A2 c.mems.length c2, .slice A3 c.outs.length c3] := Fr.made w _ _ rfl
  have hlv := rlev_any c _ _ B (Nat.le_trans hB hbW.size) (hb0.below (hbW.mono hB)) hw hsz hpn
  have hbnd : ∀ i : Nat, i < c.nodes.length → 0 ≤ lat L i ∧ lat L i < (c.nodes.length : Int) := fun i hi => ⟨hL.nonneg hi, hL.bound hw hi⟩
  have hlv2 := hlv.mono (R' := fun e w' => e = .returned (.tuple #[.slice (some ⟨w.heap.size + 1 + 1, 0, none⟩) c.nodes.length c.nodes.length, .bool true]) ∧ Row w' (w.heap.size + 1 + 1) L ∧ Below (w.alloc (.cells #[.slice A0 c.nodes.length c0, .slice A1 c.names.length c1, .slice A2 c.mems.length c2, .slice A3 c.outs.length c3] 27)).heap.size (w.alloc (.cells #[.slice A0 c.nodes.length c0, .slice A1 c.names.length c1, .slice A2 c.mems.length c2, .slice A3 c.outs.length c3] 27)) w') fun e w' ⟨h1, h2⟩ => by
    rcases h2 with ⟨L', h3, h4, h5⟩ | ⟨h3, -⟩
    · have e1 : L' = L := h3.unique hw hL
      rw [e1] at h5
      have hz : (w.alloc (.cells #[.slice A0 c.nodes.length c0, .slice A1 c.names.length c1, .slice A2 c.mems.length c2, .slice A3 c.outs.length c3] 27)).heap.size = w.heap.size + 1 := by simp
      rw [hz] at h4 h5
      exact ⟨h4, h5, h1⟩
    · exact absurd ⟨L, hL⟩ h3
  have hlen : L.length = c.nodes.length := hL.1
  clear hlv hns hss hms hos hb0 hw hpn hL
  generalize c.names.length = n1 at hbW hfr hlv2 ⊢
  generalize c.mems.length = n2 at hbW hfr hlv2 ⊢
  generalize c.outs.length = n3 at hbW hfr hlv2 ⊢
  obtain ⟨n, HN⟩ := named c.nodes.length
  rw [← HN.out] at hbW hsz hfr hlv2 hbnd hlen
  rw [← HN.out]
  have HLV := Lib.hid hlv2
  have HBW := Lib.hid hbW
  have HFR := Lib.hid hfr
  have HBD := Lib.hid hbnd
  have HLN := Lib.hid hlen
  clear hlv2 hbW hfr hbnd hlen
  obtain ⟨i1, hi1, hz0, hz1, hz2⟩ := info_parts info_int
  have HI := Lib.hid (And.intro hi1 (And.intro hz0 (And.intro hz1 hz2)))
  clear hi1 hz0 hz1 hz2
  go_enter Tryd.func33, Tryd.ntmps33
  go_wp2_with (go_at_call 47; (with_reducible refine HLV.out.mono ?_); rintro e w1 ⟨rfl, hr, hb⟩; have HR := Lib.hid hr; have HB := Lib.hid hb; clear hr hb)
  obtain ⟨T, HT⟩ := named w1.heap.size
  obtain ⟨g, HG⟩ := named (w.heap.size + 1 + 1)
  have hR := HR.out
  rw [← HG.out] at hR
  rw [← HG.out]
  have hst : OO w [.slice A0 n c0, .slice A1 n1 c1, .slice A2 n2 c2, .slice A3 n3 c3] g T L w1 (.slice none 0 0) [] :=
    ⟨joinB HBW.out HB.out, HFR.out.below HB.out, hR, Stk.nil _ _, by rw [HT.out]; exact hR.lt, by have := hR.lt; rw [HT.out]; rw [HG.out] at this; omega, by rw [HT.out]; exact Nat.le_refl _⟩
  have HST := Lib.hid hst
  clear hst hR HR HB
  go_wp2
  go_loopw [5, 6] (fun sv i wr => ∃ m : Nat, i = .int .i64 m ∧ m ≤ n ∧ OO w [.slice A0 n c0, .slice A1 n1 c1, .slice A2 n2 c2, .slice A3 n3 c3] g T L wr sv (ordTo L n m)) (fun _ i _ => n - (intOf i).toNat)
  case atStart => exact ⟨0, rfl, Nat.zero_le _, HST.out⟩
  case round =>
    clear HST
    obtain ⟨m, rfl, hm, hst⟩ := hrel
    have y0 : wr.cell? ⟨w.heap.size, 0, none⟩ = some (.slice A0 n c0) := hst.box.cell 0
    have hol := ordTo_len L n m
    have hfull : m = n → (ordTo L n m).length = n := fun e => by rw [e]; exact ordTo_full HBD.out
    obtain ⟨A, cA, rfl, -⟩ := hst.stk.form
    have HS := Lib.hid hst
    have HF := Lib.hid hfull
    obtain ⟨k0, HK0⟩ := named (ordTo L n m).length
    rw [← HK0.out] at hol HS
    rw [← HK0.out]
    clear hst hfull
    by_cases hlt : k0 < n
    · have hmn : m < n := by
        by_cases e : m = n
        · have := HF.out e; have := HK0.out; omega
        · omega
      go_wp2
      clear y0
      go_loopw [5, 7] (fun sv i wx => ∃ k : Nat, i = .int .i64 k ∧ k ≤ n ∧ OO w [.slice A0 n c0, .slice A1 n1 c1, .slice A2 n2 c2, .slice A3 n3 c3] g T L wx sv (ordTo L n m ++ atLv L m k)) (fun _ i _ => n - (intOf i).toNat)
      case atStart => exact ⟨0, rfl, Nat.zero_le _, by simpa [atLv] using HS.out⟩
      case round =>
        clear HS
        obtain ⟨k, rfl, hk, hst⟩ := hrel
        have y0 : wr.cell? ⟨w.heap.size, 0, none⟩ = some (.slice A0 n c0) := hst.box.cell 0
        have hol2 : (ordTo L n m ++ atLv L m k).length ≤ 2000000 := by rw [List.length_append, ← HK0.out]; have := atLv_len L m k; omega
        obtain ⟨A2', cA2, rfl, -⟩ := hst.stk.form
        have hsu := atLv_succ L m k
        have hTl := hst.hT
        by_cases hkn : k < n
        · have z := hst.row.cell (j := k) (by rw [HLN.out]; exact hkn)
          obtain ⟨lk, HLK⟩ := named (lat L k)
          rw [← HLK.out] at z hsu
          have HSTK := Lib.hid hst.stk
          have HS := Lib.hid hst
          have HSU := Lib.hid hsu
          obtain ⟨l2, HL2⟩ := named (ordTo L n m ++ atLv L m k)
          rw [← HL2.out] at HSTK HS hol2
          rw [← HL2.out]
          clear hst hsu
          cases hv : lk == (m : Int)
          · have hsu := HSU.out
            rw [hv, if_neg (by decide)] at hsu
            have HSU2 := Lib.hid hsu
            clear hsu HSU
            go_wp2
            go_roundw
            case rel => exact ⟨k + 1, by go_num, by omega, by rw [HSU2.out, ← HL2.out]; exact HS.out⟩
            case measure => simp [intOf]; omega
          · have hsu := HSU.out
            rw [hv, if_pos rfl] at hsu
            have HSU2 := Lib.hid hsu
            clear hsu HSU
            go_wp2_with (at_builtin; refine wpList_append_own_at _ rfl _ _ 25 rfl T 3 i1 (.int .i64 0) 1 8 Tryd.underlying25 HI.out.1 HI.out.2.1 HI.out.2.2.1 HI.out.2.2.2 rfl (by decide) _ _ _ rfl (World.ownsRow.alloc HSTK.out _) ⟨wr.heap.size, 0, none⟩ 1 1 [.int .i64 (k : Int)] rfl rfl (one_new _ _ _) (ints_oneCell .i64 [(k : Int)]) (by unfold maxLen; omega) (by omega) (by simp; omega) ?_; intro v' w2 hown' hgrow hnil hloc; have HF2 := Lib.hid (HS.out.push hown' hgrow); clear hown' hgrow hnil hloc)
            go_roundw
            case rel => exact ⟨k + 1, by go_num, by omega, by rw [HSU2.out, ← List.append_assoc, ← HL2.out]; exact HF2.out⟩
            case measure => simp [intOf]; omega
        · obtain rfl : n = k := by omega
          have HS := Lib.hid hst
          clear hst hsu
          go_wp2
          go_roundw
          case rel => exact ⟨m + 1, by go_num, by omega, HS.out⟩
          case measure => simp [intOf]; omega
    · have hd := ordTo_done (L := L) (n := n) (m := m) (by rw [← HK0.out]; omega) hm HBD.out
      have hr : Is wr wr.heap.size (.slice A k0 cA) (ordTo L n m) := by have h := HS.out.stk; rw [HK0.out] at h ⊢; exact h.all (by rw [← HK0.out]; unfold maxLen; omega)
      rw [hd] at hr
      have HR := Lib.hid hr
      have HB := Lib.hid HS.out.bel
      clear hd hr HS
      go_wp2
      go_ret
      exact ⟨⟨_, rfl, HR.out⟩, HB.out⟩
def seenL (n : Nat) (l : List Int) : List Bool := (List.range n).map fun (j : Nat) => decide ((j : Int) ∈ l)
theorem seenL_len (n : Nat) (l : List Int) : (seenL n l).length = n := by simp [seenL]
theorem seenL_get {n : Nat} {l : List Int} {j : Nat} (h : j < n) : (seenL n l)[j]? = some (decide ((j : Int) ∈ l)) := by simp [seenL, h]
theorem seenL_set {n : Nat} {l : List Int} {y : Nat} : (seenL n l).set y true = seenL n (l ++ [(y : Int)]) := by
  apply List.ext_getElem?
  intro j
  by_cases hj : j < n
  · rw [List.getElem?_set, seenL_get hj, seenL_get hj, seenL_len]
    by_cases e : y = j
    · subst e; rw [if_pos rfl, if_pos hj]; simp
    · rw [if_neg e]
      have h1 : ((j : Int) ∈ l ++ [(y : Int)]) ↔ (j : Int) ∈ l := by
        rw [List.mem_append, List.mem_singleton]
        constructor
        · rintro (h | h)
          · exact h
          · omega
        · exact .inl
      rw [decide_eq_decide.2 h1]
  · rw [List.getElem?_eq_none (by simp [seenL_len]; omega), List.getElem?_eq_none (by simp [seenL_len]; omega)]
theorem seenL_nil (n : Nat) : seenL n [] = List.replicate n false := by
  apply List.ext_getElem?
  intro j
  by_cases hj : j < n
  · rw [seenL_get hj]; simp [hj]
  · rw [List.getElem?_eq_none (by simp [seenL_len]; omega), List.getElem?_eq_none (by simp; omega)]

/-- Element k of the order. -/
structure OrdAt (L : List Int) (n : Nat) (R : List Int) (k y : Nat) : Prop where
  at_ : R.getD k 0 = (y : Int)
  lt : y < n
  fresh : (y : Int) ∉ R.take k
  next : R.take (k + 1) = R.take k ++ [(y : Int)]
  prev : ∀ k', k = k' + 1 → Lex L (R.getD k' 0) y
  deps : ∀ x : Nat, x < n → lat L x < lat L y → (x : Int) ∈ R.take (k + 1)
theorem ordTo_at {L : List Int} {n : Nat} (hL : ∀ i : Nat, i < n → 0 ≤ lat L i ∧ lat L i < (n : Int)) {k : Nat} (hk : k < n) : ∃ y : Nat, OrdAt L n (ordTo L n n) k y := by
  have hlen := ordTo_full hL
  have hs := ordTo_sorted L n n
  obtain ⟨R, HR⟩ : ∃ R, R = ordTo L n n := ⟨_, rfl⟩
  have hall : ∀ x : Nat, x < n → (x : Int) ∈ R := fun x hx => by rw [HR]; exact ordTo_mem.2 ⟨x, rfl, hx, (hL x hx).1, (hL x hx).2⟩
  have hm : ∀ x ∈ R, ∃ i : Nat, x = (i : Int) ∧ i < n := fun x hx => by rw [HR] at hx; obtain ⟨i, h1, h2, -⟩ := ordTo_mem.1 hx; exact ⟨i, h1, h2⟩
  rw [← HR] at hlen hs ⊢
  clear HR
  have hkR : k < R.length := by omega
  have hin : R.getD k 0 ∈ R := getD_in hkR
  obtain ⟨y, hy, hyn⟩ := hm _ hin
  have hg : R[k] = (y : Int) := by rw [← hy, List.getD_eq_getElem?_getD, List.getElem?_eq_getElem hkR]; rfl
  have hlex : ∀ i j : Nat, (hi : i < R.length) → (hj : j < R.length) → i < j → Lex L R[i] R[j] := fun i j hi hj hij => (List.pairwise_iff_getElem.1 hs) i j hi hj hij
  refine ⟨y, hy, hyn, fun hf => ?_, ?_, fun k' e => ?_, fun x hx hlt => ?_⟩
  · obtain ⟨j, hj, e⟩ := List.getElem_of_mem hf
    have hj' : j < k := by rw [List.length_take] at hj; omega
    rw [List.getElem_take] at e
    have := hlex j k (by omega) hkR hj'
    rw [e, hg] at this
    exact Lex.irr _ this
  · rw [List.take_succ_eq_append_getElem hkR, hg]
  · subst e
    have := hlex k' (k' + 1) (by omega) hkR (by omega)
    rw [hg] at this
    rw [List.getD_eq_getElem?_getD, List.getElem?_eq_getElem (by omega)]
    exact this
  · obtain ⟨j, hj, e⟩ := List.getElem_of_mem (hall x hx)
    by_cases hjk : j ≤ k
    · rw [← e]
      refine List.mem_of_getElem? (i := j) ?_
      rw [List.getElem?_take, if_pos (by omega), List.getElem?_eq_getElem hj]
    · have := hlex k j hkR hj (by omega)
      rw [e, hg] at this
      rcases this with h | ⟨h, -⟩ <;> omega
end Go.Proofs.YtmghdeodkeenoaaDoor
