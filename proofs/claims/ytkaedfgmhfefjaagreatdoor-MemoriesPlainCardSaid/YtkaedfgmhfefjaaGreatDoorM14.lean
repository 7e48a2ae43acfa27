/- The texts Smt Smu. -/
import Derived.Test.YtkaedfgmhfefjaaGreatDoorM13
import Derived.Deep.AppendLies
import Derived.Deep.RegionHeld3
namespace Go.Proofs.YtkaedfgmhfefjaaGreatDoor
open Go.RowKit
def VStk (w : World) (base : Nat) (v : Value) (l : List Int) : Prop := w.ownsRow base 77 1 v l.length (l.map (Value.int .u8))
section
variable {w w' : World} {base : Nat} {v : Value} {l : List Int}
theorem VStk.nil (w : World) (base : Nat) : VStk w base (.slice none 0 0) [] := World.ownsRow_nil w base _ _
theorem VStk.kept {row : Option Nat} (h : VStk w base v l) (hg : w.grownBy w' row) (hne : ∀ q, row = some q → q < base) : VStk w' base v l := by
  refine World.ownsRow.kept h hg ?_
  rcases ho : v.ownBlock with _ | q
  · exact .inl rfl
  · refine .inr fun e => ?_
    have h1 := (World.ownsRow.lt h q ho).1
    have h2 := hne q e.symm
    omega
theorem VStk.below (h : VStk w base v l) (hb : Below w.heap.size w w') : VStk w' base v l :=
  h.kept (row := none) ⟨hb.os, hb.tape, hb.output, hb.size, fun i hi _ => hb.block i hi⟩ (by simp)
theorem VStk.form (h : VStk w base v l) : ∃ A c, v = .slice A l.length c ∧ l.length ≤ c ∧ c ≤ maxLen ∧ (0 < l.length → ∃ q, A = some ⟨q, 0, none⟩ ∧ base ≤ q ∧ q < w.heap.size) := by
  have hlt := World.ownsRow.lt h
  rcases h.2 with ⟨rfl, hn⟩ | ⟨g, cap, cur, rfl, hb, hg, hle, hm, -⟩
  · exact ⟨none, 0, by rw [hn], by omega, by simp, fun h => by omega⟩
  · exact ⟨_, cap, rfl, hle, hm, fun _ => ⟨g, rfl, hb, (hlt g rfl).2⟩⟩
theorem VStk.cell {q c : Nat} (h : VStk w base (.slice (some ⟨q, 0, none⟩) l.length c) l) {j : Nat} (hj : j < l.length) : w.cell? ⟨q, j, none⟩ = some (.int .u8 (l.getD j 0)) := by
  rw [World.ownsRow.cellAt h j (by omega), List.getElem?_map, List.getElem?_eq_getElem hj]
  simp [List.getD_eq_getElem?_getD, List.getElem?_eq_getElem hj]
theorem VStk.ks (h : VStk w base v l) : Ks w w.heap.size v l := by
  obtain ⟨A, c, rfl, hle, hm, hq⟩ := h.form
  by_cases h0 : 0 < l.length
  · obtain ⟨q, rfl, -, hlt⟩ := hq h0
    refine ⟨_, q, 0, c, rfl, fun _ => rfl, hle, Nat.le_trans hle hm, fun j hj => ⟨hlt, ?_⟩⟩
    show World.cell? _ _ = _
    rw [Nat.zero_add, Nat.mul_one]
    exact h.cell hj
  · exact ⟨A, 0, 0, c, rfl, fun h => absurd h h0, hle, Nat.le_trans hle hm, fun j hj => absurd hj (by omega)⟩
theorem vpush {wo w1 : World} {g : Nat} {sv v' : Value} {st : List Int} {x : Int} {o : Obj} (hg : g ≤ wo.heap.size) (hb : Below g w wo) (hstk : VStk wo g sv st)
    (hown : w1.ownsRow g 77 1 v' (st.length + 1) (st.map (Value.int .u8) ++ [.int .u8 x])) (hgr : (wo.alloc o).grownBy w1 sv.ownBlock) : Below g w w1 ∧ VStk w1 g v' (st ++ [x]) := by
  have hq : ∀ q, sv.ownBlock = some q → g ≤ q := fun q h => (World.ownsRow.lt hstk q h).1
  refine ⟨(hb.alloc hg o).grown hgr (by simp; omega) hq, ?_⟩
  unfold VStk
  rw [List.length_append, List.map_append]
  exact hown
end
set_option maxHeartbeats 2000000 in
theorem count_any (c : Ck) (kd : Int) (v : Value) (w : World) (B : Nat) (hB : B ≤ w.heap.size) (hc : Cir w B v c) (hsz : c.nodes.length ≤ 1000000) :
    Calls Tryz.prog 75 #[v, .int .u8 kd] w fun e w' => e = .returned (.int .i64 ((ofTo c.nodes [kd] c.nodes.length).length : Int)) ∧ Below w.heap.size w w' := by
  obtain ⟨v0, v1, v2, v3, rfl, hns, hss, hms, hos⟩ := hc
  obtain ⟨A0, b, o, c0, rfl, hA, -, -, hcell⟩ := id hns
  obtain ⟨A1, b1, o1, c1, rfl, -⟩ := id hss
  obtain ⟨A2, b2, o2, c2, rfl, -⟩ := id hms
  obtain ⟨A3, b3, o3, c3, rfl, -⟩ := id hos
  have HCE := Lib.hid hcell
  have HAA := Lib.hid hA
  clear hns hss hms hos hcell hA
  have HSU := Lib.hid (fun k => ofTo_succ c.nodes [kd] k)
  have HLE := Lib.hid (fun k => ofTo_len c.nodes [kd] k)
  have HK : Hid (∀ x, isK [kd] x = (x == kd)) := Lib.hid fun x => by simp [isK, anyP]
  generalize c.names.length = n1
  generalize c.mems.length = n2
  generalize c.outs.length = n3
  obtain ⟨n, HN⟩ := named c.nodes.length
  rw [← HN.out] at hsz HAA HCE
  rw [← HN.out]
  obtain ⟨W1, HW1⟩ := named (w.alloc (.cells #[.slice A0 n c0, .slice A1 n1 c1, .slice A2 n2 c2, .slice A3 n3 c3] 39))
  have hb1 : Below w.heap.size w W1 := by rw [HW1.out]; exact below_new (Below.refl _ _) _
  have x0 : W1.cell? ⟨w.heap.size, 0, none⟩ = some (.slice A0 n c0) := by rw [HW1.out, World.cell?_alloc_at _ _ _ _ rfl]; rfl
  have HB1 := Lib.hid hb1
  clear hb1
  go_enter Tryz.func75, Tryz.ntmps75
  go_upto_region 1 with (fail)
  rw [← HW1.out]
  go_wp2
  go_loopw [5, 6] (fun cn ci wr => wr = W1 ∧ ∃ k : Nat, k ≤ n ∧ ci = .int .i64 k ∧ cn = .int .i64 ((ofTo c.nodes [kd] k).length : Int)) (fun _ ci _ => n - (intOf ci).toNat)
  case atStart => exact ⟨rfl, 0, Nat.zero_le _, rfl, rfl⟩
  case round =>
    obtain ⟨rfl, k, hk, rfl, rfl⟩ := hrel
    have hle := HLE.out k
    by_cases hlt : k < n
    · obtain rfl := HAA.out (by omega)
      obtain ⟨hlb, s, e0, -⟩ := HCE.out k hlt
      have f0 : wr.cell? ⟨b, o + k * 4, none⟩ = some (.int .u8 (c.nodes.getD k default).kind) := (HB1.out.cell (p := ⟨b, _, none⟩) (by show b < w.heap.size; omega)).trans e0
      have hsu := HSU.out k
      rw [HK.out] at hsu
      obtain ⟨kk, HKK⟩ := named (c.nodes.getD k default).kind
      rw [← HKK.out] at f0 hsu
      obtain ⟨m, HM⟩ := named (ofTo c.nodes [kd] k).length
      rw [← HM.out] at hle
      rw [← HM.out]
      clear e0
      cases hv : (kk == kd)
      · have HS : Hid ((ofTo c.nodes [kd] (k + 1)).length = m) := Lib.hid (by rw [hsu, hv]; simp [HM.out])
        clear hsu
        go_wp2
        go_roundw
        case rel => exact ⟨by trivial, k + 1, by omega, by go_num, by rw [HS.out]⟩
        case measure => simp [intOf]; omega
      · have HS : Hid ((ofTo c.nodes [kd] (k + 1)).length = m + 1) := Lib.hid (by rw [hsu, hv]; simp [HM.out])
        clear hsu
        go_wp2
        go_roundw
        case rel => exact ⟨by trivial, k + 1, by omega, by go_num, by rw [HS.out]; go_num⟩
        case measure => simp [intOf]; omega
    · obtain rfl : n = k := by omega
      go_wp2
      go_ret
      exact ⟨rfl, HB1.out⟩
def takV (l : List Int) (most : Int) (i : Nat) : Int := if l.length = 0 then 2 else (l.getD (i % l.length) 0).tmod most
def takL (l : List Int) (most : Int) (n : Nat) : List Int := (List.range n).map (takV l most)
theorem takL_len (l : List Int) (most : Int) (n : Nat) : (takL l most n).length = n := by simp [takL]
theorem takL_succ (l : List Int) (most : Int) (n : Nat) : takL l most (n + 1) = takL l most n ++ [takV l most n] := by simp [takL, List.range_succ]
set_option maxHeartbeats 2000000 in
theorem taken_any (l : List Int) (most : Int) (hm0 : 0 < most) (hm1 : most ≤ 4) (n : Nat) (hn : n ≤ 1000000) (A : Option Addr) (m cl : Nat) (w : World) (B : Nat) (hB : B ≤ w.heap.size) (hs : Ks w B (.slice A m cl) l) (h0 : ∀ x ∈ l, 0 ≤ x ∧ x ≤ 255) :
    Calls Tryz.prog 74 #[.slice A m cl, .int .i64 (n : Int), .int .u8 most] w fun e w' => ∃ v, e = .returned v ∧ VStk w' w.heap.size v (takL l most n) ∧ Below w.heap.size w w' := by
  obtain ⟨A', b, o, c', e, hA, hle, hm, hc⟩ := hs.opens
  simp only [Value.slice.injEq] at e
  obtain ⟨rfl, hml, rfl⟩ := e
  have HA := Lib.hid hA
  have HC := Lib.hid hc
  have HML := Lib.hid hml
  have HSU := Lib.hid (fun k => takL_succ l most k)
  have HLE := Lib.hid (fun k => takL_len l most k)
  rw [← hml] at HA HC hm hle
  unfold maxLen at hm
  have HPOS := Lib.hid h0
  clear hs hA hc hml h0
  obtain ⟨i1, hi1, hz0, hz1, hz2⟩ := info_parts info_val
  have HI := Lib.hid (And.intro hi1 (And.intro hz0 (And.intro hz1 hz2)))
  clear hi1 hz0 hz1 hz2
  have hmost : ¬ most = 0 := by omega
  go_enter Tryz.func74, Tryz.ntmps74
  go_wp2
  go_loopw [7, 8] (fun sv ci wr => ∃ k : Nat, k ≤ n ∧ ci = .int .i64 k ∧ Below w.heap.size w wr ∧ w.heap.size ≤ wr.heap.size ∧ VStk wr w.heap.size sv (takL l most k)) (fun _ ci _ => n - (intOf ci).toNat)
  case atStart => exact ⟨0, Nat.zero_le _, rfl, Below.refl _ _, Nat.le_refl _, VStk.nil _ _⟩
  case round =>
    obtain ⟨k, hk, rfl, hb, hg, hst⟩ := hrel
    obtain ⟨A6, c6, rfl, hle6, hc6, -⟩ := hst.form
    have hol := HLE.out k
    rw [hol] at hle6
    by_cases hlt : k < n
    · have hsu := HSU.out k
      obtain ⟨x, HX⟩ := named (takV l most k)
      rw [← HX.out] at hsu
      have HS := Lib.hid hsu
      have HST := Lib.hid hst
      have HB := Lib.hid hb
      obtain ⟨st, HL⟩ := named (takL l most k)
      rw [← HL.out] at HST hol
      rw [← HL.out, hol]
      have HST2 : Hid (VStk wr w.heap.size (.slice A6 k c6) st) := Lib.hid (by have := HST.out; rw [hol] at this; exact this)
      have HOL := Lib.hid hol
      have HSTR : Hid (wr.ownsRow w.heap.size 77 1 (.slice A6 k c6) k (st.map (Value.int .u8))) := Lib.hid (by have := HST2.out; unfold VStk at this; rw [HOL.out] at this; exact this)
      rw [← HL.out] at HS
      clear hsu hst hb hol
      by_cases hz : m = 0
      · subst hz
        have hx : x = 2 := by rw [HX.out]; unfold takV; rw [if_pos HML.out.symm]
        subst hx
        go_wp2_with (at_builtin; refine wpList_append_own_at _ rfl _ _ 41 rfl w.heap.size 77 i1 (.int .u8 0) 1 1 Tryz.underlying41 HI.out.1 HI.out.2.1 HI.out.2.2.1 HI.out.2.2.2 rfl (by decide) _ _ _ rfl (World.ownsRow.alloc HSTR.out _) ⟨wr.heap.size, 0, none⟩ 1 1 [.int .u8 2] rfl rfl (by have := one_new wr (.int .u8 2) 77; simpa using this) (ints_oneCell .u8 [2]) (by unfold maxLen; omega) (by omega) (by first | omega | (simp; omega)) ?_; intro v' w5 hown' hgrow hnil hloc; have HF := Lib.hid (vpush (x := 2) (by first | omega | (simp; omega)) HB.out HST2.out (by rw [HOL.out]; exact hown') hgrow); have HZ := Lib.hid hgrow.size; clear hown' hgrow hnil hloc)
        go_roundw
        case rel => exact ⟨k + 1, by omega, by go_num, HF.out.1, by have := HZ.out; simp at this; omega, by rw [HS.out]; exact HF.out.2⟩
        case measure => simp [intOf]; omega
      · have hmz : ¬ (m : Int) = 0 := by omega
        have hmod : k % m < m := Nat.mod_lt _ (by omega)
        have hkm : ((k : Int)).tmod (m : Int) = ((k % m : Nat) : Int) := by rw [Int.tmod_eq_emod_of_nonneg (by omega)]; simp
        obtain rfl := HA.out (by omega)
        obtain ⟨hlb, hx1⟩ := HC.out (k % m) hmod
        have hx2 : wr.cell? ⟨b, o + k % m, none⟩ = some (.int .u8 (l.getD (k % m) 0)) := (HB.out.cell (p := ⟨b, _, none⟩) (by show b < w.heap.size; omega)).trans hx1
        have hmem := HPOS.out (l.getD (k % m) 0) (by rw [List.getD_eq_getElem?_getD, List.getElem?_eq_getElem (by rw [← HML.out]; exact hmod)]; exact List.getElem_mem _)
        have hxv : x = (l.getD (k % m) 0).tmod most := by rw [HX.out]; unfold takV; rw [if_neg (by rw [← HML.out]; exact hz), ← HML.out]
        obtain ⟨y, HY⟩ := named (l.getD (k % m) 0)
        rw [← HY.out] at hx2 hmem hxv
        have hye : y.tmod most = x := hxv.symm
        have hxb : 0 ≤ x ∧ x ≤ 255 := by rw [hxv, Int.tmod_eq_emod_of_nonneg hmem.1]; have h1 := Int.emod_nonneg y hmost; have h2 := Int.emod_lt_of_pos y hm0; omega
        have hwx : IntKind.u8.wrap (y.tmod most) = x := by rw [hye]; simp [IntKind.wrap, IntKind.bits, IntKind.signed]; omega
        obtain ⟨kr, HKR⟩ := named (k % m)
        rw [← HKR.out] at hmod hkm hx2
        have hkrm : (kr : Int) < (m : Int) := by omega
        clear hx1 hxv
        go_wp2_with (at_builtin; refine wpList_append_own_at _ rfl _ _ 41 rfl w.heap.size 77 i1 (.int .u8 0) 1 1 Tryz.underlying41 HI.out.1 HI.out.2.1 HI.out.2.2.1 HI.out.2.2.2 rfl (by decide) _ _ _ rfl (World.ownsRow.alloc HSTR.out _) ⟨wr.heap.size, 0, none⟩ 1 1 [.int .u8 x] rfl rfl (by have := one_new wr (.int .u8 x) 77; simpa using this) (ints_oneCell .u8 [x]) (by unfold maxLen; omega) (by omega) (by first | omega | (simp; omega)) ?_; intro v' w5 hown' hgrow hnil hloc; have HF := Lib.hid (vpush (x := x) (by first | omega | (simp; omega)) HB.out HST2.out (by rw [HOL.out]; exact hown') hgrow); have HZ := Lib.hid hgrow.size; clear hown' hgrow hnil hloc)
        go_roundw
        case rel => exact ⟨k + 1, by omega, by go_num, HF.out.1, by have := HZ.out; simp at this; omega, by rw [HS.out]; exact HF.out.2⟩
        case measure => simp [intOf]; omega
    · obtain rfl : n = k := by omega
      go_wp2
      go_ret
      exact ⟨_, rfl, hst, hb⟩
end Go.Proofs.YtkaedfgmhfefjaaGreatDoor

namespace Go.Proofs.YtkaedfgmhfefjaaGreatDoor
open Go.RowKit
def PatPost (li ls : List Int) (w : World) (e : Ending) (w' : World) : Prop :=
  ∃ A0 c0 A1 c1, e = .returned (.agg #[.slice A0 li.length c0, .slice A1 ls.length c1]) ∧ VStk w' w.heap.size (.slice A0 li.length c0) li ∧ VStk w' w.heap.size (.slice A1 ls.length c1) ls ∧ (∀ a b, (Value.slice A0 li.length c0).ownBlock = some a → (Value.slice A1 ls.length c1).ownBlock = some b → a ≠ b) ∧ Below w.heap.size w w'
theorem VStk.setS {w : World} {base : Nat} {v : Value} {l : List Int} (h : VStk w base v l) {a : Addr} (ha : a.block < base) (x : Value) : VStk (w.setCell a x) base v l :=
  h.kept (row := some a.block) ⟨rfl, rfl, rfl, by simp [World.setCell], fun i _ hne => Below.heap_setCell _ _ _ _ (fun e => hne (by rw [e]))⟩ (fun q e => by injection e with e; omega)
theorem VStk.low {w : World} {base base' : Nat} {v : Value} {l : List Int} (h : VStk w base v l) (hb : base' ≤ base) : VStk w base' v l := by
  refine ⟨h.1, ?_⟩
  rcases h.2 with h2 | ⟨g, cap, cur, e, hb', h3⟩
  · exact .inl h2
  · exact .inr ⟨g, cap, cur, e, Nat.le_trans hb hb', h3⟩
set_option maxRecDepth 100000 in
set_option maxHeartbeats 8000000 in
theorem pOf_any (c : Ck) (qi qs : List Int) (A0 A1 A2 A3 Ai As : Option Addr) (c0 c1 c2 c3 mi ms ci cs : Nat) (w : World) (B : Nat) (hB : B ≤ w.heap.size)
    (hc : Cir w B (.agg #[.slice A0 c.nodes.length c0, .slice A1 c.names.length c1, .slice A2 c.mems.length c2, .slice A3 c.outs.length c3]) c) (hi : Ks w B (.slice Ai mi ci) qi) (hs : Ks w B (.slice As ms cs) qs) (hsz : c.nodes.length ≤ 1000000) (vi : ∀ x ∈ qi, 0 ≤ x ∧ x ≤ 255) (vs : ∀ x ∈ qs, 0 ≤ x ∧ x ≤ 255) :
    Calls Tryz.prog 32 #[.agg #[.slice Ai mi ci, .slice As ms cs], .agg #[.slice A0 c.nodes.length c0, .slice A1 c.names.length c1, .slice A2 c.mems.length c2, .slice A3 c.outs.length c3]] w (PatPost (takL qi 4 (ofTo c.nodes [0] c.nodes.length).length) (takL qs 3 (ofTo c.nodes [14] c.nodes.length).length) w) := by
  obtain ⟨W0, HW0⟩ := named ((w.alloc (.cells #[.slice Ai mi ci, .slice As ms cs] 31)).alloc (.cells #[.slice A0 c.nodes.length c0, .slice A1 c.names.length c1, .slice A2 c.mems.length c2, .slice A3 c.outs.length c3] 39))
  have hb0 : Below w.heap.size w W0 := by rw [HW0.out]; exact below_new (below_new (Below.refl _ _) _) _
  have hfp : Fr W0 w.heap.size 31 [.slice Ai mi ci, .slice As ms cs] := by rw [HW0.out]; exact Fr.alloc (Fr.made _ _ _ rfl) _
  have hfc : Fr W0 (w.heap.size + 1) 39 (#[.slice A0 c.nodes.length c0, .slice A1 c.names.length c1, .slice A2 c.mems.length c2, .slice A3 c.outs.length c3]).toList := by rw [HW0.out]; exact Fr.made _ _ _ (by simp)
  have hz0 : W0.heap.size = w.heap.size + 1 + 1 := by rw [HW0.out]; simp
  have hBW : ∀ {W}, BelW W0 W → B ≤ W.heap.size := fun {W} h => Nat.le_trans hB (joinB hb0 h).size
  have hcn : ∀ W k, BelW W0 W → Calls Tryz.prog 75 #[.agg #[.slice A0 c.nodes.length c0, .slice A1 c.names.length c1, .slice A2 c.mems.length c2, .slice A3 c.outs.length c3], .int .u8 k] W fun e w' => e = .returned (.int .i64 ((ofTo c.nodes [k] c.nodes.length).length : Int)) ∧ BelW W w' :=
    fun W k h => count_any c k _ W B (hBW h) (hc.below ((joinB hb0 h).mono hB)) hsz
  have hti : ∀ W, BelW W0 W → Calls Tryz.prog 74 #[.slice Ai mi ci, .int .i64 ((ofTo c.nodes [0] c.nodes.length).length : Int), .int .u8 4] W fun e w' => ∃ A cc, e = .returned (.slice A (ofTo c.nodes [0] c.nodes.length).length cc) ∧ VStk w' W.heap.size (.slice A (ofTo c.nodes [0] c.nodes.length).length cc) (takL qi 4 (ofTo c.nodes [0] c.nodes.length).length) ∧ BelW W w' :=
    fun W h => (taken_any qi 4 (by decide) (by decide) _ (by have := ofTo_len c.nodes [0] c.nodes.length; omega) Ai mi ci W B (hBW h) (Arr.keep stays_u8 hi (Nat.le_refl _) fun _ hp => (joinB hb0 h).cell (Nat.lt_of_lt_of_le hp hB)) vi).mono fun e w' ⟨v, he, hv, hb⟩ => by
      obtain ⟨A, cc, rfl, -⟩ := hv.form
      rw [takL_len] at he hv
      exact ⟨A, cc, he, hv, hb⟩
  have hts : ∀ W, BelW W0 W → Calls Tryz.prog 74 #[.slice As ms cs, .int .i64 ((ofTo c.nodes [14] c.nodes.length).length : Int), .int .u8 3] W fun e w' => ∃ A cc, e = .returned (.slice A (ofTo c.nodes [14] c.nodes.length).length cc) ∧ VStk w' W.heap.size (.slice A (ofTo c.nodes [14] c.nodes.length).length cc) (takL qs 3 (ofTo c.nodes [14] c.nodes.length).length) ∧ BelW W w' :=
    fun W h => (taken_any qs 3 (by decide) (by decide) _ (by have := ofTo_len c.nodes [14] c.nodes.length; omega) As ms cs W B (hBW h) (Arr.keep stays_u8 hs (Nat.le_refl _) fun _ hp => (joinB hb0 h).cell (Nat.lt_of_lt_of_le hp hB)) vs).mono fun e w' ⟨v, he, hv, hb⟩ => by
      obtain ⟨A, cc, rfl, -⟩ := hv.form
      rw [takL_len] at he hv
      exact ⟨A, cc, he, hv, hb⟩
  have HC0 := Lib.hid (fun W h => hcn W 0 h)
  have HC1 := Lib.hid (fun W h => hcn W 14 h)
  have HL0 : Hid ((takL qi 4 (ofTo c.nodes [0] c.nodes.length).length).length = (ofTo c.nodes [0] c.nodes.length).length) := Lib.hid (takL_len _ _ _)
  have HL1 : Hid ((takL qs 3 (ofTo c.nodes [14] c.nodes.length).length).length = (ofTo c.nodes [14] c.nodes.length).length) := Lib.hid (takL_len _ _ _)
  have hp : ∀ (e : Ending) (w' : World) A0 c0 A1 c1, e = .returned (.agg #[.slice A0 (ofTo c.nodes [0] c.nodes.length).length c0, .slice A1 (ofTo c.nodes [14] c.nodes.length).length c1]) → VStk w' w.heap.size (.slice A0 (ofTo c.nodes [0] c.nodes.length).length c0) (takL qi 4 (ofTo c.nodes [0] c.nodes.length).length) → VStk w' w.heap.size (.slice A1 (ofTo c.nodes [14] c.nodes.length).length c1) (takL qs 3 (ofTo c.nodes [14] c.nodes.length).length) →
      (∀ a b, (Value.slice A0 (ofTo c.nodes [0] c.nodes.length).length c0).ownBlock = some a → (Value.slice A1 (ofTo c.nodes [14] c.nodes.length).length c1).ownBlock = some b → a ≠ b) → Below w.heap.size w w' → PatPost (takL qi 4 (ofTo c.nodes [0] c.nodes.length).length) (takL qs 3 (ofTo c.nodes [14] c.nodes.length).length) w e w' := fun e w' A0 c0 A1 c1 he h1 h2 h3 h4 => by
    unfold PatPost
    rw [HL0.out, HL1.out]
    exact ⟨A0, c0, A1, c1, he, h1, h2, h3, h4⟩
  have HP := Lib.hid hp
  obtain ⟨post, HPO⟩ := named (PatPost (takL qi 4 (ofTo c.nodes [0] c.nodes.length).length) (takL qs 3 (ofTo c.nodes [14] c.nodes.length).length) w)
  rw [← HPO.out] at HP
  rw [← HPO.out]
  have HB0 := Lib.hid hb0
  clear hc hi hs vi vs hb0 hBW hcn hp HL0 HL1
  obtain ⟨li, HLI⟩ := named (takL qi 4 (ofTo c.nodes [0] c.nodes.length).length)
  obtain ⟨ls, HLS⟩ := named (takL qs 3 (ofTo c.nodes [14] c.nodes.length).length)
  rw [← HLI.out] at hti HP
  rw [← HLS.out] at hts HP
  clear HPO HLI HLS
  generalize (ofTo c.nodes [0] c.nodes.length).length = k0 at HC0 hti HP
  generalize (ofTo c.nodes [14] c.nodes.length).length = k1 at HC1 hts HP
  generalize c.nodes.length = n at HW0 hfc HC0 HC1 hsz ⊢
  generalize c.names.length = n1 at HW0 hfc HC0 HC1 ⊢
  generalize c.mems.length = n2 at HW0 hfc HC0 HC1 ⊢
  generalize c.outs.length = n3 at HW0 hfc HC0 HC1 ⊢
  have HTI := Lib.hid hti
  have HTS := Lib.hid hts
  have HCE : Hid (∀ W, BelW W0 W → BelW W0 W ∧ W.cell? ⟨w.heap.size, 0, none⟩ = some (.slice Ai mi ci) ∧ W.cell? ⟨w.heap.size, 1, none⟩ = some (.slice As ms cs) ∧ W.cell? ⟨w.heap.size + 1, 0, none⟩ = some (.slice A0 n c0) ∧ W.cell? ⟨w.heap.size + 1, 1, none⟩ = some (.slice A1 n1 c1) ∧ W.cell? ⟨w.heap.size + 1, 2, none⟩ = some (.slice A2 n2 c2) ∧ W.cell? ⟨w.heap.size + 1, 3, none⟩ = some (.slice A3 n3 c3)) :=
    Lib.hid fun W h => ⟨h, (hfp.below h).cell 0, (hfp.below h).cell 1, (hfc.below h).cell 0, (hfc.below h).cell 1, (hfc.below h).cell 2, (hfc.below h).cell 3⟩
  have hwz := HB0.out.size
  clear hfp hfc hti hts
  go_enter Tryz.func32, Tryz.ntmps32
  go_upto_region 1 with (fail)
  rw [← HW0.out]
  obtain ⟨V, HV⟩ := named (W0.alloc (.cells #[.slice none 0 0, .slice none 0 0] 73))
  have hs0 : BelW W0 V := by rw [HV.out]; exact below_new (Below.refl _ _) _
  have hf0 : Fr V W0.heap.size 73 [.slice none 0 0, .slice none 0 0] := by rw [HV.out]; exact Fr.made _ _ _ rfl
  have hvz : W0.heap.size < V.heap.size := by rw [HV.out]; simp
  have hwr : w.heap.size + 1 < W0.heap.size := by omega
  have hrz : w.heap.size + 1 + 1 = W0.heap.size := hz0.symm
  rw [hrz]
  obtain ⟨r, HR⟩ := named W0.heap.size
  rw [← HR.out] at hf0 hvz hwr
  have hrl : W0.heap.size ≤ r := by rw [HR.out]; exact Nat.le_refl _
  try rw [← HV.out]
  try rw [← HR.out]
  have hf0d : Fr V.drew r 73 [.slice none 0 0, .slice none 0 0] := hf0
  have hs0d : BelW W0 V.drew := BelW.drew hs0
  clear hs0 hf0
  have hs0 : BelW W0 V := by rw [HV.out]; exact below_new (Below.refl _ _) _
  go_region_held3 (fun w' => BelW W0 w' ∧ w'.cell? ⟨w.heap.size, 0, none⟩ = some (.slice Ai mi ci) ∧ w'.cell? ⟨w.heap.size, 1, none⟩ = some (.slice As ms cs) ∧ w'.cell? ⟨w.heap.size + 1, 0, none⟩ = some (.slice A0 n c0) ∧ w'.cell? ⟨w.heap.size + 1, 1, none⟩ = some (.slice A1 n1 c1) ∧ w'.cell? ⟨w.heap.size + 1, 2, none⟩ = some (.slice A2 n2 c2) ∧ w'.cell? ⟨w.heap.size + 1, 3, none⟩ = some (.slice A3 n3 c3))
    ((refine HCE.out _ ?_; first | (with_reducible assumption) | (refine BelW.drew ?_; with_reducible assumption) | (refine BelW.set (BelW.set ?_ ?_ _) ?_ _ <;> first | (with_reducible assumption) | ((try dsimp only) <;> omega))))
    (first
      | (go_at_call 75; (with_reducible refine Calls.mono (HC0.out _ ?_) ?_); · (first | (with_reducible assumption) | (refine BelW.drew ?_; with_reducible assumption))
         rintro e wa ⟨rfl, hba⟩
         have hswa : BelW W0 wa := (by refine BelW.next ?_ hba; first | (with_reducible assumption) | (refine BelW.drew ?_; with_reducible assumption))
         have hfwa : Fr wa r 73 [.slice none 0 0, .slice none 0 0] := Fr.below (by first | (with_reducible assumption) | exact hf0d) hba)
      | (go_at_call 75; (with_reducible refine Calls.mono (HC1.out _ ?_) ?_); · (first | (with_reducible assumption) | (refine BelW.drew ?_; with_reducible assumption))
         rintro e wc ⟨rfl, hbc⟩
         have hswc : BelW W0 wc := (by refine BelW.next ?_ hbc; first | (with_reducible assumption) | (refine BelW.drew ?_; with_reducible assumption))
         have hfwc : Fr wc r 73 [.slice none 0 0, .slice none 0 0] := Fr.below (by first | (with_reducible assumption) | exact hf0d) hbc
         have hvc := VStk.below hvb hbc)
      | (go_at_call 74; (with_reducible refine Calls.mono (HTI.out _ ?_) ?_); · (first | (with_reducible assumption) | (refine BelW.drew ?_; with_reducible assumption))
         rintro e wb ⟨Ai', ci', rfl, hvb, hbb⟩
         have hswb : BelW W0 wb := (by refine BelW.next ?_ hbb; first | (with_reducible assumption) | (refine BelW.drew ?_; with_reducible assumption))
         have hfwb : Fr wb r 73 [.slice none 0 0, .slice none 0 0] := Fr.below (by first | (with_reducible assumption) | exact hf0d) hbb)
      | (go_at_call 74; (with_reducible refine Calls.mono (HTS.out _ ?_) ?_); · (first | (with_reducible assumption) | (refine BelW.drew ?_; with_reducible assumption))
         rintro e wd ⟨As', cs', rfl, hvd, hbd⟩
         have hswd : BelW W0 wd := (by refine BelW.next ?_ hbd; first | (with_reducible assumption) | (refine BelW.drew ?_; with_reducible assumption))
         have hfwd : Fr wd r 73 [.slice none 0 0, .slice none 0 0] := Fr.below (by first | (with_reducible assumption) | exact hf0d) hbd
         have hve := VStk.below hvc hbd
         have hr0 := Fr.cell hfwd 0
         have hr1 := Fr.cell hfwd 1
         have hg0 := Fr.frozen hfwd 0
         have hg1 := Fr.frozen hfwd 1))
  have hq := (hfwd.set 0 (.slice Ai' k0 ci')).set 1 (.slice As' k1 cs')
  have z1' : V.drew.heap.size ≤ wa.heap.size := Below.size hba
  have z1 : V.heap.size ≤ wa.heap.size := z1'
  have z2 := Below.size hbb
  have z3 := Below.size hbc
  have hap : ∀ a b, (Value.slice Ai' k0 ci').ownBlock = some a → (Value.slice As' k1 cs').ownBlock = some b → a ≠ b := fun a b h1 h2 => by
    have t1 := (World.ownsRow.lt hvb a h1).2
    have t2 := (World.ownsRow.lt hvd b h2).1
    omega
  have hbe : Below w.heap.size w ((wd.setCell ⟨r, 0, none⟩ (.slice Ai' k0 ci')).setCell ⟨r, 1, none⟩ (.slice As' k1 cs')) := ((joinB HB0.out hswd).setCell (by show w.heap.size ≤ r; omega) _).setCell (by show w.heap.size ≤ r; omega) _
  have hv0 : VStk ((wd.setCell ⟨r, 0, none⟩ (.slice Ai' k0 ci')).setCell ⟨r, 1, none⟩ (.slice As' k1 cs')) w.heap.size (.slice Ai' k0 ci') li := ((hve.setS (a := ⟨r, 0, none⟩) (by show r < wa.heap.size; omega) _).setS (a := ⟨r, 1, none⟩) (by show r < wa.heap.size; omega) _).low (by omega)
  have hv1 : VStk ((wd.setCell ⟨r, 0, none⟩ (.slice Ai' k0 ci')).setCell ⟨r, 1, none⟩ (.slice As' k1 cs')) w.heap.size (.slice As' k1 cs') ls := ((hvd.setS (a := ⟨r, 0, none⟩) (by show r < wc.heap.size; omega) _).setS (a := ⟨r, 1, none⟩) (by show r < wc.heap.size; omega) _).low (by omega)
  go_wp2
  (try simp only [Exit.inBlock, Exit.then])
  refine bodyPost_ret (results_cell_row rfl _ _ _ _ _ _ _ rfl hq Tryz.underlying73 rfl (by kernel_rfl)) rfl ?_
  exact HP.out _ _ _ _ _ _ rfl hv0 hv1 hap hbe
end Go.Proofs.YtkaedfgmhfefjaaGreatDoor
