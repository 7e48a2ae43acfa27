/- The texts Smw Cln. -/
import Derived.Test.YtemogllidmgbfaaDoorM15
import Derived.Test.YtemogllidmgbfaaDoorM09
import Derived.Laws.CopyRow
import Derived.Laws.CopyOwn
namespace Go.Proofs.YtemogllidmgbfaaDoor
open Go.RowKit

/-- A row of values made for the call: block g. -/
def ValsPost (l : List Int) (w : World) (e : Ending) (w' : World) : Prop :=
  ∃ g, e = .returned (.slice (some ⟨g, 0, none⟩) l.length l.length) ∧ VRow w' g l ∧ w.heap.size ≤ g ∧ Below w.heap.size w w'
theorem fillL_vals (f : Int → Int) (z : Value) (l : List Int) : fillL (fun j => .int .u8 (f (lat l j))) z l.length l.length = (l.map f).map (Value.int .u8) := by
  apply List.ext_getElem?
  intro j
  by_cases hj : j < l.length
  · rw [fillL_get _ _ _ _ _ hj, if_pos hj]; simp [hj, lat, List.getD_eq_getElem?_getD]
  · rw [List.getElem?_eq_none (by simp [fillL_len]; omega), List.getElem?_eq_none (by simp; omega)]

set_option maxRecDepth 100000 in
set_option maxHeartbeats 4000000 in
theorem values_any (nets l : List Int) (A0 A1 A2 A3 : Option Addr) (n0 n1 n2 n3 c0 c1 c2 c3 : Nat) (s : Value) (q : Nat) (w : World) (B : Nat) (hB : B ≤ w.heap.size) (hq : Nv w q nets) (hs : Is w B s l) (hsz : l.length ≤ 17592186044416) :
    Calls Tryd.prog 61 #[.agg #[.slice A0 n0 c0, .slice A1 n1 c1, .slice A2 n2 c2, .slice A3 n3 c3, .func (.func 59) #[] #[.pointer (some ⟨q, 0, none⟩)]], s] w (ValsPost (l.map (valA nets)) w) := by
  obtain ⟨A, b, o, c, rfl, hA, hle, hm, hc⟩ := hs.opens
  have HA := Lib.hid hA
  have HC := Lib.hid hc
  clear hA hc hs hm hle
  obtain ⟨m, HM⟩ := named l.length
  rw [← HM.out] at HA HC hsz
  rw [← HM.out]
  obtain ⟨W1, HW1⟩ := named (w.alloc (.cells #[.slice A0 n0 c0, .slice A1 n1 c1, .slice A2 n2 c2, .slice A3 n3 c3, .func (.func 59) #[] #[.pointer (some ⟨q, 0, none⟩)]] 93))
  have hb1 : Below w.heap.size w W1 := by rw [HW1.out]; exact below_new (Below.refl _ _) _
  have hfx : W1.cell? ⟨w.heap.size, 4, none⟩ = some (.func (.func 59) #[] #[.pointer (some ⟨q, 0, none⟩)]) := by rw [HW1.out, World.cell?_alloc_at _ _ _ _ rfl]; rfl
  have hz1 : w.heap.size < W1.heap.size := by rw [HW1.out]; simp
  have HFX : Hid (∀ W, Below W1.heap.size W1 W → W.cell? ⟨w.heap.size, 4, none⟩ = some (.func (.func 59) #[] #[.pointer (some ⟨q, 0, none⟩)])) := Lib.hid fun W hb => (hb.cell (p := ⟨w.heap.size, 4, none⟩) hz1).trans hfx
  have HQ : Hid (∀ W, Below W1.heap.size W1 W → ∀ x, Calls Tryd.prog 59 #[.int .i64 x, .pointer (some ⟨q, 0, none⟩)] W fun e w' => e = .returned (.int .u8 (valA nets x)) ∧ W = w') :=
    Lib.hid fun W hb x => val1_any nets x q W (hq.below (joinB hb1 hb))
  have HB1 := Lib.hid hb1
  have hBz : B < W1.heap.size := by omega
  clear hq hb1 hfx
  obtain ⟨i0, hi, hz0, hz1', hz2⟩ := info_parts info_val
  have HI := Lib.hid (And.intro hi (And.intro hz0 (And.intro hz1' hz2)))
  clear hi hz0 hz1' hz2
  go_enter Tryd.func61, Tryd.ntmps61
  go_upto_region 1 with (fail)
  rw [← HW1.out]
  go_wp2_with (at_make; refine wpList_make_full _ rfl _ _ 22 rfl W1.heap.size 29 i0 (.int .u8 0) 1 Tryd.underlying22 HI.out.1 HI.out.2.1 HI.out.2.2.1 .i64 .i64 _ _ m rfl rfl rfl rfl ?b2 ?b3 ?b4 ?_)
  case b2 => rw [HI.out.2.2.2]; omega
  case b3 => unfold maxLen; omega
  case b4 => exact Nat.le_refl _
  intro w2 hown hgr
  rw [fillL_start (fun j => .int .u8 (valA nets (lat l j)))] at hown
  have hb2 : Below W1.heap.size W1 w2 := (Below.refl _ _).grown hgr (Nat.le_refl _) (fun k h => by cases h)
  have HO := Lib.hid hown
  have HB2 := Lib.hid hb2
  obtain ⟨g, HG⟩ := named W1.heap.size
  rw [← HG.out] at HO
  have hgz : W1.heap.size ≤ g := by rw [HG.out]; exact Nat.le_refl _
  have hgz2 : w.heap.size < g := by rw [HG.out]; exact hz1
  rw [← HG.out]
  clear hown hgr hb2
  go_wp2
  go_loopw [13] (fun i wr => ∃ k : Nat, k ≤ m ∧ i = .int .i64 k ∧ Below W1.heap.size W1 wr ∧ wr.ownsRow g 29 1 (.slice (some ⟨g, 0, none⟩) m m) m (fillL (fun j => .int .u8 (valA nets (lat l j))) (.int .u8 0) m k)) (fun i _ => m - (intOf i).toNat)
  case atStart => exact ⟨0, Nat.zero_le _, rfl, HB2.out, HO.out⟩
  case round =>
    clear HO HB2
    obtain ⟨k, hk, rfl, hb, hown⟩ := hrel
    have HBL := Lib.hid hb
    have HO := Lib.hid hown
    have hbx := HFX.out _ hb
    clear hb hown
    by_cases hlt : k < m
    · obtain rfl := HA.out (by omega)
      obtain ⟨hlb, hx⟩ := HC.out k hlt
      have hx2 : wr.cell? ⟨b, o + k, none⟩ = some (.int .i64 (l.getD k 0)) := ((joinB HB1.out HBL.out).cell (p := ⟨b, o + k, none⟩) (by show b < w.heap.size; omega)).trans hx
      have hfz : wr.frozen? ⟨g, k, none⟩ = false := HO.out.frozenAt k
      have hcl : wr.cell? ⟨g, k, none⟩ = some (.int .u8 0) := by
        rw [HO.out.cellAt k (by omega), fillL_get _ _ _ _ _ hlt, if_neg (by omega)]
      obtain ⟨x, HX⟩ := named (l.getD k 0)
      rw [← HX.out] at hx2
      have HLX : Hid (lat l (k : Int) = x) := Lib.hid (by rw [HX.out]; unfold lat; rw [Int.toNat_natCast])
      obtain ⟨u, HU⟩ := named (valA nets x)
      have HCL := Lib.hid (HQ.out wr HBL.out x)
      rw [← HU.out] at HCL
      have HS := Lib.hid (HO.out.stored k (.int .u8 u)).1
      clear hx
      go_wp2_with (go_at_call 59; (with_reducible refine HCL.out.mono ?_); rintro e w' ⟨rfl, rfl⟩)
      go_roundw
      case rel =>
        refine ⟨k + 1, by omega, by go_num, HBL.out.setCell hgz _, ?_⟩
        have h := HS.out
        rw [HU.out, ← HLX.out] at h
        rw [HU.out, ← HLX.out, ← fillL_set (fun j => .int .u8 (valA nets (lat l j))) (.int .u8 0) m k]
        exact h
      case measure => simp [intOf]; omega
    · obtain rfl : m = k := by omega
      go_wp2
      go_ret
      have h := HO.out
      rw [HM.out, fillL_vals] at h
      refine ⟨g, congrArg (fun n => Ending.returned (.slice (some ⟨g, 0, none⟩) n n)) (by rw [List.length_map]; exact HM.out), VRow.of (n := l.length) h (by rw [List.length_map]), Nat.le_of_lt hgz2, joinB HB1.out HBL.out⟩

/-- What a Dff with the inputs l reads. -/
def dataV (nets l : List Int) : Int := if l.length = 1 then rd (valA nets (l.getD 0 0)) else 2
set_option maxRecDepth 100000 in
set_option maxHeartbeats 4000000 in
theorem data_any (c : Ck) (nets : List Int) (A0 A1 A2 A3 : Option Addr) (n1 n2 n3 c0 c1 c2 c3 : Nat) (i q : Nat) (w : World) (B : Nat) (hB : B ≤ w.heap.size) (hq : Nv w q nets) (hc : Ns w B (.slice A0 c.nodes.length c0) c.nodes) (hi : i < c.nodes.length) :
    Calls Tryd.prog 60 #[.agg #[.slice A0 c.nodes.length c0, .slice A1 n1 c1, .slice A2 n2 c2, .slice A3 n3 c3, .func (.func 59) #[] #[.pointer (some ⟨q, 0, none⟩)]], .int .i64 (i : Int)] w
      fun e w' => e = .returned (.int .u8 (dataV nets (c.nodes.getD i default).ins)) ∧ Below w.heap.size w w' := by
  obtain ⟨y, HY⟩ := named (dataV nets (c.nodes.getD i default).ins)
  rw [← HY.out]
  obtain ⟨A, b, o, c', e, hA, hle, hm, hcell⟩ := hc
  simp only [Value.slice.injEq, true_and] at e
  obtain ⟨rfl, rfl⟩ := e
  obtain ⟨hlb, s, e0, e1, -, -, h4, -, -⟩ := hcell i hi
  obtain rfl := hA (by omega)
  obtain ⟨A4, b4, o4, c4, rfl, hA4, hle4, hm4, hc4⟩ := h4.opens
  obtain ⟨n, HN⟩ := named c.nodes.length
  rw [← HN.out] at hi hm
  rw [← HN.out]
  unfold maxLen at hm hm4
  obtain ⟨l, HL⟩ := named (c.nodes.getD i default).ins
  rw [← HL.out] at e1 h4 hA4 hc4 hm4 HY
  obtain ⟨W1, HW1⟩ := named (w.alloc (.cells #[.slice (some ⟨b, o, none⟩) n c0, .slice A1 n1 c1, .slice A2 n2 c2, .slice A3 n3 c3, .func (.func 59) #[] #[.pointer (some ⟨q, 0, none⟩)]] 93))
  have hb1 : Below w.heap.size w W1 := by rw [HW1.out]; exact below_new (Below.refl _ _) _
  have x0 : W1.cell? ⟨w.heap.size, 0, none⟩ = some (.slice (some ⟨b, o, none⟩) n c0) := by rw [HW1.out, World.cell?_alloc_at _ _ _ _ rfl]; rfl
  have x4 : W1.cell? ⟨w.heap.size, 4, none⟩ = some (.func (.func 59) #[] #[.pointer (some ⟨q, 0, none⟩)]) := by rw [HW1.out, World.cell?_alloc_at _ _ _ _ rfl]; rfl
  have f1 : W1.cell? ⟨b, o + i * 4 + 1, none⟩ = some (.slice A4 l.length c4) := (hb1.cell (p := ⟨b, _, none⟩) (by show b < w.heap.size; omega)).trans e1
  have HQ : Hid (∀ W, Below W1.heap.size W1 W → ∀ x, Calls Tryd.prog 59 #[.int .i64 x, .pointer (some ⟨q, 0, none⟩)] W fun e w' => e = .returned (.int .u8 (valA nets x)) ∧ W = w') :=
    Lib.hid fun W hb x => val1_any nets x q W (hq.below (joinB hb1 hb))
  have hz1 : w.heap.size < W1.heap.size := by rw [HW1.out]; simp
  have HB1 := Lib.hid hb1
  have HA4 := Lib.hid hA4
  have HC4 := Lib.hid hc4
  clear hA hcell e0 e1 h4 hA4 hc4 hle4 hq hle
  have HF1 := Lib.hid f1
  have HX0 := Lib.hid x0
  have HX4 := Lib.hid x4
  by_cases h1 : l.length = 1
  · obtain rfl := HA4.out (by omega)
    obtain ⟨hlb4, hx⟩ := HC4.out 0 (by omega)
    rw [Nat.add_zero] at hx
    have g0 : ∀ xx : Beh W1, xx.x.cell? ⟨b4, o4, none⟩ = some (.int .i64 (l.getD 0 0)) := fun xx => ((joinB HB1.out xx.below).cell (p := ⟨b4, o4, none⟩) (by show b4 < w.heap.size; omega)).trans hx
    have g4 : ∀ xx : Beh W1, xx.x.cell? ⟨w.heap.size, 4, none⟩ = some (.func (.func 59) #[] #[.pointer (some ⟨q, 0, none⟩)]) := fun xx => (xx.below.cell (p := ⟨w.heap.size, 4, none⟩) hz1).trans HX4.out
    have hy : y = rd (valA nets (l.getD 0 0)) := by rw [HY.out]; unfold dataV; rw [if_pos h1]
    rw [h1] at f1
    have H1 := Lib.hid h1
    obtain ⟨x, HX⟩ := named (l.getD 0 0)
    rw [← HX.out] at g0 hy
    obtain ⟨u, HU⟩ := named (valA nets x)
    rw [← HU.out] at hy
    have HYF := Lib.hid hy
    have HV : Hid (∀ xx : Beh W1, Calls Tryd.prog 59 #[.int .i64 x, .pointer (some ⟨q, 0, none⟩)] xx.x fun e w' => e = .returned (.int .u8 u) ∧ xx.x = w') := Lib.hid fun xx => by have := HQ.out xx.x xx.below x; rw [← HU.out] at this; exact this
    have HR : Hid (∀ xx : Beh W1, Calls Tryd.prog 70 #[.int .u8 u] xx.x fun e w' => e = .returned (.int .u8 y) ∧ xx.x = w') := Lib.hid fun xx => by rw [HYF.out]; exact Lg.read_any u xx.x
    clear hx hy h1
    go_enter Tryd.func60, Tryd.ntmps60
    go_upto_region 1 with (fail)
    rw [← HW1.out]
    go_upto_region 4 with (fail)
    refine region_class (w0 := W1) (Below.refl _ _) (by kernel_rfl) (by kernel_rfl) ?_
    repeat (first
      | go_big_quiet_skip
      | (go_big_quiet_want; go_big_quiet_op; first
        | go_big_quiet_on
        | (apply Exists.intro
           refine ⟨fun xx => ?_, ?_⟩
           focus first
            | (go_at_call 59; with_reducible exact beh_same (HV.out xx))
            | (go_at_call 70; with_reducible exact beh_same (HR.out xx))
           go_big_quiet_on)))
    refine wpQuiet_nil ?_
    rintro w9 ⟨⟨wz, hz⟩, rfl⟩
    go_wp2
    go_ret
    exact ⟨rfl, joinB HB1.out hz⟩
  · have hy : y = 2 := by rw [HY.out]; unfold dataV; exact if_neg h1
    obtain ⟨m, HM⟩ := named l.length
    rw [← HM.out] at h1 f1 hm4
    have t1 : ((m : Int) != 1) = true := by rw [bne_iff_ne]; omega
    have HYF := Lib.hid hy
    clear hy
    go_enter Tryd.func60, Tryd.ntmps60
    go_upto_region 1 with (fail)
    rw [← HW1.out]
    go_wp2
    go_ret
    exact ⟨ret_v HYF.out.symm, HB1.out⟩
end Go.Proofs.YtemogllidmgbfaaDoor

namespace Go.Proofs.YtemogllidmgbfaaDoor
open Go.RowKit

/-- copy of a whole slice over a row of its length. -/
theorem run_copy_all (P : Program) (w : World) (dT sT ty elem : TypeId) (g n c c' : Nat) (A : Option Addr) (k : Nat) (cur : Array Value) (t : TypeId) (cs : List Value)
    (hu : P.underlying dT = some (.slice elem)) (hs : (P.info? elem).map (·.size) = some k) (hg : w.heap[g]? = some (.cells cur t (0, 0))) (hcur : cur.size = n * k) (hcs : cs.length = n * k)
    (hA : 0 < n → ∃ ad, A = some ad ∧ ∀ j v, cs[j]? = some v → w.cell? (ad.add j) = some v) (h1 : ∀ v ∈ cs, v.oneCell' = true) :
    (Builtin.copy_ #[dT, sT] ty #[.slice (some ⟨g, 0, none⟩) n c, .slice A n c']).run P w = .ok (goInt n) (w.setRow g cs.toArray) := by
  cases hq : P.info? elem with
  | none => simp [hq] at hs
  | some i =>
    have hi : i.size = k := by simpa [hq] using hs
    have hmin : Nat.min n n = n := by simp
    have hst := run_storeCells_at P g 0 t cs 0 cur w hg (by omega) h1
    have e : (cur.toList.take (0 + 0) ++ cs ++ cur.toList.drop (0 + 0 + cs.length)).toArray = cs.toArray := by
      have : cur.toList.drop (0 + 0 + cs.length) = [] := List.drop_eq_nil_of_le (by simp [hcur, hcs])
      rw [this]; simp
    rw [e] at hst
    by_cases h0 : n = 0
    · subst h0
      obtain rfl : cs = [] := List.eq_nil_of_length_eq_zero (by simpa using hcs)
      cases A with
      | none => simp [Builtin.copy_, run_underlying hu, Builtin.lenOf, Builtin.firstCells, sizeOf, typeInfo, hq, hi, hst]
      | some a =>
        have hl := run_loadCells_list (P := P) w a [] (by simp)
        simp only [List.length_nil] at hl
        simp [Builtin.copy_, run_underlying hu, Builtin.lenOf, Builtin.firstCells, sizeOf, typeInfo, hq, hi, hst, hl]
    · obtain ⟨ad, rfl, hsrc⟩ := hA (by omega)
      have hl := run_loadCells_list (P := P) w ad cs hsrc
      rw [hcs] at hl
      simp [Builtin.copy_, run_underlying hu, Builtin.lenOf, Builtin.firstCells, sizeOf, typeInfo, hq, hi, hst, hl, hmin]

theorem grown_setRow (w : World) (g : Nat) (cs : Array Value) : w.grownBy (w.setRow g cs) (some g) := ⟨rfl, rfl, rfl, by simp [World.setRow], fun k hk hne => setRow_other w g k cs (fun e => hne (by rw [e]))⟩

theorem wpList_copy_all {P : Program} {w : World} {ops : Array Oper} {rest : List Oper} {o : Oper} {a : Act} {Q : Exit → Act → World → Prop} (hgd : o.guard = none) (d s : Operand) (dT sT : TypeId)
    (ho : o.op = .call { callee := .builtin .copy, args := #[d, s], argTypes := #[dT, sT] }) (elem : TypeId) (hu : P.underlying dT = some (.slice elem)) (k : Nat) (hsz : (P.info? elem).map (·.size) = some k)
    (g n c c' : Nat) (A : Option Addr) (hd : a.eval d = .slice (some ⟨g, 0, none⟩) n c) (hs : a.eval s = .slice A n c') (cur : Array Value) (t : TypeId) (hg : w.heap[g]? = some (.cells cur t (0, 0))) (hcur : cur.size = n * k)
    (cs : List Value) (hcs : cs.length = n * k) (hA : 0 < n → ∃ ad, A = some ad ∧ ∀ j v, cs[j]? = some v → w.cell? (ad.add j) = some v) (h1 : ∀ v ∈ cs, v.oneCell' = true)
    (h : ∀ w', w'.heap[g]? = some (.cells cs.toArray t (0, 0)) → w.grownBy w' (some g) → wpList P ops Q rest (a.put o.dst (goInt n)) w') : wpList P ops Q (o :: rest) a w := by
  refine wpList_plain hgd fun K hK => ?_
  have hrun := run_copy_all P w dT sT o.type elem g n c c' A k cur t cs hu hsz hg hcur hcs hA h1
  unfold Oper.wp
  simp [execOp, ho, resolve, invoke, builtin, hd, hs, hrun, Result.andThen]
  exact hK _ _ (h _ (setRow_heap w g cur _ t _ hg) (grown_setRow w g _))

/-- The cells that lie from o on. -/
def rdC (w : World) (b o m : Nat) : List Value := (List.range m).map fun j => (w.cell? ⟨b, o + j, none⟩).getD undef
theorem rdC_len (w : World) (b o m : Nat) : (rdC w b o m).length = m := by simp [rdC]
theorem rdC_get {w : World} {b o m j : Nat} {v : Value} (hj : j < m) (h : w.cell? ⟨b, o + j, none⟩ = some v) : (rdC w b o m)[j]? = some v := by simp [rdC, hj, h]

/-- Block g of w' is a row of the cells cs. -/
def Fr (w : World) (g : Nat) (t : TypeId) (cs : List Value) : Prop := w.heap[g]? = some (.cells cs.toArray t (0, 0))
theorem Fr.lt {w : World} {g : Nat} {t : TypeId} {cs : List Value} (h : Fr w g t cs) : g < w.heap.size := (Array.getElem?_eq_some_iff.1 h).1
theorem Fr.cell {w : World} {g : Nat} {t : TypeId} {cs : List Value} (h : Fr w g t cs) (j : Nat) : w.cell? ⟨g, j, none⟩ = cs[j]? := by
  unfold Fr at h; simp [World.cell?, h]
theorem Fr.frozen {w : World} {g : Nat} {t : TypeId} {cs : List Value} (h : Fr w g t cs) (j : Nat) : w.frozen? ⟨g, j, none⟩ = false := by
  unfold Fr at h; simp [World.frozen?, h]
theorem Fr.set {w : World} {g : Nat} {t : TypeId} {cs : List Value} (h : Fr w g t cs) (j : Nat) (v : Value) : Fr (w.setCell ⟨g, j, none⟩ v) g t (cs.set j v) := by
  unfold Fr at *
  rw [setCell_eq_setRow w g j cs.toArray t (0, 0) v h]
  rw [setRow_heap w g cs.toArray _ t _ h]
  simp
theorem Fr.kept {w w' : World} {g : Nat} {t : TypeId} {cs : List Value} {row : Option Nat} (h : Fr w g t cs) (hg : w.grownBy w' row) (hne : some g ≠ row) : Fr w' g t cs := (hg.block g h.lt hne).trans h
theorem Fr.below {w w' : World} {g : Nat} {t : TypeId} {cs : List Value} (h : Fr w g t cs) (hb : Below w.heap.size w w') : Fr w' g t cs := (hb.block g h.lt).trans h
theorem Fr.row {w : World} {g : Nat} {l : List Int} (h : Fr w g 3 (l.map (Value.int .i64))) (hm : l.length ≤ maxLen) : Row w g l := by
  refine ⟨by simp, .inr ⟨g, l.length, _, rfl, Nat.le_refl _, h, Nat.le_refl _, hm, by simp, by rw [List.toList_toArray, Nat.mul_one, List.take_of_length_le (by simp)]⟩⟩

def CloneP (w : World) (b o n k : Nat) (t : TypeId) (e : Ending) (w' : World) : Prop :=
  e = .returned (.slice (some ⟨w.heap.size, 0, none⟩) n n) ∧ Below w.heap.size w w' ∧ Fr w' w.heap.size t (rdC w b o (n * k))

theorem info_nd : (Tryd.prog.info? 73).map (fun i => (i.zero, i.size, i.bytes)) = some (some (.agg #[.int .u8 0, .slice none 0 0, .int .i64 0, .int .i64 0]), 4, 48) := by kernel_rfl
theorem info_mm : (Tryd.prog.info? 120).map (fun i => (i.zero, i.size, i.bytes)) = some (some (.agg #[.slice none 0 0, .slice none 0 0, .int .i64 0]), 3, 56) := by kernel_rfl
theorem info_str : (Tryd.prog.info? 9).map (fun i => (i.zero, i.size, i.bytes)) = some (some (.string ⟨#[]⟩), 1, 16) := by kernel_rfl

end Go.Proofs.YtemogllidmgbfaaDoor
