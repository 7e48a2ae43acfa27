/- The texts Wl7 Wvo Wrr Srw. -/
import Derived.Test.YtemogllidmgbfaaGreatDoorM15
import Derived.Test.YtemogllidmgbfaaGreatDoorM28
import Derived.Test.YtemogllidmgbfaaGreatDoorM31
import Derived.Test.YtemogllidmgbfaaGreatDoorM19
import Derived.Test.YtemogllidmgbfaaGreatDoorM16
import Derived.Test.YtemogllidmgbfaaGreatDoorM14
import Derived.Test.YtemogllidmgbfaaGreatDoorM10
import Derived.Deep.LoopGhost
import Derived.Deep.CutBlock
import Derived.Deep.DeepCutAuto
namespace Go.Proofs.YtemogllidmgbfaaGreatDoor
open Go.RowKit

def P7 : List (List Int × List Int) := [([0], [1]), ([1], [2]), ([2], [1])]
theorem p7_fits : ∀ x ∈ P7, Fits E6 x.1 x.2 := fun x hx => by
  have h : x = ([0], [1]) ∨ x = ([1], [2]) ∨ x = ([2], [1]) := by simpa [P7] using hx
  rcases h with rfl | rfl | rfl <;> exact fits_one (by decide) (by decide)
theorem fits_zero {c : Ck} {l k : List Int} (h : Fits c l k) (hc : chkErr c = 0) : ckE c l k = 0 := by
  rw [ckE_val hc h.mems h.li h.ls, abv_none h.vi, abv_none h.vs]; rfl
theorem wk_fits {c : Ck} {ps : List (List Int × List Int)} (hn : ps.length ≤ 64) (hc : chkErr c = 0) (hm : c.mems.length = 0) (h : ∀ x ∈ ps, Fits c x.1 x.2) : wkE c ps = 0 := by
  unfold wkE
  rw [if_neg (by omega), blE_of hc hm]
  refine foldE_zero fun k hk => ?_
  rw [List.getD_eq_getElem?_getD, List.getElem?_eq_getElem hk]
  exact fits_zero (h _ (List.getElem_mem hk)) hc
theorem p7_ok : wkE E6 P7 = 0 := wk_fits (by decide) e6_ok rfl p7_fits
def W7 : Wls := [(2, 1), (5, 0), (1, 2), (1, 2), (1, 3), (1, 3)]
def B7 : Wls := [(2, 1), (5, 0), (0, 0), (0, 0), (0, 0), (0, 0)]
theorem low_lane {a b i : Nat} (ha : a < 8) (hb : b < 8) (hi : 3 ≤ i) : lnV a b i = 2 := by
  have h : ∀ x : Nat, x < 8 → x.testBit i = false := fun x hx => Nat.testBit_lt_two_pow (Nat.lt_of_lt_of_le (show x < 2 ^ 3 from hx) (Nat.pow_le_pow_right (by decide) hi))
  unfold lnV
  rw [h a ha, h b hb]; rfl
theorem net7 (i : Nat) : Net e6N (lanes B7 i) (lanes W7 i) := by
  by_cases h3 : 3 ≤ i
  · have e1 : lanes W7 i = [2, 2, 2, 2, 2, 2] := by
      simp only [lanes, W7, List.map_cons, List.map_nil]
      rw [low_lane (by decide) (by decide) h3, low_lane (by decide) (by decide) h3, low_lane (by decide) (by decide) h3, low_lane (by decide) (by decide) h3]
    have e2 : lanes B7 i = [2, 2, 2, 2, 2, 2] := by
      simp only [lanes, B7, List.map_cons, List.map_nil]
      rw [low_lane (by decide) (by decide) h3, low_lane (by decide) (by decide) h3, low_lane (by decide) (by decide) h3]
    rw [e1, e2]
    exact ⟨rfl, six_of (by decide) (by decide) (by decide) (by decide) (by decide) (by decide)⟩
  · have : i = 0 ∨ i = 1 ∨ i = 2 := by omega
    rcases this with rfl | rfl | rfl <;> exact ⟨rfl, six_of (by decide) (by decide) (by decide) (by decide) (by decide) (by decide)⟩
theorem w7_ok : WOk W7 := fun k => by
  have : k = 0 ∨ k = 1 ∨ k = 2 ∨ k = 3 ∨ k = 4 ∨ k = 5 ∨ 6 ≤ k := by omega
  rcases this with rfl | rfl | rfl | rfl | rfl | rfl | h
  all_goals first
    | (unfold W64; decide)
    | (rw [List.getD_eq_getElem?_getD, List.getElem?_eq_none (by simp [W7]; omega)]; exact ⟨w_zero, w_zero⟩)
theorem words_all {l k : Wls} (hl : WOk l) (hk : WOk k) (hn : l.length = k.length) (h : ∀ i, i < 64 → lanes l i = lanes k i) : l = k := by
  apply List.ext_getElem hn
  intro j h1 h2
  have a1 := hl j
  have a2 := hk j
  rw [List.getD_eq_getElem?_getD, List.getElem?_eq_getElem h1] at a1
  rw [List.getD_eq_getElem?_getD, List.getElem?_eq_getElem h2] at a2
  have e := words_ext a1.1 a1.2 a2.1 a2.2 fun i hi => by
    have h3 : (lanes l i).getD j 0 = (lanes k i).getD j 0 := by rw [h i hi]
    rw [lanes_at h1, lanes_at h2] at h3
    unfold vl at h3
    rw [List.getD_eq_getElem?_getD, List.getElem?_eq_getElem h1, List.getD_eq_getElem?_getD, List.getElem?_eq_getElem h2] at h3
    exact h3
  exact Prod.ext e.1 e.2
/-- What simulate says of the words, for the example: they are these. -/
theorem w7_out {out : Wls} {P : List Int} (h : WSt e6N B7 P out) (hP : ∀ i : Nat, i < 6 → (i : Int) ∈ P) : out = W7 :=
  words_all h.ok w7_ok (h.len.trans rfl) fun i hi => e6_net (net7 i) ((h.st i hi).stop hP)
theorem pk7a : (pkA [1, 0, 2, 3] 4, pkB [1, 0, 2, 3] 4) = (9, 10) := by decide
theorem pk7b : (pkA [1, 1, 0] 3, pkB [1, 1, 0] 3) = (3, 4) := by decide
theorem pk7c : (pkA [1, 2, 2] 3, pkB [1, 2, 2] 3) = (1, 0) := by decide
theorem pk7d : (pkA [0, 1] 2, pkB [0, 1] 2) = (2, 1) := by decide
theorem pk7e : (pkA [1, 1] 2, pkB [1, 1] 2) = (3, 0) := by decide
theorem ev7a : evW 5 [(3, 4), (1, 0)] = (1, 4) := by decide
theorem ev7b : evW 12 [(2, 1), (3, 0)] = (3, 1) := by decide
theorem un7 : (List.range 5).map (lnV 9 10) = [1, 0, 2, 3, 2] := by decide
theorem at7 : lnV 9 10 3 = 3 := by decide
theorem tv7a : TV ⟨#[49, 48, 88, 90, 88]⟩ [1, 0, 2, 3, 2] := tv_of rfl (by decide) (by decide)
theorem tv7b : TV ⟨#[49, 90]⟩ [1, 3] := tv_of rfl (by decide) (by decide)
end Go.Proofs.YtemogllidmgbfaaGreatDoor

namespace Go.Proofs.YtemogllidmgbfaaGreatDoor
open Go.RowKit

def laid (l : List (Nat × Nat)) (i n : Nat) (out : List Int) (k : Nat) : Prop := out.length = n ∧ ∀ j, j < k → out.getD j 0 = vl l i j
theorem laid_all {l : List (Nat × Nat)} {i n : Nat} {out : List Int} (hn : n = l.length) (h : laid l i n out n) : out = lanes l i := by
  apply List.ext_getElem (by rw [h.1, lanes_len, hn])
  intro j h1 h2
  have hj : j < l.length := by rw [← lanes_len l i]; exact h2
  have e1 := h.2 j (by omega)
  have e2 := lanes_at (l := l) (i := i) hj
  rw [List.getD_eq_getElem?_getD, List.getElem?_eq_getElem h1] at e1
  rw [List.getD_eq_getElem?_getD, List.getElem?_eq_getElem h2] at e2
  exact (show out[j] = vl l i j from e1).trans (show vl l i j = (lanes l i)[j] from e2.symm)
theorem laid_succ {l : List (Nat × Nat)} {i n k : Nat} {out : List Int} (h : laid l i n out k) (hk : k < n) : laid l i n (out.set k (vl l i k)) (k + 1) := by
  refine ⟨by rw [List.length_set]; exact h.1, fun j hj => ?_⟩
  rw [List.getD_eq_getElem?_getD, List.getElem?_set]
  split
  · rename_i e
    subst e
    rw [if_pos (by rw [h.1]; exact hk)]; rfl
  · rename_i e
    rw [← List.getD_eq_getElem?_getD]
    exact h.2 j (by omega)
set_option maxRecDepth 100000 in
set_option maxHeartbeats 4000000 in
theorem valof_any (l : List (Nat × Nat)) (A : Option Addr) (n cl i : Nat) (hi : i < 64) (w : World) (B : Nat) (hB : B ≤ w.heap.size) (hf : Ft w) (hs : Wd w B (.slice A n cl) l) (hsz : n ≤ 1000000) :
    Calls Tryz.prog 44 #[.slice A n cl, .int .i64 (i : Int)] w fun e w' => ∃ g, e = .returned (.slice (some ⟨g, 0, none⟩) n n) ∧ VRow w' g (lanes l i) ∧ w.heap.size ≤ g ∧ BelW w w' := by
  obtain ⟨A', b, o, c', e, hA, -, -, hc⟩ := id hs
  simp only [Value.slice.injEq] at e
  obtain ⟨rfl, hml, rfl⟩ := e
  rw [← hml] at hA hc
  have HA := Lib.hid hA
  have HC : Hid (∀ W, BelW w W → ∀ k, k < n → W.cell? ⟨b, o + k * 2, none⟩ = some (.int .u64 ((l.getD k (0, 0)).1 : Int)) ∧ W.cell? ⟨b, o + k * 2 + 1, none⟩ = some (.int .u64 ((l.getD k (0, 0)).2 : Int)) ∧ W64 (l.getD k (0, 0)).1 ∧ W64 (l.getD k (0, 0)).2) := Lib.hid fun W h k hk => by
    obtain ⟨hb, h0, h1, h2, h3⟩ := hc k hk
    exact ⟨(Below.cell h (p := ⟨b, _, none⟩) (Nat.lt_of_lt_of_le hb hB)).trans h0, (Below.cell h (p := ⟨b, _, none⟩) (Nat.lt_of_lt_of_le hb hB)).trans h1, h2, h3⟩
  have HF := Lib.hid (fun W (h : BelW w W) => hf.below h)
  have HML := Lib.hid hml
  obtain ⟨i0, hi0, hz0, hz1, hz2⟩ := info_parts info_val
  have HI := Lib.hid (And.intro hi0 (And.intro hz0 (And.intro hz1 hz2)))
  clear hi0 hz0 hz1 hz2 hs hf hA hc hml
  go_enter Tryz.func44, Tryz.ntmps44
  go_wp2_with (at_make; refine wpList_make_full _ rfl _ _ 29 rfl w.heap.size 30 i0 (.int .u8 0) 1 Tryz.underlying29 HI.out.1 HI.out.2.1 HI.out.2.2.1 .i64 .i64 _ _ n rfl rfl rfl rfl ?b2 ?b3 ?b4 ?_)
  case b2 => rw [HI.out.2.2.2]; omega
  case b3 => unfold maxLen; omega
  case b4 => exact Nat.le_refl _
  intro w1 hown hgr
  rw [made_vals] at hown
  have hv : VRow w1 w.heap.size (List.replicate n 0) := VRow.of hown (by simp)
  have hb : BelW w w1 := (Below.refl _ _).grown hgr (Nat.le_refl _) (fun k h => by cases h)
  have HV := Lib.hid hv
  have HB := Lib.hid hb
  obtain ⟨g, HG⟩ := named w.heap.size
  rw [← HG.out] at HV
  rw [← HG.out]
  have hgl : w.heap.size ≤ g := by rw [HG.out]; exact Nat.le_refl _
  clear hown hgr hv hb
  go_wp2
  go_loopw [13] (fun j wr => ∃ (k : Nat) (out : List Int), k ≤ n ∧ j = .int .i64 k ∧ laid l i n out k ∧ VRow wr g out ∧ BelW w wr) (fun j _ => n - (intOf j).toNat)
  case atStart => exact ⟨0, _, Nat.zero_le _, rfl, ⟨by simp, fun j h => absurd h (Nat.not_lt_zero j)⟩, HV.out, HB.out⟩
  case round =>
    obtain ⟨k, out, hk, rfl, hl, hv, hb⟩ := hrel
    have HL := Lib.hid hl
    have HVR := Lib.hid hv
    have HBR := Lib.hid hb
    by_cases hlt : k < n
    · obtain rfl := HA.out (by omega)
      obtain ⟨f0, f1, u0, u1⟩ := HC.out wr hb k hlt
      have hgw : g < wr.heap.size := hv.lt
      have hvl : vl l i k = lnV (l.getD k (0, 0)).1 (l.getD k (0, 0)).2 i := rfl
      have HNL := Lib.hid (laid_succ hl hlt)
      obtain ⟨a, HAA⟩ := named (l.getD k (0, 0)).1
      obtain ⟨c, HCC⟩ := named (l.getD k (0, 0)).2
      rw [← HAA.out] at f0 u0 hvl
      rw [← HCC.out] at f1 u1 hvl
      rw [hvl] at HNL
      have hat : ∀ W, BelW w W → Calls Tryz.prog 21 #[wv a c, .int .i64 (i : Int)] W fun e w' => e = .returned (.int .u8 (lnV a c i)) ∧ BelW W w' := fun W h => wat_any a c i u0 u1 hi W (HF.out W h)
      unfold wv at hat
      obtain ⟨z, HZ⟩ := named (lnV a c i)
      rw [← HZ.out] at hat HNL
      have HAT := Lib.hid hat
      have hbl : b < wr.heap.size := cell_lt f0
      obtain ⟨V, HV'⟩ := named (wr.alloc (.cells #[.int .u64 (a : Int), .int .u64 (c : Int)] 27))
      have hn : BelW wr V := by rw [HV'.out]; exact below_new (Below.refl _ _) _
      have hfv : Fr V wr.heap.size 27 [.int .u64 (a : Int), .int .u64 (c : Int)] := by rw [HV'.out]; exact Fr.made _ _ _ rfl
      have hsV : BelW w V := joinB hb hn
      have hrV := HVR.out.below hn
      obtain ⟨q, HQ⟩ := named wr.heap.size
      rw [← HQ.out] at hfv
      have d0 := hfv.cell 0
      have d1 := hfv.cell 1
      have HRV := Lib.hid hrV
      have HLO := Lib.hid (show k < out.length by rw [hl.1]; exact hlt)
      clear hn hfv hrV hat hvl hl hv hb
      go_upto_region 5 with (fail)
      rw [← HV'.out, ← HQ.out]
      go_wp2_with (go_at_call 21; (with_reducible refine (HAT.out _ hsV).mono ?_); rintro e w5 ⟨rfl, hb5⟩; have hv5 := HRV.out.below hb5; have e1 := hv5.cell HLO.out; have e2 := hv5.frozen k; have HV5 := Lib.hid hv5; have HB5 : Hid (BelW w w5) := Lib.hid (joinB hsV hb5); clear hb5 hv5)
      go_roundw
      case rel => exact ⟨k + 1, out.set k z, by omega, by go_num, HNL.out, HV5.out.set k z, BelW.set HB5.out hgl _⟩
      case measure => simp [intOf]; omega
    · obtain rfl : n = k := by omega
      obtain rfl := laid_all HML.out HL.out
      clear hl hv hb
      go_wp2
      go_ret
      exact ⟨g, rfl, HVR.out, hgl, HBR.out⟩
end Go.Proofs.YtemogllidmgbfaaGreatDoor

namespace Go.Proofs.YtemogllidmgbfaaGreatDoor
open Go.RowKit

theorem info_resp : (Tryz.prog.info? 59).map (fun i => (i.zero, i.size, i.bytes)) = some (some (.agg #[.slice none 0 0, .slice none 0 0]), 2, 48) := by kernel_rfl
/-- The cells of a list of pairs of values. -/
def flatP : List (Value × Value) → List Value
  | [] => []
  | x :: l => x.1 :: x.2 :: flatP l
theorem flatP_len (l : List (Value × Value)) : (flatP l).length = l.length * 2 := by
  induction l with
  | nil => rfl
  | cons x l ih => simp [flatP, ih]; omega
theorem flatP_get (l : List (Value × Value)) (k : Nat) : (flatP l)[k * 2]? = l[k]?.map (·.1) ∧ (flatP l)[k * 2 + 1]? = l[k]?.map (·.2) := by
  induction l generalizing k with
  | nil => simp [flatP]
  | cons x l ih =>
    cases k with
    | zero => simp [flatP]
    | succ k =>
      have e1 : (k + 1) * 2 = k * 2 + 1 + 1 := by omega
      rw [e1]
      simp only [flatP, List.getElem?_cons_succ]
      exact ih k
theorem flatP_set (l : List (Value × Value)) (k : Nat) (x : Value × Value) : ((flatP l).set (k * 2) x.1).set (k * 2 + 1) x.2 = flatP (l.set k x) := by
  induction l generalizing k with
  | nil => simp [flatP]
  | cons y l ih =>
    cases k with
    | zero => simp [flatP]
    | succ k =>
      have e1 : (k + 1) * 2 = k * 2 + 1 + 1 := by omega
      rw [e1]
      simp only [flatP, List.set_cons_succ]
      rw [ih k]
theorem flatP_zero (z : Value) (n : Nat) : (madeCells #[z, z] (n * 2)).toList = flatP (List.replicate n (z, z)) := by
  apply List.ext_getElem?
  intro j
  by_cases hj : j < n * 2
  · obtain ⟨k, hk⟩ : ∃ k, j = k * 2 ∨ j = k * 2 + 1 := ⟨j / 2, by omega⟩
    have hkn : k < n := by omega
    rcases hk with rfl | rfl
    · rw [(flatP_get _ k).1]
      simp [madeCells, hj, hkn]
    · rw [(flatP_get _ k).2]
      have : (k * 2 + 1) % 2 = 1 := by omega
      simp [madeCells, hj, hkn, this]
  · rw [List.getElem?_eq_none (by simp [madeCells]; omega), List.getElem?_eq_none (by rw [flatP_len]; simp; omega)]

/-- Block g is a row of n responses, of which the first k are those of f. -/
def RRow (w : World) (g : Nat) (f : Nat → List Int × List Int) (n k : Nat) : Prop :=
  ∃ vs : List (Value × Value), Fr w g 59 (flatP vs) ∧ vs.length = n ∧ ∀ j, j < k → ∃ a b, vs[j]? = some (.slice (some ⟨a, 0, none⟩) (f j).1.length (f j).1.length, .slice (some ⟨b, 0, none⟩) (f j).2.length (f j).2.length) ∧ VRow w a (f j).1 ∧ VRow w b (f j).2 ∧ a ≠ g ∧ b ≠ g
section
variable {w w' : World} {g n k : Nat} {f : Nat → List Int × List Int}
theorem RRow.lt (h : RRow w g f n k) : g < w.heap.size := by obtain ⟨vs, h1, -⟩ := h; exact h1.lt
theorem RRow.below (h : RRow w g f n k) (hb : BelW w w') : RRow w' g f n k := by
  obtain ⟨vs, h1, h2, h3⟩ := h
  exact ⟨vs, h1.below hb, h2, fun j hj => by
    obtain ⟨a, b, e, va, vb, na, nb⟩ := h3 j hj
    exact ⟨a, b, e, va.below hb, vb.below hb, na, nb⟩⟩
theorem RRow.frozen (h : RRow w g f n k) (j : Nat) : w.frozen? ⟨g, j, none⟩ = false := by obtain ⟨vs, h1, -⟩ := h; exact h1.frozen j
theorem RRow.there (h : RRow w g f n k) {j : Nat} (hj : j < n) : ∃ u v, w.cell? ⟨g, j * 2, none⟩ = some u ∧ w.cell? ⟨g, j * 2 + 1, none⟩ = some v := by
  obtain ⟨vs, h1, h2, -⟩ := h
  have e : vs[j]? = some vs[j] := List.getElem?_eq_getElem (by omega)
  refine ⟨vs[j].1, vs[j].2, ?_, ?_⟩
  · rw [h1.cell, (flatP_get vs j).1, e]; rfl
  · rw [h1.cell, (flatP_get vs j).2, e]; rfl
theorem RRow.at (h : RRow w g f n k) {j : Nat} (hj : j < k) : ∃ a b, w.cell? ⟨g, j * 2, none⟩ = some (.slice (some ⟨a, 0, none⟩) (f j).1.length (f j).1.length) ∧ w.cell? ⟨g, j * 2 + 1, none⟩ = some (.slice (some ⟨b, 0, none⟩) (f j).2.length (f j).2.length) ∧ VRow w a (f j).1 ∧ VRow w b (f j).2 := by
  obtain ⟨vs, h1, h2, h3⟩ := h
  obtain ⟨a, b, e, va, vb, -, -⟩ := h3 j hj
  refine ⟨a, b, ?_, ?_, va, vb⟩
  · rw [h1.cell, (flatP_get vs j).1, e]; rfl
  · rw [h1.cell, (flatP_get vs j).2, e]; rfl
theorem RRow.step (h : RRow w g f n k) (hk : k < n) {a b : Nat} (va : VRow w a (f k).1) (vb : VRow w b (f k).2) (na : a ≠ g) (nb : b ≠ g) :
    RRow ((w.setCell ⟨g, k * 2, none⟩ (.slice (some ⟨a, 0, none⟩) (f k).1.length (f k).1.length)).setCell ⟨g, k * 2 + 1, none⟩ (.slice (some ⟨b, 0, none⟩) (f k).2.length (f k).2.length)) g f n (k + 1) := by
  obtain ⟨vs, h1, h2, h3⟩ := h
  refine ⟨vs.set k (.slice (some ⟨a, 0, none⟩) (f k).1.length (f k).1.length, .slice (some ⟨b, 0, none⟩) (f k).2.length (f k).2.length), ?_, by rw [List.length_set]; exact h2, fun j hj => ?_⟩
  · rw [← flatP_set]
    exact (h1.set _ _).set _ _
  · by_cases e : j = k
    · subst e
      exact ⟨a, b, by rw [List.getElem?_set]; simp [h2, hk], (va.other (a := ⟨g, _, none⟩) (Ne.symm na) _).other (a := ⟨g, _, none⟩) (Ne.symm na) _, (vb.other (a := ⟨g, _, none⟩) (Ne.symm nb) _).other (a := ⟨g, _, none⟩) (Ne.symm nb) _, na, nb⟩
    · obtain ⟨a', b', e', va', vb', na', nb'⟩ := h3 j (by omega)
      refine ⟨a', b', by rw [List.getElem?_set, if_neg (by omega)]; exact e', ?_, ?_, na', nb'⟩
      · exact (va'.other (a := ⟨g, _, none⟩) (Ne.symm na') _).other (a := ⟨g, _, none⟩) (Ne.symm na') _
      · exact (vb'.other (a := ⟨g, _, none⟩) (Ne.symm nb') _).other (a := ⟨g, _, none⟩) (Ne.symm nb') _
theorem RRow.of {B : Nat} (h : w.ownsRow B 59 2 (.slice (some ⟨g, 0, none⟩) n n) n (flatP (List.replicate n (.slice none 0 0, .slice none 0 0)))) : RRow w g f n 0 := by
  rcases h.2 with ⟨e, -⟩ | ⟨g', cap, cur, e, hb', hg', hle, hmx, hs', ht'⟩
  · cases e
  · simp only [Value.slice.injEq, Option.some.injEq, Addr.mk.injEq] at e
    obtain ⟨⟨rfl, -⟩, -, rfl⟩ := e
    refine ⟨List.replicate n (.slice none 0 0, .slice none 0 0), ?_, by simp, fun j hj => absurd hj (by omega)⟩
    unfold Fr
    rw [hg']
    have e : cur.toList = flatP (List.replicate n (.slice none 0 0, .slice none 0 0)) := by rw [← ht', List.take_of_length_le (by simp [hs'])]
    rw [← e, Array.toArray_toList]
end
end Go.Proofs.YtemogllidmgbfaaGreatDoor

namespace Go.Proofs.YtemogllidmgbfaaGreatDoor
open Go.RowKit

def Rg (n : Nat) (R : List Int) : Prop := R.length = n ∧ ∀ x ∈ R, 0 ≤ x ∧ x < (n : Int)
theorem Rg.at {n : Nat} {R : List Int} (h : Rg n R) {j : Nat} (hj : j < n) : ∃ y : Nat, lat R (j : Int) = (y : Int) ∧ y < n := by
  have hm : R.getD j 0 ∈ R := by
    rw [List.getD_eq_getElem?_getD, List.getElem?_eq_getElem (by rw [h.1]; exact hj)]
    exact List.getElem_mem _
  have := h.2 _ hm
  refine ⟨(R.getD j 0).toNat, ?_, by omega⟩
  show R.getD ((j : Int).toNat) 0 = _
  rw [Int.toNat_natCast]; omega
theorem Rg.set {n : Nat} {R : List Int} (h : Rg n R) (j y : Nat) (hy : y < n) : Rg n (R.set j (y : Int)) :=
  ⟨by rw [List.length_set]; exact h.1, fun x hx => by
    rcases List.mem_or_eq_of_mem_set hx with h' | h'
    · exact h.2 x h'
    · omega⟩
def SV (w : World) (B d g q n : Nat) (L : List Int) (wr : World) : Prop := ∃ R, Rg n R ∧ SW w B d g q n L R wr
section
variable {w wr : World} {B d g q n : Nat} {L : List Int}
theorem SV.drewN (h : SV w B d g q n L wr) (k : Nat) : SV w B d g q n L (wr.drewN k) := by
  obtain ⟨R, h1, h2⟩ := h; exact ⟨R, h1, h2.drewN k⟩
theorem SV.drew (h : SV w B d g q n L wr) : SV w B d g q n L wr.drew := by
  obtain ⟨R, h1, h2⟩ := h; exact ⟨R, h1, h2.drew⟩
theorem SV.set (h : SV w B d g q n L wr) (hd : B ≤ d) (hg : d ≠ g) (hq : d ≠ q) (j y : Nat) (hy : y < n) : SV w B d g q n L (wr.setCell ⟨d, j, none⟩ (.int .i64 (y : Int))) := by
  obtain ⟨R, h1, h2⟩ := h; exact ⟨_, h1.set j y hy, h2.set hd hg hq j y⟩
theorem SV.at (h : SV w B d g q n L wr) {j : Nat} (hj : j < n) : ∃ y : Nat, y < n ∧ wr.cell? ⟨d, j, none⟩ = some (.int .i64 (y : Int)) ∧ wr.frozen? ⟨d, j, none⟩ = false := by
  obtain ⟨R, h1, h2⟩ := h
  obtain ⟨y, hy, hyn⟩ := h1.at hj
  refine ⟨y, hyn, ?_, h2.row.frozen j⟩
  rw [h2.row.cell (by rw [h1.1]; exact hj), hy]
theorem SV.cmp (h : SV w B d g q n L wr) (hL : L.length = n) (hn : n ≤ 1000000) {a b : Nat} (ha : a < n) (hb : b < n) (m : Nat) :
    Calls Tryz.prog 89 #[.int .i64 a, .int .i64 b, .pointer (some ⟨q, 0, none⟩)] (wr.drewN m) fun e w' => e = .returned (.int .i64 (cmpI (lat L a) (lat L b))) ∧ ∃ n, w' = (wr.drewN m).drewN n := by
  obtain ⟨R, h1, h2⟩ := h
  exact order1_any L a b (by omega) (by omega) (by omega) g q _ (h2.lev) (by rw [hL]; exact h2.cell)
end
/-- What each of the sort's functions keeps. -/
def SVP (w : World) (B d g q n : Nat) (L : List Int) (e : Ending) (w' : World) : Prop := e = .returned (.tuple #[]) ∧ SV w B d g q n L w'

set_option maxRecDepth 100000 in
set_option maxHeartbeats 4000000 in
theorem swap_w (L : List Int) (n d g q B a b k : Nat) (w w0 : World) (hd : B ≤ d) (hg : d ≠ g) (hq : d ≠ q) (hn : n ≤ 1000000) (ha : a + k ≤ n) (hb : b + k ≤ n) (hab : a ≠ b) (hw : SV w0 B d g q n L w) (cv : Value) :
    Calls Tryz.prog 139 #[.slice (some ⟨d, 0, none⟩) n n, .int .i64 (a : Int), .int .i64 (b : Int), .int .i64 (k : Int), cv] w (SVP w0 B d g q n L) := by
  have HW := Lib.hid hw
  clear hw
  go_enter Tryz.func139, Tryz.ntmps139
  go_wp2
  go_loopw [10] (fun i wr => ∃ j : Nat, i = .int .i64 j ∧ j ≤ k ∧ SV w0 B d g q n L wr) (fun i _ => k - (intOf i).toNat)
  case atStart => exact ⟨0, rfl, Nat.zero_le _, HW.out⟩
  case round =>
    clear HW
    obtain ⟨j, rfl, hjk, hs⟩ := hrel
    have HS := Lib.hid hs
    by_cases hj : j < k
    · obtain ⟨x, hx, c0, f0⟩ := hs.at (j := a + j) (by omega)
      obtain ⟨y, hy, c1, f1⟩ := hs.at (j := b + j) (by omega)
      clear hs
      obtain ⟨p, HP⟩ := named (a + j)
      obtain ⟨r, HR⟩ := named (b + j)
      have hp : (a : Int) + (j : Int) = (p : Int) := by rw [HP.out]; omega
      have hr : (b : Int) + (j : Int) = (r : Int) := by rw [HR.out]; omega
      have hpn : p < n := by rw [HP.out]; omega
      have hrn : r < n := by rw [HR.out]; omega
      have hwp : IntKind.i64.wrap ((a : Int) + (j : Int)) = (p : Int) := by rw [IntKind.wrap_i64]; omega
      have hwr : IntKind.i64.wrap ((b : Int) + (j : Int)) = (r : Int) := by rw [IntKind.wrap_i64]; omega
      have hpr : p ≠ r := by rw [HP.out, HR.out]; omega
      have hrp : r ≠ p := Ne.symm hpr
      rw [← HP.out] at c0 f0
      rw [← HR.out] at c1 f1
      go_wp2
      go_big_region
      all_goals
        go_wp2
        go_roundw
        case rel =>
          refine ⟨j + 1, by go_num, by omega, ?_⟩
          first
            | exact ((HS.out.set hd hg hq p y hy).set hd hg hq r x hx).drew
            | exact ((HS.out.set hd hg hq r x hx).set hd hg hq p y hy).drew
            | exact ((HS.out.drew.set hd hg hq p y hy).set hd hg hq r x hx)
        case measure => simp [intOf]; omega
    · obtain rfl : k = j := by omega
      go_wp2
      go_end0
      exact ⟨rfl, HS.out⟩

set_option maxRecDepth 100000 in
set_option maxHeartbeats 4000000 in
theorem rot_w (L : List Int) (n d g q B a m b : Nat) (w w0 : World) (hd : B ≤ d) (hg : d ≠ g) (hq : d ≠ q) (hn : n ≤ 1000000) (ha : a < m) (hm : m < b) (hb : b ≤ n) (hw : SV w0 B d g q n L w) (cv : Value) :
    Calls Tryz.prog 134 #[.slice (some ⟨d, 0, none⟩) n n, .int .i64 (a : Int), .int .i64 (m : Int), .int .i64 (b : Int), cv] w (SVP w0 B d g q n L) := by
  have HSW : Hid (∀ (x y k : Nat) (W : World), x + k ≤ n → y + k ≤ n → x ≠ y → SV w0 B d g q n L W → Calls Tryz.prog 139 #[.slice (some ⟨d, 0, none⟩) n n, .int .i64 (x : Int), .int .i64 (y : Int), .int .i64 (k : Int), cv] W (SVP w0 B d g q n L)) :=
    Lib.hid fun x y k W h1 h2 h3 h4 => swap_w L n d g q B x y k W w0 hd hg hq hn h1 h2 h3 h4 cv
  have HW := Lib.hid hw
  clear hw
  have hwi : IntKind.i64.wrap ((m : Int) - (a : Int)) = ((m - a : Nat) : Int) := by rw [IntKind.wrap_i64]; omega
  have hwj : IntKind.i64.wrap ((b : Int) - (m : Int)) = ((b - m : Nat) : Int) := by rw [IntKind.wrap_i64]; omega
  go_enter Tryz.func134, Tryz.ntmps134
  go_wp2
  go_loopw [10, 11] (fun vi vj wr => ∃ i j : Nat, vi = .int .i64 i ∧ vj = .int .i64 j ∧ 1 ≤ i ∧ 1 ≤ j ∧ i ≤ m ∧ m + j ≤ n ∧ SV w0 B d g q n L wr) (fun vi vj _ => (intOf vi).toNat + (intOf vj).toNat)
  case atStart => exact ⟨m - a, b - m, by first | rfl | (rw [hwi]) | go_num, by first | rfl | (rw [hwj]) | go_num, by omega, by omega, by omega, by omega, HW.out⟩
  case round =>
    clear HW hwi hwj
    obtain ⟨i, j, rfl, rfl, hi1, hj1, him, hmj, hs⟩ := hrel
    have HS := Lib.hid hs
    clear hs
    have hmi : (m : Int) - (i : Int) = ((m - i : Nat) : Int) := by omega
    have hwm : IntKind.i64.wrap ((m : Int) - (i : Int)) = ((m - i : Nat) : Int) := by rw [IntKind.wrap_i64]; omega
    rcases Nat.lt_trichotomy i j with hlt | heq | hgt
    · have hlz : (i : Int) < (j : Int) := by omega
      have hne : ¬ ((i : Int) = (j : Int)) := by omega
      have hng : ¬ ((j : Int) < (i : Int)) := by omega
      have hws : IntKind.i64.wrap ((m : Int) + (j : Int)) = ((m + j : Nat) : Int) := by rw [IntKind.wrap_i64]; omega
      have hwt : IntKind.i64.wrap (((m + j : Nat) : Int) - (i : Int)) = ((m + j - i : Nat) : Int) := by rw [IntKind.wrap_i64]; omega
      have hwu : IntKind.i64.wrap ((m : Int) + (j : Int) - (i : Int)) = ((m + j - i : Nat) : Int) := by rw [IntKind.wrap_i64]; omega
      have hwv : IntKind.i64.wrap ((j : Int) - (i : Int)) = ((j - i : Nat) : Int) := by rw [IntKind.wrap_i64]; omega
      have HC := Lib.hid (HSW.out (m - i) (m + j - i) i wr (by omega) (by omega) (by omega) HS.out)
      have hx : (m : Int) + (j : Int) - (i : Int) = ((m + j - i : Nat) : Int) := by omega
      go_wp2_with (go_at_call 139; (with_reducible refine HC.out.mono ?_); rintro e w2 ⟨rfl, h2⟩; have HS2 := Lib.hid h2; clear h2)
      go_roundw
      case rel => exact ⟨i, j - i, rfl, by first | rfl | (rw [hwv]) | go_num, hi1, by omega, him, by omega, HS2.out⟩
      case measure => simp [intOf]; omega
    · subst heq
      have HC := Lib.hid (HSW.out (m - i) m i wr (by omega) (by omega) (by omega) HS.out)
      go_wp2_with (go_at_call 139; (with_reducible refine HC.out.mono ?_); rintro e w2 ⟨rfl, h2⟩; have HS2 := Lib.hid h2; clear h2)
      go_end0
      exact ⟨rfl, HS2.out⟩
    · have hne : ¬ ((i : Int) = (j : Int)) := by omega
      have hgz : (j : Int) < (i : Int) := by omega
      have hwv : IntKind.i64.wrap ((i : Int) - (j : Int)) = ((i - j : Nat) : Int) := by rw [IntKind.wrap_i64]; omega
      have HC := Lib.hid (HSW.out (m - i) m j wr (by omega) (by omega) (by omega) HS.out)
      go_wp2_with (go_at_call 139; (with_reducible refine HC.out.mono ?_); rintro e w2 ⟨rfl, h2⟩; have HS2 := Lib.hid h2; clear h2)
      go_roundw
      case rel => exact ⟨i - j, j, by first | rfl | (rw [hwv]) | go_num, rfl, by omega, hj1, by omega, hmj, HS2.out⟩
      case measure => simp [intOf]; omega
end Go.Proofs.YtemogllidmgbfaaGreatDoor
