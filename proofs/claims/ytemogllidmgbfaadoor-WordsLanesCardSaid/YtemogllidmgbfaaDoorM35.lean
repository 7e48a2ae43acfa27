/- The texts Wrr Srw. -/
import Derived.Test.YtemogllidmgbfaaDoorM34
import Derived.Test.YtemogllidmgbfaaDoorM13
import Derived.Deep.LoopGhost
import Derived.Deep.CutBlock
import Derived.Deep.DeepCutAuto
namespace Go.Proofs.YtemogllidmgbfaaDoor
open Go.RowKit

theorem info_resp : (Tryd.prog.info? 59).map (fun i => (i.zero, i.size, i.bytes)) = some (some (.agg #[.slice none 0 0, .slice none 0 0]), 2, 48) := by kernel_rfl
/-- The cells of a list of pairs of values. -/
def flatP : List (Value × Value) → List Value
  | [] => []
  | x :: l => x.1 :: x.2 :: flatP l
theorem flatP_len (l : List (Value × Value)) : (flatP l).length = l.length * 2 := by
  induction l with
  | nil => rfl
  | cons x l ih => simp [flatP, ih]; omega
theorem flatP_get (l : List (Value × Value)) (k : Nat) : (flatP l)[k * 2]? = l[k]?.map (·.1) ∧ (flatP l)[k * 2 + 1]? = l[k]?.map (·.2) := by
  induction l generalizing k with
  | nil => simp [flatP]
  | cons x l ih =>
    cases k with
    | zero => simp [flatP]
    | succ k =>
      have e1 : (k + 1) * 2 = k * 2 + 1 + 1 := by omega
      rw [e1]
      simp only [flatP, List.getElem?_cons_succ]
      exact ih k
theorem flatP_set (l : List (Value × Value)) (k : Nat) (x : Value × Value) : ((flatP l).set (k * 2) x.1).set (k * 2 + 1) x.2 = flatP (l.set k x) := by
  induction l generalizing k with
  | nil => simp [flatP]
  | cons y l ih =>
    cases k with
    | zero => simp [flatP]
    | succ k =>
      have e1 : (k + 1) * 2 = k * 2 + 1 + 1 := by omega
      rw [e1]
      simp only [flatP, List.set_cons_succ]
      rw [ih k]
theorem flatP_zero (z : Value) (n : Nat) : (madeCells #[z, z] (n * 2)).toList = flatP (List.replicate n (z, z)) := by
  apply List.ext_getElem?
  intro j
  by_cases hj : j < n * 2
  · obtain ⟨k, hk⟩ : ∃ k, j = k * 2 ∨ j = k * 2 + 1 := ⟨j / 2, by omega⟩
    have hkn : k < n := by omega
    rcases hk with rfl | rfl
    · rw [(flatP_get _ k).1]
      simp [madeCells, hj, hkn]
    · rw [(flatP_get _ k).2]
      have : (k * 2 + 1) % 2 = 1 := by omega
      simp [madeCells, hj, hkn, this]
  · rw [List.getElem?_eq_none (by simp [madeCells]; omega), List.getElem?_eq_none (by rw [flatP_len]; simp; omega)]

/-- Block g is a row of n responses, of which the first k are those of f. -/
def RRow (w : World) (g : Nat) (f : Nat → List Int × List Int) (n k : Nat) : Prop :=
  ∃ vs : List (Value × Value), Fr w g 59 (flatP vs) ∧ vs.length = n ∧ ∀ j, j < k → ∃ a b, vs[j]? = some (.slice (some ⟨a, 0, none⟩) (f j).1.length (f j).1.length, .slice (some ⟨b, 0, none⟩) (f j).2.length (f j).2.length) ∧ VRow w a (f j).1 ∧ VRow w b (f j).2 ∧ a ≠ g ∧ b ≠ g
section
variable {w w' : World} {g n k : Nat} {f : Nat → List Int × List Int}
theorem RRow.lt (h : RRow w g f n k) : g < w.heap.size := by obtain ⟨vs, h1, -⟩ := h; exact h1.lt
theorem RRow.below (h : RRow w g f n k) (hb : BelW w w') : RRow w' g f n k := by
  obtain ⟨vs, h1, h2, h3⟩ := h
  exact ⟨vs, h1.below hb, h2, fun j hj => by
    obtain ⟨a, b, e, va, vb, na, nb⟩ := h3 j hj
    exact ⟨a, b, e, va.below hb, vb.below hb, na, nb⟩⟩
theorem RRow.frozen (h : RRow w g f n k) (j : Nat) : w.frozen? ⟨g, j, none⟩ = false := by obtain ⟨vs, h1, -⟩ := h; exact h1.frozen j
theorem RRow.there (h : RRow w g f n k) {j : Nat} (hj : j < n) : ∃ u v, w.cell? ⟨g, j * 2, none⟩ = some u ∧ w.cell? ⟨g, j * 2 + 1, none⟩ = some v := by
  obtain ⟨vs, h1, h2, -⟩ := h
  have e : vs[j]? = some vs[j] := List.getElem?_eq_getElem (by omega)
  refine ⟨vs[j].1, vs[j].2, ?_, ?_⟩
  · rw [h1.cell, (flatP_get vs j).1, e]; rfl
  · rw [h1.cell, (flatP_get vs j).2, e]; rfl
theorem RRow.at (h : RRow w g f n k) {j : Nat} (hj : j < k) : ∃ a b, w.cell? ⟨g, j * 2, none⟩ = some (.slice (some ⟨a, 0, none⟩) (f j).1.length (f j).1.length) ∧ w.cell? ⟨g, j * 2 + 1, none⟩ = some (.slice (some ⟨b, 0, none⟩) (f j).2.length (f j).2.length) ∧ VRow w a (f j).1 ∧ VRow w b (f j).2 := by
  obtain ⟨vs, h1, h2, h3⟩ := h
  obtain ⟨a, b, e, va, vb, -, -⟩ := h3 j hj
  refine ⟨a, b, ?_, ?_, va, vb⟩
  · rw [h1.cell, (flatP_get vs j).1, e]; rfl
  · rw [h1.cell, (flatP_get vs j).2, e]; rfl
theorem RRow.step (h : RRow w g f n k) (hk : k < n) {a b : Nat} (va : VRow w a (f k).1) (vb : VRow w b (f k).2) (na : a ≠ g) (nb : b ≠ g) :
    RRow ((w.setCell ⟨g, k * 2, none⟩ (.slice (some ⟨a, 0, none⟩) (f k).1.length (f k).1.length)).setCell ⟨g, k * 2 + 1, none⟩ (.slice (some ⟨b, 0, none⟩) (f k).2.length (f k).2.length)) g f n (k + 1) := by
  obtain ⟨vs, h1, h2, h3⟩ := h
  refine ⟨vs.set k (.slice (some ⟨a, 0, none⟩) (f k).1.length (f k).1.length, .slice (some ⟨b, 0, none⟩) (f k).2.length (f k).2.length), ?_, by rw [List.length_set]; exact h2, fun j hj => ?_⟩
  · rw [← flatP_set]
    exact (h1.set _ _).set _ _
  · by_cases e : j = k
    · subst e
      exact ⟨a, b, by rw [List.getElem?_set]; simp [h2, hk], (va.other (a := ⟨g, _, none⟩) (Ne.symm na) _).other (a := ⟨g, _, none⟩) (Ne.symm na) _, (vb.other (a := ⟨g, _, none⟩) (Ne.symm nb) _).other (a := ⟨g, _, none⟩) (Ne.symm nb) _, na, nb⟩
    · obtain ⟨a', b', e', va', vb', na', nb'⟩ := h3 j (by omega)
      refine ⟨a', b', by rw [List.getElem?_set, if_neg (by omega)]; exact e', ?_, ?_, na', nb'⟩
      · exact (va'.other (a := ⟨g, _, none⟩) (Ne.symm na') _).other (a := ⟨g, _, none⟩) (Ne.symm na') _
      · exact (vb'.other (a := ⟨g, _, none⟩) (Ne.symm nb') _).other (a := ⟨g, _, none⟩) (Ne.symm nb') _
theorem RRow.of {B : Nat} (h : w.ownsRow B 59 2 (.slice (some ⟨g, 0, none⟩) n n) n (flatP (List.replicate n (.slice none 0 0, .slice none 0 0)))) : RRow w g f n 0 := by
  rcases h.2 with ⟨e, -⟩ | ⟨g', cap, cur, e, hb', hg', hle, hmx, hs', ht'⟩
  · cases e
  · simp only [Value.slice.injEq, Option.some.injEq, Addr.mk.injEq] at e
    obtain ⟨⟨rfl, -⟩, -, rfl⟩ := e
    refine ⟨List.replicate n (.slice none 0 0, .slice none 0 0), ?_, by simp, fun j hj => absurd hj (by omega)⟩
    unfold Fr
    rw [hg']
    have e : cur.toList = flatP (List.replicate n (.slice none 0 0, .slice none 0 0)) := by rw [← ht', List.take_of_length_le (by simp [hs'])]
    rw [← e, Array.toArray_toList]
end
end Go.Proofs.YtemogllidmgbfaaDoor

namespace Go.Proofs.YtemogllidmgbfaaDoor
open Go.RowKit

def Rg (n : Nat) (R : List Int) : Prop := R.length = n ∧ ∀ x ∈ R, 0 ≤ x ∧ x < (n : Int)
theorem Rg.at {n : Nat} {R : List Int} (h : Rg n R) {j : Nat} (hj : j < n) : ∃ y : Nat, lat R (j : Int) = (y : Int) ∧ y < n := by
  have hm : R.getD j 0 ∈ R := by
    rw [List.getD_eq_getElem?_getD, List.getElem?_eq_getElem (by rw [h.1]; exact hj)]
    exact List.getElem_mem _
  have := h.2 _ hm
  refine ⟨(R.getD j 0).toNat, ?_, by omega⟩
  show R.getD ((j : Int).toNat) 0 = _
  rw [Int.toNat_natCast]; omega
theorem Rg.set {n : Nat} {R : List Int} (h : Rg n R) (j y : Nat) (hy : y < n) : Rg n (R.set j (y : Int)) :=
  ⟨by rw [List.length_set]; exact h.1, fun x hx => by
    rcases List.mem_or_eq_of_mem_set hx with h' | h'
    · exact h.2 x h'
    · omega⟩
def SV (w : World) (B d g q n : Nat) (L : List Int) (wr : World) : Prop := ∃ R, Rg n R ∧ SW w B d g q n L R wr
section
variable {w wr : World} {B d g q n : Nat} {L : List Int}
theorem SV.drewN (h : SV w B d g q n L wr) (k : Nat) : SV w B d g q n L (wr.drewN k) := by
  obtain ⟨R, h1, h2⟩ := h; exact ⟨R, h1, h2.drewN k⟩
theorem SV.drew (h : SV w B d g q n L wr) : SV w B d g q n L wr.drew := by
  obtain ⟨R, h1, h2⟩ := h; exact ⟨R, h1, h2.drew⟩
theorem SV.set (h : SV w B d g q n L wr) (hd : B ≤ d) (hg : d ≠ g) (hq : d ≠ q) (j y : Nat) (hy : y < n) : SV w B d g q n L (wr.setCell ⟨d, j, none⟩ (.int .i64 (y : Int))) := by
  obtain ⟨R, h1, h2⟩ := h; exact ⟨_, h1.set j y hy, h2.set hd hg hq j y⟩
theorem SV.at (h : SV w B d g q n L wr) {j : Nat} (hj : j < n) : ∃ y : Nat, y < n ∧ wr.cell? ⟨d, j, none⟩ = some (.int .i64 (y : Int)) ∧ wr.frozen? ⟨d, j, none⟩ = false := by
  obtain ⟨R, h1, h2⟩ := h
  obtain ⟨y, hy, hyn⟩ := h1.at hj
  refine ⟨y, hyn, ?_, h2.row.frozen j⟩
  rw [h2.row.cell (by rw [h1.1]; exact hj), hy]
theorem SV.cmp (h : SV w B d g q n L wr) (hL : L.length = n) (hn : n ≤ 1000000) {a b : Nat} (ha : a < n) (hb : b < n) (m : Nat) :
    Calls Tryd.prog 57 #[.int .i64 a, .int .i64 b, .pointer (some ⟨q, 0, none⟩)] (wr.drewN m) fun e w' => e = .returned (.int .i64 (cmpI (lat L a) (lat L b))) ∧ ∃ n, w' = (wr.drewN m).drewN n := by
  obtain ⟨R, h1, h2⟩ := h
  exact order1_any L a b (by omega) (by omega) (by omega) g q _ (h2.lev) (by rw [hL]; exact h2.cell)
end
/-- What each of the sort's functions keeps. -/
def SVP (w : World) (B d g q n : Nat) (L : List Int) (e : Ending) (w' : World) : Prop := e = .returned (.tuple #[]) ∧ SV w B d g q n L w'

set_option maxRecDepth 100000 in
set_option maxHeartbeats 4000000 in
theorem swap_w (L : List Int) (n d g q B a b k : Nat) (w w0 : World) (hd : B ≤ d) (hg : d ≠ g) (hq : d ≠ q) (hn : n ≤ 1000000) (ha : a + k ≤ n) (hb : b + k ≤ n) (hab : a ≠ b) (hw : SV w0 B d g q n L w) (cv : Value) :
    Calls Tryd.prog 96 #[.slice (some ⟨d, 0, none⟩) n n, .int .i64 (a : Int), .int .i64 (b : Int), .int .i64 (k : Int), cv] w (SVP w0 B d g q n L) := by
  have HW := Lib.hid hw
  clear hw
  go_enter Tryd.func96, Tryd.ntmps96
  go_wp2
  go_loopw [10] (fun i wr => ∃ j : Nat, i = .int .i64 j ∧ j ≤ k ∧ SV w0 B d g q n L wr) (fun i _ => k - (intOf i).toNat)
  case atStart => exact ⟨0, rfl, Nat.zero_le _, HW.out⟩
  case round =>
    clear HW
    obtain ⟨j, rfl, hjk, hs⟩ := hrel
    have HS := Lib.hid hs
    by_cases hj : j < k
    · obtain ⟨x, hx, c0, f0⟩ := hs.at (j := a + j) (by omega)
      obtain ⟨y, hy, c1, f1⟩ := hs.at (j := b + j) (by omega)
      clear hs
      obtain ⟨p, HP⟩ := named (a + j)
      obtain ⟨r, HR⟩ := named (b + j)
      have hp : (a : Int) + (j : Int) = (p : Int) := by rw [HP.out]; omega
      have hr : (b : Int) + (j : Int) = (r : Int) := by rw [HR.out]; omega
      have hpn : p < n := by rw [HP.out]; omega
      have hrn : r < n := by rw [HR.out]; omega
      have hwp : IntKind.i64.wrap ((a : Int) + (j : Int)) = (p : Int) := by rw [IntKind.wrap_i64]; omega
      have hwr : IntKind.i64.wrap ((b : Int) + (j : Int)) = (r : Int) := by rw [IntKind.wrap_i64]; omega
      have hpr : p ≠ r := by rw [HP.out, HR.out]; omega
      have hrp : r ≠ p := Ne.symm hpr
      rw [← HP.out] at c0 f0
      rw [← HR.out] at c1 f1
      go_wp2
      go_big_region
      all_goals
        go_wp2
        go_roundw
        case rel =>
          refine ⟨j + 1, by go_num, by omega, ?_⟩
          first
            | exact ((HS.out.set hd hg hq p y hy).set hd hg hq r x hx).drew
            | exact ((HS.out.set hd hg hq r x hx).set hd hg hq p y hy).drew
            | exact ((HS.out.drew.set hd hg hq p y hy).set hd hg hq r x hx)
        case measure => simp [intOf]; omega
    · obtain rfl : k = j := by omega
      go_wp2
      go_end0
      exact ⟨rfl, HS.out⟩

set_option maxRecDepth 100000 in
set_option maxHeartbeats 4000000 in
theorem rot_w (L : List Int) (n d g q B a m b : Nat) (w w0 : World) (hd : B ≤ d) (hg : d ≠ g) (hq : d ≠ q) (hn : n ≤ 1000000) (ha : a < m) (hm : m < b) (hb : b ≤ n) (hw : SV w0 B d g q n L w) (cv : Value) :
    Calls Tryd.prog 92 #[.slice (some ⟨d, 0, none⟩) n n, .int .i64 (a : Int), .int .i64 (m : Int), .int .i64 (b : Int), cv] w (SVP w0 B d g q n L) := by
  have HSW : Hid (∀ (x y k : Nat) (W : World), x + k ≤ n → y + k ≤ n → x ≠ y → SV w0 B d g q n L W → Calls Tryd.prog 96 #[.slice (some ⟨d, 0, none⟩) n n, .int .i64 (x : Int), .int .i64 (y : Int), .int .i64 (k : Int), cv] W (SVP w0 B d g q n L)) :=
    Lib.hid fun x y k W h1 h2 h3 h4 => swap_w L n d g q B x y k W w0 hd hg hq hn h1 h2 h3 h4 cv
  have HW := Lib.hid hw
  clear hw
  have hwi : IntKind.i64.wrap ((m : Int) - (a : Int)) = ((m - a : Nat) : Int) := by rw [IntKind.wrap_i64]; omega
  have hwj : IntKind.i64.wrap ((b : Int) - (m : Int)) = ((b - m : Nat) : Int) := by rw [IntKind.wrap_i64]; omega
  go_enter Tryd.func92, Tryd.ntmps92
  go_wp2
  go_loopw [10, 11] (fun vi vj wr => ∃ i j : Nat, vi = .int .i64 i ∧ vj = .int .i64 j ∧ 1 ≤ i ∧ 1 ≤ j ∧ i ≤ m ∧ m + j ≤ n ∧ SV w0 B d g q n L wr) (fun vi vj _ => (intOf vi).toNat + (intOf vj).toNat)
  case atStart => exact ⟨m - a, b - m, by first | rfl | (rw [hwi]) | go_num, by first | rfl | (rw [hwj]) | go_num, by omega, by omega, by omega, by omega, HW.out⟩
  case round =>
    clear HW hwi hwj
    obtain ⟨i, j, rfl, rfl, hi1, hj1, him, hmj, hs⟩ := hrel
    have HS := Lib.hid hs
    clear hs
    have hmi : (m : Int) - (i : Int) = ((m - i : Nat) : Int) := by omega
    have hwm : IntKind.i64.wrap ((m : Int) - (i : Int)) = ((m - i : Nat) : Int) := by rw [IntKind.wrap_i64]; omega
    rcases Nat.lt_trichotomy i j with hlt | heq | hgt
    · have hlz : (i : Int) < (j : Int) := by omega
      have hne : ¬ ((i : Int) = (j : Int)) := by omega
      have hng : ¬ ((j : Int) < (i : Int)) := by omega
      have hws : IntKind.i64.wrap ((m : Int) + (j : Int)) = ((m + j : Nat) : Int) := by rw [IntKind.wrap_i64]; omega
      have hwt : IntKind.i64.wrap (((m + j : Nat) : Int) - (i : Int)) = ((m + j - i : Nat) : Int) := by rw [IntKind.wrap_i64]; omega
      have hwu : IntKind.i64.wrap ((m : Int) + (j : Int) - (i : Int)) = ((m + j - i : Nat) : Int) := by rw [IntKind.wrap_i64]; omega
      have hwv : IntKind.i64.wrap ((j : Int) - (i : Int)) = ((j - i : Nat) : Int) := by rw [IntKind.wrap_i64]; omega
      have HC := Lib.hid (HSW.out (m - i) (m + j - i) i wr (by omega) (by omega) (by omega) HS.out)
      have hx : (m : Int) + (j : Int) - (i : Int) = ((m + j - i : Nat) : Int) := by omega
      go_wp2_with (go_at_call 96; (with_reducible refine HC.out.mono ?_); rintro e w2 ⟨rfl, h2⟩; have HS2 := Lib.hid h2; clear h2)
      go_roundw
      case rel => exact ⟨i, j - i, rfl, by first | rfl | (rw [hwv]) | go_num, hi1, by omega, him, by omega, HS2.out⟩
      case measure => simp [intOf]; omega
    · subst heq
      have HC := Lib.hid (HSW.out (m - i) m i wr (by omega) (by omega) (by omega) HS.out)
      go_wp2_with (go_at_call 96; (with_reducible refine HC.out.mono ?_); rintro e w2 ⟨rfl, h2⟩; have HS2 := Lib.hid h2; clear h2)
      go_end0
      exact ⟨rfl, HS2.out⟩
    · have hne : ¬ ((i : Int) = (j : Int)) := by omega
      have hgz : (j : Int) < (i : Int) := by omega
      have hwv : IntKind.i64.wrap ((i : Int) - (j : Int)) = ((i - j : Nat) : Int) := by rw [IntKind.wrap_i64]; omega
      have HC := Lib.hid (HSW.out (m - i) m j wr (by omega) (by omega) (by omega) HS.out)
      go_wp2_with (go_at_call 96; (with_reducible refine HC.out.mono ?_); rintro e w2 ⟨rfl, h2⟩; have HS2 := Lib.hid h2; clear h2)
      go_roundw
      case rel => exact ⟨i - j, j, by first | rfl | (rw [hwv]) | go_num, rfl, by omega, hj1, by omega, hmj, HS2.out⟩
      case measure => simp [intOf]; omega
end Go.Proofs.YtemogllidmgbfaaDoor
