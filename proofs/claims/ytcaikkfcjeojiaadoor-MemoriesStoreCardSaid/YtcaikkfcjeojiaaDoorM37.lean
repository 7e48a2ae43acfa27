/- The texts L9p Tx9. -/
import Derived.Test.YtcaikkfcjeojiaaDoorM30
import Derived.Test.YtcaikkfcjeojiaaDoorM26
namespace Go.Proofs.YtcaikkfcjeojiaaDoor
open Go.RowKit

def matB (l : List Int) (i : Nat) : Bool := ((List.range l.length).all fun k => !knw (l.getD k 0) || l.getD k 0 == ibit i k) && i >>> l.length == 0
theorem mat_eq (l : List Int) (i : Nat) : mat l i = matB l i := by
  refine Bool.eq_iff_iff.2 ?_
  rw [mat_iff]
  unfold matB okA
  simp only [Bool.and_eq_true, List.all_eq_true, List.mem_range, Bool.or_eq_true, Bool.not_eq_true', beq_iff_eq]
  refine and_congr (forall_congr' fun k => forall_congr' fun _ => ?_) Iff.rfl
  cases knw (l.getD k 0) <;> simp
/-- The text of words. -/
def txtW (ws : List (List Int)) (k : Nat) : ByteArray := (List.range k).foldl (fun s i => (s ++ strOfNums ((ws.getD i []).map Ch.tch)) ++ ⟨#[44]⟩) ⟨#[]⟩
theorem txtW_succ (ws : List (List Int)) (k : Nat) : txtW ws (k + 1) = (txtW ws k ++ strOfNums ((ws.getD k []).map Ch.tch)) ++ ⟨#[44]⟩ := by
  unfold txtW
  rw [List.range_succ, List.foldl_append]; rfl
/-- The chapter's words. -/
def W4 : List (List Int) := [[0, 0], [0, 1], [1, 0], [1, 1]]
def lkSB (ws : List (List Int)) (ad : List Int) (n k : Nat) : Bool × List Int := (List.range k).foldl (fun s i => if matB ad i = true then (true, if s.1 = true then agL s.2 (bitsL (ws.getD i []) n) else bitsL (ws.getD i []) n) else s) (false, List.replicate n 2)
theorem lkS_eq (ws : List (List Int)) (ad : List Int) (n k : Nat) : lkS ws ad n k = lkSB ws ad n k := by
  have h : (fun l i => mat l i) = matB := funext fun l => funext fun i => mat_eq l i
  unfold lkS lkSB lkStep
  simp only [mat_eq]
def stWB (ws : List (List Int)) (ad dt : List Int) (en : Int) (j : Nat) : List Int :=
  if en = 0 ∨ matB ad j = false then bitsL (ws.getD j []) (ws.getD j []).length
  else if certB en ad = true then bitsL dt (ws.getD j []).length
  else agL (bitsL (ws.getD j []) (ws.getD j []).length) (bitsL dt (ws.getD j []).length)
theorem stW_eq (ws : List (List Int)) (ad dt : List Int) (en : Int) (j : Nat) : stW ws ad dt en j = stWB ws ad dt en j := by
  unfold stW stWB
  simp only [mat_eq]
theorem l9_k1 : (lkS W4 [1, 0] 2 4).2 = [0, 1] := by rw [lkS_eq]; decide
theorem l9_k2 : (lkS W4 [2, 0] 2 4).2 = [0, 2] := by rw [lkS_eq]; decide
theorem l9_k3 : (lkS W4 [2, 2] 2 4).2 = [2, 2] := by rw [lkS_eq]; decide
theorem l9_s1 : (List.range 4).map (stW W4 [1, 2] [1, 1] 1) = [[0, 0], [2, 1], [1, 0], [1, 1]] := by rw [show stW W4 _ _ _ = stWB W4 _ _ _ from funext fun j => stW_eq _ _ _ _ j]; decide
theorem l9_s2 : (List.range 4).map (stW W4 [1, 0] [1, 1] 1) = [[0, 0], [1, 1], [1, 0], [1, 1]] := by rw [show stW W4 _ _ _ = stWB W4 _ _ _ from funext fun j => stW_eq _ _ _ _ j]; decide
theorem l9_s3 : (List.range 4).map (stW W4 [1, 0] [1, 1] 2) = [[0, 0], [2, 1], [1, 0], [1, 1]] := by rw [show stW W4 _ _ _ = stWB W4 _ _ _ from funext fun j => stW_eq _ _ _ _ j]; decide
end Go.Proofs.YtcaikkfcjeojiaaDoor

namespace Go.Proofs.YtcaikkfcjeojiaaDoor
open Go.RowKit

theorem Ks.lgvs {w : World} {B : Nat} {v : Value} {l : List Int} (h : Ks w B v l) : Lg.Vs w B v l := by
  obtain ⟨A, b, o, c, rfl, hA, -, hm, hc⟩ := h.opens
  refine ⟨b, o, c, ?_, hm, hc⟩
  by_cases h0 : 0 < l.length
  · rw [hA h0]; exact .inl rfl
  · have : l = [] := List.eq_nil_of_length_eq_zero (by omega)
    exact .inr ⟨this, A, by rw [this]; rfl⟩
theorem txtW_size (ws : List (List Int)) (k : Nat) (h : ∀ j, j < k → (ws.getD j []).length ≤ 1000) : (txtW ws k).size ≤ k * 1001 := by
  induction k with
  | zero => exact Nat.le_refl _
  | succ k ih =>
    rw [txtW_succ, ByteArray.size_append, ByteArray.size_append, strOfNums_size, List.length_map]
    have h1 := ih fun j hj => h j (by omega)
    have h2 := h k (by omega)
    have h3 : (⟨#[44]⟩ : ByteArray).size = 1 := rfl
    omega
set_option maxRecDepth 100000 in
set_option maxHeartbeats 4000000 in
theorem textw_any (ws : List (List Int)) (A : Option Addr) (m c : Nat) (w : World) (B : Nat) (hB : B ≤ w.heap.size) (hw : Wrds w B (.slice A m c) ws) (hm : m ≤ 1000) (hl : ∀ k, k < m → (ws.getD k []).length ≤ 1000 ∧ ∀ y ∈ ws.getD k [], 0 ≤ y) (hT : Ch.Cht w) :
    Calls Tryd.prog 7 #[.slice A m c] w fun e w' => e = .returned (.string (txtW ws m)) ∧ BelW w w' := by
  obtain ⟨A', b, o, c', e, hA, -, -, hc⟩ := hw
  simp only [Value.slice.injEq] at e
  obtain ⟨rfl, hml, rfl⟩ := e
  rw [← hml] at hA hc
  have HA := Lib.hid hA
  have HC : Hid (∀ k, k < m → ∃ A c n, ∀ W, BelW w W → W.cell? ⟨b, o + k, none⟩ = some (.slice A n c) ∧ Calls Tryd.prog 15 #[.slice A n c] W fun e w' => e = .returned (.string (strOfNums ((ws.getD k []).map Ch.tch))) ∧ Below W.heap.size W w') := Lib.hid fun k hk => by
    obtain ⟨hb, A, c, h1, h2⟩ := hc k hk
    rw [Nat.mul_one] at h1
    refine ⟨A, c, _, fun W h => ⟨(Below.cell h (p := ⟨b, o + k, none⟩) (Nat.lt_of_lt_of_le hb hB)).trans h1, ?_⟩⟩
    have h3 : Ks W W.heap.size (.slice A (ws.getD k []).length c) (ws.getD k []) := Arr.keep stays_u8 h2 (Nat.le_trans hB (Below.size h)) fun _ hp => Below.cell h (Nat.lt_of_lt_of_le hp hB)
    exact Ch.text_ch (Nat.le_refl _) h3.lgvs (hl k hk).1 (fun j hj => by
      rw [List.getD_eq_getElem?_getD, List.getElem?_eq_getElem hj]
      exact (hl k hk).2 _ (List.getElem_mem hj)) (hT.below h)
  have HS := Lib.hid (fun k => txtW_succ ws k)
  have hz : txtW ws 0 = ⟨#[]⟩ := rfl
  have HZ := Lib.hid hz
  have HSZ : Hid (∀ k, k ≤ m → (txtW ws k).size ≤ k * 1001) := Lib.hid fun k hk => txtW_size ws k fun j hj => (hl j (by omega)).1
  have HTZ : Hid (∀ k, k < m → (strOfNums ((ws.getD k []).map Ch.tch)).size ≤ 1000) := Lib.hid fun k hk => by rw [strOfNums_size, List.length_map]; exact (hl k hk).1
  clear hA hc hl hT hml hz
  go_enter Tryd.func7, Tryd.ntmps7
  go_wp2
  go_loopw [3, 4] (fun sv i wr => ∃ k : Nat, k ≤ m ∧ i = .int .i64 k ∧ sv = .string (txtW ws k) ∧ BelW w wr) (fun _ i _ => m - (intOf i).toNat)
  case atStart => exact ⟨0, Nat.zero_le _, rfl, by rw [HZ.out], Below.refl _ _⟩
  case round =>
    obtain ⟨k, hk, rfl, rfl, hb⟩ := hrel
    have HBR := Lib.hid hb
    by_cases hlt : k < m
    · obtain rfl := HA.out (by omega)
      obtain ⟨A2, c2, n2, hc2⟩ := HC.out k hlt
      have hk2 : (k : Int) < (m : Int) := by omega
      obtain ⟨x1, hcl⟩ := hc2 wr hb
      have HCL := Lib.hid hcl
      have HSK := Lib.hid (HS.out k)
      have hz1 := HSZ.out k hk
      have hz2 := HTZ.out k hlt
      obtain ⟨s, HSS⟩ := named (txtW ws k)
      rw [← HSS.out] at HSK hz1 ⊢
      obtain ⟨t, HTT⟩ := named (strOfNums ((ws.getD k []).map Ch.tch))
      rw [← HTT.out] at HSK HCL hz2
      have hz3 : ¬ 9223372036854775807 < s.size + t.size := by omega
      have hz4 : ¬ 9223372036854775807 < s.size + t.size + 1 := by omega
      clear hcl hc2 hb
      go_wp2_with (go_at_call 15; (with_reducible refine HCL.out.mono ?_); rintro e w4 ⟨rfl, hb4⟩; have HB4 : Hid (BelW wr w4) := Lib.hid hb4; clear hb4)
      go_roundw
      case rel => exact ⟨k + 1, by omega, by go_num, by rw [HSK.out], joinB HBR.out HB4.out⟩
      case measure => simp [intOf]; omega
    · obtain rfl : m = k := by omega
      go_wp2
      go_ret
      exact ⟨rfl, HBR.out⟩
/-- A text's values. -/
def vlsB (s : ByteArray) : List Int := (List.range s.size).map fun k => Ch.vof (Ch.chr s k)
theorem vlsB_len (s : ByteArray) : (vlsB s).length = s.size := by simp [vlsB]
theorem vls_of {s : ByteArray} {w w' : World} {e : Ending} (hall : ∀ k, k < s.size → Ch.isv (Ch.chr s k) = true)
    (h : ((∀ k, k < s.size → Ch.isv (Ch.chr s k) = true) ∧ e = .returned (.tuple #[.slice (some ⟨w.heap.size, 0, none⟩) s.size s.size, .int .i64 0]) ∧ w'.ownsRow w.heap.size 24 1 (.slice (some ⟨w.heap.size, 0, none⟩) s.size s.size) s.size (Ch.fillL (fun j => .int .u8 (Ch.vof (Ch.chr s j))) (.int .u8 0) s.size s.size)) ∨ ((∃ k, k < s.size ∧ Ch.isv (Ch.chr s k) = false) ∧ e = .returned (.tuple #[.slice none 0 0, .int .i64 4]))) :
    e = .returned (.tuple #[.slice (some ⟨w.heap.size, 0, none⟩) s.size s.size, .int .i64 0]) ∧ Hid (VRow w' w.heap.size (vlsB s)) := by
  rcases h with ⟨-, he, ho⟩ | ⟨⟨k, hk, h⟩, -⟩
  · refine ⟨he, Lib.hid (VRow.of (B := w.heap.size) ?_ (vlsB_len s))⟩
    have e2 : Ch.fillL (fun j => .int .u8 (Ch.vof (Ch.chr s j))) (.int .u8 0) s.size s.size = (vlsB s).map (Value.int .u8) := by
      apply List.ext_getElem?
      intro j
      by_cases hj : j < s.size
      · rw [Ch.fillL_get _ _ _ _ _ hj, if_pos hj]; simp [vlsB, hj]
      · rw [List.getElem?_eq_none (by simp [Ch.fillL_len]; omega), List.getElem?_eq_none (by simp [vlsB_len]; omega)]
    rw [← e2]; exact ho
  · rw [hall k hk] at h; cases h
theorem vls_any (s : ByteArray) (w : World) (hsz : s.size ≤ 1000) (hT : Ch.Cht w) (hall : ∀ k, k < s.size → Ch.isv (Ch.chr s k) = true) :
    Calls Tryd.prog 14 #[.string s] w fun e w' => ∃ g, e = .returned (.slice (some ⟨g, 0, none⟩) s.size s.size) ∧ VRow w' g (vlsB s) ∧ w.heap.size ≤ g ∧ BelW w w' := by
  have HP := Lib.hid (Ch.parse_ch s w hsz hT)
  have HA := Lib.hid hall
  obtain ⟨n, HN⟩ := named s.size
  clear hall
  go_enter Tryd.func14, Tryd.ntmps14
  go_wp2_with (go_at_call 31; (with_reducible refine HP.out.mono ?_); rintro e w4 ⟨hb4, h4⟩; have HB4 : Hid (BelW w w4) := Lib.hid hb4; clear hb4; obtain ⟨rfl, ho⟩ : e = .returned (.tuple #[.slice (some ⟨w.heap.size, 0, none⟩) s.size s.size, .int .i64 0]) ∧ Hid (VRow w4 w.heap.size (vlsB s)) := vls_of HA.out h4)
  go_ret
  exact ⟨_, rfl, ho.out, Nat.le_refl _, HB4.out⟩
end Go.Proofs.YtcaikkfcjeojiaaDoor
