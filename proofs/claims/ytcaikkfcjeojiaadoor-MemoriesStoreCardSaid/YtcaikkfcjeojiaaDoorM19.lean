/- The texts Meu. -/
import Derived.Test.YtcaikkfcjeojiaaDoorM18
import Derived.Test.YtcaikkfcjeojiaaDoorM01
import Derived.Laws.CopyOwn
namespace Go.Proofs.YtcaikkfcjeojiaaDoor
open Go.RowKit

set_option maxHeartbeats 4000000 in
theorem munk_any (n : Nat) (hn : n ≤ 1000000) (w : World) : Calls Tryd.prog 33 #[.int .i64 (n : Int)] w (UnkPost n w) := by
  obtain ⟨i0, hi, hz0, hz1', hz2⟩ := info_parts info_val
  have HI := Lib.hid (And.intro hi (And.intro hz0 (And.intro hz1' hz2)))
  clear hi hz0 hz1' hz2
  go_enter Tryd.func33, Tryd.ntmps33
  go_wp2_with (at_make; refine wpList_make_full _ rfl _ _ 23 rfl w.heap.size 24 i0 (.int .u8 0) 1 Tryd.underlying23 HI.out.1 HI.out.2.1 HI.out.2.2.1 .i64 .i64 _ _ n rfl rfl rfl rfl ?b2 ?b3 ?b4 ?_)
  case b2 => rw [HI.out.2.2.2]; omega
  case b3 => unfold maxLen; omega
  case b4 => exact Nat.le_refl _
  intro w1 hown hgr
  rw [made_vals] at hown
  have hv : VRow w1 w.heap.size (List.replicate n 0) := VRow.of hown (by simp)
  have hb : Below w.heap.size w w1 := (Below.refl _ _).grown hgr (Nat.le_refl _) (fun k h => by cases h)
  have HV := Lib.hid hv
  have HB := Lib.hid hb
  obtain ⟨g, HG⟩ := named w.heap.size
  rw [← HG.out] at HV
  rw [← HG.out]
  clear hown hgr hv hb
  go_wp2
  go_loopw [9] (fun i wr => ∃ (k : Nat) (l : List Int), k ≤ n ∧ i = .int .i64 k ∧ filled l n k ∧ VRow wr g l ∧ Below w.heap.size w wr) (fun i _ => n - (intOf i).toNat)
  case atStart => exact ⟨0, _, Nat.zero_le _, rfl, ⟨by simp, fun j h => absurd h (Nat.not_lt_zero j)⟩, HV.out, HB.out⟩
  case round =>
    obtain ⟨k, l, hk, rfl, hf, hv, hb⟩ := hrel
    have HF := Lib.hid hf
    have HVR := Lib.hid hv
    have HBR := Lib.hid hb
    by_cases hlt : k < n
    · have hkl : k < l.length := by rw [hf.1]; exact hlt
      have x1 := hv.cell hkl
      have x2 := hv.frozen k
      obtain ⟨y, HY⟩ := named (lat l (k : Int))
      rw [← HY.out] at x1
      clear hf hv hb hkl
      go_wp2
      have HN := Lib.hid (filled_succ HF.out hlt)
      have HVN := Lib.hid (HVR.out.set k 2)
      have HBN := Lib.hid (HBR.out.setCell (p := ⟨g, k, none⟩) (by show w.heap.size ≤ g; have := HG.out; omega) (.int .u8 2))
      go_roundw
      case rel => exact ⟨k + 1, l.set k 2, by omega, by go_num, HN.out, HVN.out, HBN.out⟩
      case measure => simp [intOf]; omega
    · obtain rfl : n = k := by omega
      obtain rfl := filled_all HF.out
      clear hf hv hb
      go_wp2
      go_ret
      exact ⟨g, rfl, HVR.out, by have := HG.out; omega, HBR.out⟩

/-- A word's first bits; X where it has none. -/
def cpyL (l : List Int) (n : Nat) : List Int := l.take n ++ List.replicate (n - l.length) 2
theorem cpyL_len (l : List Int) (n : Nat) : (cpyL l n).length = n := by unfold cpyL; simp; omega
/-- What bits returns. -/
def bitsL (l : List Int) (n : Nat) : List Int := (cpyL l n).map rd
theorem bitsL_len (l : List Int) (n : Nat) : (bitsL l n).length = n := by unfold bitsL; rw [List.length_map, cpyL_len]
theorem vrow_of {w : World} {g : Nat} {l : List Value} {k : List Int} (h : w.heap[g]? = some (.cells l.toArray 24 (0, 0))) (e : l = k.map (Value.int .u8)) (hm : k.length ≤ maxLen) : VRow w g k := by
  subst e
  exact ⟨by simp, .inr ⟨g, k.length, _, rfl, Nat.le_refl _, h, Nat.le_refl _, hm, by simp, by
    rw [Nat.mul_one]
    exact List.take_of_length_le (by rw [List.length_map]; exact Nat.le_refl _)⟩⟩
theorem vrow_heap {w : World} {g : Nat} {l : List Int} (h : VRow w g l) : w.heap[g]? = some (.cells (l.map (Value.int .u8)).toArray 24 (0, 0)) := by
  rcases h.2 with ⟨e, -⟩ | ⟨g', cap, cur, e, -, hg, -, -, hs, ht⟩
  · cases e
  · simp only [Value.slice.injEq, Option.some.injEq, Addr.mk.injEq, and_true, true_and] at e
    obtain ⟨rfl, rfl⟩ := e
    rw [hg]
    have : cur.toList = l.map (Value.int .u8) := by
      rw [← ht, List.take_of_length_le]
      rw [Array.length_toList, hs]; exact Nat.le_refl _
    rw [← this, Array.toArray_toList]
theorem splice_cpy (l : List Int) (n : Nat) : splice ((List.replicate n (2 : Int)).map (Value.int .u8)) 0 ((l.take n).map (Value.int .u8)) = (cpyL l n).map (Value.int .u8) := by
  unfold splice cpyL
  rw [List.take_zero, List.nil_append, List.map_append, ← List.map_drop, List.drop_replicate, List.length_map, List.length_take]
  congr 3
  omega
/-- The loop of bits: the first k bits are read. -/
def rdK (c : List Int) (k : Nat) (out : List Int) : Prop := out.length = c.length ∧ (∀ j, j < k → out.getD j 0 = rd (c.getD j 0)) ∧ ∀ j, k ≤ j → out.getD j 0 = c.getD j 0
theorem rdK_all {c out : List Int} (h : rdK c c.length out) : out = c.map rd := by
  apply List.ext_getElem (by rw [h.1, List.length_map])
  intro i h1 h2
  have h3 : i < c.length := by rw [← h.1]; exact h1
  have := h.2.1 i h3
  rw [List.getD_eq_getElem?_getD, List.getElem?_eq_getElem h1, List.getD_eq_getElem?_getD, List.getElem?_eq_getElem h3] at this
  simpa using this
theorem rdK_succ {c out : List Int} {k : Nat} (h : rdK c k out) (hk : k < c.length) : rdK c (k + 1) (out.set k (rd (c.getD k 0))) := by
  have hl : k < out.length := by rw [h.1]; exact hk
  refine ⟨by rw [List.length_set]; exact h.1, fun j hj => ?_, fun j hj => ?_⟩
  · rw [getD_set _ _ _ _ _ hl]
    split
    · subst_vars; rfl
    · exact h.2.1 j (by omega)
  · rw [getD_set _ _ _ _ _ hl, if_neg (by omega)]
    exact h.2.2 j (by omega)
set_option maxRecDepth 100000 in
set_option maxHeartbeats 4000000 in
theorem bits_any (l : List Int) (A : Option Addr) (m c n : Nat) (hn : n ≤ 1000000) (w : World) (B : Nat) (hB : B ≤ w.heap.size) (hs : Ks w B (.slice A m c) l) :
    Calls Tryd.prog 21 #[.slice A m c, .int .i64 (n : Int)] w fun e w' => ∃ g, e = .returned (.slice (some ⟨g, 0, none⟩) n n) ∧ VRow w' g (bitsL l n) ∧ w.heap.size ≤ g ∧ BelW w w' := by
  obtain ⟨A', b, o, c', e, hA, -, hm, hc⟩ := hs.opens
  simp only [Value.slice.injEq] at e
  obtain ⟨rfl, hml, rfl⟩ := e
  rw [← hml] at hA
  have HUN := Lib.hid (munk_any n hn w)
  have hsz : (Tryd.prog.info? 24).map (·.size) = some 1 := by kernel_rfl
  have HSZ := Lib.hid hsz
  obtain ⟨cs, HCS⟩ := named ((l.take n).map (Value.int .u8))
  have HCL : Hid (cs.length = Nat.min m n) := Lib.hid (by rw [HCS.out, List.length_map, List.length_take, hml]; exact Nat.min_comm _ _)
  have HC1 : Hid (∀ v ∈ cs, v.oneCell' = true) := Lib.hid fun v hv => by
    rw [HCS.out] at hv
    obtain ⟨y, -, rfl⟩ := List.mem_map.1 hv
    rfl
  have HCP : Hid (∀ W, BelW w W → 0 < cs.length → ∃ ad, A = some ad ∧ ∀ j v, cs[j]? = some v → W.cell? (ad.add j) = some v) := Lib.hid fun W h h0 => by
    have hm0 : 0 < m := by have := HCL.out; have : Nat.min m n ≤ m := Nat.min_le_left _ _; omega
    refine ⟨_, hA hm0, fun j v hv => ?_⟩
    rw [HCS.out, List.getElem?_map, List.getElem?_take] at hv
    split at hv
    · have hj : j < l.length := by
        rcases Nat.lt_or_ge j l.length with h | h
        · exact h
        · rw [List.getElem?_eq_none h] at hv; cases hv
      rw [List.getElem?_eq_getElem hj] at hv
      have := (hc j hj)
      rw [WideShapes.add_plain]
      rw [Below.cell h (p := ⟨b, o + j, none⟩) (Nat.lt_of_lt_of_le this.1 hB), this.2, List.getD_eq_getElem?_getD, List.getElem?_eq_getElem hj]
      simpa using hv
    · cases hv
  obtain ⟨r, HR⟩ := named (cpyL l n)
  have HRL : Hid (r.length = n) := Lib.hid (by rw [HR.out, cpyL_len])
  have HSP : Hid (splice ((List.replicate n (2 : Int)).map (Value.int .u8)) 0 cs = r.map (Value.int .u8)) := Lib.hid (by rw [HCS.out, HR.out]; exact splice_cpy l n)
  have HRD : Hid (∀ W y, Calls Tryd.prog 36 #[.int .u8 y] W fun e w' => e = .returned (.int .u8 (rd y)) ∧ w' = W) := Lib.hid fun W y => (Lg.read_any y W).mono fun e w' h => ⟨h.1, by first | exact h.2 | exact h.2.symm⟩
  have HML := Lib.hid hml
  clear hA hc hsz hml hm hs
  go_enter Tryd.func21, Tryd.ntmps21
  go_upto_region 2 with (go_at_call 33; (with_reducible refine HUN.out.mono ?_); rintro e w1 ⟨g, rfl, hv, hg, hb⟩; have HV := Lib.hid hv; have HG := Lib.hid hg; have HB1 : Hid (BelW w w1) := Lib.hid hb; clear hv hg hb)
  have hrow : w1.heap[g]? = some (.cells ((List.replicate n (2 : Int)).map (Value.int .u8)).toArray 24 (0, 0)) := vrow_heap HV.out
  have HROW := Lib.hid hrow
  have HFT : Hid (0 + cs.length ≤ ((List.replicate n (2 : Int)).map (Value.int .u8)).length) := Lib.hid (by rw [HCL.out, List.length_map, List.length_replicate, Nat.zero_add]; exact Nat.min_le_right _ _)
  clear hrow
  go_wp2_with (refine wpList_copy_splice rfl (.tmp 10) (.tmp 11) 23 23 rfl 24 Tryd.underlying23 HSZ.out (some ⟨g, 0, none⟩) A n n m c rfl rfl g 0 _ 24 HROW.out cs HCL.out (fun h => ⟨rfl, HCP.out w1 HB1.out h⟩) HFT.out HC1.out w.heap.size w HB1.out HG.out ?_)
  intro w2 hrow2 hb2
  have HV2 : Hid (VRow w2 g r) := Lib.hid (vrow_of hrow2.out (by have := HSP.out; rwa [List.map_replicate] at this) (by rw [HRL.out]; unfold maxLen; omega))
  have HB2 : Hid (BelW w w2) := Lib.hid hb2
  clear hrow2 hb2
  go_wp2
  go_loopw [15] (fun i wr => ∃ (k : Nat) (out : List Int), k ≤ n ∧ i = .int .i64 k ∧ rdK r k out ∧ VRow wr g out ∧ BelW w wr) (fun i _ => n - (intOf i).toNat)
  case atStart => exact ⟨0, r, Nat.zero_le _, rfl, ⟨rfl, fun j h => absurd h (Nat.not_lt_zero j), fun j _ => rfl⟩, HV2.out, HB2.out⟩
  case round =>
    obtain ⟨k, out, hk, rfl, hf, hv, hb⟩ := hrel
    have HF := Lib.hid hf
    have HVR := Lib.hid hv
    have HBR := Lib.hid hb
    by_cases hlt : k < n
    · have hkl : k < out.length := by rw [hf.1, HRL.out]; exact hlt
      have x1 := hv.cell hkl
      have x2 := hv.frozen k
      have hx : lat out (k : Int) = r.getD k 0 := hf.2.2 k (Nat.le_refl _)
      rw [hx] at x1
      obtain ⟨y, HY⟩ := named (r.getD k 0)
      rw [← HY.out] at x1
      have HRY := Lib.hid (fun W => HRD.out W y)
      obtain ⟨z, HZ⟩ := named (rd y)
      rw [← HZ.out] at HRY
      have hk2 : (k : Int) < (n : Int) := by omega
      have HN := Lib.hid (rdK_succ HF.out (by rw [HRL.out]; exact hlt))
      rw [← HY.out, ← HZ.out] at HN
      have HVN := Lib.hid (HVR.out.set k z)
      have HBN := Lib.hid (HBR.out.setCell (p := ⟨g, k, none⟩) HG.out (.int .u8 z))
      clear hf hv hb hkl hx
      go_wp2_with (go_at_call 36; (with_reducible refine (HRY.out _).mono ?_); rintro e w' ⟨rfl, rfl⟩)
      go_roundw
      case rel => exact ⟨k + 1, out.set k z, by omega, by go_num, HN.out, HVN.out, HBN.out⟩
      case measure => simp [intOf]; omega
    · obtain rfl : n = k := by omega
      have e9 : out = r.map rd := rdK_all (by rw [HRL.out]; exact HF.out)
      clear hf hv hb
      go_wp2
      go_ret
      exact ⟨g, rfl, by unfold bitsL; rw [← HR.out, ← e9]; exact HVR.out, HG.out, HBR.out⟩
end Go.Proofs.YtcaikkfcjeojiaaDoor
