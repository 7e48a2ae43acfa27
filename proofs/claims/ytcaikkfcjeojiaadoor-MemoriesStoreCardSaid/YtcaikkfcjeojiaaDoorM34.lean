/- The texts Rg9. -/
import Derived.Test.YtcaikkfcjeojiaaDoorM33
import Derived.Deep.RegionHeld3
namespace Go.Proofs.YtcaikkfcjeojiaaDoor
open Go.RowKit

theorem chc_01m (v y : Int) (h : y ∈ Lg.chc v false) : y = 0 ∨ y = 1 := by
  rcases chc_01 v with e | e | e <;> rw [e] at h <;> simp at h
  · exact .inl h
  · exact .inr h
  · exact h
theorem adS_bnd (ad : List Int) (k : Nat) (x : Int) (h : x ∈ adS ad k) : 0 ≤ x ∧ x < 2 ^ k := by
  obtain ⟨n, rfl, hn, -⟩ := (adS_mem ad k x).1 h
  refine ⟨by omega, ?_⟩
  have := Int.ofNat_lt.2 hn
  rwa [Int.natCast_pow] at this
theorem getD_mem {l : List Int} {i : Nat} (h : i < l.length) : l.getD i 0 ∈ l := by
  rw [List.getD_eq_getElem?_getD, List.getElem?_eq_getElem h]; exact List.getElem_mem h
theorem stk_is {w : World} {g : Nat} {v : Value} {l : List Int} (h : Stk w g v l) : ∃ A c, v = .slice A l.length c ∧ Is w w.heap.size (.slice A l.length c) l := by
  obtain ⟨A, c, rfl, hle, hm, -⟩ := h.form
  exact ⟨A, c, rfl, h.reads c hle (Nat.le_trans hle hm)⟩
set_option maxRecDepth 100000 in
set_option maxHeartbeats 4000000 in
theorem adr_any (ad : List Int) (A : Option Addr) (n c : Nat) (w : World) (B : Nat) (hB : B ≤ w.heap.size) (hs : Ks w B (.slice A n c) ad) (h6 : n ≤ 6) :
    Calls Tryd.prog 23 #[.slice A n c] w fun e w' => ∃ A' c', e = .returned (.slice A' (adS ad n).length c') ∧ Is w' w'.heap.size (.slice A' (adS ad n).length c') (adS ad n) ∧ BelW w w' := by
  obtain ⟨A', b, o, c', e, hA, -, hm, hc⟩ := hs.opens
  simp only [Value.slice.injEq] at e
  obtain ⟨rfl, hml, rfl⟩ := e
  rw [← hml] at hA hc
  have HA := Lib.hid hA
  have HC : Hid (∀ k, k < n → ∀ W, BelW w W → W.cell? ⟨b, o + k, none⟩ = some (.int .u8 (ad.getD k 0))) := Lib.hid fun k hk W h => (Below.cell h (p := ⟨b, o + k, none⟩) (Nat.lt_of_lt_of_le (hc k hk).1 hB)).trans (hc k hk).2
  obtain ⟨ii, hji, hy0, hy1, hy2⟩ := info_parts info_int
  have HJ := Lib.hid (And.intro hji (And.intro hy0 (And.intro hy1 hy2)))
  clear hA hc hs hml hji hy0 hy1 hy2 hm
  obtain ⟨W1, HW1⟩ := named (w.alloc (.cells #[.int .i64 0] 3))
  have hb1 : BelW w W1 := by rw [HW1.out]; exact below_new (Below.refl _ _) _
  have hf1 : Fr W1 w.heap.size 3 [.int .i64 0] := by rw [HW1.out]; exact Fr.made _ [.int .i64 0] _ rfl
  have hi1 : Is W1 W1.heap.size (.slice (some ⟨w.heap.size, 0, none⟩) 1 1) [0] := ⟨_, w.heap.size, 0, 1, rfl, fun _ => rfl, by decide, by decide, fun k hk => ⟨hf1.lt, by
    obtain rfl : k = 0 := by simpa using hk
    exact hf1.cell 0⟩⟩
  have HB1 := Lib.hid hb1
  have HI1 := Lib.hid hi1
  clear hb1 hf1 hi1
  have hb0 : B ≤ w.heap.size := hB
  obtain ⟨q0, HQ0⟩ := named w.heap.size
  rw [← HQ0.out] at HI1
  go_enter Tryd.func23, Tryd.ntmps23
  go_upto_region 2 with (fail)
  rw [← HW1.out, ← HQ0.out]
  go_wp2
  go_loopw [3, 4] (fun ov kv wr => ∃ (k : Nat) (A : Option Addr) (c : Nat), k ≤ n ∧ kv = .int .i64 k ∧ ov = .slice A (adS ad k).length c ∧ Is wr wr.heap.size (.slice A (adS ad k).length c) (adS ad k) ∧ BelW w wr) (fun _ kv _ => n - (intOf kv).toNat)
  case atStart => exact ⟨0, _, _, Nat.zero_le _, rfl, rfl, HI1.out, HB1.out⟩
  case round =>
    obtain ⟨k, Ao, co, hk, rfl, rfl, hio, hb⟩ := hrel
    have HIO := Lib.hid hio
    have HBR := Lib.hid hb
    by_cases hlt : k < n
    · obtain rfl := HA.out (by omega)
      have x0 := HC.out k hlt wr hb
      have hk2 : (k : Int) < (n : Int) := by omega
      have HSU : Hid (adS ad (k + 1) = (adS ad k).flatMap fun o => (Lg.chc (ad.getD k 0) false).map fun m => o + m * 2 ^ k) := Lib.hid rfl
      have HOB : Hid (∀ x ∈ adS ad k, 0 ≤ x ∧ x < 2 ^ k) := Lib.hid (adS_bnd ad k)
      have hol : (adS ad k).length ≤ 64 := Nat.le_trans (adS_len ad k) (Nat.le_trans (Nat.pow_le_pow_right (by decide) (show k ≤ 6 by omega)) (by decide))
      obtain ⟨y, HY⟩ := named (ad.getD k 0)
      rw [← HY.out] at x0 HSU
      have HCH := Lib.hid (Lg.choices_any y false wr)
      have HCB : Hid (∀ x ∈ Lg.chc y false, x = 0 ∨ x = 1) := Lib.hid fun x h => chc_01m y x h
      have hal : (Lg.chc y false).length ≤ 2 := by rcases chc_01 y with e | e | e <;> rw [e] <;> decide
      obtain ⟨al, HAL⟩ := named (Lg.chc y false)
      rw [← HAL.out] at HCH HCB hal HSU
      obtain ⟨O, HO⟩ := named (adS ad k)
      rw [← HO.out] at HOB HIO hol HSU ⊢
      obtain ⟨X, HX⟩ := named (wr.alloc (.cells (al.map (Value.int .i64)).toArray 3))
      have hbX : BelW wr X := by rw [HX.out]; exact below_new (Below.refl _ _) _
      have hfX : Fr X wr.heap.size 3 (al.map (Value.int .i64)) := by rw [HX.out]; exact Fr.made _ _ _ rfl
      rw [← HX.out] at HCH
      have hlX : ∀ j, j < al.length → X.cell? ⟨wr.heap.size, j, none⟩ = some (.int .i64 (al.getD j 0)) := fun j hj => by
        rw [hfX.cell, List.getElem?_map, List.getElem?_eq_getElem hj, List.getD_eq_getElem?_getD, List.getElem?_eq_getElem hj]; rfl
      obtain ⟨Ao', bo, oo, co', e, hAo, -, -, hco⟩ := HIO.out
      simp only [Value.slice.injEq] at e
      obtain ⟨rfl, -, rfl⟩ := e
      have HAO := Lib.hid hAo
      have HOX : Hid (∀ i, i < O.length → ∀ W, BelW X W → W.cell? ⟨bo, oo + i, none⟩ = some (.int .i64 (O.getD i 0))) := Lib.hid fun i hi W h => by
        have := (hco i hi).2
        have h2 : wr.cell? ⟨bo, oo + i * 1, none⟩ = _ := this
        rw [Nat.mul_one] at h2
        exact (Below.cell (joinB hbX h) (p := ⟨bo, oo + i, none⟩) (hco i hi).1).trans h2
      have HLX : Hid (∀ j, j < al.length → ∀ W, BelW X W → W.cell? ⟨wr.heap.size, j, none⟩ = some (.int .i64 (al.getD j 0))) := Lib.hid fun j hj W h => (Below.cell h (p := ⟨wr.heap.size, j, none⟩) hfX.lt).trans (hlX j hj)
      obtain ⟨ga, HGA⟩ := named wr.heap.size
      rw [← HGA.out] at HLX HCH
      have HBX := Lib.hid (joinB hb hbX)
      obtain ⟨no, HNO⟩ := named O.length
      rw [← HNO.out] at HAO HOX hol ⊢
      obtain ⟨nl, HNL⟩ := named al.length
      rw [← HNL.out] at HLX HCH hal
      clear hio hb hbX hfX hlX hAo hco
      obtain ⟨gx, HGX⟩ := named X.heap.size
      have HTK : Hid (∀ i, i < no → (O.take (i + 1)).flatMap (fun o => al.map fun m => o + m * 2 ^ k) = (O.take i).flatMap (fun o => al.map fun m => o + m * 2 ^ k) ++ al.map fun m => O.getD i 0 + m * 2 ^ k) := Lib.hid fun i hi => take_flat _ (by rw [← HNO.out]; exact hi)
      have HTL : Hid (∀ i, i ≤ no → ((O.take i).flatMap (fun o => al.map fun m => o + m * 2 ^ k)).length ≤ 64 * 2) := Lib.hid fun i hi => by
        have h1 : ∀ l : List Int, (l.flatMap fun o => al.map fun m => o + m * 2 ^ k).length = l.length * al.length := fun l => by
          induction l with
          | nil => simp
          | cons a t ih => rw [List.flatMap_cons, List.length_append, List.length_map, ih, List.length_cons, Nat.add_mul, Nat.one_mul, Nat.add_comm]
        rw [h1, List.length_take, ← HNO.out, ← HNL.out]
        exact Nat.mul_le_mul (by omega) hal
      obtain ⟨F, HF⟩ := named (fun o => al.map fun m => o + m * 2 ^ k)
      rw [← HF.out] at HTK HTL HSU
      go_wp2_with (go_at_call 24; (with_reducible refine HCH.out.mono ?_); rintro e w2 ⟨rfl, hw2⟩; obtain rfl : X = w2 := hw2.symm)
      go_loopw [5, 7] (fun mv iv w2 => ∃ i : Nat, i ≤ no ∧ iv = .int .i64 i ∧ Stk w2 gx mv ((O.take i).flatMap F) ∧ BelW X w2) (fun _ iv _ => no - (intOf iv).toNat)
      case atStart => exact ⟨0, Nat.zero_le _, rfl, Stk.nil _ _, Below.refl _ _⟩
      case round =>
        obtain ⟨i, hi, rfl, hst, hbx⟩ := hrel
        obtain ⟨w3, rfl⟩ : ∃ z, z = wr := ⟨_, rfl⟩
        have HST := Lib.hid hst
        have HBX3 := Lib.hid hbx
        by_cases hli : i < no
        · have HTI := Lib.hid (HTK.out i hli)
          have htl := HTL.out i hi
          have hi2 : (i : Int) < (no : Int) := by omega
          have hxb := HOB.out (O.getD i 0) (getD_mem (by rw [← HNO.out]; exact hli))
          have HOI := Lib.hid (HOX.out i hli)
          obtain rfl := HAO.out (by omega)
          obtain ⟨x, HXX⟩ := named (O.getD i 0)
          rw [← HXX.out] at HTI hxb HOI
          obtain ⟨P, HP⟩ := named ((O.take i).flatMap F)
          rw [← HP.out] at HTI htl HST
          have HPT : Hid (∀ j, j < nl → P ++ (al.take (j + 1)).map (fun m => x + m * 2 ^ k) = (P ++ (al.take j).map (fun m => x + m * 2 ^ k)) ++ [x + al.getD j 0 * 2 ^ k]) := Lib.hid fun j hj => by rw [take_map _ (by rw [← HNL.out]; exact hj), List.append_assoc]
          have HPL : Hid (∀ j, j ≤ nl → (P ++ (al.take j).map (fun m => x + m * 2 ^ k)).length ≤ 256) := Lib.hid fun j hj => by rw [List.length_append, List.length_map, List.length_take]; omega
          clear hst hbx
          go_wp2
          go_loopw [5, 8] (fun mv jv w4 => ∃ j : Nat, j ≤ nl ∧ jv = .int .i64 j ∧ Stk w4 gx mv (P ++ (al.take j).map (fun m => x + m * 2 ^ k)) ∧ BelW X w4) (fun _ jv _ => nl - (intOf jv).toNat)
          case atStart => exact ⟨0, Nat.zero_le _, rfl, by rw [List.take_zero, List.map_nil, List.append_nil]; exact HST.out, HBX3.out⟩
          case round =>
            obtain ⟨j, hj, rfl, hst, hbx⟩ := hrel
            by_cases hlj : j < nl
            · have HPJ := Lib.hid (HPT.out j hlj)
              have hpl := HPL.out j hj
              have hj2 : (j : Int) < (nl : Int) := by omega
              have hyb := HCB.out (al.getD j 0) (getD_mem (by rw [← HNL.out]; exact hlj))
              have HLJ := Lib.hid (HLX.out j hlj)
              obtain ⟨m, HM⟩ := named (al.getD j 0)
              rw [← HM.out] at HPJ hyb HLJ
              obtain ⟨PJ, HPP⟩ := named (P ++ (al.take j).map (fun m => x + m * 2 ^ k))
              rw [← HPP.out] at HPJ hpl hst
              obtain ⟨mv, rfl⟩ : ∃ z, z = u5 := ⟨_, rfl⟩
              have HS4 := Lib.hid hst
              have hpb : 0 ≤ m * 2 ^ k ∧ m * 2 ^ k ≤ 32 := by
                have h2 : (2 : Int) ^ k ≤ 32 := by
                  have : (2 : Nat) ^ k ≤ 2 ^ 5 := Nat.pow_le_pow_right (by decide) (by omega)
                  have h3 := Int.ofNat_le.2 this
                  rw [Int.natCast_pow] at h3
                  exact h3
                have h0 : (0 : Int) ≤ 2 ^ k := Int.le_of_lt (Int.pow_pos (by decide))
                rcases hyb with rfl | rfl <;> omega
              have hxb2 : x < 64 := Int.lt_of_lt_of_le hxb.2 (by
                have : (2 : Nat) ^ k ≤ 2 ^ 6 := Nat.pow_le_pow_right (by decide) (by omega)
                have h3 := Int.ofNat_le.2 this
                rw [Int.natCast_pow] at h3
                exact h3)
              have hxb1 := hxb.1
              obtain ⟨p, HPW⟩ := named (m * 2 ^ k)
              rw [← HPW.out] at HPJ hpb
              have hsh : IntKind.i64.wrap (m * 2 ^ k) = p := by rw [← HPW.out]; exact (IntKind.wrap_i64 p).trans (by omega)
              have hsum : IntKind.i64.wrap (x + p) = x + p := (IntKind.wrap_i64 _).trans (by omega)
              have HBX4 := Lib.hid hbx
              have HS : Hid (∀ w', BelW X w' → BelW X w' ∧ w'.cell? ⟨bo, oo + i, none⟩ = some (.int .i64 x) ∧ w'.cell? ⟨ga, j, none⟩ = some (.int .i64 m)) := Lib.hid fun w' h => ⟨h, HOI.out w' h, HLJ.out w' h⟩
              have HSK : Hid (∀ w', BelW wr w' → w'.ownsRow gx 3 1 mv PJ.length (PJ.map (Value.int .i64)) ∧ gx ≤ w'.heap.size) := Lib.hid fun w' h => ⟨HS4.out.below h, by rw [HGX.out]; exact Below.size (joinB HBX4.out h)⟩
              have HQ : Hid (∀ q, mv.ownBlock = some q → X.heap.size ≤ q) := Lib.hid fun q hq => by have := (World.ownsRow.lt HS4.out q hq).1; rw [← HGX.out]; exact this
              have hs0 := HS.out wr hbx
              obtain ⟨-, y1, y2⟩ := HS.out wr hbx
              have hy0 : BelW wr wr := Below.refl _ _
              clear hst hbx hyb
              go_wp2_with fail
              go_region_held3 (fun w' => BelW X w' ∧ w'.cell? ⟨bo, oo + i, none⟩ = some (.int .i64 x) ∧ w'.cell? ⟨ga, j, none⟩ = some (.int .i64 m))
                (first | exact hs0 | exact hs9 | exact HS.out _ (BelW.trans HBX4.out (by with_reducible repeat (first | assumption | refine BelW.drew ?_ | refine BelW.alloc ?_ _))))
                ((refine step_ints rfl (.tmp 33) (.tmp 45) 48 rfl gx 3 ii (.int .i64 0) Tryd.underlying48 HJ.out.1 HJ.out.2.1 HJ.out.2.2.1 HJ.out.2.2.2 rfl mv PJ.length (PJ.map (Value.int .i64)) rfl (HSK.out _ (by with_reducible repeat (first | assumption | refine BelW.drew ?_ | refine BelW.alloc ?_ _))).1 _ 1 1 [.int .i64 (x + p)] rfl rfl (by first | exact one_new _ _ _) (by intro u hu; obtain rfl := List.mem_singleton.1 hu; rfl) (by omega) (HSK.out _ (by with_reducible repeat (first | assumption | refine BelW.drew ?_ | refine BelW.alloc ?_ _))).2 ?_
                  intro v5 w5 ho5 hg5
                  have hs9 := HS.out w5 (Below.grown (BelW.trans HBX4.out (by with_reducible repeat (first | assumption | refine BelW.drew ?_ | refine BelW.alloc ?_ _))) hg5 (by rw [← HGX.out]; exact (HSK.out _ (by with_reducible repeat (first | assumption | refine BelW.drew ?_ | refine BelW.alloc ?_ _))).2) HQ.out)))
              have HST5 : Hid (Stk w5 gx v5 (P ++ (al.take (j + 1)).map (fun m => x + m * 2 ^ k))) := Lib.hid (by
                rw [HPJ.out]
                unfold Stk
                rw [List.length_append, List.map_append]
                exact ho5)
              have HB5 := Lib.hid hs9.1
              go_wp2
              go_roundw
              case rel => exact ⟨j + 1, by omega, by go_num, HST5.out, HB5.out⟩
              case measure => simp [intOf]; omega
            · obtain rfl : nl = j := by omega
              go_wp2
              go_roundw
              case rel =>
                refine ⟨i + 1, by omega, by go_num, ?_, hbx⟩
                rw [HTI.out]
                rw [HNL.out, List.take_length] at hst
                exact hst
              case measure => simp [intOf]; omega
        · obtain rfl : no = i := by omega
          obtain ⟨A', c', hv, his⟩ := stk_is HST.out
          have e9 : (O.take no).flatMap F = adS ad (k + 1) := by rw [HNO.out, List.take_length, HSU.out]
          rw [e9] at hv his
          have HIS := Lib.hid his
          subst hv
          clear his hst hbx
          go_wp2
          go_roundw
          case rel => exact ⟨k + 1, _, _, by omega, by go_num, rfl, HIS.out, joinB HBX.out HBX3.out⟩
          case measure => simp [intOf]; omega
    · obtain rfl : n = k := by omega
      go_wp2
      go_ret
      exact ⟨_, _, rfl, HIO.out, HBR.out⟩
end Go.Proofs.YtcaikkfcjeojiaaDoor
