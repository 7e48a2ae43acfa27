/- NetlistsRenumbered: the law's walk. -/
import Derived.Test.YtmghdeodkeenoaaDoorRnl
import Derived.Test.YtmghdeodkeenoaaDoorLcv
import Derived.Test.YtmghdeodkeenoaaDoorNor
import Derived.StillTailTactics
import Derived.Laws.Concat
import Derived.Deep.DeepCutAuto
namespace Go.Proofs.YtmghdeodkeenoaaDoor
open Go.RowKit

set_option maxRecDepth 100000 in
set_option maxHeartbeats 8000000 in
theorem renum_law (x : Cx) (hx : Cok x) (sG sA : Value) (ks : Nat → Int) (hks : ∀ i, i < 16 → U8 (ks i)) (w : World) (hT : Tabs w) (hG : Gs w w.heap.size sG x.gates) (hA : Ks w w.heap.size sA x.outs) :
    Calls Tryd.prog 8 #[.agg #[.int .u8 x.inN, .int .u8 x.dffs, .int .u8 x.d0, .int .u8 x.d1, .bool x.bus, .bool x.mem, .int .u8 x.p0, .int .u8 x.p1, .int .u8 x.p2, .int .u8 x.p3, sG, sA], .agg #[.int .u8 (ks 0), .int .u8 (ks 1), .int .u8 (ks 2), .int .u8 (ks 3), .int .u8 (ks 4), .int .u8 (ks 5), .int .u8 (ks 6), .int .u8 (ks 7), .int .u8 (ks 8), .int .u8 (ks 9), .int .u8 (ks 10), .int .u8 (ks 11), .int .u8 (ks 12), .int .u8 (ks 13), .int .u8 (ks 14), .int .u8 (ks 15)]] w fun e w' => e = .returned (.bool true) ∧ Below w.heap.size w w' := by
  obtain ⟨L, V0⟩ := vld_c x hx
  have hz := sizeN_le x
  have hnm : ∀ i, i < sizeN x → nameOk (120 :: ((ofC x).names.getD i ByteArray.empty).data.toList) = true ∧ ((ofC x).names.getD i ByteArray.empty).size = 3 := fun i hi => by rw [ofC_nm x hi]; exact nameB_ok i (by omega)
  have hml : (ofC x).mems.length ≤ 1 := by show (memsN x).length ≤ 1; unfold memsN; split <;> simp
  have hkn : ∀ nd ∈ (ofC x).nodes, 0 ≤ nd.kind ∧ nd.kind ≤ 15 := dffTo_kinds x hx (dffsN x)
  obtain ⟨W0, HW0⟩ := named ((w.alloc (.cells #[.int .u8 x.inN, .int .u8 x.dffs, .int .u8 x.d0, .int .u8 x.d1, .bool x.bus, .bool x.mem, .int .u8 x.p0, .int .u8 x.p1, .int .u8 x.p2, .int .u8 x.p3, sG, sA] 61)).alloc (.cells #[.int .u8 (ks 0), .int .u8 (ks 1), .int .u8 (ks 2), .int .u8 (ks 3), .int .u8 (ks 4), .int .u8 (ks 5), .int .u8 (ks 6), .int .u8 (ks 7), .int .u8 (ks 8), .int .u8 (ks 9), .int .u8 (ks 10), .int .u8 (ks 11), .int .u8 (ks 12), .int .u8 (ks 13), .int .u8 (ks 14), .int .u8 (ks 15)] 67))
  have hb0 : Below w.heap.size w W0 := by rw [HW0.out]; exact below_new (below_new (Below.refl _ _) _) _
  have hzb : Fr W0 (w.heap.size + 1) 67 [.int .u8 (ks 0), .int .u8 (ks 1), .int .u8 (ks 2), .int .u8 (ks 3), .int .u8 (ks 4), .int .u8 (ks 5), .int .u8 (ks 6), .int .u8 (ks 7), .int .u8 (ks 8), .int .u8 (ks 9), .int .u8 (ks 10), .int .u8 (ks 11), .int .u8 (ks 12), .int .u8 (ks 13), .int .u8 (ks 14), .int .u8 (ks 15)] := by rw [HW0.out]; exact Fr.made _ _ _ (by simp)
  have HKC : Hid (∀ (W : World) (j : Nat), Below W0.heap.size W0 W → j < 16 → W.cell? ⟨w.heap.size + 1, j, none⟩ = some (.int .u8 (ks j)) ∧ U8 (ks j)) := Lib.hid fun W j hb hj => by
    refine ⟨?_, hks j hj⟩
    rw [(hzb.below hb).cell j]
    have h16 : j = 0 ∨ j = 1 ∨ j = 2 ∨ j = 3 ∨ j = 4 ∨ j = 5 ∨ j = 6 ∨ j = 7 ∨ j = 8 ∨ j = 9 ∨ j = 10 ∨ j = 11 ∨ j = 12 ∨ j = 13 ∨ j = 14 ∨ j = 15 := by omega
    rcases h16 with rfl | rfl | rfl | rfl | rfl | rfl | rfl | rfl | rfl | rfl | rfl | rfl | rfl | rfl | rfl | rfl <;> rfl
  have HOF : Hid (∀ n, n = sizeN x → Calls Tryd.prog 32 #[.agg #[.int .u8 x.inN, .int .u8 x.dffs, .int .u8 x.d0, .int .u8 x.d1, .bool x.bus, .bool x.mem, .int .u8 x.p0, .int .u8 x.p1, .int .u8 x.p2, .int .u8 x.p3, sG, sA]] ((w.alloc (.cells #[.int .u8 x.inN, .int .u8 x.dffs, .int .u8 x.d0, .int .u8 x.d1, .bool x.bus, .bool x.mem, .int .u8 x.p0, .int .u8 x.p1, .int .u8 x.p2, .int .u8 x.p3, sG, sA] 61)).alloc (.cells #[.int .u8 (ks 0), .int .u8 (ks 1), .int .u8 (ks 2), .int .u8 (ks 3), .int .u8 (ks 4), .int .u8 (ks 5), .int .u8 (ks 6), .int .u8 (ks 7), .int .u8 (ks 8), .int .u8 (ks 9), .int .u8 (ks 10), .int .u8 (ks 11), .int .u8 (ks 12), .int .u8 (ks 13), .int .u8 (ks 14), .int .u8 (ks 15)] 67))
      fun e w' => ∃ A0 A1 A2 A3 n1 n2 n3 c0 c1 c2 c3, e = .returned (.agg #[.slice A0 n c0, .slice A1 n1 c1, .slice A2 n2 c2, .slice A3 n3 c3]) ∧ Below W0.heap.size W0 w' ∧
        LC (ofC x) W0 w'.heap.size A0 A1 A2 A3 n n1 n2 n3 c0 c1 c2 c3 (w'.alloc (.cells #[.slice A0 n c0, .slice A1 n1 c1, .slice A2 n2 c2, .slice A3 n3 c3] 27))) :=
    Lib.hid fun n hn => by
      rw [← HW0.out]
      exact ofc_c x hx (hT.below hb0) (Arr.keep stays_g hG hb0.size fun _ hp => hb0.cell hp) (Arr.keep stays_u8 hA hb0.size fun _ hp => hb0.cell hp) (Below.refl _ _) hn
  have HT := Lib.hid (hT.below hb0)
  have HB0 := Lib.hid hb0
  clear hb0 hT hG hA hx hzb hks
  obtain ⟨n, HN⟩ := named (sizeN x)
  rw [← HN.out] at V0 hz hnm
  obtain ⟨c, HC⟩ := named (ofC x)
  rw [← HC.out] at V0 hnm hml hkn
  have HV := Lib.hid V0
  have HNM := Lib.hid hnm
  have HML := Lib.hid hml
  have HKN := Lib.hid hkn
  clear V0 hnm hml hkn
  obtain ⟨i0, hi, hy0, hy1, hy2⟩ := info_parts info_int
  have HI := Lib.hid (And.intro hi (And.intro hy0 (And.intro hy1 hy2)))
  clear hi hy0 hy1 hy2
  go_enter Tryd.func8, Tryd.ntmps8
  go_wp2_with (first
    | (go_at_call 32; (with_reducible refine (HOF.out n HN.out).mono ?_); rintro e w1 ⟨A0, A1, A2, A3, n1, n2, n3, c0, c1, c2, c3, rfl, hb, hl⟩; rw [← HC.out] at hl; have HL0 := Lib.hid hl; clear hb hl)
    | (at_make; refine wpList_make_full _ rfl _ _ 25 rfl (w1.heap.size + 1) 3 i0 (.int .i64 0) 1 Tryd.underlying25 HI.out.1 HI.out.2.1 HI.out.2.2.1 .i64 .i64 _ _ n rfl rfl rfl rfl ?b2 ?b3 ?b4 ?_))
  case b2 => rw [HI.out.2.2.2]; omega
  case b3 => unfold maxLen; omega
  case b4 => simp
  intro w6 hown hgr
  obtain ⟨wq, HWQ⟩ := named (w1.alloc (.cells #[.slice A0 n c0, .slice A1 n1 c1, .slice A2 n2 c2, .slice A3 n3 c3] 27))
  have hSq : wq.heap.size = w1.heap.size + 1 := by rw [HWQ.out]; simp
  have hl0 := HL0.out
  rw [← HWQ.out] at hl0 hgr
  obtain ⟨S, HS⟩ := named (w1.heap.size + 1)
  rw [← HS.out] at hown hSq
  rw [← HS.out]
  have hrow : Row w6 S (plist ks n 0 0) := by
    rw [← plist_start]
    unfold Row
    rw [List.length_replicate, ← made_zero]
    exact hown
  have hb6 : Below S wq w6 := by rw [← hSq]; exact (Below.refl _ _).grown hgr (Nat.le_refl _) (fun k h => by cases h)
  obtain ⟨PB, HPB⟩ := named w6.heap.size
  have hSP : S < PB := by rw [HPB.out]; exact hrow.lt
  have hqS : w1.heap.size < S := by rw [HS.out]; omega
  have HROW := Lib.hid (hrow.below (below_new (Below.refl w6.heap.size w6) (.cells #[.slice (some ⟨S, 0, none⟩) n n] 25)))
  have HB6 : Hid (Below S wq (w6.alloc (.cells #[.slice (some ⟨S, 0, none⟩) n n] 25))) := Lib.hid (hb6.alloc (by have := hrow.lt; omega) _)
  have HPF : Hid (Fr (w6.alloc (.cells #[.slice (some ⟨S, 0, none⟩) n n] 25)) PB 25 [.slice (some ⟨S, 0, none⟩) n n]) := Lib.hid (by rw [HPB.out]; exact Fr.made _ _ _ rfl)
  have HSQ := Lib.hid hSq
  have HLQ := Lib.hid hl0
  have HWW : Hid (∀ W, Below S wq W → Below W0.heap.size W0 W) := Lib.hid fun W hb => joinB hl0.bel (by rw [hSq]; exact hb)
  clear hown hgr hrow hb6 hSq hl0 HL0
  go_wp2
  rw [← HPB.out]
  -- the new numbers
  go_loopw [8] (fun j wr => ∃ i : Nat, j = .int .i64 i ∧ i ≤ n ∧ Below S wq wr ∧ Row wr S (plist ks n i 0) ∧ Fr wr PB 25 [.slice (some ⟨S, 0, none⟩) n n]) (fun j _ => n - (intOf j).toNat)
  case atStart => exact ⟨0, rfl, Nat.zero_le _, HB6.out, HROW.out, HPF.out⟩
  case round =>
    clear HB6 HROW HPF
    obtain ⟨i, rfl, hin, hb, hrow, hpf⟩ := hrel
    have HB := Lib.hid hb
    have HROW := Lib.hid hrow
    have HPF := Lib.hid hpf
    by_cases hi : i < n
    · clear hb hrow hpf
      go_wp2
      go_loopw [9] (fun j wx => ∃ k : Nat, j = .int .i64 k ∧ k ≤ n ∧ Below S wq wx ∧ Row wx S (plist ks n i k) ∧ Fr wx PB 25 [.slice (some ⟨S, 0, none⟩) n n]) (fun j _ => n - (intOf j).toNat)
      case atStart => exact ⟨0, rfl, Nat.zero_le _, HB.out, HROW.out, HPF.out⟩
      case round =>
        clear HB HROW HPF
        obtain ⟨k, rfl, hkn, hb, hrow, hpf⟩ := hrel
        have HB := Lib.hid hb
        have HROW := Lib.hid hrow
        have HPF := Lib.hid hpf
        by_cases hk : k < n
        · obtain ⟨ka, HKA⟩ := named (k % 16)
          obtain ⟨ia, HIA⟩ := named (i % 16)
          have hkal : ka < 16 := by rw [HKA.out]; omega
          have hial : ia < 16 := by rw [HIA.out]; omega
          obtain ⟨z1, u1⟩ := HKC.out wr ka (HWW.out wr hb) hkal
          obtain ⟨z2, u2⟩ := HKC.out wr ia (HWW.out wr hb) hial
          have hbf : before ks k i = (decide (ks ka < ks ia) || (ks ka == ks ia && decide (k < i))) := by rw [HKA.out, HIA.out]; rfl
          unfold U8 at u1 u2
          obtain ⟨a, HA⟩ := named (ks ka)
          obtain ⟨b, HBb⟩ := named (ks ia)
          rw [← HA.out] at z1 u1 hbf
          rw [← HBb.out] at z2 u2 hbf
          have hka : (k : Int).tmod 16 = (ka : Int) := by rw [Int.tmod_eq_emod_of_nonneg (by omega), HKA.out]; omega
          have hia : (i : Int).tmod 16 = (ia : Int) := by rw [Int.tmod_eq_emod_of_nonneg (by omega), HIA.out]; omega
          have hka2 : (k : Int) % 16 = (ka : Int) := by rw [HKA.out]; omega
          have hia2 : (i : Int) % 16 = (ia : Int) := by rw [HIA.out]; omega
          obtain ⟨bf, HBF⟩ := named (before ks k i)
          rw [← HBF.out] at hbf
          have HBV := Lib.hid hbf
          clear hb hrow hpf hbf
          go_wp2
          go_upto_region 10 with (fail)
          go_cut [62] (fun v wx => v = .bool bf ∧ ∃ m, wx = wr.drewN m)
          case first =>
            by_cases h1 : a < b
            · have t1 : decide (a < b) = true := decide_eq_true h1
              have hv : bf = true := by rw [HBV.out, t1]; rfl
              have HV2 := Lib.hid hv
              clear hv h1
              go_quiet (fail)
              go_wp2
              go_meet
              exact ⟨by rw [HV2.out], _, rfl⟩
            · have t1 : decide (a < b) = false := decide_eq_false h1
              by_cases h2 : a = b
              · have t2 : (a == b) = true := by rw [h2]; simp
                by_cases h3 : k < i
                · have t3 : decide (k < i) = true := decide_eq_true h3
                  have hv : bf = true := by rw [HBV.out, t1, t2, t3]; rfl
                  have HV2 := Lib.hid hv
                  clear hv h1 h2
                  go_quiet (fail)
                  go_wp2
                  go_meet
                  exact ⟨by rw [HV2.out], _, rfl⟩
                · have t3 : decide (k < i) = false := decide_eq_false h3
                  have hv : bf = false := by rw [HBV.out, t1, t2, t3]; rfl
                  have HV2 := Lib.hid hv
                  clear hv h1 h2
                  go_quiet (fail)
                  go_wp2
                  go_meet
                  exact ⟨by rw [HV2.out], _, rfl⟩
              · have t2 : (a == b) = false := by simpa using h2
                have hv : bf = false := by rw [HBV.out, t1, t2]; rfl
                have HV2 := Lib.hid hv
                clear hv h1 h2
                go_quiet (fail)
                go_wp2
                go_meet
                exact ⟨by rw [HV2.out], _, rfl⟩
          case rest =>
            obtain ⟨rfl, m, rfl⟩ := hcut
            have hb' : Below S wq (wr.drewN m) := below_drewN HB.out m
            have hrow' : Row (wr.drewN m) S (plist ks n i k) := HROW.out.below (below_drewN (Below.refl _ _) m)
            have hpf' : Fr (wr.drewN m) PB 25 [.slice (some ⟨S, 0, none⟩) n n] := HPF.out.below (below_drewN (Below.refl _ _) m)
            have hinc := plist_inc (ks := ks) (k := k) hi
            rw [← HBF.out] at hinc
            have z3 := hrow'.cell (j := i) (by rw [plist_len]; exact hi)
            rw [plist_lat hi, if_neg (by omega), if_pos rfl] at z3
            have z4 := hrow'.frozen i
            have z5 : (wr.drewN m).cell? ⟨PB, 0, none⟩ = some (.slice (some ⟨S, 0, none⟩) n n) := hpf'.cell 0
            have hrl := rk_le ks i k
            obtain ⟨rv, HRV⟩ := named (rk ks i k)
            rw [← HRV.out] at z3 hinc hrl
            have HB2 := Lib.hid hb'
            have HROW2 := Lib.hid hrow'
            have HPF2 := Lib.hid hpf'
            cases bf
            · rw [if_neg (by decide)] at hinc
              have HINC := Lib.hid hinc
              clear hb' hrow' hpf' hinc z1 z2 z3 z4 z5
              go_wp2
              go_roundw
              case rel => exact ⟨k + 1, by go_num, by omega, HB2.out, by rw [HINC.out]; exact HROW2.out, HPF2.out⟩
              case measure => simp [intOf]; omega
            · rw [if_pos rfl] at hinc
              have HINC := Lib.hid hinc
              have HB3 : Hid (Below S wq ((wr.drewN m).setCell ⟨S, i, none⟩ (.int .i64 ((rv : Int) + 1)))) := Lib.hid (HB2.out.setCell (Nat.le_refl _) _)
              have HROW3 := Lib.hid (HROW2.out.set i ((rv : Int) + 1))
              have HPF3 := Lib.hid (HPF2.out.other (a := ⟨S, i, none⟩) (by show S ≠ PB; omega) (.int .i64 ((rv : Int) + 1)))
              clear hb' hrow' hpf' hinc z1 z2
              go_wp2
              go_roundw
              case rel => exact ⟨k + 1, by go_num, by omega, HB3.out, by rw [HINC.out]; exact HROW3.out, HPF3.out⟩
              case measure => simp [intOf]; omega
        · obtain rfl : n = k := by omega
          clear hb hrow hpf
          go_wp2
          go_roundw
          case rel => exact ⟨i + 1, by go_num, by omega, HB.out, by rw [← plist_next]; exact HROW.out, HPF.out⟩
          case measure => simp [intOf]; omega
    · obtain rfl : n = i := by omega
      clear hb hrow hpf
      go_wp2
      obtain ⟨V0, rfl⟩ : ∃ V0 : World, V0 = wr := ⟨_, rfl⟩
      have hsz := HSQ.out
      have hl0 := HLQ.out.next (W := V0) (by rw [hsz]; exact HB.out)
      obtain ⟨⟨pN, pS, pM, pO⟩, en, en1, en2, en3⟩ := hl0.parts
      have hshp := shape_zero (chk_shape HV.out.ok)
      obtain rfl : n = n1 := by rw [en, en1, hshp.2.2.2.1]
      obtain ⟨p, HP⟩ := named (fun i => rk ks i n)
      have hper : Perm n p := by rw [HP.out]; exact rk_perm ks n
      have HPERM := Lib.hid hper
      have hq9 : w1.heap.size ≤ V0.heap.size := Nat.le_of_lt hl0.box.lt
      have HMV : Hid (∀ (W : World) (l : List Int) (s : Value), Below V0.heap.size V0 W → Is W W.heap.size s l → areIdx n l = true → l.length ≤ 1000000 → Calls Tryd.prog 34 #[s, .pointer (some ⟨PB, 0, none⟩)] W fun e w' => ∃ s', e = .returned s' ∧ Stk w' V0.heap.size s' (mvL p l) ∧ Below W.heap.size W w') := Lib.hid fun W l s hb hs hl hm => by
        rw [HP.out]; exact moved_c HROW.out HPF.out hb hs hl hm
      have HSC : Hid (∀ W, Below V0.heap.size V0 W → W.cell? ⟨PB, 0, none⟩ = some (.slice (some ⟨S, 0, none⟩) n n) ∧ ∀ j, j < n → W.cell? ⟨S, j, none⟩ = some (.int .i64 ((p j : Nat) : Int))) := Lib.hid fun W hb => ⟨(HPF.out.below hb).cell 0, fun j hj => by
        have h := (HROW.out.below hb).cell (j := j) (by rw [plist_len]; exact hj)
        rw [plist_p (by omega) (by omega)] at h
        rw [HP.out]
        exact h⟩
      have HLN : Hid (∀ W, Below V0.heap.size V0 W → LC c W0 w1.heap.size A0 A1 A2 A3 n n n2 n3 c0 c1 c2 c3 W) := Lib.hid fun W hb => hl0.next hb
      have HCO : Hid (∀ W, Below V0.heap.size V0 W → Calls Tryd.prog 34 #[.slice A3 n3 c3, .pointer (some ⟨PB, 0, none⟩)] W fun e w' => ∃ s', e = .returned s' ∧ Stk w' V0.heap.size s' (mvL p c.outs) ∧ Below W.heap.size W w') := Lib.hid fun W hb =>
        HMV.out W c.outs _ hb ((pO.below (hb.mono hq9)).more (Nat.le_trans hq9 hb.size)) (by rw [en]; exact hshp.2.2.2.2.2.2.2) (by have := hshp.2.2.1; omega)
      have HEN := Lib.hid (And.intro en (And.intro en2 en3))
      have HB0L := Lib.hid HB.out
      have HTV := Lib.hid hl0.tabs
      clear hl0 hsz pN pS pM pO hshp hper en en1 en2 en3 HB HROW HPF HLQ HSQ HKC HWW hi
      refine wp_region_held_drew (S := fun w' => Below V0.heap.size V0 w') (by kernel_rfl) (Below.refl _ _).drew (fun hHeld => ?_)
      refine wpAnyH_take (i := 0) (oi := ⟨some 70, _, _, _, _, _⟩) (v := .int .i64 (n : Int)) rfl (by kernel_rfl) (by kernel_rfl) (by kernel_rfl) (fun _ _ _ h => h) (Or.inl ⟨by rfl, ?_⟩) hHeld ?_
      · intro w' hSw; first | (go_simp; done) | (go_simp; with_reducible rfl)
      simp only [Act.put, List.setIfInBounds_toArray, List.set_cons_zero, List.set_cons_succ]
      refine wpAnyH_take (i := 2) (oi := ⟨some 72, _, _, _, _, _⟩) (v := .int .i64 (n : Int)) rfl (by kernel_rfl) (by kernel_rfl) (by kernel_rfl) (fun _ _ _ h => h) (Or.inl ⟨by rfl, ?_⟩) hHeld ?_
      · intro w' hSw; first | (go_simp; done) | (go_simp; with_reducible rfl)
      simp only [Act.put, List.setIfInBounds_toArray, List.set_cons_zero, List.set_cons_succ]
      refine wpAnyH_take (i := 4) (oi := ⟨some 74, _, _, _, _, _⟩) (v := .func (.func 34) #[] #[.pointer (some ⟨PB, 0, none⟩)]) rfl (by kernel_rfl) (by kernel_rfl) (by kernel_rfl) (fun _ _ _ h => h) (Or.inl ⟨by rfl, ?_⟩) hHeld ?_
      · intro w' hSw; first | (go_simp; done) | (go_simp; with_reducible rfl)
      simp only [Act.put, List.setIfInBounds_toArray, List.set_cons_zero, List.set_cons_succ]
      refine wpAnyH_take (i := 5) (oi := ⟨some 75, _, _, _, _, _⟩) (v := .pointer (some ⟨w1.heap.size, 3, none⟩)) rfl (by kernel_rfl) (by kernel_rfl) (by kernel_rfl) (fun _ _ _ h => h) (Or.inl ⟨by rfl, ?_⟩) hHeld ?_
      · intro w' hSw; first | (go_simp; done) | (go_simp; with_reducible rfl)
      simp only [Act.put, List.setIfInBounds_toArray, List.set_cons_zero, List.set_cons_succ]
      refine wpAnyH_take (i := 6) (oi := ⟨some 76, _, _, _, _, _⟩) (v := .slice A3 n3 c3) rfl (by kernel_rfl) (by kernel_rfl) (by kernel_rfl) (fun _ _ _ h => h) (Or.inl ⟨by rfl, ?_⟩) hHeld ?_
      · intro w' hSw; obtain ⟨y0, y1, y2, y3⟩ := (HLN.out w' hSw).cells; first | (go_simp; done) | (go_simp; with_reducible rfl)
      simp only [Act.put, List.setIfInBounds_toArray, List.set_cons_zero, List.set_cons_succ]
      refine rnd_reg (n := n) (bx := PB) (wb := V0) (lo := mvL p c.outs) (sO := .slice A3 n3 c3) _ (by omega) rfl (by kernel_rfl) ⟨_, rfl, rfl, rfl, rfl, by kernel_rfl⟩ ⟨_, rfl, rfl, rfl, rfl, by kernel_rfl⟩ ⟨_, rfl, rfl, rfl, rfl, by kernel_rfl⟩ ⟨_, rfl, rfl, rfl, rfl, by kernel_rfl⟩ ⟨_, rfl, rfl, rfl, rfl, by kernel_rfl⟩ ⟨_, rfl, rfl, rfl, rfl, by kernel_rfl⟩
        (Nat.le_of_ble_eq_true (by rfl)) rfl rfl rfl rfl ?_ HCO.out ?_ _ hHeld
      · rfl
      intro v11 v71 v73 v77 v78 gN gS gd wx I
      obtain ⟨A7, c7, rfl, rfl, rfl, rfl, rfl, hds⟩ := ds_of I rfl (xnm c)
      have HDS := Lib.hid hds
      clear hds I hHeld
      simp only [Gq, Act.put, List.setIfInBounds_toArray, List.set_cons_zero, List.set_cons_succ]
      obtain ⟨m7, HM7⟩ := named (mvL p c.outs).length
      rw [← HM7.out] at HDS ⊢
      go_wp2
      go_loopw [12] (fun j w3 => ∃ k : Nat, j = .int .i64 k ∧ k ≤ n ∧ DS c p (xnm c) n V0 gd gN gS (.slice none 0 0) (.slice A7 m7 c7) k k w3) (fun j _ => n - (intOf j).toNat)
      case atStart => exact ⟨0, rfl, Nat.zero_le _, HDS.out⟩
      case round =>
        clear HDS
        obtain ⟨k, rfl, hkn, hds⟩ := hrel
        by_cases hk : k < n
        · have hlc := HLN.out wr hds.bel
          obtain ⟨x0, x1, x2, x3⟩ := hlc.cells
          obtain ⟨⟨pN, pS, -, -⟩, -⟩ := hlc.parts
          obtain ⟨b0, o0, rfl, hb0, hnd⟩ := arr_form pN (by omega)
          obtain ⟨b1, o1, rfl, hb1, hsn⟩ := arr_form pS (by omega)
          obtain ⟨s4, e0, e1, e2, e3, hi4, hk0, hk1⟩ := hnd k hk
          have hkl : k < c.nodes.length := by rw [← HEN.out.1]; exact hk
          have hai : areIdx n (c.nodes.getD k default).ins = true := by
            rw [HEN.out.1]; exact (nodeErr_zero ((shape_zero (chk_shape HV.out.ok)).2.2.2.2.1 _ (getD_mem_nd hkl))).2.2.2.1
          have hpl := HV.out.pins k hkl
          obtain ⟨ht1, ht2, ht3⟩ := hds.tops
          have htb := hds.bel.size
          have hq9 := hlc.box.lt
          have hqv : w1.heap.size < V0.heap.size := (HLN.out V0 (Below.refl _ _)).box.lt
          have HDS := Lib.hid hds
          have hpk := HPERM.out.lt k hk
          obtain ⟨ix, HIX⟩ := named (c.nodes.getD k default).ins
          obtain ⟨kd, HKD⟩ := named (c.nodes.getD k default).kind
          obtain ⟨md, HMD⟩ := named (c.nodes.getD k default).mem
          obtain ⟨bd, HBD⟩ := named (c.nodes.getD k default).bit
          rw [← HIX.out] at hi4 hai hpl
          rw [← HKD.out] at e0
          rw [← HMD.out] at e2
          rw [← HBD.out] at e3
          obtain ⟨A4, b4, o4, c4, rfl, -, -, hm4, -⟩ := id hi4.opens
          obtain ⟨ni, HNI⟩ := named ix.length
          rw [← HNI.out] at e1 hpl
          rw [← HNI.out] at hi4
          have HCL : Hid (Calls Tryd.prog 34 #[.slice A4 ni c4, .pointer (some ⟨PB, 0, none⟩)] (wr.alloc (.cells #[.int .u8 kd, .slice A4 ni c4, .int .i64 md, .int .i64 bd] 49))
            fun e w' => ∃ s', e = .returned s' ∧ Stk w' V0.heap.size s' (mvL p ix) ∧ Below (wr.alloc (.cells #[.int .u8 kd, .slice A4 ni c4, .int .i64 md, .int .i64 bd] 49)).heap.size (wr.alloc (.cells #[.int .u8 kd, .slice A4 ni c4, .int .i64 md, .int .i64 bd] 49)) w') := Lib.hid (by
            have hba : Below wr.heap.size wr (wr.alloc (.cells #[.int .u8 kd, .slice A4 ni c4, .int .i64 md, .int .i64 bd] 49)) := below_new (Below.refl _ _) _
            exact HMV.out _ ix _ (joinB HDS.out.bel hba) ((hi4.below (hba.mono (Nat.le_of_lt hq9))).more (Nat.le_trans (Nat.le_of_lt hq9) hba.size)) hai (by rw [← HNI.out]; omega))
          have hpnq : b0 < wr.heap.size ∧ b1 < wr.heap.size := ⟨by omega, by omega⟩
          have hbn0 : ¬ b0 = wr.heap.size := by omega
          clear hds hlc pN pS hnd hsn hi4 hai hm4 hk0 hk1
          go_upto_region 19 with (go_at_call 34; (with_reducible refine HCL.out.mono ?_); rintro e w7 ⟨s', rfl, hst, hb7⟩; obtain ⟨A5, c5, rfl, -⟩ := hst.form; have fv := (Fr.made wr [.int .u8 kd, .slice A4 ni c4, .int .i64 md, .int .i64 bd] 49 rfl).below hb7; have f7 := fv.frozen 1; have c7' := fv.cell 1; have HST := Lib.hid hst; have HB7 := Lib.hid (joinB (below_new (Below.refl wr.heap.size wr) _) hb7); have HFV := Lib.hid fv; clear hst hb7 fv)
          have hVl : wr.heap.size < w7.heap.size := HFV.out.lt
          have hds7 := HDS.out.next HB7.out
          have hds8 := hds7.off HFV.out (by decide) (by omega) (by omega) (by omega) htb 1 (.slice A5 (mvL p ix).length c5)
          have hst8 := HST.out.sets (j := 1) (u := .slice A5 (mvL p ix).length c5) HFV.out (by decide)
          have fv8 := HFV.out.set 1 (.slice A5 (mvL p ix).length c5)
          obtain ⟨W8, HW8⟩ := named (w7.setCell ⟨wr.heap.size, 1, none⟩ (.slice A5 (mvL p ix).length c5))
          rw [← HW8.out] at hds8 hst8 fv8
          rw [← HW8.out]
          obtain ⟨m5, HM5⟩ := named (mvL p ix).length
          rw [← HM5.out] at hst8 fv8
          rw [← HM5.out]
          rw [HIX.out] at hst8
          have H9 := hds8.node HPERM.out hk hst8
          rw [← HKD.out, ← HMD.out, ← HBD.out] at H9
          obtain ⟨z0, -, -, -, z4, -, -⟩ := hds8.cells
          have z5 := (HSC.out W8 hds8.bel).1
          have z6 := (HSC.out W8 hds8.bel).2 k hk
          have y0 := fv8.cell 0
          have y1 := fv8.cell 1
          have y2 := fv8.cell 2
          have y3 := fv8.cell 3
          have HD8 := Lib.hid hds8
          have hasN := hds8.has.1
          obtain ⟨pk, HPK⟩ := named (p k)
          rw [← HPK.out] at H9 hpk z6
          have z40 := z4 (pk * 4)
          have z41 := z4 (pk * 4 + 1)
          have z42 := z4 (pk * 4 + 2)
          have z43 := z4 (pk * 4 + 3)
          obtain ⟨u0, z44⟩ := hasN (pk * 4) (by omega)
          obtain ⟨u1, z45⟩ := hasN (pk * 4 + 1) (by omega)
          obtain ⟨u2, z46⟩ := hasN (pk * 4 + 2) (by omega)
          obtain ⟨u3, z47⟩ := hasN (pk * 4 + 3) (by omega)
          have H9 := Lib.hid H9
          clear hasN hds7 hds8 hst8 fv8 z4 x0 x1 x2 x3 e0 e1 e2 e3 f7 c7' HST HFV HCL
          go_still_tail 8, (by kernel_rfl)
          go_upto_region 20 with (fail)
          obtain ⟨W9, HW9⟩ := named (((((W8.setCell ⟨gN, pk * 4, none⟩ (.int .u8 kd)).setCell ⟨gN, pk * 4 + 1, none⟩ (.slice A5 m5 c5)).setCell ⟨gN, pk * 4 + 2, none⟩ (.int .i64 md)).setCell ⟨gN, pk * 4 + 3, none⟩ (.int .i64 bd)).drew)
          rw [← HW9.out]
          have hds9 := H9.out.next (Below.refl _ _).drew
          rw [← HW9.out] at hds9
          clear z0 z40 z41 z42 z43 z44 z45 z46 z47 z5 z6 y0 y1 y2 y3 H9 HD8
          have hlc9 := HLN.out W9 hds9.bel
          obtain ⟨-, x1, -, -⟩ := hlc9.cells
          obtain ⟨⟨-, pS, -, -⟩, -⟩ := hlc9.parts
          obtain ⟨b9, o9, e9, -, hsn⟩ := arr_form pS (by omega)
          simp only [Option.some.injEq, Addr.mk.injEq, and_true] at e9
          obtain ⟨rfl, rfl⟩ := e9
          have e5 := (hsn k hk).1
          rw [Nat.mul_one] at e5
          obtain ⟨-, z1, -, -, -, zf, -⟩ := hds9.cells
          have z5 := (HSC.out W9 hds9.bel).1
          have z6 := (HSC.out W9 hds9.bel).2 k hk
          rw [← HPK.out] at z6
          obtain ⟨u4, z48⟩ := hds9.has.2 pk hpk
          have z49 := zf pk
          have H10 := hds9.name HPERM.out hk
          rw [← HPK.out] at H10
          unfold xnm at H10
          obtain ⟨sn, HSN⟩ := named (c.names.getD k ByteArray.empty)
          rw [← HSN.out] at e5
          have hs3 : sn.size = 3 := by rw [HSN.out]; exact (HNM.out k hk).2
          have H10 : Hid (DS c p (xnm c) n V0 gd gN gS (.slice none 0 0) (.slice A7 m7 c7) (k + 1) (k + 1) ((W9.setCell ⟨gS, pk, none⟩ (.string ((⟨#[120]⟩ : ByteArray) ++ sn))).drew)) := Lib.hid (by
            rw [HSN.out]; exact H10.next (Below.refl _ _).drew)
          clear hds9 hlc9 pS hsn zf
          go_still_tail 13, (by kernel_rfl)
          go_wp2
          go_roundw
          case rel => exact ⟨k + 1, by go_num, by omega, H10.out⟩
          case measure => simp [intOf]; omega
        · obtain rfl : n = k := by omega
          have HDS := Lib.hid hds
          clear hds
          have x2 := ((HLN.out wr HDS.out.bel).cells).2.2.1
          have hn21 : n2 ≤ 1 := by rw [HEN.out.2.1]; exact HML.out
          go_wp2
          go_loopw [14] (fun j w4 => ∃ k2 : Nat, j = .int .i64 k2 ∧ k2 ≤ n2 ∧ ∃ sM, DS c p (xnm c) n V0 gd gN gS sM (.slice A7 m7 c7) n n w4 ∧ (k2 = 0 → sM = .slice none 0 0) ∧ (k2 = n2 → Ms w4 w4.heap.size sM (c.mems.map (mvM p)))) (fun j _ => n2 - (intOf j).toNat)
          case atStart =>
            refine ⟨0, rfl, Nat.zero_le _, _, HDS.out, fun _ => rfl, fun h0 => ?_⟩
            have : c.mems = [] := List.eq_nil_of_length_eq_zero (by rw [← HEN.out.2.1, ← h0])
            rw [this]
            exact Arr.nil _ _ _ _ _
          case round =>
            clear HDS x2
            obtain ⟨k2, rfl, hkn2, sM, hds, hs0, hs1⟩ := hrel
            have hlc := HLN.out wr hds.bel
            obtain ⟨x0, x1, x2, x3⟩ := hlc.cells
            by_cases hk2 : k2 < n2
            · obtain rfl : k2 = 0 := by omega
              obtain rfl := hs0 rfl
              obtain ⟨⟨-, -, pM, -⟩, -⟩ := hlc.parts
              obtain ⟨b2, o2, rfl, hb2, hmm⟩ := arr_form pM (by omega)
              have hm1 : c.mems.length = 1 := by rw [← HEN.out.2.1]; omega
              have hmeq := mem_only hm1
              obtain ⟨sA, sD, e0, e1, e2, hiA, hiD⟩ := hmm 0 (by omega)
              have hmo := mem_ok ((shape_zero (chk_shape HV.out.ok)).2.2.2.2.2.2.1 (c.mems.getD 0 default) (by rw [hmeq]; simp))
              obtain ⟨mm, HMM⟩ := named (c.mems.getD 0 default)
              rw [← HMM.out] at hmeq e2 hiA hiD hmo
              rw [← HEN.out.1] at hmo
              obtain ⟨hal, hdl, hwi, hai, hdi⟩ := hmo
              have hwi' := isIdx_iff.1 hwi
              obtain ⟨wn, HWN⟩ := named mm.write.toNat
              have hww : mm.write = (wn : Int) := by rw [HWN.out]; omega
              have hwn : wn < n := by rw [HWN.out]; omega
              rw [hww] at e2
              obtain ⟨A4, b4, o4, c4, rfl, -, -, hm4, -⟩ := id hiA.opens
              obtain ⟨A6, b6, o6, c6, rfl, -, -, hm6, -⟩ := id hiD.opens
              obtain ⟨la, HLA⟩ := named mm.addr
              obtain ⟨ld, HLD⟩ := named mm.data
              rw [← HLA.out] at e0 hiA hal hai hm4
              rw [← HLD.out] at e1 hiD hdl hdi hm6
              obtain ⟨na, HNA⟩ := named la.length
              obtain ⟨nd, HND⟩ := named ld.length
              rw [← HNA.out] at e0 hiA hal hm4
              rw [← HND.out] at e1 hiD hdl hm6
              rw [Nat.zero_mul, Nat.add_zero] at e0 e1 e2
              have hqv : w1.heap.size < V0.heap.size := (HLN.out V0 (Below.refl _ _)).box.lt
              have hVr := hds.bel.size
              obtain ⟨ht1, ht2, ht3⟩ := hds.tops
              have hq9 := hlc.box.lt
              have hbn2 : ¬ b2 = wr.heap.size := by omega
              have hbl2 : b2 < wr.heap.size := by omega
              have HDS := Lib.hid hds
              have HIA := Lib.hid hiA
              have HID := Lib.hid hiD
              clear hds hlc pM hmm hiA hiD hs0 hs1
              go_upto_region 25 with (fail)
              obtain ⟨V, HVV⟩ := named wr.heap.size
              have hb5 : Below wr.heap.size wr (wr.alloc (.cells #[.slice A4 na c4, .slice A6 nd c6, .int .i64 (wn : Int)] 70)) := below_new (Below.refl _ _) _
              have hds5 := HDS.out.next hb5
              have fv5 : Fr (wr.alloc (.cells #[.slice A4 na c4, .slice A6 nd c6, .int .i64 (wn : Int)] 70)) V 70 [.slice A4 na c4, .slice A6 nd c6, .int .i64 (wn : Int)] := by rw [HVV.out]; exact Fr.made wr _ _ rfl
              obtain ⟨W5, HW5⟩ := named (wr.alloc (.cells #[.slice A4 na c4, .slice A6 nd c6, .int .i64 (wn : Int)] 70))
              rw [← HW5.out] at hb5 hds5 fv5
              rw [← HW5.out, ← HVV.out]
              have hIA5 : Is W5 W5.heap.size (.slice A4 na c4) la := (HIA.out.below (hb5.mono (by omega))).more (by have := hb5.size; omega)
              have hID5 : Is W5 W5.heap.size (.slice A6 nd c6) ld := (HID.out.below (hb5.mono (by omega))).more (by have := hb5.size; omega)
              obtain ⟨pw, HPW⟩ := named (p wn)
              have hpwn : pw < n := by rw [HPW.out]; exact HPERM.out.lt wn hwn
              have HIA5 := Lib.hid hIA5
              have HID5 := Lib.hid hID5
              have HCE : Hid (∀ w', (DS c p (xnm c) n V0 gd gN gS (.slice none 0 0) (.slice A7 m7 c7) n n w' ∧ Fr w' V 70 [.slice A4 na c4, .slice A6 nd c6, .int .i64 (wn : Int)]) → w'.cell? ⟨gd, 2, none⟩ = some (.slice none 0 0) ∧ w'.cell? ⟨PB, 0, none⟩ = some (.slice (some ⟨S, 0, none⟩) n n) ∧ w'.cell? ⟨S, wn, none⟩ = some (.int .i64 (pw : Int)) ∧ w'.cell? ⟨V, 0, none⟩ = some (.slice A4 na c4) ∧ w'.cell? ⟨V, 1, none⟩ = some (.slice A6 nd c6) ∧ w'.cell? ⟨V, 2, none⟩ = some (.int .i64 (wn : Int))) := Lib.hid fun w' h => by
                obtain ⟨r1, r2⟩ := HSC.out w' h.1.bel
                exact ⟨h.1.cells.2.2.1, r1, by rw [HPW.out]; exact r2 wn hwn, h.2.cell 0, h.2.cell 1, h.2.cell 2⟩
              have HS0 := Lib.hid (And.intro (hds5.next (Below.refl _ _).drew) (fv5.drew))
              have HD5 := Lib.hid hds5
              have HF5 := Lib.hid fv5
              clear e0 e1 e2 x0 x1 x2 x3 hb5 hds5 fv5 hIA5 hID5
              refine AnyX.start (S := fun w' => DS c p (xnm c) n V0 gd gN gS (.slice none 0 0) (.slice A7 m7 c7) n n w' ∧ Fr w' V 70 [.slice A4 na c4, .slice A6 nd c6, .int .i64 (wn : Int)]) (t := 19) (by kernel_rfl) ?_
              refine AnyX.take (i := 0) (oi := ⟨some 127, _, _, _, _, _⟩) (v := .pointer (some ⟨gd, 2, none⟩)) rfl rfl (by kernel_rfl) (by kernel_rfl) (by kernel_rfl) (by kernel_rfl) (fun _ _ _ h => h) (Or.inl ⟨by rfl, ?_⟩) HS0.out ?_
              · intro w' hSw
                obtain ⟨q0, q1, q2, q3, q4, q5⟩ := HCE.out w' hSw
                first | (go_simp; done) | (go_simp; with_reducible rfl)
              simp only [Act.put, List.setIfInBounds_toArray, List.set_cons_zero, List.set_cons_succ]
              refine AnyX.take (i := 1) (oi := ⟨some 128, _, _, _, _, _⟩) (v := .slice none 0 0) rfl rfl (by kernel_rfl) (by kernel_rfl) (by kernel_rfl) (by kernel_rfl) (fun _ _ _ h => h) (Or.inl ⟨by rfl, ?_⟩) HS0.out ?_
              · intro w' hSw
                obtain ⟨q0, q1, q2, q3, q4, q5⟩ := HCE.out w' hSw
                first | (go_simp; done) | (go_simp; with_reducible rfl)
              simp only [Act.put, List.setIfInBounds_toArray, List.set_cons_zero, List.set_cons_succ]
              refine AnyX.take (i := 2) (oi := ⟨some 129, _, _, _, _, _⟩) (v := .func (.func 34) #[] #[.pointer (some ⟨PB, 0, none⟩)]) rfl rfl (by kernel_rfl) (by kernel_rfl) (by kernel_rfl) (by kernel_rfl) (fun _ _ _ h => h) (Or.inl ⟨by rfl, ?_⟩) HS0.out ?_
              · intro w' hSw
                obtain ⟨q0, q1, q2, q3, q4, q5⟩ := HCE.out w' hSw
                first | (go_simp; done) | (go_simp; with_reducible rfl)
              simp only [Act.put, List.setIfInBounds_toArray, List.set_cons_zero, List.set_cons_succ]
              refine AnyX.take (i := 3) (oi := ⟨some 130, _, _, _, _, _⟩) (v := .pointer (some ⟨V, 0, none⟩)) rfl rfl (by kernel_rfl) (by kernel_rfl) (by kernel_rfl) (by kernel_rfl) (fun _ _ _ h => h) (Or.inl ⟨by rfl, ?_⟩) HS0.out ?_
              · intro w' hSw
                obtain ⟨q0, q1, q2, q3, q4, q5⟩ := HCE.out w' hSw
                first | (go_simp; done) | (go_simp; with_reducible rfl)
              simp only [Act.put, List.setIfInBounds_toArray, List.set_cons_zero, List.set_cons_succ]
              refine AnyX.take (i := 4) (oi := ⟨some 131, _, _, _, _, _⟩) (v := .slice A4 na c4) rfl rfl (by kernel_rfl) (by kernel_rfl) (by kernel_rfl) (by kernel_rfl) (fun _ _ _ h => h) (Or.inl ⟨by rfl, ?_⟩) HS0.out ?_
              · intro w' hSw
                obtain ⟨q0, q1, q2, q3, q4, q5⟩ := HCE.out w' hSw
                first | (go_simp; done) | (go_simp; with_reducible rfl)
              simp only [Act.put, List.setIfInBounds_toArray, List.set_cons_zero, List.set_cons_succ]
              refine AnyX.take (i := 6) (oi := ⟨some 133, _, _, _, _, _⟩) (v := .func (.func 34) #[] #[.pointer (some ⟨PB, 0, none⟩)]) rfl rfl (by kernel_rfl) (by kernel_rfl) (by kernel_rfl) (by kernel_rfl) (fun _ _ _ h => h) (Or.inl ⟨by rfl, ?_⟩) HS0.out ?_
              · intro w' hSw
                obtain ⟨q0, q1, q2, q3, q4, q5⟩ := HCE.out w' hSw
                first | (go_simp; done) | (go_simp; with_reducible rfl)
              simp only [Act.put, List.setIfInBounds_toArray, List.set_cons_zero, List.set_cons_succ]
              refine AnyX.take (i := 7) (oi := ⟨some 134, _, _, _, _, _⟩) (v := .pointer (some ⟨V, 1, none⟩)) rfl rfl (by kernel_rfl) (by kernel_rfl) (by kernel_rfl) (by kernel_rfl) (fun _ _ _ h => h) (Or.inl ⟨by rfl, ?_⟩) HS0.out ?_
              · intro w' hSw
                obtain ⟨q0, q1, q2, q3, q4, q5⟩ := HCE.out w' hSw
                first | (go_simp; done) | (go_simp; with_reducible rfl)
              simp only [Act.put, List.setIfInBounds_toArray, List.set_cons_zero, List.set_cons_succ]
              refine AnyX.take (i := 8) (oi := ⟨some 135, _, _, _, _, _⟩) (v := .slice A6 nd c6) rfl rfl (by kernel_rfl) (by kernel_rfl) (by kernel_rfl) (by kernel_rfl) (fun _ _ _ h => h) (Or.inl ⟨by rfl, ?_⟩) HS0.out ?_
              · intro w' hSw
                obtain ⟨q0, q1, q2, q3, q4, q5⟩ := HCE.out w' hSw
                first | (go_simp; done) | (go_simp; with_reducible rfl)
              simp only [Act.put, List.setIfInBounds_toArray, List.set_cons_zero, List.set_cons_succ]
              refine AnyX.take (i := 10) (oi := ⟨some 137, _, _, _, _, _⟩) (v := .slice (some ⟨S, 0, none⟩) n n) rfl rfl (by kernel_rfl) (by kernel_rfl) (by kernel_rfl) (by kernel_rfl) (fun _ _ _ h => h) (Or.inl ⟨by rfl, ?_⟩) HS0.out ?_
              · intro w' hSw
                obtain ⟨q0, q1, q2, q3, q4, q5⟩ := HCE.out w' hSw
                first | (go_simp; done) | (go_simp; with_reducible rfl)
              simp only [Act.put, List.setIfInBounds_toArray, List.set_cons_zero, List.set_cons_succ]
              refine AnyX.take (i := 11) (oi := ⟨some 138, _, _, _, _, _⟩) (v := .pointer (some ⟨V, 2, none⟩)) rfl rfl (by kernel_rfl) (by kernel_rfl) (by kernel_rfl) (by kernel_rfl) (fun _ _ _ h => h) (Or.inl ⟨by rfl, ?_⟩) HS0.out ?_
              · intro w' hSw
                obtain ⟨q0, q1, q2, q3, q4, q5⟩ := HCE.out w' hSw
                first | (go_simp; done) | (go_simp; with_reducible rfl)
              simp only [Act.put, List.setIfInBounds_toArray, List.set_cons_zero, List.set_cons_succ]
              refine AnyX.take (i := 12) (oi := ⟨some 139, _, _, _, _, _⟩) (v := .int .i64 (wn : Int)) rfl rfl (by kernel_rfl) (by kernel_rfl) (by kernel_rfl) (by kernel_rfl) (fun _ _ _ h => h) (Or.inl ⟨by rfl, ?_⟩) HS0.out ?_
              · intro w' hSw
                obtain ⟨q0, q1, q2, q3, q4, q5⟩ := HCE.out w' hSw
                first | (go_simp; done) | (go_simp; with_reducible rfl)
              simp only [Act.put, List.setIfInBounds_toArray, List.set_cons_zero, List.set_cons_succ]
              refine AnyX.take (i := 13) (oi := ⟨some 140, _, _, _, _, _⟩) (v := .pointer (some ⟨S, wn, none⟩)) rfl rfl (by kernel_rfl) (by kernel_rfl) (by kernel_rfl) (by kernel_rfl) (fun _ _ _ h => h) (Or.inl ⟨by rfl, ?_⟩) HS0.out ?_
              · intro w' hSw
                obtain ⟨q0, q1, q2, q3, q4, q5⟩ := HCE.out w' hSw
                first | (go_simp; done) | (go_simp; with_reducible rfl)
              simp only [Act.put, List.setIfInBounds_toArray, List.set_cons_zero, List.set_cons_succ]
              refine AnyX.take (i := 14) (oi := ⟨some 141, _, _, _, _, _⟩) (v := .int .i64 (pw : Int)) rfl rfl (by kernel_rfl) (by kernel_rfl) (by kernel_rfl) (by kernel_rfl) (fun _ _ _ h => h) (Or.inl ⟨by rfl, ?_⟩) HS0.out ?_
              · intro w' hSw
                obtain ⟨q0, q1, q2, q3, q4, q5⟩ := HCE.out w' hSw
                first | (go_simp; done) | (go_simp; with_reducible rfl)
              simp only [Act.put, List.setIfInBounds_toArray, List.set_cons_zero, List.set_cons_succ]
              refine AnyX.one (i := 5) (o := ⟨some 132, _, _, _, _, _⟩) (by kernel_rfl) rfl (fun K' hK => ?_)
              have HK := Lib.hid hK
              clear hK
              go_simp
              go_at_call 34
              (with_reducible refine (HMV.out W5.drew la _ HD5.out.bel.drew ((HIA5.out.below (Below.refl _ _).drew).more (show W5.heap.size ≤ W5.drew.heap.size from Nat.le_refl _)) hai (by rw [← HNA.out]; omega)).mono ?_)
              rintro e w6 ⟨s6, rfl, hst6, hb6⟩
              have hb6' : Below W5.heap.size W5 w6 := joinB (Below.refl _ _).drew hb6
              obtain ⟨A8, c8, rfl, -⟩ := hst6.form
              have HB6 := Lib.hid hb6'
              have HST6 := Lib.hid hst6
              clear hb6 hst6
              refine HK.out _ _ (fun _ => ⟨HD5.out.next hb6', HF5.out.below hb6'⟩) ?_
              clear hb6'
              clear HK
              (try simp only [Act.put, List.setIfInBounds_toArray, List.set_cons_zero, List.set_cons_succ])
              refine AnyX.one (i := 9) (o := ⟨some 136, _, _, _, _, _⟩) (by kernel_rfl) rfl (fun K' hK => ?_)
              have HK := Lib.hid hK
              clear hK
              go_simp
              go_at_call 34
              (with_reducible refine (HMV.out w6 ld _ (HD5.out.next HB6.out).bel ((HID5.out.below HB6.out).more HB6.out.size) hdi (by rw [← HND.out]; omega)).mono ?_)
              rintro e w7 ⟨s7, rfl, hst7, hb7⟩
              obtain ⟨A9, c9, rfl, -⟩ := hst7.form
              have hds7 := (HD5.out.next HB6.out).next hb7
              have HST7 := Lib.hid (And.intro (HST6.out.below hb7) hst7)
              have HF7 := Lib.hid ((HF5.out.below HB6.out).below hb7)
              have HD7 := Lib.hid hds7
              clear hb7 hst7 hds7
              refine HK.out _ _ (fun _ => ⟨HD7.out, HF7.out⟩) ?_
              clear HK
              (try simp only [Act.put, List.setIfInBounds_toArray, List.set_cons_zero, List.set_cons_succ])
              refine AnyX.one (i := 15) (o := ⟨some 142, _, _, _, _, _⟩) (by kernel_rfl) rfl (fun K' hK => ?_)
              have HK := Lib.hid hK
              clear hK
              go_simp
              refine HK.out _ _ (fun _ => ⟨HD7.out, HF7.out⟩) ?_
              clear HK
              (try simp only [Act.put, List.setIfInBounds_toArray, List.set_cons_zero, List.set_cons_succ])
              refine AnyX.one (i := 16) (o := ⟨some 143, _, _, _, _, _⟩) (by kernel_rfl) rfl (fun K' hK => ?_)
              have HK := Lib.hid hK
              clear hK
              go_simp
              refine HK.out _ _ (fun _ => ⟨HD7.out.next (below_new (Below.refl _ _) (.cells #[.slice A8 (mvL p la).length c8, .slice A9 (mvL p ld).length c9, .int .i64 (pw : Int)] 70)), HF7.out.alloc (.cells #[.slice A8 (mvL p la).length c8, .slice A9 (mvL p ld).length c9, .int .i64 (pw : Int)] 70)⟩) ?_
              clear HK
              (try simp only [Act.put, List.setIfInBounds_toArray, List.set_cons_zero, List.set_cons_succ])
              obtain ⟨im, hi1, hz0, hz1, hz2⟩ := info_parts info_mm
              refine AnyX.one (i := 17) (o := ⟨some 144, _, _, _, _, _⟩) (by kernel_rfl) rfl (fun K' hK => ?_)
              have HK := Lib.hid hK
              clear hK
              refine step_append_lies _ (by rfl) (.tmp 128) (.tmp 143) 24 (by rfl) V0.heap.size 70 im (.agg #[.slice none 0 0, .slice none 0 0, .int .i64 0]) 3 56 Tryd.underlying24 hi1 hz0 hz1 hz2 rfl (by decide) (.slice none 0 0) 0 [] (by simp [Act.eval, Act.put]) (World.ownsRow_nil _ _ _ _) ⟨w7.heap.size, 0, none⟩ 1 1 [.slice A8 (mvL p la).length c8, .slice A9 (mvL p ld).length c9, .int .i64 (pw : Int)] (by simp [Act.eval, Act.put]) rfl (mem_new w7 _ _ _ _ rfl) (by simp [Value.oneCell']) (by decide) (by unfold maxLen; omega) (by omega) (by have := HD7.out.bel.size; simp; omega) _ rfl ?_
              intro g9 c9' w2 hown' hgrow hat hlt
              have hb72 : Below w7.heap.size w7 w2 := (below_new (Below.refl _ _) (.cells #[.slice A8 (mvL p la).length c8, .slice A9 (mvL p ld).length c9, .int .i64 (pw : Int)] 70)).grown hgrow (by simp) (fun q h => by cases h)
              have HB72 := Lib.hid hb72
              have HR2 := Lib.hid (And.intro hown' hlt)
              clear hown' hgrow hat hlt
              refine HK.out _ _ (fun _ => ⟨HD7.out.next hb72, HF7.out.below hb72⟩) ?_
              clear hb72
              clear HK
              (try simp only [Act.put, List.setIfInBounds_toArray, List.set_cons_zero, List.set_cons_succ])
              have hds2 := HD7.out.next HB72.out
              obtain ⟨-, -, v2, -, -, -, vf⟩ := hds2.cells
              have vf2 := vf 2
              have HD2 := Lib.hid hds2
              clear hds2 vf
              refine AnyX.one (i := 18) (o := ⟨some 145, _, _, _, _, _⟩) (by kernel_rfl) rfl (fun K' hK => ?_)
              have HK := Lib.hid hK
              clear hK
              go_simp
              refine HK.out _ _ (fun _ => ⟨HD2.out, HF7.out.below HB72.out⟩) ?_
              clear HK
              (try simp only [Act.put, List.setIfInBounds_toArray, List.set_cons_zero, List.set_cons_succ])
              refine AnyX.one (i := 19) (o := ⟨none, _, _, _, _, _⟩) (by kernel_rfl) rfl (fun K' hK => ?_)
              have HK := Lib.hid hK
              clear hK
              go_simp
              refine HK.out _ _ (fun h => absurd rfl h) ?_
              clear HK
              (try simp only [Act.put, List.setIfInBounds_toArray, List.set_cons_zero, List.set_cons_succ])
              refine AnyX.done (by kernel_rfl) ?_ _
              go_wp2
              go_roundw
              case rel =>
                refine ⟨1, by go_num, by omega, .slice (some ⟨g9, 0, none⟩) 1 c9', ?_, (fun h => by cases h), fun _ => ?_⟩
                · exact DS.mems HD2.out _
                · have hbx := HD2.out.box
                  have hA := ((HST7.out.1.below HB72.out).sets (j := 2) (u := .slice (some ⟨g9, 0, none⟩) 1 c9') hbx (by decide)).all (by unfold mvL; rw [List.length_map, ← HNA.out]; unfold maxLen; omega)
                  have hD := ((HST7.out.2.below HB72.out).sets (j := 2) (u := .slice (some ⟨g9, 0, none⟩) 1 c9') hbx (by decide)).all (by unfold mvL; rw [List.length_map, ← HND.out]; unfold maxLen; omega)
                  have hR := own_set HR2.out.1 hbx (by decide) 2 (.slice (some ⟨g9, 0, none⟩) 1 c9')
                  have hms := ms_one (base := V0.heap.size) (cap := c9') (g := g9) hR (by rw [World.size_setCell]; exact HR2.out.2) hA hD
                  have he : c.mems.map (mvM p) = [⟨mvL p la, mvL p ld, (pw : Int)⟩] := by
                    rw [hmeq]
                    show [mvM p mm] = _
                    unfold mvM mvL
                    rw [HLA.out, HLD.out, HPW.out, HWN.out]
                  rw [he]
                  exact hms
              case measure => simp [intOf]; omega
            · obtain rfl : n2 = k2 := by omega
              have hM := hs1 rfl
              have hPn : Perm c.nodes.length p := by rw [← HEN.out.1]; exact HPERM.out
              obtain ⟨d, M, hdn⟩ := moved_mk (c := c) (p := p) (nm := xnm c) hPn (fun i _ => xnm_list c i)
              have hsh := shape_zero (chk_shape HV.out.ok)
              have hci := hds.cir M HEN.out.1 (by omega) hdn (fun i hi => xnm_size (HNM.out i (by rw [HEN.out.1]; exact hi)).2) (fun i hi => by
                have h1 := HKN.out _ (getD_mem_nd hi)
                have h2 := HV.out.pins i hi
                exact ⟨h1.1, by omega, by unfold maxLen; omega⟩) (by have := hsh.2.2.1; unfold maxLen; omega) (by rw [M.mems]; exact hM)
              have hokd : chkErr d = 0 := M.ok HV.out.ok (fun i hi => (HNM.out i (by rw [HEN.out.1]; exact hi)).1)
              obtain ⟨Ld, hLd, hLp⟩ := M.lvl HV.out.wf HV.out.lvl
              have hwd : Wf d.nodes := wf_of_shape (chk_shape hokd)
              have hdl : d.nodes.length = n := by rw [M.len, ← HEN.out.1]
              obtain ⟨AM, bM, oM, cM, rfl, -⟩ := id hM
              obtain ⟨mM, HMM⟩ := named (c.mems.map (mvM p)).length
              rw [← HMM.out] at hds hci
              have hxx := hds.cells
              obtain ⟨y0, y1, y2, y3, -⟩ := hxx
              have HDS := Lib.hid hds
              have HVD : Hid (∀ W, Below wr.heap.size wr W → Calls Tryd.prog 15 #[.agg #[.slice (some ⟨gN, 0, none⟩) n n, .slice (some ⟨gS, 0, none⟩) n n, .slice AM mM cM, .slice A7 m7 c7]] W fun e w' => (∃ g, e = .returned (.tuple #[.slice (some ⟨g, 0, none⟩) n n, .int .i64 0]) ∧ Row w' g Ld) ∧ Below W.heap.size W w') := Lib.hid fun W hb => by
                refine (levels_any d _ W W.heap.size (Nat.le_refl _) (HTV.out.below (joinB HDS.out.bel hb)) ((hci.below hb).more hb.size)).mono fun e w' ⟨h1, h2⟩ => ?_
                rcases h2 with ⟨-, -, L', g, h3, -, h4, h5, h6⟩ | ⟨h3, -⟩
                · rw [h3.unique hwd hLd] at h6
                  rw [hdl] at h5
                  exact ⟨⟨g, h5, h6⟩, h1⟩
                · exact absurd hokd h3
              have HLP := Lib.hid hLp
              have HLDL : Hid (n = Ld.length) := Lib.hid (by rw [hLd.1, hdl])
              have HLL : Hid (n = L.length) := Lib.hid (by rw [HV.out.lvl.1, ← HEN.out.1])
              have HLC := Lib.hid hlc
              clear hds hlc hM hs0 hs1 hci hsh hPn hLp hLd hwd hokd hdl hdn
              go_wp2_with (first
                | (go_at_call_of 15 gN; (with_reducible refine (HVD.out _ HB8.out).mono ?_); rintro e w9 ⟨⟨g9, rfl, hr9⟩, hb9⟩; have HR9 := Lib.hid (And.intro (HR8.out.below hb9) hr9); have HB9 := Lib.hid (joinB HDS.out.bel (joinB HB8.out hb9)); clear hr9 hb9)
                | (go_at_call 15; (with_reducible refine (lev_v HV.out HLC.out (Below.refl _ _)).mono ?_); rintro e w8 ⟨⟨g8, rfl, hg8, hr8⟩, hb8, hl8⟩; have z0 := (HDS.out.next hb8).cells.1; have z1 := (HDS.out.next hb8).cells.2.1; have z2 := (HDS.out.next hb8).cells.2.2.1; have z3 := (HDS.out.next hb8).cells.2.2.2.1; have HR8 := Lib.hid hr8; have HB8 := Lib.hid hb8; clear hg8 hr8 hb8 hl8))
              go_loopw [20] (fun j wx => ∃ i : Nat, j = .int .i64 i ∧ i ≤ n ∧ ∃ m, wx = w9.drewN m) (fun j _ => n - (intOf j).toNat)
              case atStart => exact ⟨0, rfl, Nat.zero_le _, 0, rfl⟩
              case round =>
                obtain ⟨i, rfl, hin, m, rfl⟩ := hrel
                by_cases hi : i < n
                · have c1 := HR9.out.1.cell (j := i) (by rw [← HLL.out]; exact hi)
                  obtain ⟨c2, c3⟩ := HSC.out w9 HB9.out
                  have c3' := c3 i hi
                  have hpi := HPERM.out.lt i hi
                  have c4 := HR9.out.2.cell (j := p i) (by rw [← HLDL.out]; exact hpi)
                  rw [HLP.out i (by rw [← HEN.out.1]; exact hi)] at c4
                  obtain ⟨y, HY⟩ := named (lat L (i : Int))
                  obtain ⟨pi, HPI⟩ := named (p i)
                  rw [← HY.out] at c1 c4
                  rw [← HPI.out] at c3' c4 hpi
                  clear c3
                  go_wp2
                  go_quiet (fail)
                  go_wp2
                  go_roundw
                  case rel => exact ⟨i + 1, by go_num, by omega, _, rfl⟩
                  case measure => simp [intOf]; omega
                · obtain rfl : n = i := by omega
                  go_wp2_with (go_at_call 12; (with_reducible refine (lives_o HTV.out (below_drewN HB9.out m)).mono ?_); rintro e w10 ⟨rfl, hb⟩; have HB10 := Lib.hid hb; clear hb)
                  go_ret
                  exact ⟨rfl, joinB HB0.out (joinB (HLN.out V0 (Below.refl _ _)).bel HB10.out)⟩
end Go.Proofs.YtmghdeodkeenoaaDoor
