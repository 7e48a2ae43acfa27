/- NetlistsSpoil: the law's walk. -/
import Derived.Test.YtbaibacbnjihaaaDoorSpl
import Derived.StillTailTactics
import Derived.Deep.DeepCutAuto
import Derived.Deep.CutBlock
namespace Go.Proofs.YtbaibacbnjihaaaDoor
open Go.RowKit

theorem three_new (w : World) (a b c : Value) (t : TypeId) {n : Nat} (hn : n = w.heap.size) : ∀ (j : Nat) (x : Value), [a, b, c][j]? = some x → (w.alloc (.cells #[a, b, c] t)).cell? ((⟨n, 0, none⟩ : Addr).add j) = some x := by
  subst hn
  intro j x hj
  have hadd : (⟨w.heap.size, 0, none⟩ : Addr).add j = ⟨w.heap.size, j, none⟩ := by unfold Addr.add; split <;> simp_all
  rw [hadd, World.cell?_alloc_at _ _ _ _ rfl]
  simpa using hj
theorem chk_s {W0 W : World} {v : Value} {c : Ck} {e : Int} (hT : Tabs W0) (hb : Below W0.heap.size W0 W) (hc : Cir W W.heap.size v c) (he : chkErr c = e) :
    Calls Tryd.prog 14 #[v] W fun e' w' => e' = .returned (.int .i64 e) ∧ Below W0.heap.size W0 w' :=
  (check_any c v W W.heap.size (Nat.le_refl _) (hT.below hb) hc).mono fun e' w' ⟨h1, h2⟩ => ⟨by rw [← he]; exact h1, joinB hb h2⟩

set_option maxRecDepth 100000 in
set_option maxHeartbeats 8000000 in
theorem spoil_law (x : Cx) (hx : Cok x) (sG sA : Value) (wh at_ : Int) (hwh : U8 wh) (hat : U8 at_) (w : World) (hT : Tabs w) (hG : Gs w w.heap.size sG x.gates) (hA : Ks w w.heap.size sA x.outs) :
    Calls Tryd.prog 9 #[.agg #[.int .u8 x.inN, .int .u8 x.dffs, .int .u8 x.d0, .int .u8 x.d1, .bool x.bus, .bool x.mem, .int .u8 x.p0, .int .u8 x.p1, .int .u8 x.p2, .int .u8 x.p3, sG, sA], .int .u8 wh, .int .u8 at_] w
      fun e w' => e = .returned (.bool true) ∧ Below w.heap.size w w' := by
  obtain ⟨L, V0⟩ := vld_c x hx
  have hz := sizeN_le x
  have hsk := szok_c x hx
  have hml : (ofC x).mems.length ≤ 1 := by show (memsN x).length ≤ 1; unfold memsN; split <;> simp
  have hol : (ofC x).outs.length ≤ 4 := by
    show (outsTo x (outsN x) ++ _).length ≤ 4
    rw [List.length_append, outsTo_len]
    have : outsN x ≤ 3 := by unfold outsN; omega
    simp; omega
  have hnl : (ofC x).names.length = sizeN x := by simp [ofC]
  have hkn : ∀ nd ∈ (ofC x).nodes, 0 ≤ nd.kind ∧ nd.kind ≤ 15 := dffTo_kinds x hx (dffsN x)
  obtain ⟨W0, HW0⟩ := named (w.alloc (.cells #[.int .u8 x.inN, .int .u8 x.dffs, .int .u8 x.d0, .int .u8 x.d1, .bool x.bus, .bool x.mem, .int .u8 x.p0, .int .u8 x.p1, .int .u8 x.p2, .int .u8 x.p3, sG, sA] 61))
  have hb0 : Below w.heap.size w W0 := by rw [HW0.out]; exact below_new (Below.refl _ _) _
  have HOF : Hid (Calls Tryd.prog 32 #[.agg #[.int .u8 x.inN, .int .u8 x.dffs, .int .u8 x.d0, .int .u8 x.d1, .bool x.bus, .bool x.mem, .int .u8 x.p0, .int .u8 x.p1, .int .u8 x.p2, .int .u8 x.p3, sG, sA]] (w.alloc (.cells #[.int .u8 x.inN, .int .u8 x.dffs, .int .u8 x.d0, .int .u8 x.d1, .bool x.bus, .bool x.mem, .int .u8 x.p0, .int .u8 x.p1, .int .u8 x.p2, .int .u8 x.p3, sG, sA] 61))
      fun e w' => ∃ v, e = .returned v ∧ Cir w' w'.heap.size v (ofC x) ∧ Below W0.heap.size W0 w') :=
    Lib.hid (by
      have h := ofc_any x hx sG sA W0 w.heap.size hb0.size (hG.below hb0) (hA.below hb0)
      rw [← HW0.out]
      exact h.mono fun e w' ⟨⟨v, h1, h2⟩, h3⟩ => ⟨v, h1, h2, h3⟩)
  have HT := Lib.hid (hT.below hb0)
  have HB0 := Lib.hid hb0
  clear hb0 hT hG hA hx
  obtain ⟨n, HN⟩ := named (sizeN x)
  rw [← HN.out] at V0 hz hnl
  obtain ⟨c, HC⟩ := named (ofC x)
  rw [← HC.out] at V0 hsk HOF hml hol hnl hkn
  obtain ⟨m2, HM2⟩ := named c.mems.length
  obtain ⟨m3, HM3⟩ := named c.outs.length
  have HV := Lib.hid V0
  have HSK := Lib.hid hsk
  have HNL := Lib.hid hnl.symm
  have HSH := Lib.hid (chk_shape V0.ok)
  have HML := Lib.hid hml
  have HOL := Lib.hid hol
  clear V0 hsk hnl hml hol
  unfold U8 at hwh hat
  obtain ⟨n0, hn0, hn0l⟩ := ix_lt at_ (n := n) (by omega)
  have ht0 : at_.tmod (n : Int) = (n0 : Int) := by rw [Int.tmod_eq_emod_of_nonneg (by omega)]; exact hn0
  unfold ix at hn0
  have hsz0 : ¬ n = 0 := by omega
  obtain ⟨r, hr⟩ : ∃ r : Int, r = wh % 12 := ⟨_, rfl⟩
  have hr2 : wh % 12 = r := hr.symm
  have hr3 : wh.tmod 12 = r := by rw [Int.tmod_eq_emod_of_nonneg (by omega)]; exact hr2
  have hrb : 0 ≤ r ∧ r < 12 := by omega
  clear hr
  obtain ⟨kd, HKD⟩ := named (c.nodes.getD n0 default).kind
  obtain ⟨ni, HNI⟩ := named (c.nodes.getD n0 default).ins.length
  have hkb : 0 ≤ kd ∧ kd ≤ 15 := by rw [HKD.out]; exact hkn _ (getD_mem_nd (by rw [← HV.out.len]; exact hn0l))
  clear hkn
  have hni : ni ≤ 16 := by rw [HNI.out]; exact HV.out.pins n0 (by rw [← HV.out.len]; exact hn0l)
  go_enter Tryd.func9, Tryd.ntmps9
  go_upto_block 0 with (first
    | (go_at_call 32; (with_reducible refine HOF.out.mono ?_); rintro e w1 ⟨v, rfl, hc, hb⟩; have HC1 := Lib.hid hc; have HB1 := Lib.hid hb; clear hc hb)
    | (go_at_call 13; (with_reducible refine (copy_q HT.out HB1.out HC1.out HSK.out HV.out.len HNL.out HM2.out HM3.out).mono ?_); rintro e w2 ⟨g0, g1, g2, g3, h, ha, hd, rfl, ho, hq, hmq⟩; have HO := Lib.hid ho; have HQ := Lib.hid hq; have HMQ := Lib.hid hmq; clear ho hq hmq)
    | (go_at_call 14; (with_reducible refine (chk_o HO.out HV.out.ok (Below.refl _ _)).mono ?_); rintro e w4 ⟨rfl, hb, ho⟩; have hnd := ho.node hn0l; rw [← HKD.out, ← HNI.out] at hnd; obtain ⟨d0, d1, d2, d3⟩ := hnd; obtain ⟨x0, x1, x2, x3⟩ := ho.cells; have HO4 := Lib.hid ho; have HQ4 := Lib.hid (HQ.out.below (hb.mono (by simp))); clear ho hb d2 d3))
  have hwl : w2.heap.size < w4.heap.size := HO4.out.box.lt
  have hwr : ¬ w2.heap.size = w4.heap.size := by omega
  go_cut [10] (fun wt wx => SP W0 w2.heap.size r wt wx)
  case rest =>
    obtain ⟨c', e, A0, A1, A2, A3, l0, k0, l1, k1, l2, k2, l3, k3, rfl, hb, hfr, hci, hck⟩ := hcut
    have y0 := hfr.cell 0
    have y1 := hfr.cell 1
    have y2 := hfr.cell 2
    have y3 := hfr.cell 3
    have HB := Lib.hid hb
    have HCI := Lib.hid hci
    clear x0 x1 x2 x3 d0 d1 hb hfr hci
    by_cases h6 : r = 6
    · subst h6
      by_cases h2 : l1 < 2
      · rw [if_pos ⟨rfl, h2⟩] at hck
        have HCK := Lib.hid hck
        clear hck
        go_wp2_with (first
          | (go_at_call 14; (with_reducible refine (chk_s HT.out HB.out HCI.out HCK.out).mono ?_); rintro e w8 ⟨rfl, hb⟩; have HB8 := Lib.hid hb; clear hb)
          | (go_at_call 12; (with_reducible refine (lives_o HT.out HB8.out).mono ?_); rintro e w9 ⟨rfl, hb⟩; have HB9 := Lib.hid hb; clear hb))
        go_ret
        exact ⟨rfl, joinB HB0.out HB9.out⟩
      · rw [if_neg (fun h => h2 h.2)] at hck
        have HCK := Lib.hid hck
        clear hck
        go_wp2_with (first
          | (go_at_call 14; (with_reducible refine (chk_s HT.out HB.out HCI.out HCK.out).mono ?_); rintro e w8 ⟨rfl, hb⟩; have HB8 := Lib.hid hb; clear hb)
          | (go_at_call 12; (with_reducible refine (lives_o HT.out HB8.out).mono ?_); rintro e w9 ⟨rfl, hb⟩; have HB9 := Lib.hid hb; clear hb))
        go_ret
        exact ⟨rfl, joinB HB0.out HB9.out⟩
    · rw [if_neg (fun h => h6 h.1)] at hck
      have hb6 : (r == 6) = false := by simpa using h6
      have HCK := Lib.hid hck
      clear hck
      go_wp2_with (first
        | (go_at_call 14; (with_reducible refine (chk_s HT.out HB.out HCI.out HCK.out).mono ?_); rintro e w8 ⟨rfl, hb⟩; have HB8 := Lib.hid hb; clear hb)
        | (go_at_call 12; (with_reducible refine (lives_o HT.out HB8.out).mono ?_); rintro e w9 ⟨rfl, hb⟩; have HB9 := Lib.hid hb; clear hb))
      go_ret
      exact ⟨rfl, joinB HB0.out HB9.out⟩
  case first =>
    have hcs : r = 0 ∨ r = 1 ∨ r = 2 ∨ r = 3 ∨ r = 4 ∨ r = 5 ∨ r = 6 ∨ r = 7 ∨ r = 8 ∨ r = 9 ∨ r = 10 ∨ r = 11 := by omega
    clear hrb
    have hkl : n0 < c.nodes.length := by rw [← HV.out.len]; exact hn0l
    rcases hcs with rfl | rfl | rfl | rfl | rfl | rfl | rfl | rfl | rfl | rfl | rfl | rfl
    · -- another kind
      have hv : 15 < 16 + at_ % 200 := by omega
      have hm2 : at_.tmod 200 = at_ % 200 := Int.tmod_eq_emod_of_nonneg (by omega)
      have H8 := Lib.hid (HO4.out.fld (nd := { c.nodes.getD n0 default with kind := 16 + at_ % 200 }) hn0l rfl ⟨by show (0 : Int) ≤ 16 + at_ % 200; omega, by show (16 + at_ % 200 : Int) ≤ 255; omega⟩ (n0 * 4) (.int .u8 (16 + at_ % 200)) (ndC_kind c.nodes n0 hkl _ _))
      have HCK := Lib.hid (spoil_kind HSH.out hkl hv)
      have f0 := HO4.out.own.f0.frozen (n0 * 4)
      go_wp2
      go_meet
      exact SP.of H8.out (by rw [HCK.out, if_neg (fun h => absurd h.1 (by decide))])
    · -- too many pins
      have f0 := HO4.out.own.f0.frozen (n0 * 4 + 1)
      have HX0 : Hid (w4.cell? ⟨w2.heap.size, 0, none⟩ = some (.slice (some ⟨g0, 0, none⟩) n n)) := Lib.hid x0
      have hg0l : g0 < w4.heap.size := HO4.out.own.f0.lt
      have hg0n : ¬ g0 = w4.heap.size := by omega
      have HCK := Lib.hid (spoil_wide HSH.out hkl (l := List.replicate 17 0) (by simp))
      go_wp2
      refine AnyX.start (S := fun w' => w'.cell? ⟨w2.heap.size, 0, none⟩ = some (.slice (some ⟨g0, 0, none⟩) n n)) (t := 6) (by kernel_rfl) ?_
      refine AnyX.take (i := 0) (oi := ⟨some 84, _, _, _, _, _⟩) (v := .pointer (some ⟨w2.heap.size, 0, none⟩)) rfl rfl (by kernel_rfl) (by kernel_rfl) (by kernel_rfl) (by kernel_rfl) (fun _ _ _ h => h) (Or.inl ⟨by rfl, ?_⟩) HX0.out ?_
      · intro w' c0'
        first | (go_simp; done) | (go_simp; with_reducible rfl)
      simp only [Act.put, List.setIfInBounds_toArray, List.set_cons_zero, List.set_cons_succ]
      refine AnyX.take (i := 1) (oi := ⟨some 85, _, _, _, _, _⟩) (v := .slice (some ⟨g0, 0, none⟩) n n) rfl rfl (by kernel_rfl) (by kernel_rfl) (by kernel_rfl) (by kernel_rfl) (fun _ _ _ h => h) (Or.inl ⟨by rfl, ?_⟩) HX0.out ?_
      · intro w' c0'
        first | (go_simp; done) | (go_simp; with_reducible rfl)
      simp only [Act.put, List.setIfInBounds_toArray, List.set_cons_zero, List.set_cons_succ]
      refine AnyX.take (i := 2) (oi := ⟨some 86, _, _, _, _, _⟩) (v := .int .i64 (n0 : Int)) rfl rfl (by kernel_rfl) (by kernel_rfl) (by kernel_rfl) (by kernel_rfl) (fun _ _ _ h => h) (Or.inl ⟨by rfl, ?_⟩) HX0.out ?_
      · intro w' c0'
        first | (go_simp; done) | (go_simp; with_reducible rfl)
      simp only [Act.put, List.setIfInBounds_toArray, List.set_cons_zero, List.set_cons_succ]
      obtain ⟨i1, hi1, hy0, hy1, hy2⟩ := info_parts info_int
      refine AnyX.one (i := 3) (o := ⟨some 87, _, _, _, _, _⟩) (by kernel_rfl) rfl (fun K' hK => ?_)
      have HK := Lib.hid hK
      clear hK
      refine step_make (by rfl) _ _ 25 (by rfl) w4.heap.size 3 i1 (.int .i64 0) 1 Tryd.underlying25 hi1 hy0 hy1 .i64 .i64 17 (by rfl) (by rfl) (by rw [hy2]; decide) (by unfold maxLen; omega) (by simp) w4.heap.size (by simp) ?_
      intro w6 hown hgr
      have hb6 : Below w4.heap.size w4 w6 := Below.grown (Below.refl _ _).drew hgr (by simp) (fun k h => by cases h)
      have hrow : Row w6 w4.heap.size (List.replicate 17 0) := by
        unfold Row
        rw [List.length_replicate, ← made_zero]
        exact hown
      have H8 := Lib.hid (sp_wide (r := 1) (e := 8) HO4.out hb6 hn0l (Nat.le_refl _) hrow (by simp [maxLen]) (by decide) HCK.out)
      have z0 : w6.cell? ⟨w2.heap.size, 0, none⟩ = some (.slice (some ⟨g0, 0, none⟩) n n) := (hb6.cell (p := ⟨w2.heap.size, 0, none⟩) hwl).trans x0
      have z1 : w6.cell? ⟨g0, n0 * 4 + 1, none⟩ = w4.cell? ⟨g0, n0 * 4 + 1, none⟩ := hb6.cell (p := ⟨g0, n0 * 4 + 1, none⟩) hg0l
      rw [d1] at z1
      have zf : w6.frozen? ⟨g0, n0 * 4 + 1, none⟩ = w4.frozen? ⟨g0, n0 * 4 + 1, none⟩ := hb6.frozen (p := ⟨g0, n0 * 4 + 1, none⟩) hg0l
      rw [f0] at zf
      clear hown hgr hrow hb6 hi1 hy0 hy1 hy2
      refine HK.out _ _ (fun _ => z0) ?_
      clear HK
      (try simp only [Act.put, List.setIfInBounds_toArray, List.set_cons_zero, List.set_cons_succ])
      refine AnyX.one (i := 4) (o := ⟨some 88, _, _, _, _, _⟩) (by kernel_rfl) rfl (fun K' hK => ?_)
      have HK := Lib.hid hK
      clear hK
      go_simp
      refine HK.out _ _ (fun _ => z0) ?_
      clear HK
      (try simp only [Act.put, List.setIfInBounds_toArray, List.set_cons_zero, List.set_cons_succ])
      refine AnyX.one (i := 5) (o := ⟨some 89, _, _, _, _, _⟩) (by kernel_rfl) rfl (fun K' hK => ?_)
      have HK := Lib.hid hK
      clear hK
      go_simp
      refine HK.out _ _ (fun _ => z0) ?_
      clear HK
      (try simp only [Act.put, List.setIfInBounds_toArray, List.set_cons_zero, List.set_cons_succ])
      refine AnyX.one (i := 6) (o := ⟨none, _, _, _, _, _⟩) (by kernel_rfl) rfl (fun K' hK => ?_)
      have HK := Lib.hid hK
      clear hK
      go_simp
      refine HK.out _ _ (fun h => absurd rfl h) ?_
      clear HK
      (try simp only [Act.put, List.setIfInBounds_toArray, List.set_cons_zero, List.set_cons_succ])
      refine AnyX.done (by kernel_rfl) ?_ _
      go_wp2
      go_meet
      exact H8.out
    · -- a pin too high
      by_cases hni0 : 0 < ni
      · obtain ⟨-, -, e2, e3⟩ := HO4.out.node hn0l
        have e4 := e2 0 (by rw [← HNI.out]; exact hni0)
        have e5 := e3 0
        have hwv : IntKind.i64.wrap ((n : Int) + wh) = (n : Int) + wh := IntWalk.i64_in _ (by omega)
        have H8 := Lib.hid (HO4.out.pin hn0l 0 ((n : Int) + wh))
        have HCK : Hid (chkErr (repin c n0 0 ((n : Int) + wh)) = 1) := Lib.hid (spoil_pin HSH.out hkl (p := 0) (by rw [← HNI.out]; exact hni0) (v := (n : Int) + wh) (by rw [← HV.out.len]; omega))
        obtain ⟨iv, HIV⟩ := named ((c.nodes.getD n0 default).ins.getD 0 0)
        rw [← HIV.out] at e4
        obtain ⟨hn_, HHN⟩ := named (h n0)
        rw [← HHN.out] at d1 e4 e5 H8
        clear e2 e3
        go_wp2
        go_still_tail 13, (by kernel_rfl)
        go_wp2
        go_meet
        exact SP.of (H8.out.next (Below.refl _ _).drew) (by rw [if_neg (fun h => absurd h.1 (by decide))]; exact HCK.out)
      · obtain rfl : ni = 0 := by omega
        go_wp2_with (go_at_call 12; (with_reducible refine (lives_o HT.out HO4.out.bel).mono ?_); rintro e w9 ⟨rfl, hb⟩; have HB9 := Lib.hid hb; clear hb)
        go_ret
        exact ⟨rfl, joinB HB0.out HB9.out⟩
    · -- Bit
      have H8 := Lib.hid (HO4.out.fld (nd := { c.nodes.getD n0 default with bit := -1 }) hn0l rfl ⟨by show (0 : Int) ≤ (c.nodes.getD n0 default).kind; rw [← HKD.out]; omega, by show (c.nodes.getD n0 default).kind ≤ 255; rw [← HKD.out]; omega⟩ (n0 * 4 + 3) (.int .i64 (-1)) (ndC_bit c.nodes n0 hkl _ _))
      have HCK := Lib.hid (spoil_bit HSH.out hkl)
      have f0 := HO4.out.own.f0.frozen (n0 * 4 + 3)
      have e3 : w4.cell? ⟨g0, n0 * 4 + 3, none⟩ = some (.int .i64 (c.nodes.getD n0 default).bit) := by rw [HO4.out.own.f0.cell, ndC_get (by omega), ndF_3]
      go_wp2
      go_meet
      exact SP.of H8.out (by rw [HCK.out, if_neg (fun h => absurd h.1 (by decide))])
    · -- Mem
      have H8 := Lib.hid (HO4.out.fld (nd := { c.nodes.getD n0 default with mem := 1 }) hn0l rfl ⟨by show (0 : Int) ≤ (c.nodes.getD n0 default).kind; rw [← HKD.out]; omega, by show (c.nodes.getD n0 default).kind ≤ 255; rw [← HKD.out]; omega⟩ (n0 * 4 + 2) (.int .i64 1) (ndC_mem c.nodes n0 hkl _ _))
      have HCK := Lib.hid (spoil_mem HSH.out hkl HML.out)
      have f0 := HO4.out.own.f0.frozen (n0 * 4 + 2)
      have e3 : w4.cell? ⟨g0, n0 * 4 + 2, none⟩ = some (.int .i64 (c.nodes.getD n0 default).mem) := by rw [HO4.out.own.f0.cell, ndC_get (by omega), ndF_2]
      go_wp2
      go_meet
      exact SP.of H8.out (by rw [HCK.out, if_neg (fun h => absurd h.1 (by decide))])
    · -- no name
      have H8 := Lib.hid (HO4.out.name n0 (s := ⟨#[]⟩) (by show 0 ≤ maxLen; omega))
      have HCK := Lib.hid (spoil_names HSH.out (l := c.names.set n0 ⟨#[]⟩) (by simp) (names_empty (by rw [← HNL.out]; exact hn0l)))
      have f0 := HO4.out.own.f1.frozen n0
      have e3 : w4.cell? ⟨g1, n0, none⟩ = some (.string (c.names.getD n0 ByteArray.empty)) := by
        rw [HO4.out.own.f1.cell, List.getElem?_map, List.getElem?_eq_getElem (by rw [← HNL.out]; exact hn0l), List.getD_eq_getElem?_getD, List.getElem?_eq_getElem (by rw [← HNL.out]; exact hn0l)]; rfl
      go_wp2
      go_meet
      exact SP.of H8.out (by rw [HCK.out, if_neg (fun h => absurd h.1 (by decide))])
    · -- another's name
      obtain ⟨j, hj, hjl⟩ := ix_lt ((n0 : Int) + 1) (n := n) (by omega)
      have hw1 : IntKind.i64.wrap ((n0 : Int) + 1) = (n0 : Int) + 1 := IntWalk.i64_in _ (by omega)
      have htj : ((n0 : Int) + 1).tmod (n : Int) = (j : Int) := by rw [Int.tmod_eq_emod_of_nonneg (by omega)]; exact hj
      unfold ix at hj
      have hjn : ¬ n < 2 → j ≠ n0 := fun h2 e => by
        subst e
        have h3 : (((j : Int) + 1) % (n : Int)) = (j : Int) := hj
        by_cases e2 : j + 1 = n
        · rw [show ((j : Int) + 1) = (n : Int) by omega, Int.emod_self] at h3; omega
        · rw [Int.emod_eq_of_lt (by omega) (by omega)] at h3; omega
      have HJN := Lib.hid hjn
      clear hjn hj
      have H8 := Lib.hid (HO4.out.name n0 (s := c.names.getD j ByteArray.empty) (HO4.out.fit.t j (by rw [← HNL.out]; exact hjl)))
      have f0 := HO4.out.own.f1.frozen n0
      have e3 : w4.cell? ⟨g1, n0, none⟩ = some (.string (c.names.getD n0 ByteArray.empty)) := by
        rw [HO4.out.own.f1.cell, List.getElem?_map, List.getElem?_eq_getElem (by rw [← HNL.out]; exact hn0l), List.getD_eq_getElem?_getD, List.getElem?_eq_getElem (by rw [← HNL.out]; exact hn0l)]; rfl
      have e4 : w4.cell? ⟨g1, j, none⟩ = some (.string (c.names.getD j ByteArray.empty)) := by
        rw [HO4.out.own.f1.cell, List.getElem?_map, List.getElem?_eq_getElem (by rw [← HNL.out]; exact hjl), List.getD_eq_getElem?_getD, List.getElem?_eq_getElem (by rw [← HNL.out]; exact hjl)]; rfl
      have HCK : Hid (chkErr { c with names := c.names.set n0 (c.names.getD j ByteArray.empty) } = if (6 : Int) = 6 ∧ n < 2 then 0 else 5) := Lib.hid (by
        by_cases h2 : n < 2
        · rw [if_pos ⟨rfl, h2⟩]
          have e1 : j = n0 := by omega
          have e5 : c.names.set n0 (c.names.getD j ByteArray.empty) = c.names := by
            rw [e1]
            apply List.ext_getElem?
            intro i
            rw [List.getElem?_set]
            by_cases e6 : n0 = i
            · subst e6
              rw [if_pos rfl, if_pos (by rw [← HNL.out]; exact hn0l), List.getD_eq_getElem?_getD, List.getElem?_eq_getElem (by rw [← HNL.out]; exact hn0l)]; rfl
            · rw [if_neg e6]
          rw [e5]
          exact HV.out.ok
        · rw [if_neg (fun h => h2 h.2)]
          exact spoil_names HSH.out (by simp) (names_twice (by rw [← HNL.out]; exact hn0l) (by rw [← HNL.out]; exact hjl) (HJN.out h2)))
      obtain ⟨sj, HSJ⟩ := named (c.names.getD j ByteArray.empty)
      rw [← HSJ.out] at e4 H8 HCK
      go_wp2
      go_still_tail 14, (by kernel_rfl)
      go_wp2
      go_meet
      exact SP.of (H8.out.next (Below.refl _ _).drew) (by simp [HCK.out])
    · -- names cut
      have f0 : w4.frozen? ⟨w2.heap.size, 1, none⟩ = false := HO4.out.box.frozen 1
      have H8 : Hid (SP W0 w2.heap.size 7 (.int .i64 8) (w4.setCell ⟨w2.heap.size, 1, none⟩ (.slice (some ⟨g1, 0, none⟩) n0 n))) := Lib.hid (by
        have hkq : ∀ q : Addr, q.block < w2.heap.size → (w4.setCell ⟨w2.heap.size, 1, none⟩ (.slice (some ⟨g1, 0, none⟩) n0 n)).cell? q = w4.cell? q := fun q hq => World.cell?_setCell_other _ _ _ _ (fun e => by first | (rw [e] at hq; exact absurd hq (Nat.lt_irrefl _)) | (rw [← e] at hq; exact absurd hq (Nat.lt_irrefl _)))
        have hle : w2.heap.size ≤ (w4.setCell ⟨w2.heap.size, 1, none⟩ (.slice (some ⟨g1, 0, none⟩) n0 n)).heap.size := by rw [World.size_setCell]; have := HO4.out.box.lt; omega
        obtain ⟨v0, v1, v2, v3, ev, q0, q1, q2, q3⟩ := HQ4.out
        simp only [Value.agg.injEq, Array.mk.injEq, List.cons.injEq, and_true] at ev
        obtain ⟨rfl, rfl, rfl, rfl⟩ := ev
        refine ⟨{ c with names := c.names.take n0 }, 8, _, _, _, _, _, _, _, _, _, _, _, _, rfl, HO4.out.bel.setCell (by show W0.heap.size ≤ w2.heap.size; have := HO4.out.low; have := HO4.out.own.low; have := HO4.out.hq.1; omega) _, HO4.out.box.set 1 _, ⟨_, _, _, _, rfl, q0.keep hle hkq, ?_, q2.keep hle hkq, q3.keep hle hkq⟩, ?_⟩
        · have hlt : (c.names.take n0).length = n0 := by rw [List.length_take, ← HNL.out]; omega
          obtain ⟨A, b, o, cc, ea, hA, hle2, hm, hcl⟩ := q1.keep hle hkq
          simp only [Value.slice.injEq] at ea
          obtain ⟨rfl, -, rfl⟩ := ea
          refine ⟨_, b, o, _, by rw [hlt], fun h => hA (by rw [hlt] at h; rw [← HNL.out]; omega), by rw [hlt]; rw [← HNL.out] at hle2; omega, by rw [hlt]; rw [← HNL.out] at hm; omega, fun k hk => ?_⟩
          rw [hlt] at hk
          have h5 := hcl k (by rw [← HNL.out]; omega)
          rw [show (c.names.take n0).getD k ByteArray.empty = c.names.getD k ByteArray.empty by rw [List.getD_eq_getElem?_getD, List.getD_eq_getElem?_getD, List.getElem?_take, if_pos hk]]
          exact h5
        · rw [if_neg (fun h => absurd h.1 (by decide))]
          exact spoil_cut HSH.out (by rw [List.length_take, ← HNL.out, ← HV.out.len]; omega))
      go_wp2
      go_meet
      exact H8.out
    · -- an output that is none
      obtain ⟨i1, hi1, hy0, hy1, hy2⟩ := info_parts info_int
      have HI := Lib.hid (And.intro hi1 (And.intro hy0 (And.intro hy1 hy2)))
      clear hi1 hy0 hy1 hy2
      have hm3 : m3 ≤ 4 := by rw [HM3.out]; exact HOL.out
      have HAL : Hid (Below w4.heap.size w4 (w4.alloc (.cells #[.int .i64 (-1 - (n0 : Int))] 3))) := Lib.hid (below_new (Below.refl _ _) _)
      have HRC : Hid (∀ b, some (⟨g3, 0, none⟩ : Addr) = some b → ∀ j u, (c.outs.map (Value.int .i64))[j]? = some u → (w4.alloc (.cells #[.int .i64 (-1 - (n0 : Int))] 3)).cell? (b.add j) = some u) := Lib.hid fun b hb => by
        cases hb
        exact World.ownsRow.cells (HO4.out.own.f3.below (below_new (Below.refl _ _) _)) (g := g3) rfl
      go_wp2_with (at_builtin; refine wpList_append_grows _ rfl _ _ 25 rfl 3 i1 (.int .i64 0) 1 8 Tryd.underlying25 HI.out.1 HI.out.2.1 HI.out.2.2.1 HI.out.2.2.2 rfl (by decide) (some ⟨g3, 0, none⟩) m3 m3 (c.outs.map (Value.int .i64)) rfl (fun h => by cases h) (by simp [HM3.out]) HRC.out ⟨w4.heap.size, 0, none⟩ 1 1 [.int .i64 (-1 - (n0 : Int))] rfl rfl (one_new _ _ _) (by simp [Value.oneCell']) (by omega) (by unfold maxLen; omega) (by omega) ?_; intro v' w6 hown' hgrow; obtain ⟨A9, c9, hv9⟩ := own_form hown'; subst hv9; have hb6 : Below w4.heap.size w4 w6 := HAL.out.grown hgrow (by first | (simp; done) | (simp; omega)) (fun k h => by cases h); have H8 := Lib.hid (sp_outs (r := 8) (e := 1) HO4.out HQ4.out hb6 hown' (by first | (simp; done) | (simp; omega)) (by unfold maxLen; omega) (by decide) (spoil_outs HSH.out (v := -1 - (n0 : Int)) (by omega) (by have := HOL.out; omega))); have z3 := (HO4.out.box.below hb6).cell 3; have zf := (HO4.out.box.below hb6).frozen 3; have zs : w2.heap.size < w6.heap.size := (HO4.out.box.below hb6).lt; clear hown' hgrow hb6)
      go_meet
      exact H8.out
    · -- a memory
      obtain ⟨i1, hi1, hy0, hy1, hy2⟩ := info_parts info_mm
      have HI := Lib.hid (And.intro hi1 (And.intro hy0 (And.intro hy1 hy2)))
      clear hi1 hy0 hy1 hy2
      have hm2 : m2 ≤ 1 := by rw [HM2.out]; exact HML.out
      have HAL : Hid (Below w4.heap.size w4 ((w4.alloc (.cells #[.int .i64 0] 3)).alloc (.cells #[.slice none 0 0, .slice (some ⟨w4.heap.size, 0, none⟩) 1 1, .int .i64 0] 70))) := Lib.hid (below_new (below_new (Below.refl _ _) _) _)
      have HRC : Hid (∀ b, some (⟨g2, 0, none⟩ : Addr) = some b → ∀ j u, (mmC c.mems ha hd (fun _ => undef) (fun _ => undef) c.mems.length)[j]? = some u → ((w4.alloc (.cells #[.int .i64 0] 3)).alloc (.cells #[.slice none 0 0, .slice (some ⟨w4.heap.size, 0, none⟩) 1 1, .int .i64 0] 70)).cell? (b.add j) = some u) := Lib.hid fun b hb => by
        cases hb
        intro j u hu
        rw [add0]
        rw [(HO4.out.own.f2.below HAL.out).cell j]
        exact hu
      have HZ0 : Hid (((w4.alloc (.cells #[.int .i64 0] 3)).alloc (.cells #[.slice none 0 0, .slice (some ⟨w4.heap.size, 0, none⟩) 1 1, .int .i64 0] 70)).cell? ⟨w4.heap.size, 0, none⟩ = some (.int .i64 0)) := Lib.hid (cell_al _ (by rw [cell_at _ _ _ rfl]; rfl))
      go_wp2_with (at_builtin; refine wpList_append_grows _ rfl _ _ 24 rfl 70 i1 (.agg #[.slice none 0 0, .slice none 0 0, .int .i64 0]) 3 56 Tryd.underlying24 HI.out.1 HI.out.2.1 HI.out.2.2.1 HI.out.2.2.2 rfl (by decide) (some ⟨g2, 0, none⟩) m2 m2 (mmC c.mems ha hd (fun _ => undef) (fun _ => undef) c.mems.length) rfl (fun h => by cases h) (by rw [mmC_len, HM2.out]) HRC.out ⟨w4.heap.size + 1, 0, none⟩ 1 1 [.slice none 0 0, .slice (some ⟨w4.heap.size, 0, none⟩) 1 1, .int .i64 0] rfl rfl (three_new _ _ _ _ _ (by simp)) (by simp [Value.oneCell']) (by omega) (by unfold maxLen; omega) (by omega) ?_; intro v' w6 hown' hgrow; obtain ⟨A9, c9, hv9⟩ := own_form hown'; subst hv9; have hb6 : Below w4.heap.size w4 w6 := HAL.out.grown hgrow (by first | (simp; done) | (simp; omega)) (fun k h => by cases h); have H8 := Lib.hid (sp_mems (m := ⟨[], [0], 0⟩) (r := 9) (e := 8) HO4.out HQ4.out hb6 hown' (by first | (simp; done) | (simp; omega)) (by unfold maxLen; omega) HMQ.out (fun w7 hk7 => ⟨Arr.nil _ _ _ _ _, is_one (Nat.le_refl _) (hgrow.cell HZ0.out (by simp)) w7 hk7⟩) (by decide) (spoil_mems HSH.out (by have := HML.out; omega) (by decide) rfl)); have z3 := (HO4.out.box.below hb6).cell 2; have zf := (HO4.out.box.below hb6).frozen 2; have zs : w2.heap.size < w6.heap.size := (HO4.out.box.below hb6).lt; clear hown' hgrow hb6)
      go_meet
      exact H8.out
    · -- a memory
      obtain ⟨i1, hi1, hy0, hy1, hy2⟩ := info_parts info_mm
      have HI := Lib.hid (And.intro hi1 (And.intro hy0 (And.intro hy1 hy2)))
      clear hi1 hy0 hy1 hy2
      have hm2 : m2 ≤ 1 := by rw [HM2.out]; exact HML.out
      have HAL : Hid (Below w4.heap.size w4 (((w4.alloc (.cells #[.int .i64 0] 3)).alloc (.cells #[.int .i64 0] 3)).alloc (.cells #[.slice (some ⟨w4.heap.size, 0, none⟩) 1 1, .slice (some ⟨w4.heap.size + 1, 0, none⟩) 1 1, .int .i64 (n : Int)] 70))) := Lib.hid (below_new (below_new (below_new (Below.refl _ _) _) _) _)
      have HRC : Hid (∀ b, some (⟨g2, 0, none⟩ : Addr) = some b → ∀ j u, (mmC c.mems ha hd (fun _ => undef) (fun _ => undef) c.mems.length)[j]? = some u → (((w4.alloc (.cells #[.int .i64 0] 3)).alloc (.cells #[.int .i64 0] 3)).alloc (.cells #[.slice (some ⟨w4.heap.size, 0, none⟩) 1 1, .slice (some ⟨w4.heap.size + 1, 0, none⟩) 1 1, .int .i64 (n : Int)] 70)).cell? (b.add j) = some u) := Lib.hid fun b hb => by
        cases hb
        intro j u hu
        rw [add0]
        rw [(HO4.out.own.f2.below HAL.out).cell j]
        exact hu
      have HZ0 : Hid ((((w4.alloc (.cells #[.int .i64 0] 3)).alloc (.cells #[.int .i64 0] 3)).alloc (.cells #[.slice (some ⟨w4.heap.size, 0, none⟩) 1 1, .slice (some ⟨w4.heap.size + 1, 0, none⟩) 1 1, .int .i64 (n : Int)] 70)).cell? ⟨w4.heap.size, 0, none⟩ = some (.int .i64 0)) := Lib.hid (cell_al _ (cell_al _ (by rw [cell_at _ _ _ rfl]; rfl)))
      have HZ1 : Hid ((((w4.alloc (.cells #[.int .i64 0] 3)).alloc (.cells #[.int .i64 0] 3)).alloc (.cells #[.slice (some ⟨w4.heap.size, 0, none⟩) 1 1, .slice (some ⟨w4.heap.size + 1, 0, none⟩) 1 1, .int .i64 (n : Int)] 70)).cell? ⟨w4.heap.size + 1, 0, none⟩ = some (.int .i64 0)) := Lib.hid (cell_al _ (by rw [cell_at _ _ _ (by simp)]; rfl))
      have HME : Hid (memErr c ⟨[0], [0], (n : Int)⟩ = 1) := Lib.hid (by
        unfold memErr
        rw [if_neg (by simp), if_pos]
        left
        cases hh : isIdx c.nodes.length (n : Int)
        · rfl
        · have := isIdx_iff.1 hh; have := HV.out.len; omega)
      go_wp2_with (at_builtin; refine wpList_append_grows _ rfl _ _ 24 rfl 70 i1 (.agg #[.slice none 0 0, .slice none 0 0, .int .i64 0]) 3 56 Tryd.underlying24 HI.out.1 HI.out.2.1 HI.out.2.2.1 HI.out.2.2.2 rfl (by decide) (some ⟨g2, 0, none⟩) m2 m2 (mmC c.mems ha hd (fun _ => undef) (fun _ => undef) c.mems.length) rfl (fun h => by cases h) (by rw [mmC_len, HM2.out]) HRC.out ⟨w4.heap.size + 1 + 1, 0, none⟩ 1 1 [.slice (some ⟨w4.heap.size, 0, none⟩) 1 1, .slice (some ⟨w4.heap.size + 1, 0, none⟩) 1 1, .int .i64 (n : Int)] rfl rfl (three_new _ _ _ _ _ (by simp)) (by simp [Value.oneCell']) (by omega) (by unfold maxLen; omega) (by omega) ?_; intro v' w6 hown' hgrow; obtain ⟨A9, c9, hv9⟩ := own_form hown'; subst hv9; have hb6 : Below w4.heap.size w4 w6 := HAL.out.grown hgrow (by first | (simp; done) | (simp; omega)) (fun k h => by cases h); have H8 := Lib.hid (sp_mems (m := ⟨[0], [0], (n : Int)⟩) (r := 10) (e := 1) HO4.out HQ4.out hb6 hown' (by first | (simp; done) | (simp; omega)) (by unfold maxLen; omega) HMQ.out (fun w7 hk7 => ⟨is_one (Nat.le_refl _) (hgrow.cell HZ0.out (by simp)) w7 hk7, is_one (Nat.le_succ _) (hgrow.cell HZ1.out (by simp)) w7 hk7⟩) (by decide) (spoil_mems HSH.out (by have := HML.out; omega) (by decide) HME.out)); have z3 := (HO4.out.box.below hb6).cell 2; have zf := (HO4.out.box.below hb6).frozen 2; have zs : w2.heap.size < w6.heap.size := (HO4.out.box.below hb6).lt; clear hown' hgrow hb6)
      go_meet
      exact H8.out
    · -- a loop
      obtain ⟨y, hy⟩ : ∃ y, cmb kd = y := ⟨_, rfl⟩
      have hrc := fun W => comb_any kd W
      rw [hy] at hrc
      have HRC := Lib.hid hrc
      have HY := Lib.hid hy
      clear hrc hy
      cases y
      · go_wp2_with (first
          | (go_at_call 22; (with_reducible refine (HRC.out _).mono ?_); rintro e w3 ⟨rfl, rfl⟩)
          | (go_at_call 12; (with_reducible refine (lives_o HT.out HO4.out.bel).mono ?_); rintro e w9 ⟨rfl, hb⟩; have HB9 := Lib.hid hb; clear hb))
        go_ret
        exact ⟨rfl, joinB HB0.out HB9.out⟩
      · by_cases h13 : kd = 13
        · have hb13 : (kd == 13) = true := by rw [h13]; rfl
          have H13 := Lib.hid h13
          clear h13
          go_wp2_with (first
            | (go_at_call 22; (with_reducible refine (HRC.out _).mono ?_); rintro e w3 ⟨rfl, rfl⟩)
            | (go_at_call 12; (with_reducible refine (lives_o HT.out HO4.out.bel).mono ?_); rintro e w9 ⟨rfl, hb⟩; have HB9 := Lib.hid hb; clear hb))
          go_ret
          exact ⟨rfl, joinB HB0.out HB9.out⟩
        · have hb13 : (kd == 13) = false := by simpa using h13
          have H13 := Lib.hid h13
          clear h13
          by_cases hni0 : 0 < ni
          · obtain ⟨-, -, e2, e3⟩ := HO4.out.node hn0l
            have e4 := e2 0 (by rw [← HNI.out]; exact hni0)
            have e5 := e3 0
            have H8 := Lib.hid (HO4.out.pin hn0l 0 (n0 : Int))
            have HCK := Lib.hid (spoil_self HSH.out hkl (p := 0) (by rw [← HNI.out]; exact hni0) (by rw [← HKD.out]; exact HY.out) (by rw [← HKD.out]; exact H13.out))
            obtain ⟨iv, HIV⟩ := named ((c.nodes.getD n0 default).ins.getD 0 0)
            rw [← HIV.out] at e4
            obtain ⟨hn_, HHN⟩ := named (h n0)
            rw [← HHN.out] at d1 e4 e5 H8
            clear e2 e3
            go_wp2_with (go_at_call 22; (with_reducible refine (HRC.out _).mono ?_); rintro e w3 ⟨rfl, rfl⟩)
            go_meet
            exact SP.of H8.out (by rw [if_neg (fun h => absurd h.1 (by decide))]; exact HCK.out)
          · obtain rfl : ni = 0 := by omega
            go_wp2_with (first
              | (go_at_call 22; (with_reducible refine (HRC.out _).mono ?_); rintro e w3 ⟨rfl, rfl⟩)
              | (go_at_call 12; (with_reducible refine (lives_o HT.out HO4.out.bel).mono ?_); rintro e w9 ⟨rfl, hb⟩; have HB9 := Lib.hid hb; clear hb))
            go_ret
            exact ⟨rfl, joinB HB0.out HB9.out⟩
end Go.Proofs.YtbaibacbnjihaaaDoor
