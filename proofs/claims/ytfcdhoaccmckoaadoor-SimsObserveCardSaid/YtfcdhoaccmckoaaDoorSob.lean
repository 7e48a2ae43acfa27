/- SimsObserve: the law's walk. -/
import Derived.Test.YtfcdhoaccmckoaaDoorSop
import Derived.Test.YtfcdhoaccmckoaaDoorRob
import Derived.Test.YtfcdhoaccmckoaaDoorFew
import Derived.Test.YtfcdhoaccmckoaaDoorSml
import Derived.Test.YtfcdhoaccmckoaaDoorSnb
import Derived.Test.YtfcdhoaccmckoaaDoorRso
import Derived.Test.YtfcdhoaccmckoaaDoorInt
namespace Go.Proofs.YtfcdhoaccmckoaaDoor
open Go.RowKit

set_option maxRecDepth 100000 in
set_option maxHeartbeats 8000000 in
theorem sobs_law (a : Ck) (v : Value) (nets : List Int) (An : Option Addr) (nn cn : Nat) (w : World) (hT : Lg.Tabs w) (hc : Cir w w.heap.size v a) (hz : Bearz a) (kn : Ks w w.heap.size (.slice An nn cn) nets) (vn : ∀ y ∈ nets, 0 ≤ y ∧ y ≤ 255) :
    Calls Tryd.prog 7 #[v, .slice An nn cn] w fun e w' => e = .returned (.bool true) ∧ Below w.heap.size w w' := by
  obtain ⟨v0, v1, v2, v3, rfl, hns, hss, hms, hos⟩ := id hc
  obtain ⟨A0, b0, o0, c0, rfl, hA0, -, hm0, hcell⟩ := id hns
  obtain ⟨A1, b1, o1, c1, rfl, -⟩ := id hss
  obtain ⟨A2, b2, o2, c2, rfl, -⟩ := id hms
  obtain ⟨A3, b3, o3, c3, rfl, -⟩ := id hos
  obtain ⟨An', bn, on, cn', en, hAn, -, hmn, hcn⟩ := kn.opens
  simp only [Value.slice.injEq] at en
  obtain ⟨rfl, hnl, rfl⟩ := en
  rw [← hnl] at hAn hmn hcn
  unfold maxLen at hm0 hmn
  clear hns hss hms hos
  obtain ⟨W1, HW1⟩ := named (w.alloc (.cells #[.slice A0 a.nodes.length c0, .slice A1 a.names.length c1, .slice A2 a.mems.length c2, .slice A3 a.outs.length c3] 27))
  have hb1 : Below w.heap.size w W1 := by rw [HW1.out]; exact below_new (Below.refl _ _) _
  have hfa : Fr W1 w.heap.size 27 [.slice A0 a.nodes.length c0, .slice A1 a.names.length c1, .slice A2 a.mems.length c2, .slice A3 a.outs.length c3] := by rw [HW1.out]; exact Fr.made _ _ _ rfl
  have hca : ∀ W, BelW W1 W → Cir W W.heap.size (.agg #[.slice A0 a.nodes.length c0, .slice A1 a.names.length c1, .slice A2 a.mems.length c2, .slice A3 a.outs.length c3]) a := fun W hb => (hc.below (joinB hb1 hb)).more (Nat.le_trans hb1.size (Below.size hb))
  have hkn : ∀ W, BelW W1 W → Ks W W.heap.size (.slice An nn cn) nets := fun W hb => Arr.keep stays_u8 kn (joinB hb1 hb).size fun _ hp => (joinB hb1 hb).cell hp
  have hFW : ∀ W, BelW W1 W → Calls Tryd.prog 9 #[.agg #[.slice A0 a.nodes.length c0, .slice A1 a.names.length c1, .slice A2 a.mems.length c2, .slice A3 a.outs.length c3], .agg #[.slice none 0 0, .slice none 0 0]] W fun e w' => (∃ b, e = .returned (.bool b) ∧ (b = true → FewS a 0 0)) ∧ BelW W w' :=
    fun W hb => few_any a _ none none 0 0 0 0 W W.heap.size (Nat.le_refl _) (hca W hb) (by omega) (by omega) (Nat.le_trans hz.o (by decide)) (Nat.le_trans hz.n (by decide))
  have hLV : ∀ W, BelW W1 W → Calls Tryd.prog 10 #[] W fun e w' => e = .returned (.bool true) ∧ BelW W w' := fun W hb => lives6_any W (hT.below (joinB hb1 hb))
  have hOB : FewS a 0 0 → ∀ W, BelW W1 W → Calls Tryd.prog 25 #[.agg #[.slice A0 a.nodes.length c0, .slice A1 a.names.length c1, .slice A2 a.mems.length c2, .slice A3 a.outs.length c3], .slice An nn cn] W fun e w' => ∃ g h, e = .returned (.agg #[.slice (some ⟨g, 0, none⟩) (outV a nets).length (outV a nets).length, .slice (some ⟨h, 0, none⟩) (nextV a nets).length (nextV a nets).length]) ∧ VRow w' g (outV a nets) ∧ VRow w' h (nextV a nets) ∧ BelW W w' :=
    fun hs W hb => (observe_any a nets A0 A1 A2 A3 An c0 c1 c2 c3 nn cn W W.heap.size (Nat.le_refl _) (hca W hb) (hkn W hb) (Nat.le_trans hs.1 (by decide)) (Nat.le_trans hs.2.2.2.1 (by decide))).mono fun e w' ⟨g, h, h1, h2, h3, _, _, _, h4⟩ => ⟨g, h, h1, h2, h3, h4⟩
  have hRO : FewS a 0 0 → ∀ W, BelW W1 W → Calls Tryd.prog 26 #[.agg #[.slice A0 a.nodes.length c0, .slice A1 a.names.length c1, .slice A2 a.mems.length c2, .slice A3 a.outs.length c3], .slice An nn cn] W fun e w' => (∃ D E d f, e = .returned (.agg #[.slice D (outV a nets).length d, .slice E (nextV a nets).length f]) ∧ Ks w' w'.heap.size (.slice D (outV a nets).length d) (outV a nets) ∧ Ks w' w'.heap.size (.slice E (nextV a nets).length f) (nextV a nets)) ∧ BelW W w' :=
    fun hs W hb => rob_any a nets (fun y hy => (vn y hy).1) A0 A1 A2 A3 An c0 c1 c2 c3 nn cn W W.heap.size (Nat.le_refl _) (hca W hb) (hkn W hb) (Nat.le_trans hs.1 (by decide)) (Nat.le_trans hs.2.2.2.1 (by decide))
  have hCO : FewS a 0 0 → ∀ W, BelW W1 W → Calls Tryd.prog 28 #[.agg #[.slice A0 a.nodes.length c0, .slice A1 a.names.length c1, .slice A2 a.mems.length c2, .slice A3 a.outs.length c3], .slice An nn cn] W fun e w' => ∃ A, e = .returned (.slice A (cflV a nets).length (cflV a nets).length) ∧ Is w' w'.heap.size (.slice A (cflV a nets).length (cflV a nets).length) (cflV a nets) ∧ BelW W w' :=
    fun hs W hb => conflicts_any a nets A0 A1 A2 A3 An c0 c1 c2 c3 nn cn W W.heap.size (Nat.le_refl _) (hca W hb) (hkn W hb) (Nat.le_trans hs.1 (by decide)) hz.b.i
  have hnd : ∀ W, BelW W1 W → ∀ x, x < a.nodes.length → ∃ b o A4 b4 o4 c4, A0 = some ⟨b, o, none⟩ ∧ W.cell? ⟨b, o + x * 4, none⟩ = some (.int .u8 (a.nodes.getD x default).kind) ∧ W.cell? ⟨b, o + x * 4 + 1, none⟩ = some (.slice A4 (a.nodes.getD x default).ins.length c4) ∧ (0 < (a.nodes.getD x default).ins.length → A4 = some ⟨b4, o4, none⟩) ∧ ∀ k, k < (a.nodes.getD x default).ins.length → W.cell? ⟨b4, o4 + k, none⟩ = some (.int .i64 ((a.nodes.getD x default).ins.getD k 0)) := fun W h x hx => by
    obtain ⟨hlb, s, e0, e1, e2, e3, h4, -⟩ := hcell x hx
    obtain ⟨A4, b4, o4, c4, rfl, hA4, -, -, hc4⟩ := id h4
    have hk : ∀ j, W.cell? ⟨b0, j, none⟩ = w.cell? ⟨b0, j, none⟩ := fun j => (joinB hb1 h).cell (p := ⟨b0, j, none⟩) (by show b0 < w.heap.size; omega)
    exact ⟨b0, o0, A4, b4, o4, c4, hA0 (by omega), by rw [hk]; exact e0, by rw [hk]; exact e1, hA4, fun k hk4 => ((joinB hb1 h).cell (p := ⟨b4, o4 + k, none⟩) (by have := (hc4 k hk4).1; show b4 < w.heap.size; omega)).trans (by have := (hc4 k hk4).2; rw [Nat.mul_one] at this; exact this)⟩
  have HSZ : Hid (FewS a 0 0 → a.nodes.length ≤ 24) := Lib.hid fun h => h.1
  have HSI : Hid (∀ k, k < a.nodes.length → (a.nodes.getD k default).ins.length ≤ 17592186044416) := Lib.hid hz.b.i
  have HNT : Hid (∀ W, BelW W1 W → ∀ k, k < nn → W.cell? ⟨bn, on + k, none⟩ = some (.int .u8 (nets.getD k 0))) := Lib.hid fun W h k hk => ((joinB hb1 h).cell (p := ⟨bn, on + k, none⟩) (hcn k hk).1).trans (hcn k hk).2
  have HAN := Lib.hid hAn
  have HNL := Lib.hid hnl
  obtain ⟨lo, HLO⟩ := named (outV a nets)
  obtain ⟨ln, HLN⟩ := named (nextV a nets)
  obtain ⟨lc, HLC⟩ := named (cflV a nets)
  rw [← HLO.out, ← HLN.out] at hOB hRO
  rw [← HLC.out] at hCO
  have HCT : Hid (cflT nets a.nodes a.nodes.length = lc) := Lib.hid (by rw [HLC.out]; rfl)
  obtain ⟨SM, HSM⟩ := named (FewS a 0 0)
  rw [← HSM.out] at hFW hOB hRO hCO HSZ
  obtain ⟨nd, HND⟩ := named a.nodes
  rw [← HND.out] at hfa hFW hOB hRO hCO hnd HW1 hm0 HSZ HSI HCT
  rw [← HND.out]
  obtain ⟨n, HN⟩ := named nd.length
  rw [← HN.out] at hfa hFW hOB hRO hCO hnd HW1 hm0 HSZ HSI HCT
  rw [← HN.out]
  generalize a.names.length = n1 at hfa hFW hOB hRO hCO HW1 ⊢
  generalize a.mems.length = n2 at hfa hFW hOB hRO hCO HW1 ⊢
  generalize a.outs.length = n3 at hfa hFW hOB hRO hCO HW1 ⊢
  have HCA : Hid (∀ W, BelW W1 W → W.cell? ⟨w.heap.size, 0, none⟩ = some (.slice A0 n c0) ∧ W.cell? ⟨w.heap.size, 1, none⟩ = some (.slice A1 n1 c1) ∧ W.cell? ⟨w.heap.size, 2, none⟩ = some (.slice A2 n2 c2) ∧ W.cell? ⟨w.heap.size, 3, none⟩ = some (.slice A3 n3 c3)) :=
    Lib.hid fun W hb => ⟨(hfa.below hb).cell 0, (hfa.below hb).cell 1, (hfa.below hb).cell 2, (hfa.below hb).cell 3⟩
  have HFW := Lib.hid hFW
  have HLV := Lib.hid hLV
  have HOB := Lib.hid hOB
  have HRO := Lib.hid hRO
  have HCO := Lib.hid hCO
  have HNDC := Lib.hid hnd
  have HKN := Lib.hid hkn
  have HB1 := Lib.hid hb1
  have hw1 := hb1.size
  clear hT hc hz kn vn hca hkn hfa hb1 hFW hLV hOB hRO hCO hnd hAn hcn hA0 hcell hnl HND HSM HLO HLN HLC
  go_enter Tryd.func7, Tryd.ntmps7
  go_upto_region 1 with (fail)
  rw [← HW1.out]
  have hs00 : BelW W1 W1 := Below.refl _ _
  obtain ⟨x0, x1, x2, x3⟩ := HCA.out W1 hs00
  by_cases hnn : nn ≤ 100
  rotate_left
  · go_wp2_with (first
      | (go_at_call 9; (with_reducible refine (HFW.out _ hs00).mono ?_); rintro e w1 ⟨⟨bb, rfl, hs⟩, hb⟩; have HB2 := Lib.hid hb; clear hs hb x0 x1 x2 x3; cases bb)
      | (go_at_call 10; (with_reducible refine (HLV.out _ HB2.out).mono ?_); rintro e w9 ⟨rfl, hb⟩; have HB9 := Lib.hid hb; clear hb))
    all_goals
      go_ret
      exact ⟨rfl, joinB HB1.out (joinB HB2.out HB9.out)⟩
  go_upto_region 3 with (first
    | (go_at_call 9; (with_reducible refine (HFW.out _ hs00).mono ?_); rintro e w1 ⟨⟨bb, rfl, hs⟩, hb⟩; have HSM := Lib.hid hs; obtain ⟨y0, y1, y2, y3⟩ := HCA.out _ hb; have HB2 := Lib.hid hb; clear hs hb x0 x1 x2 x3; cases bb)
    | (go_at_call 10; (with_reducible refine (HLV.out _ HB2.out).mono ?_); rintro e w9 ⟨rfl, hb⟩; have HB9 := Lib.hid hb; clear hb))
  · go_ret
    exact ⟨rfl, joinB HB1.out (joinB HB2.out HB9.out)⟩
  have hsm : SM := HSM.out (by simp)
  have HSS := Lib.hid hsm
  have hn24 : n ≤ 24 := HSZ.out hsm
  clear hsm HSM
  go_upto_region 4 with (go_at_call 25; (with_reducible refine (HOB.out HSS.out _ HB2.out).mono ?_); rintro e w3 ⟨g, h, rfl, r1, r2, hb⟩; have HV1 := Lib.hid r1; have HV2 := Lib.hid r2; have HB3 : Hid (BelW w1 w3) := Lib.hid hb; clear r1 r2 hb)
  clear y0 y1 y2 y3
  obtain ⟨V3, HV3⟩ := named (w3.alloc (.cells #[.slice (some ⟨g, 0, none⟩) lo.length lo.length, .slice (some ⟨h, 0, none⟩) ln.length ln.length] 36))
  have hn3 : BelW w3 V3 := by rw [HV3.out]; exact below_new (Below.refl _ _) _
  have hfr : Fr V3 w3.heap.size 36 [.slice (some ⟨g, 0, none⟩) lo.length lo.length, .slice (some ⟨h, 0, none⟩) ln.length ln.length] := by rw [HV3.out]; exact Fr.made _ _ _ rfl
  have hb3 : BelW W1 V3 := joinB HB2.out (joinB HB3.out hn3)
  have hv1 : VRow V3 g lo := HV1.out.below hn3
  have hv2 : VRow V3 h ln := HV2.out.below hn3
  obtain ⟨qr, HQR⟩ := named w3.heap.size
  rw [← HQR.out] at hfr
  rw [← HV3.out, ← HQR.out]
  obtain ⟨y0, y1, y2, y3⟩ := HCA.out _ hb3
  have HB13 := Lib.hid hb3
  have HFR := Lib.hid hfr
  have HVO := Lib.hid hv1
  have HVN := Lib.hid hv2
  clear hn3 hfr hb3 hv1 hv2 HV1 HV2 HB3 HV3 HQR
  go_upto_region 5 with (go_at_call 26; (with_reducible refine (HRO.out HSS.out _ HB13.out).mono ?_); rintro e w4 ⟨⟨D, E, dD, dE, rfl, r1, r2⟩, hb⟩; have HV1 := Lib.hid r1; have HV2 := Lib.hid r2; have HB4 : Hid (BelW V3 w4) := Lib.hid hb; clear r1 r2 hb)
  clear y0 y1 y2 y3
  obtain ⟨V4, HV4⟩ := named (w4.alloc (.cells #[.slice D lo.length dD, .slice E ln.length dE] 36))
  have hn4 : BelW w4 V4 := by rw [HV4.out]; exact below_new (Below.refl _ _) _
  have hfw : Fr V4 w4.heap.size 36 [.slice D lo.length dD, .slice E ln.length dE] := by rw [HV4.out]; exact Fr.made _ _ _ rfl
  have hb34 : BelW V3 V4 := joinB HB4.out hn4
  obtain ⟨qw, HQW⟩ := named w4.heap.size
  rw [← HQW.out] at hfw
  rw [← HV4.out, ← HQW.out]
  have HB14 : Hid (BelW W1 V4) := Lib.hid (joinB HB13.out hb34)
  have HK4 : Hid (∀ W, BelW V4 W → Fr W qr 36 [.slice (some ⟨g, 0, none⟩) lo.length lo.length, .slice (some ⟨h, 0, none⟩) ln.length ln.length] ∧ Fr W qw 36 [.slice D lo.length dD, .slice E ln.length dE] ∧ Ks W W.heap.size (.slice (some ⟨g, 0, none⟩) lo.length lo.length) lo ∧ Ks W W.heap.size (.slice (some ⟨h, 0, none⟩) ln.length ln.length) ln ∧ Ks W W.heap.size (.slice D lo.length dD) lo ∧ Ks W W.heap.size (.slice E ln.length dE) ln) := Lib.hid fun W hh =>
    have h4 : BelW w4 W := joinB hn4 hh
    ⟨HFR.out.below (joinB hb34 hh), hfw.below hh, ((HVO.out.below (joinB hb34 hh))).ks, ((HVN.out.below (joinB hb34 hh))).ks, Arr.keep stays_u8 HV1.out (Below.size h4) fun _ hp => Below.cell h4 hp, Arr.keep stays_u8 HV2.out (Below.size h4) fun _ hp => Below.cell h4 hp⟩
  have hx4 := Below.size HB14.out
  clear hn4 hfw hb34 HV1 HV2 HB4 HV4 HQW HFR HVO HVN HB13
  obtain ⟨i1, hi1, hz0, hz1, hz2⟩ := info_parts info_int
  have HI := Lib.hid (And.intro hi1 (And.intro hz0 (And.intro hz1 hz2)))
  clear hi1 hz0 hz1 hz2
  go_wp2
  go_loopw [8, 7] (fun i sv wr => ∃ k : Nat, k ≤ n ∧ i = .int .i64 k ∧ BelW V4 wr ∧ Stk wr V4.heap.size sv (cflT nets nd k)) (fun i _ _ => n - (intOf i).toNat)
  case atStart => exact ⟨0, Nat.zero_le _, rfl, Below.refl _ _, by rw [cflT_zero]; exact Stk.nil _ _⟩
  case round =>
    obtain ⟨k, hk, rfl, hb, hst⟩ := hrel
    obtain ⟨A6, c6, rfl, hle6, hc6, hsh⟩ := hst.shape
    have hfl := cflT_len nets nd k
    have HST := Lib.hid hst
    have HBR := Lib.hid hb
    have hb1r : BelW W1 wr := joinB HB14.out hb
    have hrz := Below.size hb
    obtain ⟨x0, x1, x2, x3⟩ := HCA.out wr hb1r
    by_cases hlt : k < n
    · obtain ⟨b, oo, A4, b4, o4, c4, rfl, e0, e1, hA4, hc4⟩ := HNDC.out wr hb1r k hlt
      have hm4 := HSI.out k hlt
      have HYES : Hid ((nd.getD k default).kind = 13 → hasV nets (nd.getD k default).ins 1 (nd.getD k default).ins.length → hasV nets (nd.getD k default).ins 0 (nd.getD k default).ins.length → cflT nets nd (k + 1) = cflT nets nd k ++ [(k : Int)]) := Lib.hid fun h1 h2 h3 => cflT_yes h1 h2 h3
      have HNO : Hid (((nd.getD k default).kind = 13 → ¬ (hasV nets (nd.getD k default).ins 0 (nd.getD k default).ins.length ∧ hasV nets (nd.getD k default).ins 1 (nd.getD k default).ins.length)) → cflT nets nd (k + 1) = cflT nets nd k) := Lib.hid fun h => cflT_no h
      obtain ⟨kd, HKD⟩ := named (nd.getD k default).kind
      obtain ⟨ins, HINS⟩ := named (nd.getD k default).ins
      rw [← HKD.out] at e0 HYES HNO
      rw [← HINS.out] at e1 hA4 hc4 hm4 HYES HNO
      obtain ⟨m, HM⟩ := named ins.length
      rw [← HM.out] at e1 hA4 hc4 hm4 HYES HNO
      have HA4 := Lib.hid hA4
      have HC4 : Hid (∀ W, BelW wr W → ∀ j, j < m → W.cell? ⟨b4, o4 + j, none⟩ = some (.int .i64 (ins.getD j 0))) := Lib.hid fun W hh j hj => (Below.cell hh (p := ⟨b4, o4 + j, none⟩) (cell_lt (hc4 j hj))).trans (hc4 j hj)
      have HCC : Hid (∀ W, BelW wr W → W.cell? ⟨w.heap.size, 0, none⟩ = some (.slice (some ⟨b, oo, none⟩) n c0) ∧ W.cell? ⟨b, oo + k * 4, none⟩ = some (.int .u8 kd) ∧ W.cell? ⟨b, oo + k * 4 + 1, none⟩ = some (.slice A4 m c4)) := Lib.hid fun W hh => ⟨(Below.cell hh (p := ⟨w.heap.size, 0, none⟩) (cell_lt x0)).trans x0, (Below.cell hh (p := ⟨b, oo + k * 4, none⟩) (cell_lt e0)).trans e0, (Below.cell hh (p := ⟨b, oo + k * 4 + 1, none⟩) (cell_lt e1)).trans e1⟩
      obtain ⟨wo, HWO⟩ : ∃ V0 : World, V0 = wr := ⟨_, rfl⟩
      subst HWO
      obtain ⟨sl, HSL⟩ := named (cflT nets nd k)
      rw [← HSL.out] at HST hfl hle6 hsh HYES HNO
      rw [← HSL.out]
      clear hb hst hA4 hc4 e0 e1 x1 x2 x3 hb1r hsh HKD HINS
      go_wp2
      go_loopw [11, 9, 10] (fun j p q wr => ∃ (t : Nat) (y z : Int), t ≤ m ∧ j = .int .i64 t ∧ p = .int .i64 y ∧ q = .int .i64 z ∧ BelW wo wr ∧ (kd = 13 ∨ t = 0) ∧ CntOk y (hasV nets ins 1 t) t ∧ CntOk z (hasV nets ins 0 t) t) (fun j _ _ _ => m - (intOf j).toNat)
      case atStart => exact ⟨0, 0, 0, Nat.zero_le _, rfl, rfl, rfl, Below.refl _ _, .inr rfl, cnt_zero, cnt_zero⟩
      case round =>
        obtain ⟨t, y, z, ht, rfl, rfl, rfl, hb, hkt, hy, hzz⟩ := hrel
        have hyb := hy.1
        have hyc := hy.2.1
        have hzb := hzz.1
        have hzc := hzz.2.1
        obtain ⟨x0, e0, e1⟩ := HCC.out wr hb
        have HBI := Lib.hid hb
        have HCY := Lib.hid hy
        have HCZ := Lib.hid hzz
        clear hy hzz
        by_cases htm : t < m ∧ kd = 13
        · obtain ⟨htm, rfl⟩ := htm
          obtain rfl := HA4.out (by omega)
          have f4 := HC4.out wr hb t htm
          have HYN : Hid ((valA nets (ins.getD t 0) = 1 → CntOk (y + 1) (hasV nets ins 1 (t + 1)) (t + 1)) ∧ (valA nets (ins.getD t 0) ≠ 1 → CntOk y (hasV nets ins 1 (t + 1)) (t + 1))) := Lib.hid ⟨fun h => cnt_yes HCY.out h, fun h => cnt_no HCY.out h⟩
          have HZN : Hid ((valA nets (ins.getD t 0) = 0 → CntOk (z + 1) (hasV nets ins 0 (t + 1)) (t + 1)) ∧ (valA nets (ins.getD t 0) ≠ 0 → CntOk z (hasV nets ins 0 (t + 1)) (t + 1))) := Lib.hid ⟨fun h => cnt_yes HCZ.out h, fun h => cnt_no HCZ.out h⟩
          obtain ⟨x, HX⟩ := named (ins.getD t 0)
          rw [← HX.out] at f4 HYN HZN
          have g1 : decide (t < m) = true := decide_eq_true htm
          clear hb hkt
          rcases (show x < 0 ∨ (nn : Int) ≤ x ∨ ∃ j : Nat, x = (j : Int) ∧ j < nn from by
            by_cases h0 : x < 0
            · exact .inl h0
            · by_cases h1 : (nn : Int) ≤ x
              · exact .inr (.inl h1)
              · exact .inr (.inr ⟨x.toNat, by omega, by omega⟩)) with hx0 | hx1 | ⟨j, rfl, hjn⟩
          · have hva : valA nets x = 2 := valA_out (.inl hx0)
            have q0 : decide (0 ≤ x) = false := decide_eq_false (by omega)
            have HY2 := Lib.hid (HYN.out.2 (by rw [hva]; decide))
            have HZ2 := Lib.hid (HZN.out.2 (by rw [hva]; decide))
            clear HYN HZN HCY HCZ
            go_wp2
            go_roundw
            case rel => exact ⟨t + 1, y, z, by omega, by go_num, by go_num, by go_num, HBI.out, .inl (by trivial), HY2.out, HZ2.out⟩
            case measure => simp [intOf]; omega
          · have hva : valA nets x = 2 := valA_out (.inr (by rw [← HNL.out]; exact hx1))
            have q0 : decide (0 ≤ x) = true := decide_eq_true (by omega)
            have q1 : decide (x < (nn : Int)) = false := decide_eq_false (by omega)
            have HY2 := Lib.hid (HYN.out.2 (by rw [hva]; decide))
            have HZ2 := Lib.hid (HZN.out.2 (by rw [hva]; decide))
            clear HYN HZN HCY HCZ
            go_wp2
            go_roundw
            case rel => exact ⟨t + 1, y, z, by omega, by go_num, by go_num, by go_num, HBI.out, .inl (by trivial), HY2.out, HZ2.out⟩
            case measure => simp [intOf]; omega
          · have fz := HNT.out wr (joinB HB14.out (joinB HBR.out HBI.out)) j hjn
            obtain rfl := HAN.out (by omega)
            have HVI := Lib.hid (fun (z : Int) (hz : nets.getD j 0 = z) (v : Int) (hv : v = 0 ∨ v = 1) => valA_in (nets := nets) (x := (j : Int)) rfl (by rw [← HNL.out]; exact hjn) hz hv)
            obtain ⟨zz, HZZ⟩ := named (nets.getD j 0)
            rw [← HZZ.out] at fz
            have q1 : decide (j < nn) = true := decide_eq_true hjn
            rcases (show zz = 1 ∨ zz = 0 ∨ (zz ≠ 1 ∧ zz ≠ 0) by omega) with e9 | e9 | ⟨e8, e9⟩
            · subst e9
              have HY2 := Lib.hid (HYN.out.1 ((HVI.out _ HZZ.out.symm 1 (.inr rfl)).2 rfl))
              have HZ2 := Lib.hid (HZN.out.2 (fun h => by have := (HVI.out _ HZZ.out.symm 0 (.inl rfl)).1 h; omega))
              clear HYN HZN HCY HCZ
              go_wp2
              go_roundw
              case rel => exact ⟨t + 1, y + 1, z, by omega, by go_num, by go_num, by go_num, HBI.out, .inl (by trivial), HY2.out, HZ2.out⟩
              case measure => simp [intOf]; omega
            · subst e9
              have HY2 := Lib.hid (HYN.out.2 (fun h => by have := (HVI.out _ HZZ.out.symm 1 (.inr rfl)).1 h; omega))
              have HZ2 := Lib.hid (HZN.out.1 ((HVI.out _ HZZ.out.symm 0 (.inl rfl)).2 rfl))
              clear HYN HZN HCY HCZ
              go_wp2
              go_roundw
              case rel => exact ⟨t + 1, y, z + 1, by omega, by go_num, by go_num, by go_num, HBI.out, .inl (by trivial), HY2.out, HZ2.out⟩
              case measure => simp [intOf]; omega
            · have q2 : (zz == 1) = false := by simpa using e8
              have q3 : (zz == 0) = false := by simpa using e9
              have HY2 := Lib.hid (HYN.out.2 (fun h => e8 ((HVI.out _ HZZ.out.symm 1 (.inr rfl)).1 h)))
              have HZ2 := Lib.hid (HZN.out.2 (fun h => e9 ((HVI.out _ HZZ.out.symm 0 (.inl rfl)).1 h)))
              clear HYN HZN HCY HCZ
              go_wp2
              go_roundw
              case rel => exact ⟨t + 1, y, z, by omega, by go_num, by go_num, by go_num, HBI.out, .inl (by trivial), HY2.out, HZ2.out⟩
              case measure => simp [intOf]; omega
        · have hkm : kd ≠ 13 ∨ (kd = 13 ∧ t = m) := by omega
          have HKT := Lib.hid hkt
          clear hb hkt
          rcases hkm with hk13 | ⟨hk13, hkm⟩
          · have ht0 : t = 0 := by have := HKT.out; omega
            subst ht0
            obtain rfl : y = 0 := by omega
            obtain rfl : z = 0 := by omega
            have HNX := Lib.hid (HNO.out fun h => absurd h hk13)
            have g2 : (kd == 13) = false := by simpa using hk13
            clear hk13 HKT htm HCY HCZ
            by_cases hm0' : 0 < m
            · go_wp2
              go_roundw
              case rel =>
                refine ⟨k + 1, by omega, by go_num, joinB HBR.out HBI.out, ?_⟩
                rw [HNX.out]; exact HST.out.below HBI.out
              case measure => simp [intOf]; omega
            · obtain rfl : m = 0 := by omega
              go_wp2
              go_roundw
              case rel =>
                refine ⟨k + 1, by omega, by go_num, joinB HBR.out HBI.out, ?_⟩
                rw [HNX.out]; exact HST.out.below HBI.out
              case measure => simp [intOf]; omega
          · subst hkm
            subst hk13
            by_cases hyz : 0 < y ∧ 0 < z
            · obtain ⟨hy0, hz0⟩ := hyz
              have HNX := Lib.hid (HYES.out rfl (HCY.out.2.2.1 hy0) (HCZ.out.2.2.1 hz0))
              have hiz := Below.size HBI.out
              have HSB := Lib.hid (fun W (h : BelW wr W) => HST.out.below (joinB HBI.out h))
              have HBB := Lib.hid (fun W (h : BelW wr W) => joinB HBR.out (joinB HBI.out h))
              clear HCY HCZ HYES HNO HKT htm
              go_wp2_with (at_builtin; refine wpList_append_own_at _ rfl _ _ 25 rfl V4.heap.size 3 i1 (.int .i64 0) 1 8 Tryd.underlying25 HI.out.1 HI.out.2.1 HI.out.2.2.1 HI.out.2.2.2 rfl (by decide) _ _ _ rfl (World.ownsRow.alloc (HSB.out wr (Below.refl _ _)) _) ⟨wr.heap.size, 0, none⟩ 1 1 [.int .i64 (k : Int)] rfl rfl (one_new _ _ _) (ints_oneCell .i64 [(k : Int)]) (by unfold maxLen; omega) (by omega) (by first | omega | (simp; omega)) ?_; intro v' w5 hown' hgrow hnil hloc; have HF := Lib.hid (push_own (by first | omega | (simp; omega)) (HBB.out wr (Below.refl _ _)) (HSB.out wr (Below.refl _ _)) hown' hgrow); clear hown' hgrow hnil hloc)
              go_roundw
              case rel =>
                refine ⟨k + 1, by omega, by go_num, HF.out.1, ?_⟩
                rw [HNX.out]; exact HF.out.2
              case measure => simp [intOf]; omega
            · have HNX := Lib.hid (HNO.out fun _ h => hyz ⟨HCY.out.2.2.2 h.2, HCZ.out.2.2.2 h.1⟩)
              clear HCY HCZ HYES HNO HKT htm
              by_cases hy0 : 0 < y
              · have hz0 : ¬ 0 < z := fun h => hyz ⟨hy0, h⟩
                clear hyz
                go_wp2
                go_roundw
                case rel =>
                  refine ⟨k + 1, by omega, by go_num, joinB HBR.out HBI.out, ?_⟩
                  rw [HNX.out]; exact HST.out.below HBI.out
                case measure => simp [intOf]; omega
              · clear hyz
                go_wp2
                go_roundw
                case rel =>
                  refine ⟨k + 1, by omega, by go_num, joinB HBR.out HBI.out, ?_⟩
                  rw [HNX.out]; exact HST.out.below HBI.out
                case measure => simp [intOf]; omega
    · obtain rfl : n = k := by omega
      have HIS : Hid (∀ W, BelW wr W → Is W W.heap.size (.slice A6 lc.length c6) lc) := Lib.hid fun W h => by
        have h6 := HST.out.below h
        rw [HCT.out] at h6
        exact h6.reads c6 (by rw [HCT.out] at hle6; exact hle6) (by rw [← HCT.out]; unfold maxLen; omega)
      rw [HCT.out]
      have HSA : Hid (∀ W, BelW wr W → Calls Tryd.prog 21 #[.slice (some ⟨g, 0, none⟩) lo.length lo.length, .slice D lo.length dD] W fun e w' => e = .returned (.int .i64 0) ∧ BelW W w') := Lib.hid fun W h => by
        have h4 := HK4.out W (joinB HBR.out h)
        have := same6_any lo lo _ _ _ _ _ _ W _ _ h4.2.2.1 h4.2.2.2.2.1
        rwa [if_pos rfl] at this
      have HSC : Hid (∀ W, BelW wr W → Calls Tryd.prog 21 #[.slice (some ⟨h, 0, none⟩) ln.length ln.length, .slice E ln.length dE] W fun e w' => e = .returned (.int .i64 0) ∧ BelW W w') := Lib.hid fun W h => by
        have h4 := HK4.out W (joinB HBR.out h)
        have := same6_any ln ln _ _ _ _ _ _ W _ _ h4.2.2.2.1 h4.2.2.2.2.2
        rwa [if_pos rfl] at this
      have HCF : Hid (∀ W, BelW wr W → Calls Tryd.prog 28 #[.agg #[.slice A0 n c0, .slice A1 n1 c1, .slice A2 n2 c2, .slice A3 n3 c3], .slice An nn cn] W fun e w' => ∃ A, e = .returned (.slice A lc.length lc.length) ∧ Is w' w'.heap.size (.slice A lc.length lc.length) lc ∧ BelW W w') := Lib.hid fun W h => HCO.out HSS.out W (joinB HB14.out (joinB HBR.out h))
      have HIN : Hid (∀ W A, BelW wr W → Is W W.heap.size (.slice A lc.length lc.length) lc → Calls Tryd.prog 27 #[.slice A lc.length lc.length, .slice A6 lc.length c6] W fun e w' => e = .returned (.int .i64 0) ∧ BelW W w') := Lib.hid fun W A h hi => by
        refine (ints_any lc lc A lc.length _ _ _ _ hi (HIS.out W h)).mono fun e w' ⟨h1, k, h2⟩ => ?_
        subst h2
        exact ⟨by rw [h1]; simp [intsR], below_drewN (Below.refl _ _) k⟩
      have HLX : Hid (∀ W, BelW wr W → Calls Tryd.prog 10 #[] W fun e w' => e = .returned (.bool true) ∧ BelW W w') := Lib.hid fun W h => HLV.out W (joinB HB14.out (joinB HBR.out h))
      have HKE : Hid (∀ W, BelW wr W → W.cell? ⟨w.heap.size, 0, none⟩ = some (.slice A0 n c0) ∧ W.cell? ⟨w.heap.size, 1, none⟩ = some (.slice A1 n1 c1) ∧ W.cell? ⟨w.heap.size, 2, none⟩ = some (.slice A2 n2 c2) ∧ W.cell? ⟨w.heap.size, 3, none⟩ = some (.slice A3 n3 c3) ∧ W.cell? ⟨qr, 0, none⟩ = some (.slice (some ⟨g, 0, none⟩) lo.length lo.length) ∧ W.cell? ⟨qr, 1, none⟩ = some (.slice (some ⟨h, 0, none⟩) ln.length ln.length) ∧ W.cell? ⟨qw, 0, none⟩ = some (.slice D lo.length dD) ∧ W.cell? ⟨qw, 1, none⟩ = some (.slice E ln.length dE)) := Lib.hid fun W hh => by
        obtain ⟨f1, f2, -⟩ := HK4.out W (joinB HBR.out hh)
        obtain ⟨a0, a1, a2, a3⟩ := HCA.out W (joinB HB14.out (joinB HBR.out hh))
        exact ⟨a0, a1, a2, a3, f1.cell 0, f1.cell 1, f2.cell 0, f2.cell 1⟩
      have HFIN : Hid (∀ W, BelW wr W → Below w.heap.size w W) := Lib.hid fun W hh => joinB HB1.out (joinB HB14.out (joinB HBR.out hh))
      clear hb hst hb1r x0 x1 x2 x3 hle6 hsh hfl
      obtain ⟨x0, x1, x2, x3, y0, y1, z0, z1⟩ := HKE.out wr (Below.refl _ _)
      have hs0 : BelW wr wr := Below.refl _ _
      go_wp2_with (first
        | (go_at_call 21; (with_reducible refine (HSA.out _ hs0).mono ?_); rintro e wa ⟨rfl, hba⟩; have hsa : BelW wr wa := hba; clear x0 x1 x2 x3 y0 y1 z0 z1; obtain ⟨x0, x1, x2, x3, y0, y1, z0, z1⟩ := HKE.out wa hsa)
        | (go_at_call 21; (with_reducible refine (HSC.out _ hsa).mono ?_); rintro e wb ⟨rfl, hbb⟩; have hsb : BelW wr wb := joinB hsa hbb; clear hbb x0 x1 x2 x3 y0 y1 z0 z1; obtain ⟨x0, x1, x2, x3, y0, y1, z0, z1⟩ := HKE.out wb hsb)
        | (go_at_call 28; (with_reducible refine (HCF.out _ hsb).mono ?_); rintro e wd ⟨AC, rfl, hic, hbd⟩; have hsd : BelW wr wd := joinB hsb hbd; have HIC := Lib.hid hic; clear hbd hic)
        | (go_at_call 27; (with_reducible refine (HIN.out _ _ hsd HIC.out).mono ?_); rintro e we ⟨rfl, hbe⟩; have hse : BelW wr we := joinB hsd hbe; clear hbe)
        | (go_at_call 10; (with_reducible refine (HLX.out _ hse).mono ?_); rintro e wf ⟨rfl, hbf⟩; have hsf : BelW wr wf := joinB hse hbf; clear hbf))
      go_ret
      exact ⟨rfl, HFIN.out _ hsf⟩
end Go.Proofs.YtfcdhoaccmckoaaDoor
