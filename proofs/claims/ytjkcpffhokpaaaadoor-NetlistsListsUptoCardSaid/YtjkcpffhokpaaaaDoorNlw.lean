/- NetlistsLists: the law's walk. -/
import Derived.Test.YtjkcpffhokpaaaaDoorNls
namespace Go.Proofs.YtjkcpffhokpaaaaDoor
open Go.RowKit

theorem nodP_in (nodes : List Nd) (N : Nat) (h : ∀ k, k < nodes.length → (nodes.getD k default).ins.length ≤ N) : ∀ i, i ≤ nodes.length → (nodP nodes i).length ≤ i * N
  | 0, _ => by simp [nodP]
  | i + 1, hi => by
    have h1 := nodP_in nodes N h i (by omega)
    have h2 := h i (by omega)
    rw [nodP_succ]
    simp only [pinsAt, insP, List.length_append, List.length_map, List.length_range]
    rw [Nat.succ_mul]; omega
theorem ks_nil (w : World) (B : Nat) : Ks w B (.slice none 0 0) [] := Arr.nil 0 1 U8At w B
theorem ksd1 (w : World) (x : Int) (t : TypeId) : Ks (w.alloc (.cells #[.int .u8 x] t)).drew (w.alloc (.cells #[.int .u8 x] t)).drew.heap.size (.slice (some ⟨w.heap.size, 0, none⟩) 1 1) [x] :=
  Ks.below (Ks.one w x t rfl) (Below.refl _ _).drew
theorem ksd2 (w : World) (x y : Int) (t : TypeId) : Ks (w.alloc (.cells #[.int .u8 x, .int .u8 y] t)).drew (w.alloc (.cells #[.int .u8 x, .int .u8 y] t)).drew.heap.size (.slice (some ⟨w.heap.size, 0, none⟩) 2 2) [x, y] := by
  refine Ks.below (w := w.alloc (.cells #[.int .u8 x, .int .u8 y] t)) ?_ (Below.refl _ _).drew
  refine ⟨some ⟨w.heap.size, 0, none⟩, w.heap.size, 0, 2, rfl, fun _ => rfl, by simp, by simp [maxLen], fun k hk => ⟨by simp, ?_⟩⟩
  have hk2 : k = 0 ∨ k = 1 := by simp at hk; omega
  rcases hk2 with rfl | rfl
  · unfold U8At; rw [World.cell?_alloc_at _ _ _ _ rfl]; rfl
  · unfold U8At; rw [World.cell?_alloc_at _ _ _ _ rfl]; rfl

set_option maxRecDepth 100000 in
set_option maxHeartbeats 8000000 in
theorem lists_law (c : Ck) (kd : Int) (v : Value) (w : World) (hT : Tabs w) (hc : Cir w w.heap.size v c) (hk : ∀ k, k < c.nodes.length → (c.nodes.getD k default).ins.length ≤ 1048576) :
    Calls Tryd.prog 5 #[v, .int .u8 kd] w fun e w' => e = .returned (.bool true) ∧ Below w.heap.size w w' := by
  obtain ⟨v0, v1, v2, v3, rfl, hns, hss, hms, hos⟩ := id hc
  obtain ⟨A0, b, o, c0, rfl, -⟩ := id hns
  obtain ⟨A1, b1, o1, c1, rfl, -⟩ := id hss
  obtain ⟨A2, b2, o2, c2, rfl, -⟩ := id hms
  obtain ⟨A3, b3, o3, c3, rfl, -⟩ := id hos
  have hl0 := LC.start hT hc
  have HP : Hid (Small c → (nodP c.nodes c.nodes.length).length ≤ 1000000000000) := Lib.hid fun hs => by
    have h1 := nodP_in c.nodes 1048576 hk c.nodes.length (Nat.le_refl _)
    have h2 := hs.1
    omega
  clear hT hc hns hss hms hos hk
  obtain ⟨n, HN⟩ := named c.nodes.length
  rw [← HN.out] at hl0
  rw [← HN.out]
  generalize c.names.length = n1 at hl0 ⊢
  generalize c.mems.length = n2 at hl0 ⊢
  generalize c.outs.length = n3 at hl0 ⊢
  obtain ⟨x0, x1, x2, x3⟩ := hl0.cells
  have HL0 := Lib.hid hl0
  obtain ⟨mK, HMK⟩ := named (ofTo c.nodes [kd] n).length
  obtain ⟨mI, HMI⟩ := named (ofTo c.nodes [0] n).length
  obtain ⟨mS, HMS⟩ := named (ofTo c.nodes [14] n).length
  have HM2 : Hid (mI + mS = (ofTo c.nodes [0, 14] n).length) := Lib.hid (by rw [ofTo_two, HMI.out, HMS.out])
  have HM0 : Hid (0 = (ofTo c.nodes [] n).length) := Lib.hid (by rw [ofTo_nil]; rfl)
  have hmI : mI ≤ n := by rw [HMI.out]; exact ofTo_len _ _ _
  have hmS : mS ≤ n := by rw [HMS.out]; exact ofTo_len _ _ _
  clear hl0
  go_enter Tryd.func5, Tryd.ntmps5
  go_wp2_with (first
    | (go_at_call 11; (with_reducible refine (great_c HL0.out (Below.refl _ _)).mono ?_); rintro e w1 ⟨⟨bb, rfl, hs⟩, hb, hl⟩; have HSM := Lib.hid hs; obtain ⟨y0, y1, y2, y3⟩ := hl.cells; have HL1 := Lib.hid hl; clear hs hb hl x0 x1 x2 x3; cases bb)
    | (go_at_call 12; (with_reducible refine (lives_c HL1.out (Below.refl _ _)).mono ?_); rintro e w2 ⟨rfl, hb⟩; have HB2 := Lib.hid hb; clear hb)
    | (go_at_call 24; (with_reducible refine (fan_n HN.out (HSM.out (by simp)) (HP.out (HSM.out (by simp))) HL1.out (Below.refl _ _)).mono ?_); rintro e wf ⟨⟨g, rfl, hi⟩, hb, hl⟩; have HLF := Lib.hid hl; have HIF := Lib.hid hi; clear hi hb hl))
  rotate_left 1
  · go_ret
    exact ⟨rfl, joinB HL1.out.bel HB2.out⟩
  have HS := Lib.hid (HSM.out (by simp))
  clear HSM
  have hn24 : n ≤ 24 := by rw [HN.out]; exact HS.out.1
  have hce : ∀ w', BelW wf w' → BelW wf w' ∧ w'.cell? ⟨w.heap.size, 0, none⟩ = some (.slice A0 n c0) ∧ w'.cell? ⟨w.heap.size, 1, none⟩ = some (.slice A1 n1 c1) ∧ w'.cell? ⟨w.heap.size, 2, none⟩ = some (.slice A2 n2 c2) ∧ w'.cell? ⟨w.heap.size, 3, none⟩ = some (.slice A3 n3 c3) := fun w' h =>
    ⟨h, (HLF.out.next h).cells⟩
  have HCE := Lib.hid hce
  have hs0 : BelW wf wf := Below.refl _ _
  clear hce y0 y1 y2 y3
  go_region_held3 (fun w' => BelW wf w' ∧ w'.cell? ⟨w.heap.size, 0, none⟩ = some (.slice A0 n c0) ∧ w'.cell? ⟨w.heap.size, 1, none⟩ = some (.slice A1 n1 c1) ∧ w'.cell? ⟨w.heap.size, 2, none⟩ = some (.slice A2 n2 c2) ∧ w'.cell? ⟨w.heap.size, 3, none⟩ = some (.slice A3 n3 c3))
    ((refine HCE.out _ ?_; first | (with_reducible assumption) | (refine BelW.drew ?_; with_reducible assumption) | (refine BelW.alloc ?_ _; with_reducible assumption) | (refine BelW.drew (BelW.alloc ?_ _); with_reducible assumption) | (refine BelW.alloc (BelW.drew ?_) _; with_reducible assumption)))
    (first
      | (go_at_call 26; (with_reducible refine (of_n HN.out HMK.out HS.out HLF.out (by first | exact Below.refl _ _ | exact (Below.refl _ _).drew | exact below_new (Below.refl _ _) _ | exact (below_new (Below.refl _ _) _).drew | exact below_new (Below.refl _ _).drew _) (ksd1 _ kd _)).mono ?_)
         rintro e wA ⟨⟨AA, rfl, hi⟩, hb, hl⟩
         have hsA : BelW wf wA := hb
         have HIA := Lib.hid hi
         have HLA := Lib.hid hl
         clear hi hb hl)
      | (go_at_call 27; (with_reducible refine (rof_n HN.out HS.out kd HLA.out (by first | exact Below.refl _ _ | exact (Below.refl _ _).drew | exact below_new (Below.refl _ _) _ | exact (below_new (Below.refl _ _) _).drew | exact below_new (Below.refl _ _).drew _)).mono ?_)
         rintro e wB ⟨⟨sB, rfl, hi⟩, hb, hl⟩
         have hsB : BelW wf wB := hsA.next hb
         have HIB := Lib.hid (And.intro (HIA.out.on hb) hi)
         have HLB := Lib.hid hl
         clear hi hb hl)
      | (go_at_call_of 25 mK; (with_reducible refine (int_n HMK.out HLB.out (by first | exact Below.refl _ _ | exact (Below.refl _ _).drew | exact below_new (Below.refl _ _) _ | exact (below_new (Below.refl _ _) _).drew | exact below_new (Below.refl _ _).drew _) HIB.out.1 HIB.out.2).mono ?_)
         rintro e wC ⟨rfl, hb, hl⟩
         have hsC : BelW wf wC := hsB.next hb
         have HLC := Lib.hid hl
         clear hb hl)
      | (go_at_call 28; (with_reducible refine (ins_n HN.out HMI.out HS.out HLC.out (by first | exact Below.refl _ _ | exact (Below.refl _ _).drew | exact below_new (Below.refl _ _) _ | exact (below_new (Below.refl _ _) _).drew | exact below_new (Below.refl _ _).drew _)).mono ?_)
         rintro e wD ⟨⟨AD, rfl, hi⟩, hb, hl⟩
         have hsD : BelW wf wD := hsC.next hb
         have HID := Lib.hid hi
         have HLD := Lib.hid hl
         clear hi hb hl)
      | (go_at_call 27; (with_reducible refine (rof_n HN.out HS.out 0 HLD.out (by first | exact Below.refl _ _ | exact (Below.refl _ _).drew | exact below_new (Below.refl _ _) _ | exact (below_new (Below.refl _ _) _).drew | exact below_new (Below.refl _ _).drew _)).mono ?_)
         rintro e wE ⟨⟨sE, rfl, hi⟩, hb, hl⟩
         have hsE : BelW wf wE := hsD.next hb
         have HIE := Lib.hid (And.intro (HID.out.on hb) hi)
         have HLE := Lib.hid hl
         clear hi hb hl)
      | (go_at_call_of 25 mI; (with_reducible refine (int_n HMI.out HLE.out (by first | exact Below.refl _ _ | exact (Below.refl _ _).drew | exact below_new (Below.refl _ _) _ | exact (below_new (Below.refl _ _) _).drew | exact below_new (Below.refl _ _).drew _) HIE.out.1 HIE.out.2).mono ?_)
         rintro e wF ⟨rfl, hb, hl⟩
         have hsF : BelW wf wF := hsE.next hb
         have HLF2 := Lib.hid hl
         clear hb hl)
      | (go_at_call 29; (with_reducible refine (sts_n HN.out HMS.out HS.out HLF2.out (by first | exact Below.refl _ _ | exact (Below.refl _ _).drew | exact below_new (Below.refl _ _) _ | exact (below_new (Below.refl _ _) _).drew | exact below_new (Below.refl _ _).drew _)).mono ?_)
         rintro e wG ⟨⟨AG, rfl, hi⟩, hb, hl⟩
         have hsG : BelW wf wG := hsF.next hb
         have HIG := Lib.hid hi
         have HLG := Lib.hid hl
         clear hi hb hl)
      | (go_at_call 27; (with_reducible refine (rof_n HN.out HS.out 14 HLG.out (by first | exact Below.refl _ _ | exact (Below.refl _ _).drew | exact below_new (Below.refl _ _) _ | exact (below_new (Below.refl _ _) _).drew | exact below_new (Below.refl _ _).drew _)).mono ?_)
         rintro e wH ⟨⟨sH, rfl, hi⟩, hb, hl⟩
         have hsH : BelW wf wH := hsG.next hb
         have HIH := Lib.hid (And.intro (HIG.out.on hb) hi)
         have HLH := Lib.hid hl
         clear hi hb hl)
      | (go_at_call_of 25 mS; (with_reducible refine (int_n HMS.out HLH.out (by first | exact Below.refl _ _ | exact (Below.refl _ _).drew | exact below_new (Below.refl _ _) _ | exact (below_new (Below.refl _ _) _).drew | exact below_new (Below.refl _ _).drew _) HIH.out.1 HIH.out.2).mono ?_)
         rintro e wI ⟨rfl, hb, hl⟩
         have hsI : BelW wf wI := hsH.next hb
         have HLI := Lib.hid hl
         clear hb hl)
      | (go_at_call 26; (with_reducible refine (of_n HN.out HM0.out HS.out HLI.out (by first | exact Below.refl _ _ | exact (Below.refl _ _).drew | exact below_new (Below.refl _ _) _ | exact (below_new (Below.refl _ _) _).drew | exact below_new (Below.refl _ _).drew _) (ks_nil _ _)).mono ?_)
         rintro e wJ ⟨⟨AJ, rfl, hi⟩, hb, hl⟩
         have hsJ : BelW wf wJ := hsI.next hb
         have HLJ := Lib.hid hl
         clear hi hb hl))
  have hns : NS c w w.heap.size A0 A1 A2 A3 n n1 n2 n3 c0 c1 c2 c3 g n wJ := ⟨HLJ.out, HIF.out.on hsJ⟩
  have HNS := Lib.hid hns
  obtain ⟨L, HL⟩ := named (nodP c.nodes c.nodes.length)
  have hTn : fsum L n = vIdx n L := fsum_all n L
  have hTl : vIdx n L ≤ 1000000000000 := by
    have h1 := vIdx_le n L
    have h2 := HP.out HS.out
    rw [← HL.out] at h2
    omega
  obtain ⟨T, HT⟩ := named (vIdx n L)
  rw [← HT.out] at hTn hTl
  have HTN := Lib.hid hTn
  clear hns hs0 hsA hsB hsC hsD hsE hsF hsG hsH hsI hsJ HLF HIF HLA HIA HLB HIB HLC HLD HID HLE HIE HLF2 HIG HLG HIH HLH HLI HLJ HCE hTn
  have hm0 : n ≤ 24 := hn24
  go_wp2
  go_loopw [6, 7] (fun p i wr => ∃ k : Nat, k ≤ n ∧ i = .int .i64 k ∧ p = .int .i64 (vIdx n (pinsAt c.nodes k 0) : Nat) ∧ NS c w w.heap.size A0 A1 A2 A3 n n1 n2 n3 c0 c1 c2 c3 g n wr) (fun _ i _ => n - (intOf i).toNat)
  case atStart => exact ⟨0, Nat.zero_le _, rfl, rfl, HNS.out⟩
  case round =>
    clear HNS
    obtain ⟨k, hk, rfl, rfl, hns⟩ := hrel
    obtain ⟨x0, x1, x2, x3⟩ := hns.1.cells
    have HN1 := Lib.hid hns
    by_cases hkn : k < n
    · obtain ⟨b, o, A4, c4, m, hA0, hb, hm, hmm, hc1, -⟩ := pins_at HN.out hns.1 hkn
      subst hA0
      have HM := Lib.hid hm
      unfold maxLen at hmm
      clear hns hm
      go_wp2
      go_loopw [6, 8] (fun p i wr => ∃ r : Nat, r ≤ m ∧ i = .int .i64 r ∧ p = .int .i64 (vIdx n (pinsAt c.nodes k r) : Nat) ∧ NS c w w.heap.size (some ⟨b, o, none⟩) A1 A2 A3 n n1 n2 n3 c0 c1 c2 c3 g n wr) (fun _ i _ => m - (intOf i).toNat)
      case atStart => exact ⟨0, Nat.zero_le _, rfl, rfl, HN1.out⟩
      case round =>
        clear HN1 x0 x1 x2 x3 hc1 hb
        obtain ⟨r, hr, rfl, rfl, hns⟩ := hrel
        obtain ⟨x0, x1, x2, x3⟩ := hns.1.cells
        obtain ⟨b', o', A4', c4', m', hA0, hb, hm, -, hc1, hin⟩ := pins_at HN.out hns.1 hkn
        simp only [Option.some.injEq, Addr.mk.injEq, and_true] at hA0
        obtain ⟨rfl, rfl⟩ := hA0
        obtain rfl : m = m' := by rw [hm]; exact HM.out
        by_cases hrm : r < m
        · obtain ⟨b4, o4, rfl, hle4, hb4, hx⟩ := hin r hrm
          have hsn := pinsAt_succ c.nodes k r
          have hvs := vIdx_snoc n (pinsAt c.nodes k r) ((c.nodes.getD k default).ins.getD r 0) ((k : Int), (r : Int))
          rw [← hsn] at hvs
          have hvl := vIdx_le n (pinsAt c.nodes k r)
          have hpl := pinsAt_len c.nodes (i := k) (p := r) (n := n) hkn (by rw [← hm]; exact hrm)
          have hPP := HP.out HS.out
          rw [← HN.out] at hPP
          obtain ⟨x, HX⟩ := named ((c.nodes.getD k default).ins.getD r 0)
          rw [← HX.out] at hx hvs
          obtain ⟨V, HV⟩ := named (vIdx n (pinsAt c.nodes k r))
          rw [← HV.out] at hvs hvl
          rw [← HV.out]
          have hVb : V ≤ 1000000000000 := by omega
          have HVS := Lib.hid hvs
          have HNR := Lib.hid hns
          have hce : ∀ w', BelW wr w' → BelW wr w' ∧ w'.cell? ⟨w.heap.size, 0, none⟩ = some (.slice (some ⟨b, o, none⟩) n c0) ∧ w'.cell? ⟨w.heap.size, 1, none⟩ = some (.slice A1 n1 c1) ∧ w'.cell? ⟨w.heap.size, 2, none⟩ = some (.slice A2 n2 c2) ∧ w'.cell? ⟨w.heap.size, 3, none⟩ = some (.slice A3 n3 c3) ∧ w'.cell? ⟨b, o + k * 4 + 1, none⟩ = some (.slice (some ⟨b4, o4, none⟩) m c4') ∧ w'.cell? ⟨b4, o4 + r, none⟩ = some (.int .i64 x) := fun w' h =>
            ⟨h, (HNR.out.next h).1.cells.1, (HNR.out.next h).1.cells.2.1, (HNR.out.next h).1.cells.2.2.1, (HNR.out.next h).1.cells.2.2.2, (Below.cell h (p := ⟨b, o + k * 4 + 1, none⟩) hb).trans hc1, (Below.cell h (p := ⟨b4, o4 + r, none⟩) hb4).trans hx⟩
          have HCE := Lib.hid hce
          have hs0 : BelW wr wr := Below.refl _ _
          clear hce hvs hvl hpl hPP hns hin hm hsn
          obtain ⟨y, HY⟩ := named (isIdx n x)
          rw [← HY.out] at HVS
          cases y
          · have hvs := HVS.out
            rw [if_neg (by decide)] at hvs
            have HVT := Lib.hid hvs
            clear hvs HVS
            go_wp2
            go_region_held3 (fun w' => BelW wr w' ∧ w'.cell? ⟨w.heap.size, 0, none⟩ = some (.slice (some ⟨b, o, none⟩) n c0) ∧ w'.cell? ⟨w.heap.size, 1, none⟩ = some (.slice A1 n1 c1) ∧ w'.cell? ⟨w.heap.size, 2, none⟩ = some (.slice A2 n2 c2) ∧ w'.cell? ⟨w.heap.size, 3, none⟩ = some (.slice A3 n3 c3) ∧ w'.cell? ⟨b, o + k * 4 + 1, none⟩ = some (.slice (some ⟨b4, o4, none⟩) m c4') ∧ w'.cell? ⟨b4, o4 + r, none⟩ = some (.int .i64 x))
              ((refine HCE.out _ ?_; first | (with_reducible assumption) | (refine BelW.drew ?_; with_reducible assumption)))
              (first
                | (go_at_call 30; (with_reducible refine (ris_y HY.out HN.out (NS.lc HNR.out) (by first | exact Below.refl _ _ | exact (Below.refl _ _).drew | exact below_new (Below.refl _ _) _ | exact (below_new (Below.refl _ _) _).drew | exact below_new (Below.refl _ _).drew _)).mono ?_)
                   rintro e wq ⟨rfl, hb, hl⟩
                   have hsQ : BelW wr wq := hb
                   have HNQ := Lib.hid (NS.next HNR.out hb)
                   clear hb hl))
            go_wp2
            go_roundw
            case rel => exact ⟨r + 1, by omega, by go_num, by rw [HVT.out, Nat.add_zero], HNQ.out⟩
            case measure => simp [intOf]; omega
          · have hvs := HVS.out
            rw [if_pos rfl] at hvs
            have HVT := Lib.hid hvs
            clear hvs HVS
            go_wp2
            go_region_held3 (fun w' => BelW wr w' ∧ w'.cell? ⟨w.heap.size, 0, none⟩ = some (.slice (some ⟨b, o, none⟩) n c0) ∧ w'.cell? ⟨w.heap.size, 1, none⟩ = some (.slice A1 n1 c1) ∧ w'.cell? ⟨w.heap.size, 2, none⟩ = some (.slice A2 n2 c2) ∧ w'.cell? ⟨w.heap.size, 3, none⟩ = some (.slice A3 n3 c3) ∧ w'.cell? ⟨b, o + k * 4 + 1, none⟩ = some (.slice (some ⟨b4, o4, none⟩) m c4') ∧ w'.cell? ⟨b4, o4 + r, none⟩ = some (.int .i64 x))
              ((refine HCE.out _ ?_; first | (with_reducible assumption) | (refine BelW.drew ?_; with_reducible assumption)))
              (first
                | (go_at_call 30; (with_reducible refine (ris_y HY.out HN.out (NS.lc HNR.out) (by first | exact Below.refl _ _ | exact (Below.refl _ _).drew | exact below_new (Below.refl _ _) _ | exact (below_new (Below.refl _ _) _).drew | exact below_new (Below.refl _ _).drew _)).mono ?_)
                   rintro e wq ⟨rfl, hb, hl⟩
                   have hsQ : BelW wr wq := hb
                   have HNQ := Lib.hid (NS.next HNR.out hb)
                   clear hb hl))
            go_wp2
            go_roundw
            case rel => exact ⟨r + 1, by omega, by go_num, by rw [HVT.out]; go_num, HNQ.out⟩
            case measure => simp [intOf]; omega
        · obtain rfl : m = r := by omega
          have HNR := Lib.hid hns
          have hnn := nodP_succ c.nodes k
          rw [← pinsAt_zero, ← hm] at hnn
          have HNN := Lib.hid hnn
          clear hnn hns hin
          go_wp2
          go_roundw
          case rel => exact ⟨k + 1, by omega, by go_num, by rw [HNN.out], HNR.out⟩
          case measure => simp [intOf]; omega
    · obtain rfl : n = k := by omega
      have hpz : vIdx n (pinsAt c.nodes n 0) = T := by rw [pinsAt_zero, HT.out, HL.out, HN.out]
      rw [hpz]
      clear hpz hns
      go_wp2
      go_loopw [6, 9] (fun p i wr => ∃ j : Nat, j ≤ n ∧ i = .int .i64 j ∧ p = .int .i64 ((T : Int) - (fsum L j : Int)) ∧ NS c w w.heap.size A0 A1 A2 A3 n n1 n2 n3 c0 c1 c2 c3 g n wr) (fun _ i _ => n - (intOf i).toNat)
      case atStart => exact ⟨0, Nat.zero_le _, rfl, by simp [fsum], HN1.out⟩
      case round =>
        clear HN1 x0 x1 x2 x3
        obtain ⟨j, hj, rfl, rfl, hns⟩ := hrel
        obtain ⟨x0, x1, x2, x3⟩ := hns.1.cells
        by_cases hjn : j < n
        · have HNR := Lib.hid hns
          have hfs : fsum L (j + 1) = fsum L j + (fan L j).length := rfl
          have hfm := fsum_mono L (j + 1) (n - (j + 1))
          rw [show j + 1 + (n - (j + 1)) = n by omega, HTN.out] at hfm
          obtain ⟨S, HS1⟩ := named (fsum L j)
          rw [← HS1.out] at hfs
          rw [← HS1.out]
          obtain ⟨m, HM⟩ := named (fan L j).length
          rw [← HM.out] at hfs
          rw [hfs] at hfm
          have HFS := Lib.hid hfs
          clear hns hfs
          go_wp2_with (first
            | (go_at_call 31; (with_reducible refine (rfan_s HN.out HL.out HM.out (HP.out HS.out) (NS.lc HNR.out) (Below.refl _ _)).mono ?_)
               rintro e wq ⟨⟨Aw, cw, rfl, hi⟩, hb, hl⟩
               have HNQ := Lib.hid (NS.next HNR.out hb)
               have HIW := Lib.hid hi
               obtain ⟨Ao, mo, hmo, ho1, ho2, ho3⟩ := fos_row HN.out HNQ.out.2 hjn
               rw [← HL.out, ← HM.out] at hmo
               obtain rfl : m = mo := hmo.symm
               clear hi hb hl x0 x1 x2 x3))
          have hrel0 : NS c w w.heap.size A0 A1 A2 A3 n n1 n2 n3 c0 c1 c2 c3 g n wq ∧ g < wq.heap.size ∧ wq.cell? ⟨g, j, none⟩ = some (.slice Ao m m) ∧ Lns wq wq.heap.size (.slice Ao m m) (fan L j) ∧ Lns wq wq.heap.size (.slice Aw m cw) (fan L j) := ⟨HNQ.out, ho3, ho1, by rw [HL.out]; exact ho2, HIW.out⟩
          have HR0 := Lib.hid hrel0
          clear hrel0 HNQ HIW ho1 ho2 ho3 HNR
          go_loopw [6, 11] (fun p i wr => ∃ r : Nat, r ≤ m ∧ i = .int .i64 r ∧ p = .int .i64 ((T : Int) - (S : Int) - (r : Int)) ∧ NS c w w.heap.size A0 A1 A2 A3 n n1 n2 n3 c0 c1 c2 c3 g n wr ∧ g < wr.heap.size ∧ wr.cell? ⟨g, j, none⟩ = some (.slice Ao m m) ∧ Lns wr wr.heap.size (.slice Ao m m) (fan L j) ∧ Lns wr wr.heap.size (.slice Aw m cw) (fan L j)) (fun _ i _ => m - (intOf i).toNat)
          case atStart => exact ⟨0, Nat.zero_le _, rfl, by simp, HR0.out⟩
          case round =>
            clear HR0
            obtain ⟨r, hr, rfl, rfl, hns, hg, hrow, ho, hw⟩ := hrel
            by_cases hrm : r < m
            · obtain ⟨bo, oo, hAo, hbo, hc1, hc2⟩ := lns_at ho (k := r) (by rw [← HM.out]; exact hrm)
              obtain ⟨bw, ow, hAw, hbw, hd1, hd2⟩ := lns_at hw (k := r) (by rw [← HM.out]; exact hrm)
              subst hAo hAw
              obtain ⟨_, _, _, ccw, ew, _, hcw, -⟩ := id hw
              have hmw : m ≤ cw := by
                simp only [Value.slice.injEq] at ew
                have := HM.out
                omega
              clear ew
              obtain ⟨u1, HU1⟩ := named ((fan L j).getD r (0, 0)).1
              obtain ⟨u2, HU2⟩ := named ((fan L j).getD r (0, 0)).2
              rw [← HU1.out] at hc1 hd1
              rw [← HU2.out] at hc2 hd2
              have HR := Lib.hid (And.intro hns (And.intro hg (And.intro hrow (And.intro ho hw))))
              clear hns ho hw hcw
              go_wp2
              go_quiet (fail)
              go_wp2
              go_roundw
              case rel =>
                have hb : Below wr.heap.size wr (wr.drewN nq) := below_drewN (Below.refl _ _) nq
                exact ⟨r + 1, by omega, by go_num, by first | go_num | (congr 1; omega), HR.out.1.next hb, HR.out.2.1, HR.out.2.2.1, HR.out.2.2.2.1.on hb, HR.out.2.2.2.2.on hb⟩
              case measure => simp [intOf]; omega
            · obtain rfl : m = r := by omega
              have HR := Lib.hid hns
              clear hns hg hrow ho hw
              go_wp2
              go_roundw
              case rel => exact ⟨j + 1, by omega, by go_num, by rw [HFS.out]; go_num, HR.out⟩
              case measure => simp [intOf]; omega
        · obtain rfl : n = j := by omega
          have HNR := Lib.hid hns
          rw [HTN.out, Int.sub_self]
          obtain ⟨M2, HMM⟩ := named (mI + mS)
          have HM3 : Hid (M2 = (ofTo c.nodes [0, 14] n).length) := Lib.hid (HMM.out.trans HM2.out)
          clear hk hkn hj hjn hm0 hTl
          have hd2 : IntKind.i64.wrap ((mI : Int) + (mS : Int)) = (M2 : Int) := by have := HMM.out; exact (IntWalk.i64_in _ (by omega)).trans (by omega)
          clear hns
          have hce : ∀ w', BelW wr w' → BelW wr w' ∧ w'.cell? ⟨w.heap.size, 0, none⟩ = some (.slice A0 n c0) ∧ w'.cell? ⟨w.heap.size, 1, none⟩ = some (.slice A1 n1 c1) ∧ w'.cell? ⟨w.heap.size, 2, none⟩ = some (.slice A2 n2 c2) ∧ w'.cell? ⟨w.heap.size, 3, none⟩ = some (.slice A3 n3 c3) := fun w' h =>
            ⟨h, (HNR.out.next h).1.cells⟩
          have HCE := Lib.hid hce
          have hs0 : BelW wr wr := Below.refl _ _
          clear hce x0 x1 x2 x3
          go_wp2
          go_region_held3 (fun w' => BelW wr w' ∧ w'.cell? ⟨w.heap.size, 0, none⟩ = some (.slice A0 n c0) ∧ w'.cell? ⟨w.heap.size, 1, none⟩ = some (.slice A1 n1 c1) ∧ w'.cell? ⟨w.heap.size, 2, none⟩ = some (.slice A2 n2 c2) ∧ w'.cell? ⟨w.heap.size, 3, none⟩ = some (.slice A3 n3 c3))
            ((refine HCE.out _ ?_; first | (with_reducible assumption) | (refine BelW.drew ?_; with_reducible assumption) | (refine BelW.alloc ?_ _; with_reducible assumption) | (refine BelW.drew (BelW.alloc ?_ _); with_reducible assumption) | (refine BelW.alloc (BelW.drew ?_) _; with_reducible assumption)))
            (first
              | (go_at_call 26; (with_reducible refine (of_n HN.out HM3.out HS.out (NS.lc HNR.out) (by first | exact Below.refl _ _ | exact (Below.refl _ _).drew | exact below_new (Below.refl _ _) _ | exact (below_new (Below.refl _ _) _).drew | exact below_new (Below.refl _ _).drew _) (ksd2 _ 0 14 _)).mono ?_)
                 rintro e wA ⟨⟨AA, rfl, hi⟩, hb, hl⟩
                 have hsA : BelW wr wA := hb
                 have HLA := Lib.hid hl
                 clear hi hb hl)
              | (go_at_call 28; (with_reducible refine (ins_n HN.out HMI.out HS.out HLA.out (by first | exact Below.refl _ _ | exact (Below.refl _ _).drew | exact below_new (Below.refl _ _) _ | exact (below_new (Below.refl _ _) _).drew | exact below_new (Below.refl _ _).drew _)).mono ?_)
                 rintro e wB ⟨⟨AB, rfl, hi⟩, hb, hl⟩
                 have hsB : BelW wr wB := hsA.next hb
                 have HLB := Lib.hid hl
                 clear hi hb hl)
              | (go_at_call 29; (with_reducible refine (sts_n HN.out HMS.out HS.out HLB.out (by first | exact Below.refl _ _ | exact (Below.refl _ _).drew | exact below_new (Below.refl _ _) _ | exact (below_new (Below.refl _ _) _).drew | exact below_new (Below.refl _ _).drew _)).mono ?_)
                 rintro e wD ⟨⟨AD, rfl, hi⟩, hb, hl⟩
                 have hsD : BelW wr wD := hsB.next hb
                 have HLD := Lib.hid hl
                 clear hi hb hl)
              | (go_at_call 12; (with_reducible refine (lives_c HLD.out (by first | exact Below.refl _ _ | exact (Below.refl _ _).drew | exact below_new (Below.refl _ _) _ | exact (below_new (Below.refl _ _) _).drew | exact below_new (Below.refl _ _).drew _)).mono ?_)
                 rintro e wE ⟨rfl, hb⟩
                 have hsE : BelW wr wE := hsD.next hb
                 have HLE := Lib.hid (joinB HLD.out.bel hb)
                 clear hb))
          go_wp2
          go_ret
          exact ⟨rfl, HLE.out⟩
end Go.Proofs.YtjkcpffhokpaaaaDoor
