/- The texts Ste. -/
import Derived.Test.YtkaedfgmhfefjaaGreatDoorM24
namespace Go.Proofs.YtkaedfgmhfefjaaGreatDoor
open Go.RowKit
theorem SRow.put_cell {w : World} {D m k T : Nat} {f : Nat → List Int} (h : SRow w D f m k T) (hk : k < m) (x : Value) : (w.setCell ⟨D, k, none⟩ x).cell? ⟨D, k, none⟩ = some x := by
  obtain ⟨vs, gf, h1, h2, -⟩ := h
  rw [(h1.set k x).cell, List.getElem?_set]
  simp [h2, hk]
theorem info_vals : (Tryz.prog.info? 41).map (fun i => (i.zero, i.size, i.bytes)) = some (some (.slice none 0 0), 1, 24) := by kernel_rfl
theorem made_sl (n : Nat) : (madeCells #[Value.slice none 0 0] n).toList = List.replicate n (.slice none 0 0) := by
  apply List.ext_getElem?
  intro j
  by_cases hj : j < n
  · simp [madeCells, hj, Nat.mod_one]
  · rw [List.getElem?_eq_none (by simp [madeCells]; omega), List.getElem?_eq_none (by simp; omega)]
def certB (en : Int) (ad : List Int) : Bool := decide (en = 1) && !anyP unk ad
noncomputable def stW (ws : List (List Int)) (ad dt : List Int) (en : Int) (j : Nat) : List Int :=
  if en = 0 ∨ mat ad j = false then bitsL (ws.getD j []) (ws.getD j []).length
  else if certB en ad = true then bitsL dt (ws.getD j []).length
  else agL (bitsL (ws.getD j []) (ws.getD j []).length) (bitsL dt (ws.getD j []).length)
theorem stW_len (ws : List (List Int)) (ad dt : List Int) (en : Int) (j : Nat) : (stW ws ad dt en j).length = (ws.getD j []).length := by
  unfold stW
  split
  · exact bitsL_len _ _
  · split
    · exact bitsL_len _ _
    · rw [agL_len, bitsL_len]
set_option maxRecDepth 100000 in
set_option maxHeartbeats 8000000 in
theorem store_any (ws : List (List Int)) (ad dt : List Int) (en : Int) (A Aa Ad : Option Addr) (m c ma ca md cd : Nat) (w : World) (B : Nat) (hB : B ≤ w.heap.size) (hw : Wrds w B (.slice A m c) ws) (ha : Ks w B (.slice Aa ma ca) ad) (hd : Ks w B (.slice Ad md cd) dt) (hm : m ≤ 1000) (hn2 : ∀ k, k < m → (ws.getD k []).length ≤ 1000000) :
    Calls Tryz.prog 58 #[.slice A m c, .slice Aa ma ca, .slice Ad md cd, .int .u8 en] w fun e w' => ∃ D T, e = .returned (.slice (some ⟨D, 0, none⟩) m m) ∧ SRow w' D (stW ws ad dt en) m m T ∧ w.heap.size ≤ D ∧ BelW w w' := by
  obtain ⟨A', b, o, c', e, hA, -, -, hc⟩ := hw
  simp only [Value.slice.injEq] at e
  obtain ⟨rfl, hml, rfl⟩ := e
  rw [← hml] at hA hc
  have HA := Lib.hid hA
  have HC : Hid (∀ k, k < m → ∃ A c k2, k2 = (ws.getD k []).length ∧ ∀ W, BelW w W → W.cell? ⟨b, o + k, none⟩ = some (.slice A k2 c) ∧ Ks W W.heap.size (.slice A k2 c) (ws.getD k [])) := Lib.hid fun k hk => by
    obtain ⟨hb, A, c, h1, h2⟩ := hc k hk
    rw [Nat.mul_one] at h1
    exact ⟨A, c, _, rfl, fun W h => ⟨(Below.cell h (p := ⟨b, o + k, none⟩) (Nat.lt_of_lt_of_le hb hB)).trans h1, Arr.keep stays_u8 h2 (Nat.le_trans hB (Below.size h)) fun _ hp => Below.cell h (Nat.lt_of_lt_of_le hp hB)⟩⟩
  have HM := Lib.hid (fun W (h : BelW w W) => (Arr.keep stays_u8 ha (Nat.le_trans hB (Below.size h)) fun _ hp => Below.cell h (Nat.lt_of_lt_of_le hp hB) : Ks W W.heap.size (.slice Aa ma ca) ad))
  have HD := Lib.hid (fun W (h : BelW w W) => (Arr.keep stays_u8 hd (Nat.le_trans hB (Below.size h)) fun _ hp => Below.cell h (Nat.lt_of_lt_of_le hp hB) : Ks W W.heap.size (.slice Ad md cd) dt))
  have HCF := Lib.hid (containsU_any ad (.slice Aa ma ca) w B ha)
  obtain ⟨cu, HCU⟩ := named (anyP unk ad)
  rw [← HCU.out] at HCF
  obtain ⟨cb, HCB⟩ := named (certB en ad)
  have HCE : Hid (cb = (decide (en = 1) && !cu)) := Lib.hid (by rw [HCB.out, HCU.out]; rfl)
  have HMT := Lib.hid (matcher_any Aa ma ca w)
  obtain ⟨W1, HW1⟩ := named (w.alloc (.cells #[.slice Aa ma ca] 41))
  have hb1 : BelW w W1 := by rw [HW1.out]; exact below_new (Below.refl _ _) _
  have hfa : Fr W1 w.heap.size 41 [.slice Aa ma ca] := by rw [HW1.out]; exact Fr.made _ _ _ rfl
  rw [← HW1.out] at HMT
  obtain ⟨q, HQ⟩ := named w.heap.size
  rw [← HQ.out] at HMT hfa
  have HB1 := Lib.hid hb1
  have HFA := Lib.hid hfa
  have HN2 := Lib.hid hn2
  have HMA : Hid (∀ W k, BelW W1 W → k < m → Calls Tryz.prog 131 #[.int .i64 (k : Int), .pointer (some ⟨q, 0, none⟩)] W fun e w' => e = .returned (.bool (mat ad k)) ∧ w' = W) := Lib.hid fun W k h hk =>
    match_any ad Aa ma ca k q W W.heap.size (Nat.le_refl _) (HM.out W (joinB HB1.out h)) ((HFA.out.below h).cell 0) (by omega) _ (mat_iff ad k)
  obtain ⟨i0, hi0, hz0, hz1, hz2⟩ := info_parts info_vals
  have HI := Lib.hid (And.intro hi0 (And.intro hz0 (And.intro hz1 hz2)))
  clear hc hml hA ha hd hb1 hfa hn2 hi0 hz0 hz1 hz2
  go_enter Tryz.func58, Tryz.ntmps58
  go_upto_region 1 with (fail)
  go_cut [9] (fun v wx => v = .bool cb ∧ wx = w)
  case first =>
    by_cases he : en = 1
    · subst he
      go_wp2_with (go_at_call 81; (with_reducible refine HCF.out.mono ?_); rintro e w' ⟨rfl, rfl⟩)
      go_meet
      case rel => exact ⟨by rw [HCE.out]; rfl, rfl⟩
    · go_wp2_with (fail)
      go_meet
      case rel => exact ⟨by rw [HCE.out]; simp [he], rfl⟩
  case rest =>
    obtain ⟨rfl, hwx⟩ := hcut
    obtain rfl : w = wc := hwx.symm
    go_wp2_with (first
      | (go_at_call 101; (with_reducible refine HMT.out.mono ?_); rintro e w2 ⟨rfl, hw2⟩; obtain rfl : W1 = w2 := hw2.symm)
      | (at_make; refine wpList_make_full _ rfl _ _ 43 rfl W1.heap.size 41 i0 (.slice none 0 0) 1 Tryz.underlying43 HI.out.1 HI.out.2.1 HI.out.2.2.1 .i64 .i64 _ _ m rfl rfl rfl rfl ?b2 ?b3 ?b4 ?_))
    case b2 => rw [HI.out.2.2.2]; omega
    case b3 => unfold maxLen; omega
    case b4 => exact Nat.le_refl _
    intro w3 hown hgr
    rw [made_sl] at hown
    have hb3 : BelW W1 w3 := (Below.refl _ _).grown hgr (Nat.le_refl _) (fun k h => by cases h)
    have HR3 : Hid (SRow w3 W1.heap.size (stW ws ad dt en) m 0 W1.heap.size) := Lib.hid (SRow.of hown)
    have HB3 := Lib.hid hb3
    obtain ⟨D, HDD⟩ := named W1.heap.size
    rw [← HDD.out] at HR3
    rw [← HDD.out]
    clear hown hgr hb3
    go_wp2
    go_loopw [28] (fun i wr => ∃ k T, k ≤ m ∧ i = .int .i64 k ∧ SRow wr D (stW ws ad dt en) m k T ∧ T ≤ wr.heap.size ∧ BelW W1 wr) (fun i _ => m - (intOf i).toNat)
    case atStart => exact ⟨0, _, Nat.zero_le _, rfl, HR3.out, by rw [HDD.out]; exact Below.size HB3.out, HB3.out⟩
    case round =>
      obtain ⟨k, T, hk, rfl, hr, ht, hb⟩ := hrel
      have HR := Lib.hid hr
      have HT := Lib.hid ht
      have HBR := Lib.hid hb
      clear hr ht
      by_cases hlt : k < m
      · obtain rfl := HA.out (by omega)
        have hk2 : (k : Int) < (m : Int) := by omega
        obtain ⟨A2, d2, k2, hk2', hc2⟩ := HC.out k hlt
        have HC2 := Lib.hid hc2
        have HK2 := Lib.hid hk2'
        have hle := HN2.out k hlt
        rw [← hk2'] at hle
        clear hc2 hk2'
        obtain ⟨f1, f2⟩ := HC2.out wr (joinB HB1.out hb)
        have HBW := Lib.hid (bits_any (ws.getD k []) A2 k2 d2 k2 hle wr wr.heap.size (Nat.le_refl _) f2)
        have HMK := Lib.hid (fun W h => HMA.out W k h hlt)
        have HFK : Hid (stW ws ad dt en k = if en = 0 ∨ mat ad k = false then bitsL (ws.getD k []) k2 else if cb = true then bitsL dt k2 else agL (bitsL (ws.getD k []) k2) (bitsL dt k2)) := Lib.hid (by rw [HCB.out, HK2.out]; rfl)
        have HFL : Hid ((stW ws ad dt en k).length = k2) := Lib.hid (by rw [stW_len]; exact HK2.out.symm)
        obtain ⟨x, HX⟩ := named (bitsL (ws.getD k []) k2)
        rw [← HX.out] at HBW HFK
        obtain ⟨mb, HMB⟩ := named (mat ad k)
        rw [← HMB.out] at HMK HFK
        have hD : D < wr.heap.size := HR.out.lt
        clear f2
        have HST : Hid (∀ w5 g5, BelW wr w5 → VRow w5 g5 x → wr.heap.size ≤ g5 → stW ws ad dt en k = x → SRow (w5.setCell ⟨D, k, none⟩ (.slice (some ⟨g5, 0, none⟩) k2 k2)) D (stW ws ad dt en) m (k + 1) w5.heap.size ∧ w5.heap.size ≤ (w5.setCell ⟨D, k, none⟩ (.slice (some ⟨g5, 0, none⟩) k2 k2)).heap.size ∧ BelW W1 (w5.setCell ⟨D, k, none⟩ (.slice (some ⟨g5, 0, none⟩) k2 k2))) := Lib.hid fun w5 g5 h5 hv hg e => by
          have := (HR.out.below h5).step (T' := w5.heap.size) (Nat.le_trans HT.out (Below.size h5)) hlt (g := g5) (by rw [e]; exact hv) (by omega) hv.lt (Nat.le_trans HT.out hg)
          rw [HFL.out] at this
          exact ⟨this, by simp [World.setCell], (joinB HBR.out h5).setCell (p := ⟨D, k, none⟩) (by show W1.heap.size ≤ D; rw [HDD.out]; exact Nat.le_refl _) _⟩
        by_cases he0 : en = 0
        · subst he0
          go_wp2_with (go_at_call 86; (with_reducible refine HBW.out.mono ?_); rintro e w5 ⟨g5, rfl, hv5, hg5, hb5⟩; have HS5 := Lib.hid (HST.out w5 g5 hb5 hv5 hg5 (by rw [HFK.out, if_pos (.inl rfl)])); have hfz := (HR.out.below hb5).frozen k; obtain ⟨u5, hu5⟩ := (HR.out.below hb5).there hlt; clear hv5 hg5 hb5)
          go_roundw
          case rel => exact ⟨k + 1, _, by omega, by go_num, HS5.out.1, HS5.out.2.1, HS5.out.2.2⟩
          case measure => simp [intOf]; omega
        · have HB5' : Hid (∀ w5 g5, BelW wr w5 → BelW W1 (w5.setCell ⟨D, k, none⟩ (.slice (some ⟨g5, 0, none⟩) k2 k2))) := Lib.hid fun w5 g5 h5 => (joinB HBR.out h5).setCell (p := ⟨D, k, none⟩) (by show W1.heap.size ≤ D; rw [HDD.out]; exact Nat.le_refl _) _
          cases mb
          · go_wp2_with (first
              | (go_at_call 86; (with_reducible refine HBW.out.mono ?_); rintro e w5 ⟨g5, rfl, hv5, hg5, hb5⟩; have HS5 := Lib.hid (HST.out w5 g5 hb5 hv5 hg5 (by rw [HFK.out, if_pos (.inr rfl)])); have HB5 := Lib.hid (HB5'.out w5 g5 hb5); have hfz := (HR.out.below hb5).frozen k; obtain ⟨u5, hu5⟩ := (HR.out.below hb5).there hlt; clear hv5 hg5 hb5)
              | (go_at_call 131; (with_reducible refine (HMK.out _ HB5.out).mono ?_); rintro e w7 ⟨rfl, hw7⟩; subst hw7))
            go_roundw
            case rel => exact ⟨k + 1, _, by omega, by go_num, HS5.out.1, HS5.out.2.1, HS5.out.2.2⟩
            case measure => simp [intOf]; omega
          · have HFK2 : Hid (stW ws ad dt en k = if cb = true then bitsL dt k2 else agL x (bitsL dt k2)) := Lib.hid (by rw [HFK.out, if_neg (by simp [he0])])
            have HBD : Hid (∀ W, BelW w W → Calls Tryz.prog 86 #[.slice Ad md cd, .int .i64 (k2 : Int)] W fun e w' => ∃ g, e = .returned (.slice (some ⟨g, 0, none⟩) k2 k2) ∧ VRow w' g (bitsL dt k2) ∧ W.heap.size ≤ g ∧ BelW W w') := Lib.hid fun W h => bits_any dt Ad md cd k2 hle W W.heap.size (Nat.le_refl _) (HD.out W h)
            obtain ⟨y, HY⟩ := named (bitsL dt k2)
            rw [← HY.out] at HFK2 HBD
            cases cb
            · go_upto_region 8 with (first
                | (go_at_call 86; (with_reducible refine HBW.out.mono ?_); rintro e w5 ⟨g5, rfl, hv5, hg5, hb5⟩; have HB5 := Lib.hid (HB5'.out w5 g5 hb5); have HP5 := Lib.hid ((HR.out.below hb5).put (.slice (some ⟨g5, 0, none⟩) k2 k2)); have HL5 : Hid (wr.heap.size ≤ w5.heap.size) := Lib.hid (Below.size hb5); have HV5 := Lib.hid (hv5.other (a := ⟨D, k, none⟩) (by show D ≠ g5; omega) (.slice (some ⟨g5, 0, none⟩) k2 k2)); have HG5 := Lib.hid hg5; have HCD := Lib.hid ((HR.out.below hb5).put_cell hlt (.slice (some ⟨g5, 0, none⟩) k2 k2)); have hfz := (HR.out.below hb5).frozen k; obtain ⟨u5, hu5⟩ := (HR.out.below hb5).there hlt; clear hv5 hg5 hb5)
                | (go_at_call 131; (with_reducible refine (HMK.out _ HB5.out).mono ?_); rintro e w7 ⟨rfl, hw7⟩; subst hw7))
              have hcD : (w5.setCell ⟨D, k, none⟩ (.slice (some ⟨g5, 0, none⟩) k2 k2)).cell? ⟨D, k, none⟩ = some (.slice (some ⟨g5, 0, none⟩) k2 k2) := HCD.out
              obtain ⟨V6, HV6⟩ := named (w5.setCell ⟨D, k, none⟩ (.slice (some ⟨g5, 0, none⟩) k2 k2))
              rw [← HV6.out] at HB5 HP5 HV5 hcD ⊢
              clear hfz hu5
              have hsV : BelW W1 V6 ∧ V6.cell? ⟨D, k, none⟩ = some (.slice (some ⟨g5, 0, none⟩) k2 k2) := ⟨HB5.out, hcD⟩
              have hw6 : BelW w V6 := joinB HB1.out HB5.out
              have hDV : D < V6.heap.size := HP5.out.lt
              have hDg : D ≠ g5 := by have := HG5.out; omega
              have HXL : Hid (x.length = k2) := Lib.hid (by rw [HX.out, bitsL_len])
              have HYL : Hid (y.length = k2) := Lib.hid (by rw [HY.out, bitsL_len])
              go_region_held3 (fun w' => BelW W1 w' ∧ w'.cell? ⟨D, k, none⟩ = some (.slice (some ⟨g5, 0, none⟩) k2 k2))
                (first | exact hsV | exact ⟨BelW.drew hsV.1, hsV.2⟩ | exact hs9 | exact hs8 | exact ⟨BelW.drew hs8.1, hs8.2⟩)
                (first
                  | (go_at_call 86; (with_reducible refine Calls.mono (HBD.out _ ?_) ?_); · (first | exact hw6 | exact BelW.drew hw6)
                     rintro e w8 ⟨g6, rfl, hv6, hg6, hb6⟩
                     have hb6' : BelW V6 w8 := (by refine BelW.next ?_ hb6; first | exact Below.refl _ _ | exact BelW.drew (Below.refl _ _))
                     have hs8 : BelW W1 w8 ∧ w8.cell? ⟨D, k, none⟩ = some (.slice (some ⟨g5, 0, none⟩) k2 k2) := ⟨joinB hsV.1 hb6', (Below.cell hb6' (p := ⟨D, k, none⟩) hDV).trans hsV.2⟩
                     have HAG := Lib.hid (agreed_any x y g5 g6 k2 w8 (HV5.out.below hb6') hv6 HXL.out HYL.out (by have h1 := HV5.out.lt; have h2 : V6.heap.size ≤ g6 := hg6; omega)))
                  | (go_at_call 103; (with_reducible refine Calls.mono HAG.out ?_)
                     rintro e w9 ⟨rfl, hv9, hg9⟩
                     have hs9 : BelW W1 w9 ∧ w9.cell? ⟨D, k, none⟩ = some (.slice (some ⟨g5, 0, none⟩) k2 k2) := ⟨bgrown hs8.1 hg9 (by have h1 := HG5.out; have h2 := Below.size HBR.out; omega), hg9.cell hs8.2 (by simpa using hDg)⟩))
              have HS9 : Hid (SRow w9 D (stW ws ad dt en) m (k + 1) w9.heap.size) := Lib.hid (by
                have h1 : T ≤ g5 := Nat.le_trans HT.out HG5.out
                have h2 := ((HP5.out.below hb6').grown hg9 h1 hDg)
                refine h2.count (Nat.le_trans HT.out (Nat.le_trans HL5.out ?_)) (g := g5) ?_ ?_ (by have h7 := HG5.out; have h8 := HR.out.lt; omega) hv9.lt h1
                · have h3 := Below.size hb6'; have h4 := hg9.size; have h5 : w5.heap.size = V6.heap.size := by rw [HV6.out]; simp [World.setCell]
                  omega
                · rw [HFL.out]; exact hs9.2
                · rw [HFK2.out]; exact hv9)
              have HBS := Lib.hid hs9.1
              go_wp2
              go_roundw
              case rel => exact ⟨k + 1, _, by omega, by go_num, HS9.out, Nat.le_refl _, HBS.out⟩
              case measure => simp [intOf]; omega
            · go_wp2_with (first
                | (go_at_call 86; (with_reducible refine HBW.out.mono ?_); rintro e w5 ⟨g5, rfl, hv5, hg5, hb5⟩; have HB5 := Lib.hid (HB5'.out w5 g5 hb5); have HP5 := Lib.hid ((HR.out.below hb5).put (.slice (some ⟨g5, 0, none⟩) k2 k2)); have HL5 : Hid (wr.heap.size ≤ w5.heap.size) := Lib.hid (Below.size hb5); have hfz := (HR.out.below hb5).frozen k; obtain ⟨u5, hu5⟩ := (HR.out.below hb5).there hlt; have HBD5 := Lib.hid (HBD.out _ (joinB HB1.out (HB5'.out w5 g5 hb5))); clear hv5 hg5 hb5)
                | (go_at_call 131; (with_reducible refine (HMK.out _ HB5.out).mono ?_); rintro e w7 ⟨rfl, hw7⟩; subst hw7)
                | (go_at_call 86; (with_reducible refine HBD5.out.mono ?_); rintro e w8 ⟨g6, rfl, hv6, hg6, hb6⟩; have HP8 := Lib.hid (HP5.out.below hb6); have HV6 := Lib.hid hv6; have HG6 : Hid (w5.heap.size ≤ g6) := Lib.hid (by simpa [World.setCell] using hg6); have HB8 : Hid (BelW W1 w8) := Lib.hid (joinB HB5.out hb6); have HL8 : Hid (wr.heap.size ≤ w8.heap.size) := Lib.hid (by have h := Below.size hb6; have := HL5.out; simp [World.setCell] at h; omega); clear hfz hu5; have hfz := HP8.out.frozen k; obtain ⟨u6, hu6⟩ := HP8.out.there hlt; clear hv6 hg6 hb6))
              have HS9 : Hid (SRow (w8.setCell ⟨D, k, none⟩ (.slice (some ⟨g6, 0, none⟩) k2 k2)) D (stW ws ad dt en) m (k + 1) w8.heap.size) := Lib.hid (by
                have := HP8.out.step (T' := w8.heap.size) (Nat.le_trans HT.out HL8.out) hlt (g := g6) (by rw [HFK2.out]; exact HV6.out) (by have := HL5.out; have := HG6.out; omega) HV6.out.lt (by have := HL5.out; have := HG6.out; have := HT.out; omega)
                rw [HFL.out] at this
                exact this)
              go_roundw
              case rel => exact ⟨k + 1, _, by omega, by go_num, HS9.out, by simp [World.setCell], HB8.out.setCell (p := ⟨D, k, none⟩) (by show W1.heap.size ≤ D; rw [HDD.out]; exact Nat.le_refl _) _⟩
              case measure => simp [intOf]; omega
      · obtain rfl : m = k := by omega
        go_wp2
        go_ret
        exact ⟨D, T, rfl, HR.out, by rw [HDD.out]; exact Below.size HB1.out, joinB HB1.out HBR.out⟩
end Go.Proofs.YtkaedfgmhfefjaaGreatDoor
