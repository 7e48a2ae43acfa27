/- The texts Lok. -/
import Derived.Test.YtcaikkfcjeojiaaDoorM21
namespace Go.Proofs.YtcaikkfcjeojiaaDoor
open Go.RowKit

def WdsAt (w : World) (B b p : Nat) (x : List Int) : Prop := ∃ A c, w.cell? ⟨b, p, none⟩ = some (.slice A x.length c) ∧ Ks w B (.slice A x.length c) x
/-- The slice value v reads as the list l of words. -/
def Wrds (w : World) (B : Nat) (v : Value) (l : List (List Int)) : Prop := Arr [] 1 WdsAt w B v l
theorem stays_wds : Stays WdsAt := fun w w' B B' b p x hb hB ⟨A, c, h1, h2⟩ hk => ⟨A, c, (hk ⟨b, p, none⟩ hb).trans h1, Arr.keep stays_u8 h2 hB hk⟩
/-- Look's loop: whether a word was found, and the word so far. -/
noncomputable def lkStep (ws : List (List Int)) (ad : List Int) (n : Nat) (s : Bool × List Int) (i : Nat) : Bool × List Int :=
  if mat ad i = true then (true, if s.1 = true then agL s.2 (bitsL (ws.getD i []) n) else bitsL (ws.getD i []) n) else s
noncomputable def lkS (ws : List (List Int)) (ad : List Int) (n k : Nat) : Bool × List Int := (List.range k).foldl (lkStep ws ad n) (false, List.replicate n 2)
theorem lkS_succ (ws : List (List Int)) (ad : List Int) (n k : Nat) : lkS ws ad n (k + 1) = lkStep ws ad n (lkS ws ad n k) k := by
  unfold lkS
  rw [List.range_succ, List.foldl_append]; rfl
theorem lkS_len (ws : List (List Int)) (ad : List Int) (n k : Nat) : (lkS ws ad n k).2.length = n := by
  induction k with
  | zero => exact List.length_replicate
  | succ k ih =>
    rw [lkS_succ]
    unfold lkStep
    split
    · show (if _ then _ else _ : List Int).length = n
      split
      · rw [agL_len]; exact ih
      · exact bitsL_len _ _
    · exact ih
set_option maxRecDepth 100000 in
set_option maxHeartbeats 8000000 in
theorem look_any (ws : List (List Int)) (ad : List Int) (A Aa : Option Addr) (m c ma ca n : Nat) (w : World) (B : Nat) (hB : B ≤ w.heap.size) (hw : Wrds w B (.slice A m c) ws) (ha : Ks w B (.slice Aa ma ca) ad) (hm : m ≤ 1000) (h0 : 0 < m) (hn : n = (ws.getD 0 []).length) (hn2 : n ≤ 1000000) :
    Calls Tryd.prog 16 #[.slice A m c, .slice Aa ma ca] w fun e w' => ∃ g, e = .returned (.slice (some ⟨g, 0, none⟩) n n) ∧ VRow w' g (lkS ws ad n m).2 ∧ BelW w w' := by
  obtain ⟨A', b, o, c', e, hA, -, -, hc⟩ := hw
  simp only [Value.slice.injEq] at e
  obtain ⟨rfl, hml, rfl⟩ := e
  rw [← hml] at hA hc
  obtain rfl := hA h0
  have HC : Hid (∀ k, k < m → ∃ A c k2, k2 = (ws.getD k []).length ∧ ∀ W, BelW w W → W.cell? ⟨b, o + k, none⟩ = some (.slice A k2 c) ∧ Ks W W.heap.size (.slice A k2 c) (ws.getD k [])) := Lib.hid fun k hk => by
    obtain ⟨hb, A, c, h1, h2⟩ := hc k hk
    rw [Nat.mul_one] at h1
    exact ⟨A, c, _, rfl, fun W h => ⟨(Below.cell h (p := ⟨b, o + k, none⟩) (Nat.lt_of_lt_of_le hb hB)).trans h1, Arr.keep stays_u8 h2 (Nat.le_trans hB (Below.size h)) fun _ hp => Below.cell h (Nat.lt_of_lt_of_le hp hB)⟩⟩
  have HM := Lib.hid (fun W (h : BelW w W) => (Arr.keep stays_u8 ha (Nat.le_trans hB (Below.size h)) fun _ hp => Below.cell h (Nat.lt_of_lt_of_le hp hB) : Ks W W.heap.size (.slice Aa ma ca) ad))
  obtain ⟨A0, d0, k0, hk0, hc0⟩ := HC.out 0 h0
  rw [← hn] at hk0
  subst hk0
  have f0 := (hc0 w (Below.refl _ _)).1
  rw [Nat.add_zero] at f0
  have HMT := Lib.hid (matcher_any Aa ma ca w)
  obtain ⟨W1, HW1⟩ := named (w.alloc (.cells #[.slice Aa ma ca] 23))
  have hb1 : BelW w W1 := by rw [HW1.out]; exact below_new (Below.refl _ _) _
  have hfa : Fr W1 w.heap.size 23 [.slice Aa ma ca] := by rw [HW1.out]; exact Fr.made _ _ _ rfl
  rw [← HW1.out] at HMT
  obtain ⟨q, HQ⟩ := named w.heap.size
  rw [← HQ.out] at HMT hfa
  have HB1 := Lib.hid hb1
  have HFA := Lib.hid hfa
  have HUN := Lib.hid (munk_any k0 hn2 W1)
  have HBT : Hid (∀ W A c m l, BelW w W → Ks W W.heap.size (.slice A m c) l → Calls Tryd.prog 21 #[.slice A m c, .int .i64 (k0 : Int)] W fun e w' => ∃ g, e = .returned (.slice (some ⟨g, 0, none⟩) k0 k0) ∧ VRow w' g (bitsL l k0) ∧ W.heap.size ≤ g ∧ BelW W w') := Lib.hid fun W A c m l _ h => bits_any l A m c k0 hn2 W W.heap.size (Nat.le_refl _) h
  have HMA : Hid (∀ W k, BelW W1 W → k < m → Calls Tryd.prog 35 #[.int .i64 (k : Int), .pointer (some ⟨q, 0, none⟩)] W fun e w' => e = .returned (.bool (mat ad k)) ∧ w' = W) := Lib.hid fun W k h hk =>
    match_any ad Aa ma ca k q W W.heap.size (Nat.le_refl _) (HM.out W (joinB HB1.out h)) ((HFA.out.below h).cell 0) (by omega) _ (mat_iff ad k)
  have h0' : ¬ (m : Int) = 0 := by omega
  have h1' : (0 : Int) < (m : Int) := by omega
  clear hc hml hA hc0 hn ha hb1 hfa
  go_enter Tryd.func16, Tryd.ntmps16
  go_wp2_with (first
    | (go_at_call 20; (with_reducible refine HMT.out.mono ?_); rintro e w2 ⟨rfl, hw2⟩; obtain rfl : W1 = w2 := hw2.symm)
    | (go_at_call 33; (with_reducible refine HUN.out.mono ?_); rintro e w3 ⟨g, rfl, hv, hg, hb⟩; have HV := Lib.hid hv; have HG : Hid (W1.heap.size ≤ g) := Lib.hid hg; have HB3 : Hid (BelW W1 w3) := Lib.hid hb; clear hv hg hb))
  go_loopw [7, 8, 24] (fun ov fv i wr => ∃ k g, k ≤ m ∧ i = .int .i64 k ∧ fv = .bool (lkS ws ad k0 k).1 ∧ ov = .slice (some ⟨g, 0, none⟩) k0 k0 ∧ VRow wr g (lkS ws ad k0 k).2 ∧ W1.heap.size ≤ g ∧ BelW W1 wr) (fun _ _ i _ => m - (intOf i).toNat)
  case atStart => exact ⟨0, g, Nat.zero_le _, rfl, rfl, rfl, HV.out, HG.out, HB3.out⟩
  case round =>
    obtain ⟨k, g, hk, rfl, rfl, rfl, hv, hg, hb⟩ := hrel
    have HVR := Lib.hid hv
    have HGR := Lib.hid hg
    have HBR := Lib.hid hb
    clear hv hg
    by_cases hlt : k < m
    · have hk2 : (k : Int) < (m : Int) := by omega
      obtain ⟨A2, d2, k2, hk2', hc2⟩ := HC.out k hlt
      have HC2 := Lib.hid hc2
      clear hc2 hk2'
      have f1 := (HC2.out wr (joinB HB1.out hb)).1
      have HS := Lib.hid (lkS_succ ws ad k0 k)
      have HMK := Lib.hid (HMA.out wr k hb hlt)
      have HLK := Lib.hid (lkS_len ws ad k0 k)
      have HBK := Lib.hid (HBT.out wr _ _ _ _ (joinB HB1.out hb) (HC2.out wr (joinB HB1.out hb)).2)
      obtain ⟨s, HSS⟩ := named (lkS ws ad k0 k)
      rw [← HSS.out] at HS HLK HVR ⊢
      obtain ⟨mb, HMB⟩ := named (mat ad k)
      unfold lkStep at HS
      rw [← HMB.out] at HMK HS
      obtain ⟨sf, so⟩ := s
      cases mb
      · have HS2 : Hid (lkS ws ad k0 (k + 1) = (sf, so)) := Lib.hid (by rw [HS.out]; rfl)
        go_wp2_with (go_at_call 35; (with_reducible refine HMK.out.mono ?_); rintro e w4 ⟨rfl, hw4⟩; obtain rfl : wr = w4 := hw4.symm)
        go_roundw
        case rel => exact ⟨k + 1, g, by omega, by go_num, by rw [HS2.out], rfl, by rw [HS2.out]; exact HVR.out, HGR.out, HBR.out⟩
        case measure => simp [intOf]; omega
      · cases sf
        · have HS2 : Hid (lkS ws ad k0 (k + 1) = (true, bitsL (ws.getD k []) k0)) := Lib.hid (by rw [HS.out]; rfl)
          go_wp2_with (first
            | (go_at_call 35; (with_reducible refine HMK.out.mono ?_); rintro e w4 ⟨rfl, hw4⟩; obtain rfl : wr = w4 := hw4.symm)
            | (go_at_call 21; (with_reducible refine HBK.out.mono ?_); rintro e w5 ⟨g5, rfl, hv5, hg5, hb5⟩; have HV5 := Lib.hid hv5; have HG5 := Lib.hid hg5; have HB5 : Hid (BelW wr w5) := Lib.hid hb5; clear hv5 hg5 hb5))
          go_roundw
          case rel => exact ⟨k + 1, g5, by omega, by go_num, by rw [HS2.out], rfl, by rw [HS2.out]; exact HV5.out, Nat.le_trans (Below.size HBR.out) HG5.out, joinB HBR.out HB5.out⟩
          case measure => simp [intOf]; omega
        · have HS2 : Hid (lkS ws ad k0 (k + 1) = (true, agL so (bitsL (ws.getD k []) k0))) := Lib.hid (by rw [HS.out]; rfl)
          go_wp2_with (first
            | (go_at_call 35; (with_reducible refine HMK.out.mono ?_); rintro e w4 ⟨rfl, hw4⟩; obtain rfl : wr = w4 := hw4.symm)
            | (go_at_call 21; (with_reducible refine HBK.out.mono ?_); rintro e w5 ⟨g5, rfl, hv5, hg5, hb5⟩; have HV5 := Lib.hid hv5; have HG5 := Lib.hid hg5; have HB5 : Hid (BelW wr w5) := Lib.hid hb5; have HAG := Lib.hid (agreed_any so (bitsL (ws.getD k []) k0) g g5 k0 w5 (HVR.out.below hb5) hv5 HLK.out (bitsL_len _ _) (by have := HVR.out.lt; omega)); clear hv5 hg5 hb5)
            | (go_at_call 22; (with_reducible refine HAG.out.mono ?_); rintro e w6 ⟨rfl, hv6, hg6⟩; have HV6 := Lib.hid hv6; have HG6 := Lib.hid hg6; clear hv6 hg6))
          go_roundw
          case rel => exact ⟨k + 1, g, by omega, by go_num, by rw [HS2.out], rfl, by rw [HS2.out]; exact HV6.out, HGR.out, bgrown (joinB HBR.out HB5.out) HG6.out HGR.out⟩
          case measure => simp [intOf]; omega
    · obtain rfl : m = k := by omega
      go_wp2
      go_ret
      exact ⟨g, rfl, HVR.out, joinB HB1.out HBR.out⟩
end Go.Proofs.YtcaikkfcjeojiaaDoor
