/- The texts Ab9. -/
import Derived.Test.YtkaedfgmhfefjaaGreatDoorM31
import Derived.Test.YtkaedfgmhfefjaaGreatDoorM38
import Derived.Test.YtkaedfgmhfefjaaGreatDoorM16
import Derived.Deep.AppendLies
namespace Go.Proofs.YtkaedfgmhfefjaaGreatDoor
open Go.RowKit

def abw (s t : Stt) (k i : Nat) : List (List Int) := (List.range i).map fun i => joinL ((s.words.getD k []).getD i []) ((t.words.getD k []).getD i [])
def abW (s t : Stt) (k : Nat) : List (List (List Int)) := (List.range k).map fun k => abw s t k (s.words.getD k []).length
def abR (s t : Stt) (k : Nat) : List (List Int) := (List.range k).map fun k => joinL (s.read.getD k []) (t.read.getD k [])
theorem abw_len (s t : Stt) (k i : Nat) : (abw s t k i).length = i := by simp [abw]
theorem abW_len (s t : Stt) (k : Nat) : (abW s t k).length = k := by simp [abW]
theorem abR_len (s t : Stt) (k : Nat) : (abR s t k).length = k := by simp [abR]
theorem abw_succ (s t : Stt) (k i : Nat) : abw s t k (i + 1) = abw s t k i ++ [joinL ((s.words.getD k []).getD i []) ((t.words.getD k []).getD i [])] := by simp [abw, List.range_succ]
theorem abW_succ (s t : Stt) (k : Nat) : abW s t (k + 1) = abW s t k ++ [abw s t k (s.words.getD k []).length] := by simp [abW, List.range_succ]
theorem abR_succ (s t : Stt) (k : Nat) : abR s t (k + 1) = abR s t k ++ [joinL (s.read.getD k []) (t.read.getD k [])] := by simp [abR, List.range_succ]
theorem above_eq {s t : Stt} {m : Nat} (h : s.words.length = m) : aboveS s t = ⟨joinL s.dff t.dff, abW s t m, abR s t m⟩ := by subst h; rfl
theorem Wrds.at9 {w : World} {B : Nat} {A : Option Addr} {n c : Nat} {ws : List (List Int)} (h : Wrds w B (.slice A n c) ws) {i : Nat} (hi : i < n) : ∃ b o Aw cw, A = some ⟨b, o, none⟩ ∧ b < B ∧ w.cell? ⟨b, o + i, none⟩ = some (.slice Aw (ws.getD i []).length cw) ∧ Ks w B (.slice Aw (ws.getD i []).length cw) (ws.getD i []) := by
  obtain ⟨A', b, o, c', e, hA, -, -, hc⟩ := h
  simp only [Value.slice.injEq] at e
  obtain ⟨rfl, hn, rfl⟩ := e
  obtain ⟨hb, Aw, cw, h1, h2⟩ := hc i (by omega)
  rw [Nat.mul_one] at h1
  exact ⟨b, o, Aw, cw, hA (by omega), hb, h1, h2⟩
theorem Wwss.at9 {w : World} {B : Nat} {A : Option Addr} {n c : Nat} {ws : List (List (List Int))} (h : Wwss w B (.slice A n c) ws) {k : Nat} (hk : k < n) : ∃ b o Aw cw, A = some ⟨b, o, none⟩ ∧ b < B ∧ w.cell? ⟨b, o + k, none⟩ = some (.slice Aw (ws.getD k []).length cw) ∧ Wrds w B (.slice Aw (ws.getD k []).length cw) (ws.getD k []) := by
  obtain ⟨A', b, o, c', e, hA, -, -, hc⟩ := h
  simp only [Value.slice.injEq] at e
  obtain ⟨rfl, hn, rfl⟩ := e
  obtain ⟨hb, Aw, cw, h1, h2⟩ := hc k (by omega)
  rw [Nat.mul_one] at h1
  exact ⟨b, o, Aw, cw, hA (by omega), hb, h1, h2⟩
set_option maxRecDepth 100000 in
set_option maxHeartbeats 8000000 in
theorem above9_any (c : Ck) (s t : Stt) (S0 S1 S2 T0 T1 T2 : Option Addr) (ns m d0 d1 d2 e0 e1 e2 : Nat) (w : World) (hS : StR w w.heap.size S0 S1 S2 ns m m d0 d1 d2 s) (hT : StR w w.heap.size T0 T1 T2 ns m m e0 e1 e2 t) (F : FitS c ns m s) (G : FitS c ns m t) (hns1 : ns ≤ 1000000) (hm1 : m ≤ 1000)
    (hp : ∀ k, k < m → blN c.mems k ≤ 1000 ∧ (c.mems.getD k default).data.length ≤ 1000) :
    Calls Tryz.prog 24 #[.agg #[.slice S0 ns d0, .slice S1 m d1, .slice S2 m d2], .agg #[.slice T0 ns e0, .slice T1 m e1, .slice T2 m e2]] w fun e w' => ∃ A7 c7 Aa1 ca1 Aa2 ca2, e = .returned (.agg #[.slice A7 ns c7, .slice Aa1 m ca1, .slice Aa2 m ca2]) ∧ OwnS w' w.heap.size A7 Aa1 Aa2 ns m m c7 ca1 ca2 (aboveS s t) ∧ BelW w w' := by
  obtain ⟨W0, HW0⟩ := named (((w.alloc (.cells #[.slice S0 ns d0, .slice S1 m d1, .slice S2 m d2] 45)).alloc (.cells #[.slice T0 ns e0, .slice T1 m e1, .slice T2 m e2] 45)).alloc (.cells #[.slice none 0 0, .slice none 0 0, .slice none 0 0] 45))
  have hb0 : BelW w W0 := by rw [HW0.out]; exact below_new (below_new (below_new (Below.refl _ _) _) _) _
  have hfs : Fr W0 w.heap.size 45 [.slice S0 ns d0, .slice S1 m d1, .slice S2 m d2] := by rw [HW0.out]; exact Fr.alloc (Fr.alloc (Fr.made _ [.slice S0 ns d0, .slice S1 m d1, .slice S2 m d2] _ rfl) _) _
  have hft : Fr W0 (w.heap.size + 1) 45 [.slice T0 ns e0, .slice T1 m e1, .slice T2 m e2] := by rw [HW0.out]; exact Fr.alloc (Fr.made _ [.slice T0 ns e0, .slice T1 m e1, .slice T2 m e2] _ (by simp)) _
  have hfr : Fr W0 (w.heap.size + 1 + 1) 45 [.slice none 0 0, .slice none 0 0, .slice none 0 0] := by rw [HW0.out]; exact Fr.made _ [.slice none 0 0, .slice none 0 0, .slice none 0 0] _ (by simp)
  have hsz0 : W0.heap.size = w.heap.size + 1 + 1 + 1 := by rw [HW0.out]; simp
  obtain ⟨q, HQ⟩ := named w.heap.size
  rw [← HQ.out] at hfs hft hfr hsz0
  have HSZ0 := Lib.hid hsz0
  have HQW : Hid (w.heap.size ≤ q) := Lib.hid (by rw [HQ.out]; exact Nat.le_refl _)
  have HCE : Hid (∀ W, BelW W0 W → W.cell? ⟨q, 0, none⟩ = some (.slice S0 ns d0) ∧ W.cell? ⟨q, 1, none⟩ = some (.slice S1 m d1) ∧ W.cell? ⟨q, 2, none⟩ = some (.slice S2 m d2) ∧ W.cell? ⟨q + 1, 0, none⟩ = some (.slice T0 ns e0) ∧ W.cell? ⟨q + 1, 1, none⟩ = some (.slice T1 m e1) ∧ W.cell? ⟨q + 1, 2, none⟩ = some (.slice T2 m e2)) := Lib.hid fun W h => ⟨(hfs.below h).cell 0, (hfs.below h).cell 1, (hfs.below h).cell 2, (hft.below h).cell 0, (hft.below h).cell 1, (hft.below h).cell 2⟩
  have HB0 : Hid (∀ W, BelW W0 W → BelW w W) := Lib.hid fun W h => joinB hb0 h
  -- the join of two lists that were there
  have HJN : Hid (∀ (W : World) (B n : Nat) (l b : List Int) (A Ab : Option Addr) (cl cb : Nat), BelW W0 W → B ≤ W.heap.size → n ≤ 1000000 → l.length = n → Ks w w.heap.size (.slice A n cl) l → Ks w w.heap.size (.slice Ab n cb) b → Calls Tryz.prog 65 #[.slice A n cl, .slice Ab n cb] W fun e w' => ∃ A c, e = .returned (.slice A n c) ∧ VStk w' B (.slice A n c) (joinL l b) ∧ BelW W w') := Lib.hid fun W B n l b A Ab cl cb h hBW hn hl h1 h2 => by
    have hbw := joinB hb0 h
    refine (join9_any l b A Ab n cl n cb W W.heap.size (Nat.le_refl _) (Arr.keep stays_u8 h1 (Below.size hbw) fun _ hp => Below.cell hbw hp) (Arr.keep stays_u8 h2 (Below.size hbw) fun _ hp => Below.cell hbw hp) (Nat.le_refl _) hn).mono fun e w' ⟨v, he, hv, hb⟩ => ?_
    obtain ⟨A9, c9, rfl, -⟩ := hv.form
    have hv := hv.low hBW
    rw [joinL_len, hl] at he hv
    exact ⟨A9, c9, he, hv, hb⟩
  have HJ0 : Hid (∀ W, BelW W0 W → Calls Tryz.prog 65 #[.slice S0 ns d0, .slice T0 ns e0] W fun e w' => ∃ A c, e = .returned (.slice A ns c) ∧ VStk w' W0.heap.size (.slice A ns c) (joinL s.dff t.dff) ∧ BelW W w') := Lib.hid fun W h => HJN.out W W0.heap.size ns s.dff t.dff S0 T0 d0 e0 h (Below.size h) hns1 F.dl hS.sd hT.sd
  -- the words of memory k
  have HWD : Hid (∀ k, k < m → ∃ b1 o1 b2 o2 Ak Bk ck bk, S1 = some ⟨b1, o1, none⟩ ∧ T1 = some ⟨b2, o2, none⟩ ∧ (∀ W, BelW W0 W → W.cell? ⟨b1, o1 + k, none⟩ = some (.slice Ak (blN c.mems k) ck) ∧ W.cell? ⟨b2, o2 + k, none⟩ = some (.slice Bk (blN c.mems k) bk)) ∧
      ∀ i, i < blN c.mems k → ∃ b3 o3 b4 o4 Ai Bi ci bi, Ak = some ⟨b3, o3, none⟩ ∧ Bk = some ⟨b4, o4, none⟩ ∧ (∀ W, BelW W0 W → W.cell? ⟨b3, o3 + i, none⟩ = some (.slice Ai (c.mems.getD k default).data.length ci) ∧ W.cell? ⟨b4, o4 + i, none⟩ = some (.slice Bi (c.mems.getD k default).data.length bi)) ∧ (joinL ((s.words.getD k []).getD i []) ((t.words.getD k []).getD i [])).length = (c.mems.getD k default).data.length ∧
        ∀ (W : World) (B : Nat), BelW W0 W → B ≤ W.heap.size → Calls Tryz.prog 65 #[.slice Ai (c.mems.getD k default).data.length ci, .slice Bi (c.mems.getD k default).data.length bi] W fun e w' => ∃ A cc, e = .returned (.slice A (c.mems.getD k default).data.length cc) ∧ VStk w' B (.slice A (c.mems.getD k default).data.length cc) (joinL ((s.words.getD k []).getD i []) ((t.words.getD k []).getD i [])) ∧ BelW W w') := Lib.hid fun k hk => by
    obtain ⟨f1, f2⟩ := F.wk k hk
    obtain ⟨g1, g2⟩ := G.wk k hk
    obtain ⟨b1, o1, Ak, ck, hA1, hb1, hc1, hW1⟩ := hS.sw.at9 hk
    obtain ⟨b2, o2, Bk, bk, hA2, hb2, hc2, hW2⟩ := hT.sw.at9 hk
    rw [f1] at hc1 hW1
    rw [g1] at hc2 hW2
    refine ⟨b1, o1, b2, o2, Ak, Bk, ck, bk, hA1, hA2, fun W h => ⟨((joinB hb0 h).cell (p := ⟨b1, _, none⟩) hb1).trans hc1, ((joinB hb0 h).cell (p := ⟨b2, _, none⟩) hb2).trans hc2⟩, fun i hi => ?_⟩
    obtain ⟨f3, -⟩ := f2 i hi
    obtain ⟨g3, -⟩ := g2 i hi
    obtain ⟨b3, o3, Ai, ci, hA3, hb3, hc3, hK3⟩ := hW1.at9 hi
    obtain ⟨b4, o4, Bi, bi, hA4, hb4, hc4, hK4⟩ := hW2.at9 hi
    rw [f3] at hc3 hK3
    rw [g3] at hc4 hK4
    refine ⟨b3, o3, b4, o4, Ai, Bi, ci, bi, hA3, hA4, fun W h => ⟨((joinB hb0 h).cell (p := ⟨b3, _, none⟩) hb3).trans hc3, ((joinB hb0 h).cell (p := ⟨b4, _, none⟩) hb4).trans hc4⟩, by rw [joinL_len, f3], fun W B h hB => HJN.out W B _ _ _ Ai Bi ci bi h hB (by have := (hp k hk).2; omega) f3 hK3 hK4⟩
  -- the word read of memory k
  have HRD : Hid (∀ k, k < m → ∃ b1 o1 b2 o2 Ai Bi ci bi, S2 = some ⟨b1, o1, none⟩ ∧ T2 = some ⟨b2, o2, none⟩ ∧ (∀ W, BelW W0 W → W.cell? ⟨b1, o1 + k, none⟩ = some (.slice Ai (c.mems.getD k default).data.length ci) ∧ W.cell? ⟨b2, o2 + k, none⟩ = some (.slice Bi (c.mems.getD k default).data.length bi)) ∧ (joinL (s.read.getD k []) (t.read.getD k [])).length = (c.mems.getD k default).data.length ∧
        ∀ (W : World) (B : Nat), BelW W0 W → B ≤ W.heap.size → Calls Tryz.prog 65 #[.slice Ai (c.mems.getD k default).data.length ci, .slice Bi (c.mems.getD k default).data.length bi] W fun e w' => ∃ A cc, e = .returned (.slice A (c.mems.getD k default).data.length cc) ∧ VStk w' B (.slice A (c.mems.getD k default).data.length cc) (joinL (s.read.getD k []) (t.read.getD k [])) ∧ BelW W w') := Lib.hid fun k hk => by
    obtain ⟨f3, -⟩ := F.rk k hk
    obtain ⟨g3, -⟩ := G.rk k hk
    obtain ⟨b3, o3, Ai, ci, hA3, hb3, hc3, hK3⟩ := hS.sr.at9 hk
    obtain ⟨b4, o4, Bi, bi, hA4, hb4, hc4, hK4⟩ := hT.sr.at9 hk
    rw [f3] at hc3 hK3
    rw [g3] at hc4 hK4
    exact ⟨b3, o3, b4, o4, Ai, Bi, ci, bi, hA3, hA4, fun W h => ⟨((joinB hb0 h).cell (p := ⟨b3, _, none⟩) hb3).trans hc3, ((joinB hb0 h).cell (p := ⟨b4, _, none⟩) hb4).trans hc4⟩, by rw [joinL_len, f3], fun W B h hB => HJN.out W B _ _ _ Ai Bi ci bi h hB (by have := (hp k hk).2; omega) f3 hK3 hK4⟩
  have HWL : Hid (∀ k, k < m → (s.words.getD k []).length = blN c.mems k) := Lib.hid fun k hk => (F.wk k hk).1
  have HEQ := Lib.hid (above_eq (t := t) F.wl)
  have HPK := Lib.hid hp
  obtain ⟨i2, hj1, hj2, hj3, hj4⟩ := info_parts info_vals
  have HJ := Lib.hid (And.intro hj1 (And.intro hj2 (And.intro hj3 hj4)))
  clear hj1 hj2 hj3 hj4
  obtain ⟨i3, hj1, hj2, hj3, hj4⟩ := info_parts info_wds
  have HI3 := Lib.hid (And.intro hj1 (And.intro hj2 (And.intro hj3 hj4)))
  clear hj1 hj2 hj3 hj4
  have HJ00 := Lib.hid (HJ0.out W0 (Below.refl _ _))
  have HFR : Hid (∀ W, BelW W0 W → Fr W q 45 [.slice S0 ns d0, .slice S1 m d1, .slice S2 m d2] ∧ Fr W (q + 1) 45 [.slice T0 ns e0, .slice T1 m e1, .slice T2 m e2] ∧ Fr W (q + 1 + 1) 45 [.slice none 0 0, .slice none 0 0, .slice none 0 0]) := Lib.hid fun W h => ⟨hfs.below h, hft.below h, hfr.below h⟩
  obtain ⟨x0, x1, x2, y0, y1, y2⟩ := HCE.out W0 (Below.refl _ _)
  clear hS hT F G hp hb0 hfs hft hfr hsz0
  go_enter Tryz.func24, Tryz.ntmps24
  go_upto_region 2 with (fail)
  rw [← HW0.out, ← HQ.out]
  go_upto_region 3 with (go_at_call 65; (with_reducible refine HJ00.out.mono ?_); rintro e w3 ⟨A7, c7, rfl, hv3, hb3⟩; have HB3 : Hid (BelW W0 w3) := Lib.hid hb3; have HV3 := Lib.hid hv3; clear x0 x1 x2 y0 y1 y2 hb3 hv3)
  obtain ⟨u, HU⟩ := named w3.heap.size
  obtain ⟨W4, HW4⟩ := named (w3.alloc (.cells #[.slice A7 ns c7, .slice none 0 0, .slice none 0 0] 45))
  rw [← HW4.out, ← HU.out]
  have hn3 : BelW w3 W4 := by rw [HW4.out]; exact below_new (Below.refl _ _) _
  have hfu4 : Fr W4 u 45 [.slice A7 ns c7, .slice none 0 0, .slice none 0 0] := by rw [HW4.out, HU.out]; exact Fr.made _ [.slice A7 ns c7, .slice none 0 0, .slice none 0 0] _ rfl
  have HUS : Hid (W0.heap.size ≤ u) := Lib.hid (by rw [HU.out]; exact Below.size HB3.out)
  have HI4 := Lib.hid (And.intro (joinB HB3.out hn3) (And.intro hfu4 (HV3.out.below hn3)))
  clear hn3 hfu4
  go_wp2
  go_loopw [7] (fun ci wr => ∃ (k : Nat) (Aa1 : Option Addr) (ca1 : Nat) (Aa2 : Option Addr) (ca2 : Nat), k ≤ m ∧ ci = .int .i64 k ∧ BelW W0 wr ∧ Fr wr u 45 [.slice A7 ns c7, .slice Aa1 k ca1, .slice Aa2 k ca2] ∧ VStk wr W0.heap.size (.slice A7 ns c7) (joinL s.dff t.dff) ∧ WWX (.slice Aa2 k ca2) wr W0.heap.size (.slice Aa1 k ca1) (abW s t k) ∧ WS wr W0.heap.size (.slice Aa2 k ca2) (abR s t k)) (fun ci _ => m - (intOf ci).toNat)
  case atStart => exact ⟨0, none, 0, none, 0, Nat.zero_le _, rfl, HI4.out.1, HI4.out.2.1, HI4.out.2.2, WWX.nil _ _ _, WS.nil _ _⟩
  case round =>
    obtain ⟨k, Aa1, ca1, Aa2, ca2, hkm, rfl, hb, hfu, hv, hww, hws⟩ := hrel
    obtain ⟨V0, rfl⟩ : ∃ V0 : World, V0 = wr := ⟨_, rfl⟩
    by_cases hk : k < m
    · have hk2 : (k : Int) < (m : Int) := by omega
      obtain ⟨b1, o1, b2, o2, Ak, Bk, ck, bk, rfl, rfl, hmm, hii⟩ := HWD.out k hk
      obtain ⟨b5, o5, b6, o6, Ar, Br, cr, br, rfl, rfl, hmr, hrl, hrr⟩ := HRD.out k hk
      obtain ⟨p5, p6⟩ := HPK.out k hk
      have hwl := HWL.out k hk
      have HSU : Hid (∀ i, abw s t k (i + 1) = abw s t k i ++ [joinL ((s.words.getD k []).getD i []) ((t.words.getD k []).getD i [])]) := Lib.hid fun i => abw_succ s t k i
      have hwsu := abW_succ s t k
      have hrsu := abR_succ s t k
      rw [hwl] at hwsu
      have HMMK := Lib.hid hmm
      have HMRK := Lib.hid hmr
      have HII := Lib.hid hii
      obtain ⟨rl, HRL⟩ := named (joinL (s.read.getD k []) (t.read.getD k []))
      rw [← HRL.out] at hrl hrr hrsu
      have HRSU := Lib.hid hrsu
      have HRR := Lib.hid hrr
      obtain ⟨nw, HNW⟩ := named (blN c.mems k)
      obtain ⟨dl, HDL⟩ := named (c.mems.getD k default).data.length
      rw [← HNW.out] at p5 hwsu HMMK HII
      rw [← HDL.out] at p6 HMRK HII HRR hrl
      have HRLN := Lib.hid hrl
      have HWSU := Lib.hid hwsu
      obtain ⟨x0, x1, x2, y0, y1, y2⟩ := HCE.out V0 hb
      obtain ⟨h0, h1⟩ := HMMK.out V0 hb
      have HIN := Lib.hid (And.intro hb (And.intro hfu (And.intro hv (And.intro hww hws))))
      clear hmm hmr hii hrr hrl hwsu hrsu hwl hb hfu hv hww hws
      go_wp2
      go_loopw [8, 9] (fun sv ci wr => ∃ (i : Nat) (Aw : Option Addr) (cw : Nat), i ≤ nw ∧ sv = .slice Aw i cw ∧ ci = .int .i64 i ∧ BelW V0 wr ∧ WS wr V0.heap.size (.slice Aw i cw) (abw s t k i)) (fun _ ci _ => nw - (intOf ci).toNat)
      case atStart => exact ⟨0, none, 0, Nat.zero_le _, rfl, rfl, Below.refl _ _, WS.nil _ _⟩
      case round =>
        clear x0 x1 x2 y0 y1 y2 h0 h1
        obtain ⟨i, Aw, cw, hin, rfl, rfl, hbv, hwi⟩ := hrel
        have hb := joinB HIN.out.1 hbv
        obtain ⟨x0, x1, x2, y0, y1, y2⟩ := HCE.out wr hb
        obtain ⟨h0, h1⟩ := HMMK.out wr hb
        have HBV := Lib.hid hbv
        have HWI := Lib.hid hwi
        have HBB := Lib.hid hb
        by_cases hi : i < nw
        · have hi2 : (i : Int) < (nw : Int) := by omega
          obtain ⟨b3, o3, b4, o4, Ai, Bi, ci, bi, rfl, rfl, hci, hjl, hjj⟩ := HII.out i hi
          have hsu := HSU.out i
          obtain ⟨jl, HJL⟩ := named (joinL ((s.words.getD k []).getD i []) ((t.words.getD k []).getD i []))
          rw [← HJL.out] at hjj hsu hjl
          have HSUI := Lib.hid hsu
          have HJLN := Lib.hid hjl
          have HSC : Hid (∀ W, BelW V0 W → W.cell? ⟨q, 1, none⟩ = some (.slice (some ⟨b1, o1, none⟩) m d1) ∧ W.cell? ⟨q + 1, 1, none⟩ = some (.slice (some ⟨b2, o2, none⟩) m e1) ∧ W.cell? ⟨b1, o1 + k, none⟩ = some (.slice (some ⟨b3, o3, none⟩) nw ck) ∧ W.cell? ⟨b2, o2 + k, none⟩ = some (.slice (some ⟨b4, o4, none⟩) nw bk) ∧ W.cell? ⟨b3, o3 + i, none⟩ = some (.slice Ai dl ci) ∧ W.cell? ⟨b4, o4 + i, none⟩ = some (.slice Bi dl bi)) := Lib.hid fun W h => by
            have h := joinB HIN.out.1 h
            obtain ⟨x0, x1, x2, y0, y1, y2⟩ := HCE.out W h
            exact ⟨x1, y1, (HMMK.out W h).1, (HMMK.out W h).2, (hci W h).1, (hci W h).2⟩
          have HD : Hid (BelW wr wr.drew) := Lib.hid (BelW.drew (Below.refl _ _))
          have HT10 := Lib.hid (hjj wr.drew V0.heap.size (joinB hb HD.out) (Below.size (joinB hbv HD.out)))
          have HS0 := Lib.hid (HSC.out _ (joinB hbv HD.out))
          clear hci hjj hb hbv hwi hjl hsu
          go_upto_region 10 with (fail)
          clear x0 x1 x2 y0 y1 y2 h0 h1
          refine AnyX.start (S := (fun w' => w'.cell? ⟨q, 1, none⟩ = some (.slice (some ⟨b1, o1, none⟩) m d1) ∧ w'.cell? ⟨q + 1, 1, none⟩ = some (.slice (some ⟨b2, o2, none⟩) m e1) ∧ w'.cell? ⟨b1, o1 + k, none⟩ = some (.slice (some ⟨b3, o3, none⟩) nw ck) ∧ w'.cell? ⟨b2, o2 + k, none⟩ = some (.slice (some ⟨b4, o4, none⟩) nw bk) ∧ w'.cell? ⟨b3, o3 + i, none⟩ = some (.slice Ai dl ci) ∧ w'.cell? ⟨b4, o4 + i, none⟩ = some (.slice Bi dl bi))) (t := 21) (by kernel_rfl) ?_
          refine AnyX.take (i := 0) (oi := ⟨some 34, _, _, _, _, _⟩) (v := .slice Aw i cw) rfl rfl (by kernel_rfl) (by kernel_rfl) (by kernel_rfl) (by kernel_rfl) (fun _ _ _ h => h) (Or.inl ⟨by rfl, ?_⟩) HS0.out ?_
          · intro w' hSw
            obtain ⟨k1', k2', k3', k4', k5', k6'⟩ := hSw
            first | (go_simp; done) | (go_simp; with_reducible rfl) | (go_simp; intro hh; exfalso; omega)
          simp only [Act.put, List.setIfInBounds_toArray, List.set_cons_zero, List.set_cons_succ]
          refine AnyX.take (i := 1) (oi := ⟨some 35, _, _, _, _, _⟩) (v := .func (.func 65) #[] #[]) rfl rfl (by kernel_rfl) (by kernel_rfl) (by kernel_rfl) (by kernel_rfl) (fun _ _ _ h => h) (Or.inl ⟨by rfl, ?_⟩) HS0.out ?_
          · intro w' hSw
            obtain ⟨k1', k2', k3', k4', k5', k6'⟩ := hSw
            first | (go_simp; done) | (go_simp; with_reducible rfl) | (go_simp; intro hh; exfalso; omega)
          simp only [Act.put, List.setIfInBounds_toArray, List.set_cons_zero, List.set_cons_succ]
          refine AnyX.take (i := 2) (oi := ⟨some 36, _, _, _, _, _⟩) (v := .pointer (some ⟨q, 1, none⟩)) rfl rfl (by kernel_rfl) (by kernel_rfl) (by kernel_rfl) (by kernel_rfl) (fun _ _ _ h => h) (Or.inl ⟨by rfl, ?_⟩) HS0.out ?_
          · intro w' hSw
            obtain ⟨k1', k2', k3', k4', k5', k6'⟩ := hSw
            first | (go_simp; done) | (go_simp; with_reducible rfl) | (go_simp; intro hh; exfalso; omega)
          simp only [Act.put, List.setIfInBounds_toArray, List.set_cons_zero, List.set_cons_succ]
          refine AnyX.take (i := 3) (oi := ⟨some 37, _, _, _, _, _⟩) (v := .slice (some ⟨b1, o1, none⟩) m d1) rfl rfl (by kernel_rfl) (by kernel_rfl) (by kernel_rfl) (by kernel_rfl) (fun _ _ _ h => h) (Or.inl ⟨by rfl, ?_⟩) HS0.out ?_
          · intro w' hSw
            obtain ⟨k1', k2', k3', k4', k5', k6'⟩ := hSw
            first | (go_simp; done) | (go_simp; with_reducible rfl) | (go_simp; intro hh; exfalso; omega)
          simp only [Act.put, List.setIfInBounds_toArray, List.set_cons_zero, List.set_cons_succ]
          refine AnyX.take (i := 4) (oi := ⟨some 38, _, _, _, _, _⟩) (v := .int .i64 (k : Int)) rfl rfl (by kernel_rfl) (by kernel_rfl) (by kernel_rfl) (by kernel_rfl) (fun _ _ _ h => h) (Or.inl ⟨by rfl, ?_⟩) HS0.out ?_
          · intro w' hSw
            obtain ⟨k1', k2', k3', k4', k5', k6'⟩ := hSw
            first | (go_simp; done) | (go_simp; with_reducible rfl) | (go_simp; intro hh; exfalso; omega)
          simp only [Act.put, List.setIfInBounds_toArray, List.set_cons_zero, List.set_cons_succ]
          refine AnyX.take (i := 5) (oi := ⟨some 39, _, _, _, _, _⟩) (v := .pointer (some ⟨b1, o1 + k, none⟩)) rfl rfl (by kernel_rfl) (by kernel_rfl) (by kernel_rfl) (by kernel_rfl) (fun _ _ _ h => h) (Or.inl ⟨by rfl, ?_⟩) HS0.out ?_
          · intro w' hSw
            obtain ⟨k1', k2', k3', k4', k5', k6'⟩ := hSw
            first | (go_simp; done) | (go_simp; with_reducible rfl) | (go_simp; intro hh; exfalso; omega)
          simp only [Act.put, List.setIfInBounds_toArray, List.set_cons_zero, List.set_cons_succ]
          refine AnyX.take (i := 6) (oi := ⟨some 40, _, _, _, _, _⟩) (v := .slice (some ⟨b3, o3, none⟩) nw ck) rfl rfl (by kernel_rfl) (by kernel_rfl) (by kernel_rfl) (by kernel_rfl) (fun _ _ _ h => h) (Or.inl ⟨by rfl, ?_⟩) HS0.out ?_
          · intro w' hSw
            obtain ⟨k1', k2', k3', k4', k5', k6'⟩ := hSw
            first | (go_simp; done) | (go_simp; with_reducible rfl) | (go_simp; intro hh; exfalso; omega)
          simp only [Act.put, List.setIfInBounds_toArray, List.set_cons_zero, List.set_cons_succ]
          refine AnyX.take (i := 7) (oi := ⟨some 41, _, _, _, _, _⟩) (v := .int .i64 (i : Int)) rfl rfl (by kernel_rfl) (by kernel_rfl) (by kernel_rfl) (by kernel_rfl) (fun _ _ _ h => h) (Or.inl ⟨by rfl, ?_⟩) HS0.out ?_
          · intro w' hSw
            obtain ⟨k1', k2', k3', k4', k5', k6'⟩ := hSw
            first | (go_simp; done) | (go_simp; with_reducible rfl) | (go_simp; intro hh; exfalso; omega)
          simp only [Act.put, List.setIfInBounds_toArray, List.set_cons_zero, List.set_cons_succ]
          refine AnyX.take (i := 8) (oi := ⟨some 42, _, _, _, _, _⟩) (v := .pointer (some ⟨b3, o3 + i, none⟩)) rfl rfl (by kernel_rfl) (by kernel_rfl) (by kernel_rfl) (by kernel_rfl) (fun _ _ _ h => h) (Or.inl ⟨by rfl, ?_⟩) HS0.out ?_
          · intro w' hSw
            obtain ⟨k1', k2', k3', k4', k5', k6'⟩ := hSw
            first | (go_simp; done) | (go_simp; with_reducible rfl) | (go_simp; intro hh; exfalso; omega)
          simp only [Act.put, List.setIfInBounds_toArray, List.set_cons_zero, List.set_cons_succ]
          refine AnyX.take (i := 9) (oi := ⟨some 43, _, _, _, _, _⟩) (v := .slice Ai dl ci) rfl rfl (by kernel_rfl) (by kernel_rfl) (by kernel_rfl) (by kernel_rfl) (fun _ _ _ h => h) (Or.inl ⟨by rfl, ?_⟩) HS0.out ?_
          · intro w' hSw
            obtain ⟨k1', k2', k3', k4', k5', k6'⟩ := hSw
            first | (go_simp; done) | (go_simp; with_reducible rfl) | (go_simp; intro hh; exfalso; omega)
          simp only [Act.put, List.setIfInBounds_toArray, List.set_cons_zero, List.set_cons_succ]
          refine AnyX.take (i := 10) (oi := ⟨some 44, _, _, _, _, _⟩) (v := .pointer (some ⟨q + 1, 1, none⟩)) rfl rfl (by kernel_rfl) (by kernel_rfl) (by kernel_rfl) (by kernel_rfl) (fun _ _ _ h => h) (Or.inl ⟨by rfl, ?_⟩) HS0.out ?_
          · intro w' hSw
            obtain ⟨k1', k2', k3', k4', k5', k6'⟩ := hSw
            first | (go_simp; done) | (go_simp; with_reducible rfl) | (go_simp; intro hh; exfalso; omega)
          simp only [Act.put, List.setIfInBounds_toArray, List.set_cons_zero, List.set_cons_succ]
          refine AnyX.take (i := 11) (oi := ⟨some 45, _, _, _, _, _⟩) (v := .slice (some ⟨b2, o2, none⟩) m e1) rfl rfl (by kernel_rfl) (by kernel_rfl) (by kernel_rfl) (by kernel_rfl) (fun _ _ _ h => h) (Or.inl ⟨by rfl, ?_⟩) HS0.out ?_
          · intro w' hSw
            obtain ⟨k1', k2', k3', k4', k5', k6'⟩ := hSw
            first | (go_simp; done) | (go_simp; with_reducible rfl) | (go_simp; intro hh; exfalso; omega)
          simp only [Act.put, List.setIfInBounds_toArray, List.set_cons_zero, List.set_cons_succ]
          refine AnyX.take (i := 12) (oi := ⟨some 46, _, _, _, _, _⟩) (v := .int .i64 (k : Int)) rfl rfl (by kernel_rfl) (by kernel_rfl) (by kernel_rfl) (by kernel_rfl) (fun _ _ _ h => h) (Or.inl ⟨by rfl, ?_⟩) HS0.out ?_
          · intro w' hSw
            obtain ⟨k1', k2', k3', k4', k5', k6'⟩ := hSw
            first | (go_simp; done) | (go_simp; with_reducible rfl) | (go_simp; intro hh; exfalso; omega)
          simp only [Act.put, List.setIfInBounds_toArray, List.set_cons_zero, List.set_cons_succ]
          refine AnyX.take (i := 13) (oi := ⟨some 47, _, _, _, _, _⟩) (v := .pointer (some ⟨b2, o2 + k, none⟩)) rfl rfl (by kernel_rfl) (by kernel_rfl) (by kernel_rfl) (by kernel_rfl) (fun _ _ _ h => h) (Or.inl ⟨by rfl, ?_⟩) HS0.out ?_
          · intro w' hSw
            obtain ⟨k1', k2', k3', k4', k5', k6'⟩ := hSw
            first | (go_simp; done) | (go_simp; with_reducible rfl) | (go_simp; intro hh; exfalso; omega)
          simp only [Act.put, List.setIfInBounds_toArray, List.set_cons_zero, List.set_cons_succ]
          refine AnyX.take (i := 14) (oi := ⟨some 48, _, _, _, _, _⟩) (v := .slice (some ⟨b4, o4, none⟩) nw bk) rfl rfl (by kernel_rfl) (by kernel_rfl) (by kernel_rfl) (by kernel_rfl) (fun _ _ _ h => h) (Or.inl ⟨by rfl, ?_⟩) HS0.out ?_
          · intro w' hSw
            obtain ⟨k1', k2', k3', k4', k5', k6'⟩ := hSw
            first | (go_simp; done) | (go_simp; with_reducible rfl) | (go_simp; intro hh; exfalso; omega)
          simp only [Act.put, List.setIfInBounds_toArray, List.set_cons_zero, List.set_cons_succ]
          refine AnyX.take (i := 15) (oi := ⟨some 49, _, _, _, _, _⟩) (v := .int .i64 (i : Int)) rfl rfl (by kernel_rfl) (by kernel_rfl) (by kernel_rfl) (by kernel_rfl) (fun _ _ _ h => h) (Or.inl ⟨by rfl, ?_⟩) HS0.out ?_
          · intro w' hSw
            obtain ⟨k1', k2', k3', k4', k5', k6'⟩ := hSw
            first | (go_simp; done) | (go_simp; with_reducible rfl) | (go_simp; intro hh; exfalso; omega)
          simp only [Act.put, List.setIfInBounds_toArray, List.set_cons_zero, List.set_cons_succ]
          refine AnyX.take (i := 16) (oi := ⟨some 50, _, _, _, _, _⟩) (v := .pointer (some ⟨b4, o4 + i, none⟩)) rfl rfl (by kernel_rfl) (by kernel_rfl) (by kernel_rfl) (by kernel_rfl) (fun _ _ _ h => h) (Or.inl ⟨by rfl, ?_⟩) HS0.out ?_
          · intro w' hSw
            obtain ⟨k1', k2', k3', k4', k5', k6'⟩ := hSw
            first | (go_simp; done) | (go_simp; with_reducible rfl) | (go_simp; intro hh; exfalso; omega)
          simp only [Act.put, List.setIfInBounds_toArray, List.set_cons_zero, List.set_cons_succ]
          refine AnyX.take (i := 17) (oi := ⟨some 51, _, _, _, _, _⟩) (v := .slice Bi dl bi) rfl rfl (by kernel_rfl) (by kernel_rfl) (by kernel_rfl) (by kernel_rfl) (fun _ _ _ h => h) (Or.inl ⟨by rfl, ?_⟩) HS0.out ?_
          · intro w' hSw
            obtain ⟨k1', k2', k3', k4', k5', k6'⟩ := hSw
            first | (go_simp; done) | (go_simp; with_reducible rfl) | (go_simp; intro hh; exfalso; omega)
          simp only [Act.put, List.setIfInBounds_toArray, List.set_cons_zero, List.set_cons_succ]
          refine AnyX.one (i := 18) (o := ⟨some 52, _, _, _, _, _⟩) (by kernel_rfl) rfl (fun K' hK => ?_)
          have HK := Lib.hid hK
          clear hK
          go_simp
          go_at_call 65
          (with_reducible refine HT10.out.mono ?_)
          rintro e w5 ⟨A5, c5, rfl, hv5, hb5⟩
          have hb45 : BelW wr w5 := joinB HD.out hb5
          have HV5 := Lib.hid hv5
          have HB5 : Hid (BelW V0 w5) := Lib.hid (joinB HBV.out hb45)
          have HB45 := Lib.hid hb45
          have hs6 := HSC.out _ HB5.out
          obtain ⟨vs, q1, q2, q3⟩ := HWI.out.below hb45
          rw [abw_len] at q2
          have Q1 := Lib.hid q1
          have Q2 := Lib.hid q2
          have Q3 := Lib.hid q3
          have HSZ5 := Lib.hid (Below.size HB5.out)
          clear hv5 hb5 hb45 q1 q2 q3
          refine HK.out _ _ (fun _ => hs6) ?_
          clear HK
          (try simp only [Act.put, List.setIfInBounds_toArray, List.set_cons_zero, List.set_cons_succ])
          refine AnyX.one (i := 19) (o := ⟨some 53, _, _, _, _, _⟩) (by kernel_rfl) rfl (fun K' hK => ?_)
          have HK := Lib.hid hK
          clear hK
          go_simp
          refine HK.out _ _ (fun _ => HSC.out _ (BelW.alloc HB5.out _)) ?_
          clear HK
          (try simp only [Act.put, List.setIfInBounds_toArray, List.set_cons_zero, List.set_cons_succ])
          refine AnyX.one (i := 20) (o := ⟨some 54, _, _, _, _, _⟩) (by kernel_rfl) rfl (fun K' hK => ?_)
          have HK := Lib.hid hK
          clear hK
          refine step_append_lies _ (by rfl) (.tmp 34) (.tmp 53) 43 (by rfl) V0.heap.size 41 i2 (.slice none 0 0) 1 24 Tryz.underlying43 HJ.out.1 HJ.out.2.1 HJ.out.2.2.1 HJ.out.2.2.2 rfl (by decide) (.slice Aw i cw) i vs (by simp [Act.eval]) (World.ownsRow.alloc Q2.out _) ⟨w5.heap.size, 0, none⟩ 1 1 [.slice A5 dl c5] (by simp [Act.eval]) rfl (one_new w5 _ _) (by intro u hu; obtain rfl := List.mem_singleton.1 hu; rfl) (by decide) (by unfold maxLen; omega) (by omega) (by have := HSZ5.out; simp; omega) _ rfl ?_
          intro g6 c6 w6 hown6 hgrow6 hat6 hlt6
          have hs6 := HSC.out w6 (bel_push HB5.out hgrow6 fun q h => (World.ownsRow.lt Q2.out q h).1)
          have HO6 := Lib.hid (And.intro hown6 hgrow6)
          clear hown6 hgrow6 hat6 hlt6
          refine HK.out _ _ (fun _ => hs6) ?_
          clear HK
          (try simp only [Act.put, List.setIfInBounds_toArray, List.set_cons_zero, List.set_cons_succ])
          refine AnyX.one (i := 21) (o := ⟨some 8, _, _, _, _, _⟩) (by kernel_rfl) rfl (fun K' hK => ?_)
          have HK := Lib.hid hK
          clear hK
          go_simp
          refine HK.out _ _ (fun h => absurd rfl h) ?_
          clear HK
          (try simp only [Act.put, List.setIfInBounds_toArray, List.set_cons_zero, List.set_cons_succ])
          refine AnyX.done (by kernel_rfl) ?_ _
          have hp6 : BelW V0 w6 ∧ WS w6 V0.heap.size (.slice (some ⟨g6, 0, none⟩) (i + 1) c6) (abw s t k (i + 1)) := by
            have hg6 : (w5.alloc (.cells #[.slice A5 dl c5] 41)).grownBy w6 (Value.slice Aw i cw).ownBlock := HO6.out.2
            rw [HSUI.out]
            refine WS.push (A := A5) (c := c5) HB5.out Q1.out (by rw [abw_len]; exact Q2.out) Q3.out hg6 ?_ ?_
            · rw [abw_len, HJLN.out]; exact HO6.out.1
            · rw [HJLN.out]; exact HV5.out
          have HP6 := Lib.hid hp6
          clear hp6 hs6
          go_wp2
          go_roundw
          case rel => exact ⟨i + 1, some ⟨g6, 0, none⟩, c6, by omega, rfl, by go_num, HP6.out.1, HP6.out.2⟩
          case measure => simp [intOf]; omega
        · obtain rfl : nw = i := by omega
          have HSWI := Lib.hid (hwi.low (Below.size HIN.out.1))
          have hfu := HIN.out.2.1.below hbv
          have HFUW := Lib.hid hfu
          have HVW := Lib.hid (HIN.out.2.2.1.below hbv)
          have HWWW := Lib.hid (HIN.out.2.2.2.1.below hbv)
          have HRDW := Lib.hid (HIN.out.2.2.2.2.below hbv)
          have HAP : Hid (Apart (.slice Aa2 k ca2) (.slice Aw nw cw)) := Lib.hid (by
            rcases ho : (Value.slice Aw nw cw).ownBlock with _ | q
            · exact .inl ho
            · refine .inr fun e => ?_
              rw [ho] at e
              have h1 := (hwi.lt ho).1
              have h2 := (HIN.out.2.2.2.2.lt e.symm).2
              omega)
          obtain ⟨vs, q1, q2, q3⟩ := HWWW.out
          rw [abW_len] at q2
          have Q1 := Lib.hid q1; have Q2 := Lib.hid q2; have Q3 := Lib.hid q3
          have HSZW := Lib.hid (Below.size hb)
          have z1 := hfu.cell 1
          have f1 := hfu.frozen 1
          clear hbv hwi hb hfu q1 q2 q3
          go_upto_region 12 with (at_builtin; refine wpList_append_own_at _ rfl _ _ 42 rfl W0.heap.size 43 i3 (.slice none 0 0) 1 24 Tryz.underlying42 HI3.out.1 HI3.out.2.1 HI3.out.2.2.1 HI3.out.2.2.2 rfl (by decide) _ _ _ rfl (World.ownsRow.alloc Q2.out _) ⟨wr.heap.size, 0, none⟩ 1 1 [.slice Aw nw cw] rfl rfl (by have := one_new wr (.slice Aw nw cw) 43; simpa using this) (by intro u hu; obtain rfl := List.mem_singleton.1 hu; rfl) (by unfold maxLen; omega) (by omega) (by have := HSZW.out; simp; omega) ?_; intro v7 w7 hown7 hgrow7 hnil7 hloc7; obtain ⟨A8, c8, rfl⟩ := own_sl hown7; have HO7 := Lib.hid (And.intro hown7 hgrow7); have hfu7 := HFUW.out.grownT Q2.out (by decide) hgrow7; have HFU7 := Lib.hid hfu7; have z1 := hfu7.cell 1; have f1 := hfu7.frozen 1; clear hown7 hgrow7 hnil7 hloc7 hfu7)
          have hp7 : BelW W0 w7 ∧ WWX (.slice Aa2 k ca2) w7 W0.heap.size (.slice A8 (k + 1) c8) (abW s t (k + 1)) := by
            have hg7 : (wr.alloc (.cells #[.slice Aw nw cw] 43)).grownBy w7 (Value.slice Aa1 k ca1).ownBlock := HO7.out.2
            rw [HWSU.out]
            refine WWX.push (A := Aw) (c := cw) HBB.out Q1.out (by rw [abW_len]; exact Q2.out) Q3.out hg7 ?_ ?_ ?_
            · rw [abW_len, abw_len]; exact HO7.out.1
            · rw [abw_len]; exact HSWI.out
            · rw [abw_len]; exact HAP.out
          have hn7 : BelW wr (wr.alloc (.cells #[.slice Aw nw cw] 43)) := below_new (Below.refl _ _) _
          have hg7 : (wr.alloc (.cells #[.slice Aw nw cw] 43)).grownBy w7 (Value.slice Aa1 k ca1).ownBlock := HO7.out.2
          have hv7 := (HVW.out.below hn7).keptT (World.ownsRow.alloc Q2.out _) (by decide) hg7
          have hr7 := (HRDW.out.below hn7).keptT (World.ownsRow.alloc Q2.out _) (by decide) (by decide) hg7
          obtain ⟨W8, HW8⟩ := named (w7.setCell ⟨u, 1, none⟩ (.slice A8 (k + 1) c8))
          rw [← HW8.out]
          have hfu8 : Fr W8 u 45 [.slice A7 ns c7, .slice A8 (k + 1) c8, .slice Aa2 k ca2] := by rw [HW8.out]; exact HFU7.out.set 1 _
          have hb8 : BelW W0 W8 := by rw [HW8.out]; exact hp7.1.setCell (p := ⟨u, 1, none⟩) HUS.out _
          have hv8 : VStk W8 W0.heap.size (.slice A7 ns c7) (joinL s.dff t.dff) := by rw [HW8.out]; exact hv7.setF HFU7.out (by decide) 1 _
          have hww8 : WWX (.slice Aa2 k ca2) W8 W0.heap.size (.slice A8 (k + 1) c8) (abW s t (k + 1)) := by rw [HW8.out]; exact hp7.2.setF HFU7.out (by decide) (by decide) (by decide) 1 _
          have hr8 : WS W8 W0.heap.size (.slice Aa2 k ca2) (abR s t k) := by rw [HW8.out]; exact hr7.setF HFU7.out (by decide) (by decide) 1 _
          have HI8 := Lib.hid (And.intro hb8 (And.intro hfu8 (And.intro hv8 (And.intro hww8 hr8))))
          have HS15 : Hid (∀ W, BelW W8 W → W.cell? ⟨q, 2, none⟩ = some (.slice (some ⟨b5, o5, none⟩) m d2) ∧ W.cell? ⟨q + 1, 2, none⟩ = some (.slice (some ⟨b6, o6, none⟩) m e2) ∧ W.cell? ⟨b5, o5 + k, none⟩ = some (.slice Ar dl cr) ∧ W.cell? ⟨b6, o6 + k, none⟩ = some (.slice Br dl br) ∧ W.cell? ⟨u, 2, none⟩ = some (.slice Aa2 k ca2)) := Lib.hid fun W h => by
            obtain ⟨x0, x1, x2, y0, y1, y2⟩ := HCE.out W (joinB HI8.out.1 h)
            obtain ⟨r0, r1⟩ := HMRK.out W (joinB HI8.out.1 h)
            exact ⟨x2, y2, r0, r1, (HI8.out.2.1.below h).cell 2⟩
          have HD8 : Hid (BelW W8 W8.drew) := Lib.hid (BelW.drew (Below.refl _ _))
          have HT15 := Lib.hid (HRR.out W8.drew W0.heap.size (joinB hb8 HD8.out) (Below.size (joinB hb8 HD8.out)))
          have HS0 := Lib.hid (HS15.out _ HD8.out)
          clear hp7 hn7 hg7 hv7 hr7 hfu8 hb8 hv8 hww8 hr8 x0 x1 x2 y0 y1 y2 h0 h1 z1 f1
          refine AnyX.start (S := (fun w' => w'.cell? ⟨q, 2, none⟩ = some (.slice (some ⟨b5, o5, none⟩) m d2) ∧ w'.cell? ⟨q + 1, 2, none⟩ = some (.slice (some ⟨b6, o6, none⟩) m e2) ∧ w'.cell? ⟨b5, o5 + k, none⟩ = some (.slice Ar dl cr) ∧ w'.cell? ⟨b6, o6 + k, none⟩ = some (.slice Br dl br) ∧ w'.cell? ⟨u, 2, none⟩ = some (.slice Aa2 k ca2))) (t := 17) (by kernel_rfl) ?_
          refine AnyX.take (i := 0) (oi := ⟨some 61, _, _, _, _, _⟩) (v := .pointer (some ⟨u, 2, none⟩)) rfl rfl (by kernel_rfl) (by kernel_rfl) (by kernel_rfl) (by kernel_rfl) (fun _ _ _ h => h) (Or.inl ⟨by rfl, ?_⟩) HS0.out ?_
          · intro w' hSw
            obtain ⟨k1', k2', k3', k4', k5'⟩ := hSw
            first | (go_simp; done) | (go_simp; with_reducible rfl) | (go_simp; intro hh; exfalso; omega)
          simp only [Act.put, List.setIfInBounds_toArray, List.set_cons_zero, List.set_cons_succ]
          refine AnyX.take (i := 1) (oi := ⟨some 62, _, _, _, _, _⟩) (v := .slice Aa2 k ca2) rfl rfl (by kernel_rfl) (by kernel_rfl) (by kernel_rfl) (by kernel_rfl) (fun _ _ _ h => h) (Or.inl ⟨by rfl, ?_⟩) HS0.out ?_
          · intro w' hSw
            obtain ⟨k1', k2', k3', k4', k5'⟩ := hSw
            first | (go_simp; done) | (go_simp; with_reducible rfl) | (go_simp; intro hh; exfalso; omega)
          simp only [Act.put, List.setIfInBounds_toArray, List.set_cons_zero, List.set_cons_succ]
          refine AnyX.take (i := 2) (oi := ⟨some 63, _, _, _, _, _⟩) (v := .func (.func 65) #[] #[]) rfl rfl (by kernel_rfl) (by kernel_rfl) (by kernel_rfl) (by kernel_rfl) (fun _ _ _ h => h) (Or.inl ⟨by rfl, ?_⟩) HS0.out ?_
          · intro w' hSw
            obtain ⟨k1', k2', k3', k4', k5'⟩ := hSw
            first | (go_simp; done) | (go_simp; with_reducible rfl) | (go_simp; intro hh; exfalso; omega)
          simp only [Act.put, List.setIfInBounds_toArray, List.set_cons_zero, List.set_cons_succ]
          refine AnyX.take (i := 3) (oi := ⟨some 64, _, _, _, _, _⟩) (v := .pointer (some ⟨q, 2, none⟩)) rfl rfl (by kernel_rfl) (by kernel_rfl) (by kernel_rfl) (by kernel_rfl) (fun _ _ _ h => h) (Or.inl ⟨by rfl, ?_⟩) HS0.out ?_
          · intro w' hSw
            obtain ⟨k1', k2', k3', k4', k5'⟩ := hSw
            first | (go_simp; done) | (go_simp; with_reducible rfl) | (go_simp; intro hh; exfalso; omega)
          simp only [Act.put, List.setIfInBounds_toArray, List.set_cons_zero, List.set_cons_succ]
          refine AnyX.take (i := 4) (oi := ⟨some 65, _, _, _, _, _⟩) (v := .slice (some ⟨b5, o5, none⟩) m d2) rfl rfl (by kernel_rfl) (by kernel_rfl) (by kernel_rfl) (by kernel_rfl) (fun _ _ _ h => h) (Or.inl ⟨by rfl, ?_⟩) HS0.out ?_
          · intro w' hSw
            obtain ⟨k1', k2', k3', k4', k5'⟩ := hSw
            first | (go_simp; done) | (go_simp; with_reducible rfl) | (go_simp; intro hh; exfalso; omega)
          simp only [Act.put, List.setIfInBounds_toArray, List.set_cons_zero, List.set_cons_succ]
          refine AnyX.take (i := 5) (oi := ⟨some 66, _, _, _, _, _⟩) (v := .int .i64 (k : Int)) rfl rfl (by kernel_rfl) (by kernel_rfl) (by kernel_rfl) (by kernel_rfl) (fun _ _ _ h => h) (Or.inl ⟨by rfl, ?_⟩) HS0.out ?_
          · intro w' hSw
            obtain ⟨k1', k2', k3', k4', k5'⟩ := hSw
            first | (go_simp; done) | (go_simp; with_reducible rfl) | (go_simp; intro hh; exfalso; omega)
          simp only [Act.put, List.setIfInBounds_toArray, List.set_cons_zero, List.set_cons_succ]
          refine AnyX.take (i := 6) (oi := ⟨some 67, _, _, _, _, _⟩) (v := .pointer (some ⟨b5, o5 + k, none⟩)) rfl rfl (by kernel_rfl) (by kernel_rfl) (by kernel_rfl) (by kernel_rfl) (fun _ _ _ h => h) (Or.inl ⟨by rfl, ?_⟩) HS0.out ?_
          · intro w' hSw
            obtain ⟨k1', k2', k3', k4', k5'⟩ := hSw
            first | (go_simp; done) | (go_simp; with_reducible rfl) | (go_simp; intro hh; exfalso; omega)
          simp only [Act.put, List.setIfInBounds_toArray, List.set_cons_zero, List.set_cons_succ]
          refine AnyX.take (i := 7) (oi := ⟨some 68, _, _, _, _, _⟩) (v := .slice Ar dl cr) rfl rfl (by kernel_rfl) (by kernel_rfl) (by kernel_rfl) (by kernel_rfl) (fun _ _ _ h => h) (Or.inl ⟨by rfl, ?_⟩) HS0.out ?_
          · intro w' hSw
            obtain ⟨k1', k2', k3', k4', k5'⟩ := hSw
            first | (go_simp; done) | (go_simp; with_reducible rfl) | (go_simp; intro hh; exfalso; omega)
          simp only [Act.put, List.setIfInBounds_toArray, List.set_cons_zero, List.set_cons_succ]
          refine AnyX.take (i := 8) (oi := ⟨some 69, _, _, _, _, _⟩) (v := .pointer (some ⟨q + 1, 2, none⟩)) rfl rfl (by kernel_rfl) (by kernel_rfl) (by kernel_rfl) (by kernel_rfl) (fun _ _ _ h => h) (Or.inl ⟨by rfl, ?_⟩) HS0.out ?_
          · intro w' hSw
            obtain ⟨k1', k2', k3', k4', k5'⟩ := hSw
            first | (go_simp; done) | (go_simp; with_reducible rfl) | (go_simp; intro hh; exfalso; omega)
          simp only [Act.put, List.setIfInBounds_toArray, List.set_cons_zero, List.set_cons_succ]
          refine AnyX.take (i := 9) (oi := ⟨some 70, _, _, _, _, _⟩) (v := .slice (some ⟨b6, o6, none⟩) m e2) rfl rfl (by kernel_rfl) (by kernel_rfl) (by kernel_rfl) (by kernel_rfl) (fun _ _ _ h => h) (Or.inl ⟨by rfl, ?_⟩) HS0.out ?_
          · intro w' hSw
            obtain ⟨k1', k2', k3', k4', k5'⟩ := hSw
            first | (go_simp; done) | (go_simp; with_reducible rfl) | (go_simp; intro hh; exfalso; omega)
          simp only [Act.put, List.setIfInBounds_toArray, List.set_cons_zero, List.set_cons_succ]
          refine AnyX.take (i := 10) (oi := ⟨some 71, _, _, _, _, _⟩) (v := .int .i64 (k : Int)) rfl rfl (by kernel_rfl) (by kernel_rfl) (by kernel_rfl) (by kernel_rfl) (fun _ _ _ h => h) (Or.inl ⟨by rfl, ?_⟩) HS0.out ?_
          · intro w' hSw
            obtain ⟨k1', k2', k3', k4', k5'⟩ := hSw
            first | (go_simp; done) | (go_simp; with_reducible rfl) | (go_simp; intro hh; exfalso; omega)
          simp only [Act.put, List.setIfInBounds_toArray, List.set_cons_zero, List.set_cons_succ]
          refine AnyX.take (i := 11) (oi := ⟨some 72, _, _, _, _, _⟩) (v := .pointer (some ⟨b6, o6 + k, none⟩)) rfl rfl (by kernel_rfl) (by kernel_rfl) (by kernel_rfl) (by kernel_rfl) (fun _ _ _ h => h) (Or.inl ⟨by rfl, ?_⟩) HS0.out ?_
          · intro w' hSw
            obtain ⟨k1', k2', k3', k4', k5'⟩ := hSw
            first | (go_simp; done) | (go_simp; with_reducible rfl) | (go_simp; intro hh; exfalso; omega)
          simp only [Act.put, List.setIfInBounds_toArray, List.set_cons_zero, List.set_cons_succ]
          refine AnyX.take (i := 12) (oi := ⟨some 73, _, _, _, _, _⟩) (v := .slice Br dl br) rfl rfl (by kernel_rfl) (by kernel_rfl) (by kernel_rfl) (by kernel_rfl) (fun _ _ _ h => h) (Or.inl ⟨by rfl, ?_⟩) HS0.out ?_
          · intro w' hSw
            obtain ⟨k1', k2', k3', k4', k5'⟩ := hSw
            first | (go_simp; done) | (go_simp; with_reducible rfl) | (go_simp; intro hh; exfalso; omega)
          simp only [Act.put, List.setIfInBounds_toArray, List.set_cons_zero, List.set_cons_succ]
          refine AnyX.one (i := 13) (o := ⟨some 74, _, _, _, _, _⟩) (by kernel_rfl) rfl (fun K' hK => ?_)
          have HK := Lib.hid hK
          clear hK
          go_simp
          go_at_call 65
          (with_reducible refine HT15.out.mono ?_)
          rintro e w9 ⟨A5, c5, rfl, hv9, hb9⟩
          have hb89 : BelW W8 w9 := joinB HD8.out hb9
          have HV9 := Lib.hid hv9
          have HB9 := Lib.hid hb89
          have hs9 := HS15.out _ hb89
          obtain ⟨vs9, r1, r2, r3⟩ := HI8.out.2.2.2.2.below hb89
          rw [abR_len] at r2
          have R1 := Lib.hid r1
          have R2 := Lib.hid r2
          have R3 := Lib.hid r3
          have HSZ9 := Lib.hid (Below.size (joinB HI8.out.1 hb89))
          clear hv9 hb9 hb89 r1 r2 r3
          refine HK.out _ _ (fun _ => hs9) ?_
          clear HK
          (try simp only [Act.put, List.setIfInBounds_toArray, List.set_cons_zero, List.set_cons_succ])
          refine AnyX.one (i := 14) (o := ⟨some 75, _, _, _, _, _⟩) (by kernel_rfl) rfl (fun K' hK => ?_)
          have HK := Lib.hid hK
          clear hK
          go_simp
          refine HK.out _ _ (fun _ => HS15.out _ (BelW.alloc HB9.out _)) ?_
          clear HK
          (try simp only [Act.put, List.setIfInBounds_toArray, List.set_cons_zero, List.set_cons_succ])
          refine AnyX.one (i := 15) (o := ⟨some 76, _, _, _, _, _⟩) (by kernel_rfl) rfl (fun K' hK => ?_)
          have HK := Lib.hid hK
          clear hK
          refine step_append_lies _ (by rfl) (.tmp 62) (.tmp 75) 43 (by rfl) W0.heap.size 41 i2 (.slice none 0 0) 1 24 Tryz.underlying43 HJ.out.1 HJ.out.2.1 HJ.out.2.2.1 HJ.out.2.2.2 rfl (by decide) (.slice Aa2 k ca2) k vs9 (by simp [Act.eval]) (World.ownsRow.alloc R2.out _) ⟨w9.heap.size, 0, none⟩ 1 1 [.slice A5 dl c5] (by simp [Act.eval]) rfl (one_new w9 _ _) (by intro u hu; obtain rfl := List.mem_singleton.1 hu; rfl) (by decide) (by unfold maxLen; omega) (by omega) (by have := HSZ9.out; simp; omega) _ rfl ?_
          intro g9 c9' w10 hown10 hgrow10 hat10 hlt10
          have hfu10 := (HI8.out.2.1.below HB9.out).grownT R2.out (by decide) hgrow10
          have hs10 : w10.cell? ⟨q, 2, none⟩ = some (.slice (some ⟨b5, o5, none⟩) m d2) ∧ w10.cell? ⟨q + 1, 2, none⟩ = some (.slice (some ⟨b6, o6, none⟩) m e2) ∧ w10.cell? ⟨b5, o5 + k, none⟩ = some (.slice Ar dl cr) ∧ w10.cell? ⟨b6, o6 + k, none⟩ = some (.slice Br dl br) ∧ w10.cell? ⟨u, 2, none⟩ = some (.slice Aa2 k ca2) := by
            have hb10 : BelW W0 w10 := bel_push (joinB HI8.out.1 HB9.out) hgrow10 fun q h => (World.ownsRow.lt R2.out q h).1
            obtain ⟨x0, x1, x2, y0, y1, y2⟩ := HCE.out w10 hb10
            obtain ⟨r0, r1⟩ := HMRK.out w10 hb10
            exact ⟨x2, y2, r0, r1, hfu10.cell 2⟩
          have HO10 := Lib.hid (And.intro hown10 (And.intro hgrow10 hat10))
          have HFU10 := Lib.hid hfu10
          have f2 := hfu10.frozen 2
          clear hown10 hgrow10 hat10 hlt10 hfu10
          refine HK.out _ _ (fun _ => hs10) ?_
          clear HK
          (try simp only [Act.put, List.setIfInBounds_toArray, List.set_cons_zero, List.set_cons_succ])
          refine AnyX.one (i := 16) (o := ⟨some 77, _, _, _, _, _⟩) (by kernel_rfl) rfl (fun K' hK => ?_)
          have HK := Lib.hid hK
          clear hK
          go_simp
          refine HK.out _ _ (fun _ => hs10) ?_
          clear HK
          (try simp only [Act.put, List.setIfInBounds_toArray, List.set_cons_zero, List.set_cons_succ])
          refine AnyX.one (i := 17) (o := ⟨none, _, _, _, _, _⟩) (by kernel_rfl) rfl (fun K' hK => ?_)
          have HK := Lib.hid hK
          clear hK
          obtain ⟨k1', k2', k3', k4', k5'⟩ := hs10
          go_simp
          refine HK.out _ _ (fun h => absurd rfl h) ?_
          clear HK
          (try simp only [Act.put, List.setIfInBounds_toArray, List.set_cons_zero, List.set_cons_succ])
          refine AnyX.done (by kernel_rfl) ?_ _
          have hp10 : BelW W0 w10 ∧ WS w10 W0.heap.size (.slice (some ⟨g9, 0, none⟩) (k + 1) c9') (abR s t (k + 1)) := by
            have hg10 : (w9.alloc (.cells #[.slice A5 dl c5] 41)).grownBy w10 (Value.slice Aa2 k ca2).ownBlock := HO10.out.2.1
            rw [HRSU.out]
            refine WS.push (A := A5) (c := c5) (joinB HI8.out.1 HB9.out) R1.out (by rw [abR_len]; exact R2.out) R3.out hg10 ?_ ?_
            · rw [abR_len, HRLN.out]; exact HO10.out.1
            · rw [HRLN.out]; exact HV9.out
          have hg10 : (w9.alloc (.cells #[.slice A5 dl c5] 41)).grownBy w10 (Value.slice Aa2 k ca2).ownBlock := HO10.out.2.1
          have hn9 : BelW w9 (w9.alloc (.cells #[.slice A5 dl c5] 41)) := below_new (Below.refl _ _) _
          have hv10 := ((HI8.out.2.2.1.below HB9.out).below hn9).keptT (World.ownsRow.alloc R2.out _) (by decide) hg10
          have hww10 : WWX (.slice (some ⟨g9, 0, none⟩) (k + 1) c9') w10 W0.heap.size (.slice A8 (k + 1) c8) (abW s t (k + 1)) := by
            refine ((HI8.out.2.2.2.1.below HB9.out).below hn9).grow (World.ownsRow.alloc R2.out _) hg10 ?_
            rcases HO10.out.2.2 with h | h
            · exact .inl h.symm
            · exact .inr (by rw [h]; rfl)
          obtain ⟨W11, HW11⟩ := named (w10.setCell ⟨u, 2, none⟩ (.slice (some ⟨g9, 0, none⟩) (k + 1) c9'))
          rw [← HW11.out]
          have HF11 : Hid (BelW W0 W11 ∧ Fr W11 u 45 [.slice A7 ns c7, .slice A8 (k + 1) c8, .slice (some ⟨g9, 0, none⟩) (k + 1) c9'] ∧ VStk W11 W0.heap.size (.slice A7 ns c7) (joinL s.dff t.dff) ∧ WWX (.slice (some ⟨g9, 0, none⟩) (k + 1) c9') W11 W0.heap.size (.slice A8 (k + 1) c8) (abW s t (k + 1)) ∧ WS W11 W0.heap.size (.slice (some ⟨g9, 0, none⟩) (k + 1) c9') (abR s t (k + 1))) := Lib.hid (by
            rw [HW11.out]
            exact ⟨hp10.1.setCell (p := ⟨u, 2, none⟩) HUS.out _, HFU10.out.set 2 _, hv10.setF HFU10.out (by decide) 2 _, hww10.setF HFU10.out (by decide) (by decide) (by decide) 2 _, hp10.2.setF HFU10.out (by decide) (by decide) 2 _⟩)
          clear hp10 hg10 hn9 hv10 hww10 f2 hs9
          go_wp2
          go_roundw
          case rel => exact ⟨k + 1, A8, c8, some ⟨g9, 0, none⟩, c9', by omega, by go_num, HF11.out.1, HF11.out.2.1, HF11.out.2.2.1, HF11.out.2.2.2.1, HF11.out.2.2.2.2⟩
          case measure => simp [intOf]; omega
    · obtain rfl : m = k := by omega
      have z0 := hfu.cell 0
      have z1 := hfu.cell 1
      have z2 := hfu.cell 2
      obtain ⟨x0, x1, x2, -⟩ := HCE.out V0 hb
      have hfr := (HFR.out V0 hb).2.2
      have t0 := hfr.cell 0
      have t1 := hfr.cell 1
      have t2 := hfr.cell 2
      have f0 := hfr.frozen 0
      have f1 := hfr.frozen 1
      have f2 := hfr.frozen 2
      have hlt : q + 1 + 1 < W0.heap.size := by rw [HSZ0.out]; omega
      have hle : w.heap.size ≤ q + 1 + 1 := by have := HQW.out; omega
      have hown : OwnS V0 W0.heap.size A7 Aa1 Aa2 ns m m c7 ca1 ca2 (aboveS s t) := by rw [HEQ.out]; exact ⟨hv, hww.wws, hws⟩
      have HOW := Lib.hid (((hown.setS (a := ⟨q + 1 + 1, 0, none⟩) hlt (.slice A7 ns c7)).setS (a := ⟨q + 1 + 1, 1, none⟩) hlt (.slice Aa1 m ca1)).setS (a := ⟨q + 1 + 1, 2, none⟩) hlt (.slice Aa2 m ca2))
      have HBE := Lib.hid ((((HB0.out V0 hb).setCell (p := ⟨q + 1 + 1, 0, none⟩) hle (.slice A7 ns c7)).setCell (p := ⟨q + 1 + 1, 1, none⟩) hle (.slice Aa1 m ca1)).setCell (p := ⟨q + 1 + 1, 2, none⟩) hle (.slice Aa2 m ca2))
      have HQ2 := Lib.hid (((hfr.set 0 (.slice A7 ns c7)).set 1 (.slice Aa1 m ca1)).set 2 (.slice Aa2 m ca2))
      have HLO : Hid (w.heap.size ≤ W0.heap.size) := Lib.hid (by omega)
      clear hb hfu hv hww hws hfr hlt hle hown
      go_wp2
      refine bodyPost_ret (results_cell_row rfl _ _ _ _ _ _ _ rfl HQ2.out Tryz.underlying45 rfl (by kernel_rfl)) rfl ?_
      exact ⟨A7, c7, Aa1, ca1, Aa2, ca2, rfl, HOW.out.low HLO.out, HBE.out⟩
end Go.Proofs.YtkaedfgmhfefjaaGreatDoor
