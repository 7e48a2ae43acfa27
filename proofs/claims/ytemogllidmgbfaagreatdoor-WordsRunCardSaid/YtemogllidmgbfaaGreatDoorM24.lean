/- The texts Wpa. -/
import Derived.Test.YtemogllidmgbfaaGreatDoorM23
namespace Go.Proofs.YtemogllidmgbfaaGreatDoor
open Go.RowKit

/-- Two cells at p of block b are a pattern: its inputs and its state. -/
def PatAt (w : World) (B b p : Nat) (x : List Int × List Int) : Prop :=
  ∃ Ai As ci cs, w.cell? ⟨b, p, none⟩ = some (.slice Ai x.1.length ci) ∧ w.cell? ⟨b, p + 1, none⟩ = some (.slice As x.2.length cs) ∧ Ks w B (.slice Ai x.1.length ci) x.1 ∧ Ks w B (.slice As x.2.length cs) x.2
/-- The slice value v reads as the list l of patterns. -/
def Pts (w : World) (B : Nat) (v : Value) (l : List (List Int × List Int)) : Prop := Arr ([], []) 2 PatAt w B v l
theorem stays_pat : Stays PatAt := fun w w' B B' b p x hb hB ⟨Ai, As, ci, cs, h1, h2, h3, h4⟩ hk =>
  ⟨Ai, As, ci, cs, (hk ⟨b, p, none⟩ hb).trans h1, (hk ⟨b, p + 1, none⟩ hb).trans h2, Arr.keep stays_u8 h3 hB hk, Arr.keep stays_u8 h4 hB hk⟩
set_option maxRecDepth 100000 in
set_option maxHeartbeats 4000000 in
theorem pick1_any (l : List Int) (Ai As : Option Addr) (ni ns ci cs i q : Nat) (w : World) (B : Nat) (hB : B ≤ w.heap.size) (hl : Ks w B (.slice Ai ni ci) l) (hi : i < ni) (hq : w.cell? ⟨q, 0, none⟩ = some (.int .i64 (i : Int))) :
    Calls Tryz.prog 83 #[.agg #[.slice Ai ni ci, .slice As ns cs], .pointer (some ⟨q, 0, none⟩)] w fun e w' => e = .returned (.int .u8 (l.getD i 0)) ∧ BelW w w' := by
  obtain ⟨A', b, o, c', e, hA, -, hm, hc⟩ := hl.opens
  simp only [Value.slice.injEq] at e
  obtain ⟨rfl, hml, rfl⟩ := e
  obtain rfl := hA (by omega)
  obtain ⟨hb0, h0⟩ := hc i (by omega)
  obtain ⟨W1, HW1⟩ := named (w.alloc (.cells #[.slice (some ⟨b, o, none⟩) ni ci, .slice As ns cs] 50))
  have hb1 : BelW w W1 := by rw [HW1.out]; exact below_new (Below.refl _ _) _
  have hfp : Fr W1 w.heap.size 50 [.slice (some ⟨b, o, none⟩) ni ci, .slice As ns cs] := by rw [HW1.out]; exact Fr.made _ _ _ rfl
  have f0 : W1.cell? ⟨b, o + i, none⟩ = some (.int .u8 (l.getD i 0)) := (Below.cell hb1 (p := ⟨b, o + i, none⟩) (Nat.lt_of_lt_of_le hb0 hB)).trans h0
  have f1 : W1.cell? ⟨q, 0, none⟩ = some (.int .i64 (i : Int)) := (Below.cell hb1 (p := ⟨q, 0, none⟩) (cell_lt hq)).trans hq
  obtain ⟨r, HR⟩ := named w.heap.size
  rw [← HR.out] at hfp
  have f2 := hfp.cell 0
  have f3 := hfp.cell 1
  obtain ⟨z, HZ⟩ := named (l.getD i 0)
  rw [← HZ.out] at f0
  rw [← HZ.out]
  unfold maxLen at hm
  rw [← hml] at hm
  have HB1 := Lib.hid hb1
  clear hb1 hfp hc hA hl hq h0 hml HZ
  go_enter Tryz.func83, Tryz.ntmps83
  go_upto_region 1 with (fail)
  rw [← HW1.out, ← HR.out]
  go_wp2
  go_ret
  exact ⟨rfl, HB1.out⟩
set_option maxRecDepth 100000 in
set_option maxHeartbeats 4000000 in
theorem pick2_any (l : List Int) (Ai As : Option Addr) (ni ns ci cs i q : Nat) (w : World) (B : Nat) (hB : B ≤ w.heap.size) (hl : Ks w B (.slice As ns cs) l) (hi : i < ns) (hq : w.cell? ⟨q, 0, none⟩ = some (.int .i64 (i : Int))) :
    Calls Tryz.prog 84 #[.agg #[.slice Ai ni ci, .slice As ns cs], .pointer (some ⟨q, 0, none⟩)] w fun e w' => e = .returned (.int .u8 (l.getD i 0)) ∧ BelW w w' := by
  obtain ⟨A', b, o, c', e, hA, -, hm, hc⟩ := hl.opens
  simp only [Value.slice.injEq] at e
  obtain ⟨rfl, hml, rfl⟩ := e
  obtain rfl := hA (by omega)
  obtain ⟨hb0, h0⟩ := hc i (by omega)
  obtain ⟨W1, HW1⟩ := named (w.alloc (.cells #[.slice Ai ni ci, .slice (some ⟨b, o, none⟩) ns cs] 50))
  have hb1 : BelW w W1 := by rw [HW1.out]; exact below_new (Below.refl _ _) _
  have hfp : Fr W1 w.heap.size 50 [.slice Ai ni ci, .slice (some ⟨b, o, none⟩) ns cs] := by rw [HW1.out]; exact Fr.made _ _ _ rfl
  have f0 : W1.cell? ⟨b, o + i, none⟩ = some (.int .u8 (l.getD i 0)) := (Below.cell hb1 (p := ⟨b, o + i, none⟩) (Nat.lt_of_lt_of_le hb0 hB)).trans h0
  have f1 : W1.cell? ⟨q, 0, none⟩ = some (.int .i64 (i : Int)) := (Below.cell hb1 (p := ⟨q, 0, none⟩) (cell_lt hq)).trans hq
  obtain ⟨r, HR⟩ := named w.heap.size
  rw [← HR.out] at hfp
  have f2 := hfp.cell 0
  have f3 := hfp.cell 1
  obtain ⟨z, HZ⟩ := named (l.getD i 0)
  rw [← HZ.out] at f0
  rw [← HZ.out]
  unfold maxLen at hm
  rw [← hml] at hm
  have HB1 := Lib.hid hb1
  clear hb1 hfp hc hA hl hq h0 hml HZ
  go_enter Tryz.func84, Tryz.ntmps84
  go_upto_region 1 with (fail)
  rw [← HW1.out, ← HR.out]
  go_wp2
  go_ret
  exact ⟨rfl, HB1.out⟩
/-- Value i of each pattern's inputs. -/
def col1 (ps : List (List Int × List Int)) (i : Nat) : List Int := ps.map fun x => x.1.getD i 0
set_option maxRecDepth 100000 in
set_option maxHeartbeats 4000000 in
theorem pack1_any (ps : List (List Int × List Int)) (A : Option Addr) (n cl i q : Nat) (w : World) (B : Nat) (hB : B ≤ w.heap.size) (hf : Ft w) (hs : Pts w B (.slice A n cl) ps) (hi : ∀ x ∈ ps, i < x.1.length) (h0 : ∀ x ∈ ps, ∀ y ∈ x.1, 0 ≤ y) (hsz : n ≤ 64) (hq : w.cell? ⟨q, 0, none⟩ = some (.int .i64 (i : Int))) :
    Calls Tryz.prog 82 #[.slice A n cl, .func (.func 83) #[] #[.pointer (some ⟨q, 0, none⟩)]] w fun e w' => e = .returned (wv (pkA (col1 ps i) n) (pkB (col1 ps i) n)) ∧ BelW w w' := by
  obtain ⟨A', b, o, c', e, hA, -, -, hc⟩ := id hs
  simp only [Value.slice.injEq] at e
  obtain ⟨rfl, hml, rfl⟩ := e
  rw [← hml] at hA hc
  have HA := Lib.hid hA
  have HML := Lib.hid hml
  have hcl : (col1 ps i).length = n := by rw [hml]; exact List.length_map ..
  have HCV : Hid (∀ k, k < n → (col1 ps i).getD k 0 = (ps.getD k ([], [])).1.getD i 0) := Lib.hid fun k hk => by
    have hk2 : k < ps.length := by omega
    unfold col1
    rw [List.getD_eq_getElem?_getD, List.getElem?_map, List.getD_eq_getElem?_getD (l := ps), List.getElem?_eq_getElem hk2]
    rfl
  have hcn : ∀ y ∈ col1 ps i, 0 ≤ y := fun y hy => by
    obtain ⟨x, hx, rfl⟩ := List.mem_map.1 hy
    have hix := hi x hx
    rw [List.getD_eq_getElem?_getD, List.getElem?_eq_getElem hix]
    exact h0 x hx _ (List.getElem_mem hix)
  have HC : Hid (∀ W, BelW w W → ∀ k, k < n → ∃ Ai As ni ns ci cs, W.cell? ⟨b, o + k * 2, none⟩ = some (.slice Ai ni ci) ∧ W.cell? ⟨b, o + k * 2 + 1, none⟩ = some (.slice As ns cs) ∧ ∀ W2, BelW W W2 → Calls Tryz.prog 83 #[.agg #[.slice Ai ni ci, .slice As ns cs], .pointer (some ⟨q, 0, none⟩)] W2 fun e w' => e = .returned (.int .u8 ((col1 ps i).getD k 0)) ∧ BelW W2 w') := Lib.hid fun W h k hk => by
    obtain ⟨hb, Ai, As, ci, cs, h1, h2, h3, h4⟩ := hc k hk
    have hmem : ps.getD k ([], []) ∈ ps := by
      have hk2 : k < ps.length := by omega
      rw [List.getD_eq_getElem?_getD, List.getElem?_eq_getElem hk2]
      exact List.getElem_mem hk2
    refine ⟨Ai, As, _, _, ci, cs, (Below.cell h (p := ⟨b, _, none⟩) (Nat.lt_of_lt_of_le hb hB)).trans h1, (Below.cell h (p := ⟨b, _, none⟩) (Nat.lt_of_lt_of_le hb hB)).trans h2, fun W2 hW2 => ?_⟩
    have hw2 := joinB h hW2
    rw [HCV.out k hk]
    exact pick1_any _ Ai As _ _ ci cs i q W2 B (Nat.le_trans hB (Below.size hw2)) (Arr.keep stays_u8 h3 (Nat.le_refl _) fun _ hp => Below.cell hw2 (Nat.lt_of_lt_of_le hp hB)) (hi _ hmem) ((Below.cell hw2 (p := ⟨q, 0, none⟩) (cell_lt hq)).trans hq)
  obtain ⟨l, HL⟩ := named (col1 ps i)
  rw [← HL.out] at hcl hcn HC
  rw [← HL.out]
  obtain ⟨W1, HW1⟩ := named (w.alloc (.cells #[.int .u64 0, .int .u64 0] 27))
  have hb1 : BelW w W1 := by rw [HW1.out]; exact below_new (Below.refl _ _) _
  have hfr : Fr W1 w.heap.size 27 [.int .u64 0, .int .u64 0] := by rw [HW1.out]; exact Fr.made _ _ _ rfl
  obtain ⟨r, HR⟩ := named w.heap.size
  rw [← HR.out] at hfr
  have hrl : w.heap.size ≤ r := by rw [HR.out]; exact Nat.le_refl _
  have hmn : min n 64 = n := Nat.min_eq_left hsz
  have HPK : Hid (∀ W g, BelW w W → VRow W g l → Calls Tryz.prog 19 #[.slice (some ⟨g, 0, none⟩) n n] W fun e w' => e = .returned (wv (pkA l n) (pkB l n)) ∧ BelW W w') := Lib.hid fun W g hW hv => by
    have := pack_any l (some ⟨g, 0, none⟩) n n W W.heap.size (Nat.le_refl _) (hf.below hW) (by have := hv.ks; rw [hcl] at this; exact this) hcn
    rw [hmn] at this
    exact this
  obtain ⟨i0, hi0, hz0, hz1, hz2⟩ := info_parts info_val
  have HI := Lib.hid (And.intro hi0 (And.intro hz0 (And.intro hz1 hz2)))
  have HFR := Lib.hid hfr
  have HB1 := Lib.hid hb1
  have HCL := Lib.hid hcl
  clear hi0 hz0 hz1 hz2 hs hf hA hc hml hi h0 hq hcn HCV HL HML hfr hb1 hcl hmn
  unfold wv at *
  go_enter Tryz.func82, Tryz.ntmps82
  go_upto_region 1 with (fail)
  rw [← HW1.out, ← HR.out]
  go_wp2_with (at_make; refine wpList_make_full _ rfl _ _ 29 rfl W1.heap.size 30 i0 (.int .u8 0) 1 Tryz.underlying29 HI.out.1 HI.out.2.1 HI.out.2.2.1 .i64 .i64 _ _ n rfl rfl rfl rfl ?b2 ?b3 ?b4 ?_)
  case b2 => rw [HI.out.2.2.2]; omega
  case b3 => unfold maxLen; omega
  case b4 => exact Nat.le_refl _
  intro w1 hown hgr
  rw [made_vals] at hown
  have hv : VRow w1 W1.heap.size (List.replicate n 0) := VRow.of hown (by simp)
  have hb : BelW W1 w1 := (Below.refl _ _).grown hgr (Nat.le_refl _) (fun k h => by cases h)
  have HV := Lib.hid hv
  have HB := Lib.hid hb
  obtain ⟨g, HG⟩ := named W1.heap.size
  rw [← HG.out] at HV
  rw [← HG.out]
  have hgl : W1.heap.size ≤ g := by rw [HG.out]; exact Nat.le_refl _
  clear hown hgr hv hb
  go_wp2
  go_loopw [12] (fun j wr => ∃ (k : Nat) (out : List Int), k ≤ n ∧ j = .int .i64 k ∧ (out.length = n ∧ ∀ j, j < k → out.getD j 0 = l.getD j 0) ∧ VRow wr g out ∧ BelW W1 wr) (fun j _ => n - (intOf j).toNat)
  case atStart => exact ⟨0, _, Nat.zero_le _, rfl, ⟨by simp, fun j h => absurd h (Nat.not_lt_zero j)⟩, HV.out, HB.out⟩
  case round =>
    obtain ⟨k, out, hk, rfl, hl, hv, hb⟩ := hrel
    have HL := Lib.hid hl
    have HVR := Lib.hid hv
    have HBR := Lib.hid hb
    by_cases hlt : k < n
    · obtain rfl := HA.out (by omega)
      obtain ⟨Ai, As, ni, ns, ci, cs, f0, f1, hpk⟩ := HC.out wr (joinB HB1.out hb) k hlt
      have hgw : g < wr.heap.size := hv.lt
      have HNL : Hid ((out.set k (l.getD k 0)).length = n ∧ ∀ j, j < k + 1 → (out.set k (l.getD k 0)).getD j 0 = l.getD j 0) := Lib.hid ⟨by rw [List.length_set]; exact hl.1, fun j hj => by
        rw [List.getD_eq_getElem?_getD, List.getElem?_set]
        split
        · rename_i e
          subst e
          rw [if_pos (by rw [hl.1]; exact hlt)]; rfl
        · rename_i e
          rw [← List.getD_eq_getElem?_getD]
          exact hl.2 j (by omega)⟩
      obtain ⟨z, HZ⟩ := named (l.getD k 0)
      rw [← HZ.out] at hpk HNL
      have HPI := Lib.hid hpk
      have HLO := Lib.hid (show k < out.length by rw [hl.1]; exact hlt)
      have hsr : BelW wr wr := Below.refl _ _
      clear hpk hl hv hb
      go_wp2_with (go_at_call 83; (with_reducible refine (HPI.out _ hsr).mono ?_); rintro e w5 ⟨rfl, hb5⟩; have hv5 := HVR.out.below hb5; have e1 := hv5.cell HLO.out; have e2 := hv5.frozen k; have HV5 := Lib.hid hv5; have HB5 : Hid (BelW W1 w5) := Lib.hid (joinB HBR.out hb5); clear hv5 hb5)
      go_roundw
      case rel => exact ⟨k + 1, out.set k z, by omega, by go_num, HNL.out, HV5.out.set k z, BelW.set HB5.out hgl _⟩
      case measure => simp [intOf]; omega
    · obtain rfl : n = k := by omega
      obtain rfl : out = l := by
        apply List.ext_getElem (by rw [HL.out.1, HCL.out])
        intro j h1 h2
        have e1 := HL.out.2 j (by rw [← HL.out.1]; exact h1)
        rw [List.getD_eq_getElem?_getD, List.getElem?_eq_getElem h1, List.getD_eq_getElem?_getD, List.getElem?_eq_getElem h2] at e1
        exact e1
      have hwr : BelW w wr := joinB HB1.out hb
      clear hl hv hb
      go_wp2_with (go_at_call 19; (with_reducible refine (HPK.out _ _ hwr HVR.out).mono ?_); rintro e w6 ⟨rfl, hb6⟩; have hf6 := HFR.out.below (joinB HBR.out hb6); have z0 := hf6.cell 0; have z1 := hf6.cell 1; have z2 := hf6.frozen 0; have z3 := hf6.frozen 1; have HF6 := Lib.hid hf6; have HB6 : Hid (BelW w w6) := Lib.hid (joinB hwr hb6); clear hf6 hb6)
      (try simp only [Exit.inBlock, Exit.then])
      refine bodyPost_ret (results_cell_row rfl _ _ _ _ _ _ _ rfl ((HF6.out.set 0 _).set 1 _) Tryz.underlying27 rfl (by kernel_rfl)) rfl ?_
      exact ⟨rfl, BelW.set (BelW.set HB6.out hrl _) hrl _⟩
/-- Value i of each pattern's state. -/
def col2 (ps : List (List Int × List Int)) (i : Nat) : List Int := ps.map fun x => x.2.getD i 0
set_option maxRecDepth 100000 in
set_option maxHeartbeats 4000000 in
theorem pack2_any (ps : List (List Int × List Int)) (A : Option Addr) (n cl i q : Nat) (w : World) (B : Nat) (hB : B ≤ w.heap.size) (hf : Ft w) (hs : Pts w B (.slice A n cl) ps) (hi : ∀ x ∈ ps, i < x.2.length) (h0 : ∀ x ∈ ps, ∀ y ∈ x.2, 0 ≤ y) (hsz : n ≤ 64) (hq : w.cell? ⟨q, 0, none⟩ = some (.int .i64 (i : Int))) :
    Calls Tryz.prog 82 #[.slice A n cl, .func (.func 84) #[] #[.pointer (some ⟨q, 0, none⟩)]] w fun e w' => e = .returned (wv (pkA (col2 ps i) n) (pkB (col2 ps i) n)) ∧ BelW w w' := by
  obtain ⟨A', b, o, c', e, hA, -, -, hc⟩ := id hs
  simp only [Value.slice.injEq] at e
  obtain ⟨rfl, hml, rfl⟩ := e
  rw [← hml] at hA hc
  have HA := Lib.hid hA
  have HML := Lib.hid hml
  have hcl : (col2 ps i).length = n := by rw [hml]; exact List.length_map ..
  have HCV : Hid (∀ k, k < n → (col2 ps i).getD k 0 = (ps.getD k ([], [])).2.getD i 0) := Lib.hid fun k hk => by
    have hk2 : k < ps.length := by omega
    unfold col2
    rw [List.getD_eq_getElem?_getD, List.getElem?_map, List.getD_eq_getElem?_getD (l := ps), List.getElem?_eq_getElem hk2]
    rfl
  have hcn : ∀ y ∈ col2 ps i, 0 ≤ y := fun y hy => by
    obtain ⟨x, hx, rfl⟩ := List.mem_map.1 hy
    have hix := hi x hx
    rw [List.getD_eq_getElem?_getD, List.getElem?_eq_getElem hix]
    exact h0 x hx _ (List.getElem_mem hix)
  have HC : Hid (∀ W, BelW w W → ∀ k, k < n → ∃ Ai As ni ns ci cs, W.cell? ⟨b, o + k * 2, none⟩ = some (.slice Ai ni ci) ∧ W.cell? ⟨b, o + k * 2 + 1, none⟩ = some (.slice As ns cs) ∧ ∀ W2, BelW W W2 → Calls Tryz.prog 84 #[.agg #[.slice Ai ni ci, .slice As ns cs], .pointer (some ⟨q, 0, none⟩)] W2 fun e w' => e = .returned (.int .u8 ((col2 ps i).getD k 0)) ∧ BelW W2 w') := Lib.hid fun W h k hk => by
    obtain ⟨hb, Ai, As, ci, cs, h1, h2, h3, h4⟩ := hc k hk
    have hmem : ps.getD k ([], []) ∈ ps := by
      have hk2 : k < ps.length := by omega
      rw [List.getD_eq_getElem?_getD, List.getElem?_eq_getElem hk2]
      exact List.getElem_mem hk2
    refine ⟨Ai, As, _, _, ci, cs, (Below.cell h (p := ⟨b, _, none⟩) (Nat.lt_of_lt_of_le hb hB)).trans h1, (Below.cell h (p := ⟨b, _, none⟩) (Nat.lt_of_lt_of_le hb hB)).trans h2, fun W2 hW2 => ?_⟩
    have hw2 := joinB h hW2
    rw [HCV.out k hk]
    exact pick2_any _ Ai As _ _ ci cs i q W2 B (Nat.le_trans hB (Below.size hw2)) (Arr.keep stays_u8 h4 (Nat.le_refl _) fun _ hp => Below.cell hw2 (Nat.lt_of_lt_of_le hp hB)) (hi _ hmem) ((Below.cell hw2 (p := ⟨q, 0, none⟩) (cell_lt hq)).trans hq)
  obtain ⟨l, HL⟩ := named (col2 ps i)
  rw [← HL.out] at hcl hcn HC
  rw [← HL.out]
  obtain ⟨W1, HW1⟩ := named (w.alloc (.cells #[.int .u64 0, .int .u64 0] 27))
  have hb1 : BelW w W1 := by rw [HW1.out]; exact below_new (Below.refl _ _) _
  have hfr : Fr W1 w.heap.size 27 [.int .u64 0, .int .u64 0] := by rw [HW1.out]; exact Fr.made _ _ _ rfl
  obtain ⟨r, HR⟩ := named w.heap.size
  rw [← HR.out] at hfr
  have hrl : w.heap.size ≤ r := by rw [HR.out]; exact Nat.le_refl _
  have hmn : min n 64 = n := Nat.min_eq_left hsz
  have HPK : Hid (∀ W g, BelW w W → VRow W g l → Calls Tryz.prog 19 #[.slice (some ⟨g, 0, none⟩) n n] W fun e w' => e = .returned (wv (pkA l n) (pkB l n)) ∧ BelW W w') := Lib.hid fun W g hW hv => by
    have := pack_any l (some ⟨g, 0, none⟩) n n W W.heap.size (Nat.le_refl _) (hf.below hW) (by have := hv.ks; rw [hcl] at this; exact this) hcn
    rw [hmn] at this
    exact this
  obtain ⟨i0, hi0, hz0, hz1, hz2⟩ := info_parts info_val
  have HI := Lib.hid (And.intro hi0 (And.intro hz0 (And.intro hz1 hz2)))
  have HFR := Lib.hid hfr
  have HB1 := Lib.hid hb1
  have HCL := Lib.hid hcl
  clear hi0 hz0 hz1 hz2 hs hf hA hc hml hi h0 hq hcn HCV HL HML hfr hb1 hcl hmn
  unfold wv at *
  go_enter Tryz.func82, Tryz.ntmps82
  go_upto_region 1 with (fail)
  rw [← HW1.out, ← HR.out]
  go_wp2_with (at_make; refine wpList_make_full _ rfl _ _ 29 rfl W1.heap.size 30 i0 (.int .u8 0) 1 Tryz.underlying29 HI.out.1 HI.out.2.1 HI.out.2.2.1 .i64 .i64 _ _ n rfl rfl rfl rfl ?b2 ?b3 ?b4 ?_)
  case b2 => rw [HI.out.2.2.2]; omega
  case b3 => unfold maxLen; omega
  case b4 => exact Nat.le_refl _
  intro w1 hown hgr
  rw [made_vals] at hown
  have hv : VRow w1 W1.heap.size (List.replicate n 0) := VRow.of hown (by simp)
  have hb : BelW W1 w1 := (Below.refl _ _).grown hgr (Nat.le_refl _) (fun k h => by cases h)
  have HV := Lib.hid hv
  have HB := Lib.hid hb
  obtain ⟨g, HG⟩ := named W1.heap.size
  rw [← HG.out] at HV
  rw [← HG.out]
  have hgl : W1.heap.size ≤ g := by rw [HG.out]; exact Nat.le_refl _
  clear hown hgr hv hb
  go_wp2
  go_loopw [12] (fun j wr => ∃ (k : Nat) (out : List Int), k ≤ n ∧ j = .int .i64 k ∧ (out.length = n ∧ ∀ j, j < k → out.getD j 0 = l.getD j 0) ∧ VRow wr g out ∧ BelW W1 wr) (fun j _ => n - (intOf j).toNat)
  case atStart => exact ⟨0, _, Nat.zero_le _, rfl, ⟨by simp, fun j h => absurd h (Nat.not_lt_zero j)⟩, HV.out, HB.out⟩
  case round =>
    obtain ⟨k, out, hk, rfl, hl, hv, hb⟩ := hrel
    have HL := Lib.hid hl
    have HVR := Lib.hid hv
    have HBR := Lib.hid hb
    by_cases hlt : k < n
    · obtain rfl := HA.out (by omega)
      obtain ⟨Ai, As, ni, ns, ci, cs, f0, f1, hpk⟩ := HC.out wr (joinB HB1.out hb) k hlt
      have hgw : g < wr.heap.size := hv.lt
      have HNL : Hid ((out.set k (l.getD k 0)).length = n ∧ ∀ j, j < k + 1 → (out.set k (l.getD k 0)).getD j 0 = l.getD j 0) := Lib.hid ⟨by rw [List.length_set]; exact hl.1, fun j hj => by
        rw [List.getD_eq_getElem?_getD, List.getElem?_set]
        split
        · rename_i e
          subst e
          rw [if_pos (by rw [hl.1]; exact hlt)]; rfl
        · rename_i e
          rw [← List.getD_eq_getElem?_getD]
          exact hl.2 j (by omega)⟩
      obtain ⟨z, HZ⟩ := named (l.getD k 0)
      rw [← HZ.out] at hpk HNL
      have HPI := Lib.hid hpk
      have HLO := Lib.hid (show k < out.length by rw [hl.1]; exact hlt)
      have hsr : BelW wr wr := Below.refl _ _
      clear hpk hl hv hb
      go_wp2_with (go_at_call 84; (with_reducible refine (HPI.out _ hsr).mono ?_); rintro e w5 ⟨rfl, hb5⟩; have hv5 := HVR.out.below hb5; have e1 := hv5.cell HLO.out; have e2 := hv5.frozen k; have HV5 := Lib.hid hv5; have HB5 : Hid (BelW W1 w5) := Lib.hid (joinB HBR.out hb5); clear hv5 hb5)
      go_roundw
      case rel => exact ⟨k + 1, out.set k z, by omega, by go_num, HNL.out, HV5.out.set k z, BelW.set HB5.out hgl _⟩
      case measure => simp [intOf]; omega
    · obtain rfl : n = k := by omega
      obtain rfl : out = l := by
        apply List.ext_getElem (by rw [HL.out.1, HCL.out])
        intro j h1 h2
        have e1 := HL.out.2 j (by rw [← HL.out.1]; exact h1)
        rw [List.getD_eq_getElem?_getD, List.getElem?_eq_getElem h1, List.getD_eq_getElem?_getD, List.getElem?_eq_getElem h2] at e1
        exact e1
      have hwr : BelW w wr := joinB HB1.out hb
      clear hl hv hb
      go_wp2_with (go_at_call 19; (with_reducible refine (HPK.out _ _ hwr HVR.out).mono ?_); rintro e w6 ⟨rfl, hb6⟩; have hf6 := HFR.out.below (joinB HBR.out hb6); have z0 := hf6.cell 0; have z1 := hf6.cell 1; have z2 := hf6.frozen 0; have z3 := hf6.frozen 1; have HF6 := Lib.hid hf6; have HB6 : Hid (BelW w w6) := Lib.hid (joinB hwr hb6); clear hf6 hb6)
      (try simp only [Exit.inBlock, Exit.then])
      refine bodyPost_ret (results_cell_row rfl _ _ _ _ _ _ _ rfl ((HF6.out.set 0 _).set 1 _) Tryz.underlying27 rfl (by kernel_rfl)) rfl ?_
      exact ⟨rfl, BelW.set (BelW.set HB6.out hrl _) hrl _⟩
end Go.Proofs.YtemogllidmgbfaaGreatDoor
