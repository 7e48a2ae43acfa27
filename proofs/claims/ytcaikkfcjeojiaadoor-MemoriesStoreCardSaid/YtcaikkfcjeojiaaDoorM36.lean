/- The texts Rh9. -/
import Derived.Test.YtcaikkfcjeojiaaDoorM34
import Derived.Test.YtcaikkfcjeojiaaDoorM35
namespace Go.Proofs.YtcaikkfcjeojiaaDoor
open Go.RowKit

theorem vstk_low {w : World} {base base' : Nat} {v : Value} {l : List Int} (h : VStk w base v l) (hb : base' ≤ base) : VStk w base' v l := by
  refine ⟨h.1, ?_⟩
  rcases h.2 with h2 | ⟨g, cap, cur, e, hb', h3⟩
  · exact .inl h2
  · exact .inr ⟨g, cap, cur, e, Nat.le_trans hb hb', h3⟩
theorem bw_len (w : List Int) (b : Nat) : (bw w b).length ≤ 2 := by
  rcases bw_spec w b with ⟨-, e⟩ | ⟨-, e⟩ | ⟨-, e⟩ <;> rw [e] <;> decide
theorem bw_01 (w : List Int) (b : Nat) (x : Int) (h : x ∈ bw w b) : x = 0 ∨ x = 1 := by
  rcases bw_spec w b with ⟨-, e⟩ | ⟨-, e⟩ | ⟨-, e⟩ <;> rw [e] at h <;> simp at h
  · exact h
  · exact .inl h
  · exact .inr h
/-- What one address and one enable give of a bit. -/
def gE (word data : List Int) (at_ : Int) (b : Nat) (a e : Int) : List Int := if e = 1 ∧ a = at_ then bw data b else bw word b
theorem gE_len (word data : List Int) (at_ : Int) (b : Nat) (a e : Int) : (gE word data at_ b a e).length ≤ 2 := by unfold gE; split <;> exact bw_len _ _
theorem gE_01 (word data : List Int) (at_ : Int) (b : Nat) (a e x : Int) (h : x ∈ gE word data at_ b a e) : x = 0 ∨ x = 1 := by
  unfold gE at h
  split at h
  · exact bw_01 _ _ _ h
  · exact bw_01 _ _ _ h
theorem flat_len (l : List Int) (f : Int → List Int) (m : Nat) (h : ∀ x, (f x).length ≤ m) : (l.flatMap f).length ≤ l.length * m := by
  induction l with
  | nil => simp
  | cons a t ih =>
    rw [List.flatMap_cons, List.length_append, List.length_cons, Nat.add_mul, Nat.one_mul]
    have := h a
    omega
theorem refS_eq (word : List Int) (at_ : Int) (ad data : List Int) (en : Int) (b : Nat) : refS word at_ ad data en b = (adS ad ad.length).flatMap fun a => (Lg.chc en false).flatMap (gE word data at_ b a) := rfl
theorem refS_01 (word : List Int) (at_ : Int) (ad data : List Int) (en : Int) (b : Nat) (x : Int) (h : x ∈ refS word at_ ad data en b) : x = 0 ∨ x = 1 := by
  rw [refS_eq] at h
  simp only [List.mem_flatMap] at h
  obtain ⟨a, -, e, -, hx⟩ := h
  exact gE_01 _ _ _ _ _ _ _ hx
/-- What the reference's Store returns. -/
def refW (word : List Int) (at_ : Int) (ad data : List Int) (en : Int) (k : Nat) : List Int := (List.range k).map fun b => valL (refS word at_ ad data en b)
theorem refW_succ (word : List Int) (at_ : Int) (ad data : List Int) (en : Int) (k : Nat) : refW word at_ ad data en (k + 1) = refW word at_ ad data en k ++ [valL (refS word at_ ad data en k)] := by unfold refW; rw [List.range_succ, List.map_append]; rfl
theorem refW_len (word : List Int) (at_ : Int) (ad data : List Int) (en : Int) (k : Nat) : (refW word at_ ad data en k).length = k := by simp [refW]
set_option maxRecDepth 100000 in
set_option maxHeartbeats 8000000 in
theorem rstore_any (word ad dt : List Int) (at_ en : Int) (A Aa Ad : Option Addr) (m c ma ca md cd : Nat) (w : World) (B : Nat) (hB : B ≤ w.heap.size) (hw : Ks w B (.slice A m c) word) (ha : Ks w B (.slice Aa ma ca) ad) (hd : Ks w B (.slice Ad md cd) dt) (h6 : ma ≤ 6) (hm : m ≤ 1000) :
    Calls Tryd.prog 10 #[.slice A m c, .int .i64 at_, .slice Aa ma ca, .slice Ad md cd, .int .u8 en] w fun e w' => ∃ v, e = .returned v ∧ VStk w' w.heap.size v (refW word at_ ad dt en m) ∧ BelW w w' := by
  have hal : ma = ad.length := by
    obtain ⟨_, _, _, _, e, -⟩ := ha.opens
    simp only [Value.slice.injEq] at e
    exact e.2.1
  have HKW : Hid (∀ W, BelW w W → Ks W W.heap.size (.slice A m c) word) := Lib.hid fun W h => Arr.keep stays_u8 hw (Nat.le_trans hB (Below.size h)) fun _ hp => Below.cell h (Nat.lt_of_lt_of_le hp hB)
  have HKD : Hid (∀ W, BelW w W → Ks W W.heap.size (.slice Ad md cd) dt) := Lib.hid fun W h => Arr.keep stays_u8 hd (Nat.le_trans hB (Below.size h)) fun _ hp => Below.cell h (Nat.lt_of_lt_of_le hp hB)
  have HCA := Lib.hid (adr_any ad Aa ma ca w B hB ha h6)
  have HOL := Lib.hid (Nat.le_trans (adS_len ad ma) (Nat.le_trans (Nat.pow_le_pow_right (by decide) h6) (by decide : 2 ^ 6 ≤ 64)))
  have HRS : Hid (∀ b, refS word at_ ad dt en b = (adS ad ma).flatMap fun a => (Lg.chc en false).flatMap (gE word dt at_ b a)) := Lib.hid fun b => by rw [refS_eq, hal]
  have HR01 := Lib.hid (fun b x h => refS_01 word at_ ad dt en b x h)
  have HRW := Lib.hid (fun k => refW_succ word at_ ad dt en k)
  have HRL := Lib.hid (fun k => refW_len word at_ ad dt en k)
  have HCE := Lib.hid (fun W => Lg.choices_any en false W)
  have hel : (Lg.chc en false).length ≤ 2 := by rcases chc_01 en with e | e | e <;> rw [e] <;> decide
  obtain ⟨E, HE⟩ := named (Lg.chc en false)
  rw [← HE.out] at HRS HCE hel
  obtain ⟨ne, HNE⟩ := named E.length
  rw [← HNE.out] at HCE hel
  obtain ⟨O, HO⟩ := named (adS ad ma)
  rw [← HO.out] at HCA HOL HRS
  have hol := HOL.out
  obtain ⟨no, HNO⟩ := named O.length
  rw [← HNO.out] at HCA hol
  obtain ⟨ii, hji, hy0, hy1, hy2⟩ := info_parts info_int
  have HJ := Lib.hid (And.intro hji (And.intro hy0 (And.intro hy1 hy2)))
  obtain ⟨iv, hvi, hv0, hv1, hv2⟩ := info_parts info_val
  have HV := Lib.hid (And.intro hvi (And.intro hv0 (And.intro hv1 hv2)))
  clear hw ha hd hal HOL hji hy0 hy1 hy2 hvi hv0 hv1 hv2
  go_enter Tryd.func10, Tryd.ntmps10
  go_upto_region 3 with (go_at_call 23; (with_reducible refine HCA.out.mono ?_); rintro e w1 ⟨Ao, co, rfl, hio, hb1⟩; have HIO1 := Lib.hid hio; have HB1 : Hid (BelW w w1) := Lib.hid hb1; clear hio hb1)
  obtain ⟨X, HX⟩ := named (w1.alloc (.cells (E.map (Value.int .i64)).toArray 3))
  have HCE1 := Lib.hid (HCE.out w1)
  rw [← HX.out] at HCE1
  have hbX1 : BelW w1 X := by rw [HX.out]; exact below_new (Below.refl _ _) _
  have hfX : Fr X w1.heap.size 3 (E.map (Value.int .i64)) := by rw [HX.out]; exact Fr.made _ _ _ rfl
  have HEX : Hid (∀ j, j < ne → ∀ W, BelW X W → W.cell? ⟨w1.heap.size, j, none⟩ = some (.int .i64 (E.getD j 0))) := Lib.hid fun j hj W h => by
    rw [HNE.out] at hj
    rw [(hfX.below h).cell, List.getElem?_map, List.getElem?_eq_getElem hj, List.getD_eq_getElem?_getD, List.getElem?_eq_getElem hj]; rfl
  obtain ⟨Ao', bo, oo, co', e, hAo, -, -, hco⟩ := HIO1.out
  simp only [Value.slice.injEq] at e
  obtain ⟨rfl, -, rfl⟩ := e
  have HAO : Hid (0 < no → Ao = some ⟨bo, oo, none⟩) := Lib.hid (by rw [HNO.out]; exact hAo)
  have HOX : Hid (∀ i, i < no → ∀ W, BelW X W → W.cell? ⟨bo, oo + i, none⟩ = some (.int .i64 (O.getD i 0))) := Lib.hid fun i hi W h => by
    rw [HNO.out] at hi
    have h2 : w1.cell? ⟨bo, oo + i * 1, none⟩ = some (.int .i64 (O.getD i 0)) := (hco i hi).2
    rw [Nat.mul_one] at h2
    exact (Below.cell (BelW.trans hbX1 h) (p := ⟨bo, oo + i, none⟩) (hco i hi).1).trans h2
  obtain ⟨ge, HGE⟩ := named w1.heap.size
  rw [← HGE.out] at HEX HCE1
  have HBX : Hid (BelW w X) := Lib.hid (BelW.trans HB1.out hbX1)
  clear hbX1 hfX hAo hco HCE
  obtain ⟨gx, HGX⟩ := named X.heap.size
  have HBT : Hid (∀ (b : Nat) (W : World), BelW X W → Calls Tryd.prog 25 #[.slice A m c, .int .i64 (b : Int)] W fun e w' => e = .returned (.slice (some ⟨W.heap.size, 0, none⟩) (bw word b).length (bw word b).length) ∧ w' = W.alloc (.cells ((bw word b).map (Value.int .i64)).toArray 3)) := Lib.hid fun b W h => rbit_any word A m c b W W.heap.size (HKW.out W (BelW.trans HBX.out h))
  have HBD : Hid (∀ (b : Nat) (W : World), BelW X W → Calls Tryd.prog 25 #[.slice Ad md cd, .int .i64 (b : Int)] W fun e w' => e = .returned (.slice (some ⟨W.heap.size, 0, none⟩) (bw dt b).length (bw dt b).length) ∧ w' = W.alloc (.cells ((bw dt b).map (Value.int .i64)).toArray 3)) := Lib.hid fun b W h => rbit_any dt Ad md cd b W W.heap.size (HKD.out W (BelW.trans HBX.out h))
  go_wp2_with (go_at_call 24; (with_reducible refine HCE1.out.mono ?_); rintro e w2 ⟨rfl, hw2⟩; obtain rfl : X = w2 := hw2.symm)
  go_loopw [11, 14] (fun ov bv wr => ∃ b : Nat, b ≤ m ∧ bv = .int .i64 b ∧ VStk wr gx ov (refW word at_ ad dt en b) ∧ BelW X wr) (fun _ bv _ => m - (intOf bv).toNat)
  case atStart => exact ⟨0, Nat.zero_le _, rfl, VStk.nil _ _, Below.refl _ _⟩
  case round =>
    obtain ⟨bq, hbq, rfl, hst, hby⟩ := hrel
    obtain ⟨Y, rfl⟩ : ∃ z, z = wr := ⟨_, rfl⟩
    obtain ⟨ov, rfl⟩ : ∃ z, z = u11 := ⟨_, rfl⟩
    have HVS := Lib.hid hst
    have HBY := Lib.hid hby
    by_cases hlb : bq < m
    · have hb2 : (bq : Int) < (m : Int) := by omega
      have HBTB := Lib.hid (HBT.out bq)
      have HBDB := Lib.hid (HBD.out bq)
      have HRSB := Lib.hid (HRS.out bq)
      have HR1B := Lib.hid (HR01.out bq)
      have HRWB := Lib.hid (HRW.out bq)
      have hrl := HRL.out bq
      obtain ⟨RS, HRSN⟩ := named (refS word at_ ad dt en bq)
      rw [← HRSN.out] at HRSB HR1B HRWB
      obtain ⟨RB, HRB⟩ := named (refW word at_ ad dt en bq)
      rw [← HRB.out] at HRWB hrl HVS
      obtain ⟨gl, HGL⟩ := named Y.heap.size
      have HTO : Hid (∀ i, i < no → (O.take (i + 1)).flatMap (fun a => E.flatMap (gE word dt at_ bq a)) = (O.take i).flatMap (fun a => E.flatMap (gE word dt at_ bq a)) ++ E.flatMap (gE word dt at_ bq (O.getD i 0))) := Lib.hid fun i hi => take_flat _ (by rw [← HNO.out]; exact hi)
      have HTL : Hid (∀ i, i ≤ no → ((O.take i).flatMap (fun a => E.flatMap (gE word dt at_ bq a))).length ≤ 256) := Lib.hid fun i hi => by
        refine Nat.le_trans (flat_len _ _ 4 fun a => Nat.le_trans (flat_len _ _ 2 fun e => gE_len _ _ _ _ _ _) (by rw [← HNE.out]; omega)) ?_
        rw [List.length_take]; omega
      obtain ⟨FF, HFF⟩ := named (fun a => E.flatMap (gE word dt at_ bq a))
      have hffa : ∀ a, FF a = E.flatMap (gE word dt at_ bq a) := fun a => by rw [HFF.out]
      have HFA := Lib.hid hffa
      rw [← HFF.out] at HTO HTL HRSB
      clear hst hby hffa
      go_wp2_with fail
      go_loopw [15, 16] (fun lv iv w3 => ∃ i : Nat, i ≤ no ∧ iv = .int .i64 i ∧ Stk w3 gl lv ((O.take i).flatMap FF) ∧ BelW Y w3) (fun _ iv _ => no - (intOf iv).toNat)
      case atStart => exact ⟨0, Nat.zero_le _, rfl, Stk.nil _ _, Below.refl _ _⟩
      case round =>
        obtain ⟨i, hi, rfl, hst, hbx⟩ := hrel
        by_cases hli : i < no
        · have HTI := Lib.hid (HTO.out i hli)
          have htl := HTL.out i hi
          have hi2 : (i : Int) < (no : Int) := by omega
          have HOI := Lib.hid (HOX.out i hli)
          obtain rfl := HAO.out (by omega)
          obtain ⟨x, HXX⟩ := named (O.getD i 0)
          rw [← HXX.out] at HTI HOI
          obtain ⟨P, HP⟩ := named ((O.take i).flatMap FF)
          rw [← HP.out] at HTI htl hst
          have HPT : Hid (∀ k, k < ne → P ++ (E.take (k + 1)).flatMap (gE word dt at_ bq x) = (P ++ (E.take k).flatMap (gE word dt at_ bq x)) ++ gE word dt at_ bq x (E.getD k 0)) := Lib.hid fun k hk => by rw [take_flat _ (by rw [← HNE.out]; exact hk), List.append_assoc]
          have HPL : Hid (∀ k, k ≤ ne → (P ++ (E.take k).flatMap (gE word dt at_ bq x)).length ≤ 260) := Lib.hid fun k hk => by
            rw [List.length_append]
            have := flat_len (E.take k) (gE word dt at_ bq x) 2 (fun e => gE_len _ _ _ _ _ _)
            rw [List.length_take] at this
            have h2 : min k E.length * 2 ≤ 4 := by rw [← HNE.out]; omega
            omega
          have HST0 := Lib.hid hst
          have HBX0 := Lib.hid hbx
          clear hst hbx
          go_wp2_with fail
          go_loopw [15, 17] (fun lv kv w4 => ∃ k : Nat, k ≤ ne ∧ kv = .int .i64 k ∧ Stk w4 gl lv (P ++ (E.take k).flatMap (gE word dt at_ bq x)) ∧ BelW Y w4) (fun _ kv _ => ne - (intOf kv).toNat)
          case atStart => exact ⟨0, Nat.zero_le _, rfl, by rw [List.take_zero, List.flatMap_nil, List.append_nil]; exact HST0.out, HBX0.out⟩
          case round =>
            obtain ⟨kk, hk, rfl, hst, hbx⟩ := hrel
            obtain ⟨lv, rfl⟩ : ∃ z, z = u15 := ⟨_, rfl⟩
            by_cases hlk : kk < ne
            · have hge := HPT.out kk hlk
              have hpl := HPL.out kk hk
              have hk2 : (kk : Int) < (ne : Int) := by omega
              have y1 := HEX.out kk hlk wr (BelW.trans HBY.out hbx)
              have y2 := HOI.out wr (BelW.trans HBY.out hbx)
              obtain ⟨ee, HEE⟩ := named (E.getD kk 0)
              rw [← HEE.out] at hge y1
              obtain ⟨PK, HPK⟩ := named (P ++ (E.take kk).flatMap (gE word dt at_ bq x))
              rw [← HPK.out] at hge hpl hst
              have HST2 := Lib.hid hst
              have HQ : Hid (∀ q, lv.ownBlock = some q → gl ≤ q) := Lib.hid fun q hq => (World.ownsRow.lt hst q hq).1
              clear hst
              by_cases he1 : ee = 1
              · subst he1
                by_cases hxa : x = at_
                · replace hge := hge.trans (congrArg (PK ++ ·) (if_pos ⟨rfl, hxa⟩))
                  have t1 : (x == at_) = true := by simp [hxa]
                  clear hxa
                  have HBT := Lib.hid (HBDB.out wr (BelW.trans HBY.out hbx))
                  have HGB := Lib.hid hge
                  obtain ⟨D, HD⟩ := named (bw dt bq)
                  rw [← HD.out] at HBT HGB
                  have hdl : D.length ≤ 2 := by rw [HD.out]; exact bw_len _ _
                  obtain ⟨nd, HND⟩ := named D.length
                  rw [← HND.out] at HBT hdl
                  have HPN : Hid ((PK ++ D).length = PK.length + nd) := Lib.hid (by rw [List.length_append, HND.out])
                  have hgl : gl ≤ wr.heap.size := by rw [HGL.out]; exact Below.size hbx
                  have HWX : Hid (BelW wr (wr.alloc (.cells (D.map (Value.int .i64)).toArray 3))) := Lib.hid (below_new (Below.refl _ _) _)
                  have HCD : Hid (∀ (j : Nat) (u : Value), (D.map (Value.int .i64))[j]? = some u → (wr.alloc (.cells (D.map (Value.int .i64)).toArray 3)).cell? ((⟨wr.heap.size, 0, none⟩ : Addr).add j) = some u) := Lib.hid fun j u h => by
                    rw [WideShapes.add_plain, World.cell?_alloc_at _ _ _ _ rfl, Nat.zero_add]
                    simpa using h
                  have hst2 := HST2.out.below HWX.out
                  have HST3 := Lib.hid hst2
                  have HBX := Lib.hid hbx
                  clear hbx hst2 hge
                  go_wp2_with (first
                    | (go_at_call 25; (with_reducible refine HBT.out.mono ?_); rintro e w5 ⟨rfl, rfl⟩)
                    | (at_builtin; refine wpList_append_own_at _ rfl _ _ 48 rfl gl 3 ii (.int .i64 0) 1 8 Tryd.underlying48 HJ.out.1 HJ.out.2.1 HJ.out.2.2.1 HJ.out.2.2.2 rfl (by decide) lv PK.length (PK.map (Value.int .i64)) rfl HST3.out ⟨wr.heap.size, 0, none⟩ nd nd (D.map (Value.int .i64)) rfl (by rw [List.length_map, HND.out, Nat.mul_one]) HCD.out (ints_oneCell .i64 D) (by unfold maxLen; omega) (by omega) (by simp; omega) ?_; intro v6 w6 hown6 hgrow6 hnil6 hloc6; have HS6 : Hid (Stk w6 gl v6 (PK ++ D)) := Lib.hid (by unfold Stk; rw [List.length_append, List.map_append, ← HND.out]; exact hown6); have HB6 : Hid (BelW Y w6) := Lib.hid (by rw [HGL.out] at hown6; exact Below.grown (BelW.trans HBX.out HWX.out) hgrow6 (by simp; rw [← HGL.out]; omega) (fun q hq => by rw [← HGL.out]; exact HQ.out q hq)); clear hown6 hgrow6 hnil6 hloc6))
                  go_roundw
                  case rel => exact ⟨kk + 1, by omega, by go_num, by rw [HGB.out]; exact HS6.out, HB6.out⟩
                  case measure => simp [intOf]; omega
                · replace hge := hge.trans (congrArg (PK ++ ·) (if_neg fun h => hxa h.2))
                  have t1 : (x == at_) = false := by simpa using hxa
                  clear hxa
                  have HBT := Lib.hid (HBTB.out wr (BelW.trans HBY.out hbx))
                  have HGB := Lib.hid hge
                  obtain ⟨D, HD⟩ := named (bw word bq)
                  rw [← HD.out] at HBT HGB
                  have hdl : D.length ≤ 2 := by rw [HD.out]; exact bw_len _ _
                  obtain ⟨nd, HND⟩ := named D.length
                  rw [← HND.out] at HBT hdl
                  have HPN : Hid ((PK ++ D).length = PK.length + nd) := Lib.hid (by rw [List.length_append, HND.out])
                  have hgl : gl ≤ wr.heap.size := by rw [HGL.out]; exact Below.size hbx
                  have HWX : Hid (BelW wr (wr.alloc (.cells (D.map (Value.int .i64)).toArray 3))) := Lib.hid (below_new (Below.refl _ _) _)
                  have HCD : Hid (∀ (j : Nat) (u : Value), (D.map (Value.int .i64))[j]? = some u → (wr.alloc (.cells (D.map (Value.int .i64)).toArray 3)).cell? ((⟨wr.heap.size, 0, none⟩ : Addr).add j) = some u) := Lib.hid fun j u h => by
                    rw [WideShapes.add_plain, World.cell?_alloc_at _ _ _ _ rfl, Nat.zero_add]
                    simpa using h
                  have hst2 := HST2.out.below HWX.out
                  have HST3 := Lib.hid hst2
                  have HBX := Lib.hid hbx
                  clear hbx hst2 hge
                  go_wp2_with (first
                    | (go_at_call 25; (with_reducible refine HBT.out.mono ?_); rintro e w5 ⟨rfl, rfl⟩)
                    | (at_builtin; refine wpList_append_own_at _ rfl _ _ 48 rfl gl 3 ii (.int .i64 0) 1 8 Tryd.underlying48 HJ.out.1 HJ.out.2.1 HJ.out.2.2.1 HJ.out.2.2.2 rfl (by decide) lv PK.length (PK.map (Value.int .i64)) rfl HST3.out ⟨wr.heap.size, 0, none⟩ nd nd (D.map (Value.int .i64)) rfl (by rw [List.length_map, HND.out, Nat.mul_one]) HCD.out (ints_oneCell .i64 D) (by unfold maxLen; omega) (by omega) (by simp; omega) ?_; intro v6 w6 hown6 hgrow6 hnil6 hloc6; have HS6 : Hid (Stk w6 gl v6 (PK ++ D)) := Lib.hid (by unfold Stk; rw [List.length_append, List.map_append, ← HND.out]; exact hown6); have HB6 : Hid (BelW Y w6) := Lib.hid (by rw [HGL.out] at hown6; exact Below.grown (BelW.trans HBX.out HWX.out) hgrow6 (by simp; rw [← HGL.out]; omega) (fun q hq => by rw [← HGL.out]; exact HQ.out q hq)); clear hown6 hgrow6 hnil6 hloc6))
                  go_roundw
                  case rel => exact ⟨kk + 1, by omega, by go_num, by rw [HGB.out]; exact HS6.out, HB6.out⟩
                  case measure => simp [intOf]; omega
              · replace hge := hge.trans (congrArg (PK ++ ·) (if_neg fun h => he1 h.1))
                have t1 : (ee == 1) = false := by simpa using he1
                clear he1
                have HBT := Lib.hid (HBTB.out wr (BelW.trans HBY.out hbx))
                have HGB := Lib.hid hge
                obtain ⟨D, HD⟩ := named (bw word bq)
                rw [← HD.out] at HBT HGB
                have hdl : D.length ≤ 2 := by rw [HD.out]; exact bw_len _ _
                obtain ⟨nd, HND⟩ := named D.length
                rw [← HND.out] at HBT hdl
                have HPN : Hid ((PK ++ D).length = PK.length + nd) := Lib.hid (by rw [List.length_append, HND.out])
                have hgl : gl ≤ wr.heap.size := by rw [HGL.out]; exact Below.size hbx
                have HWX : Hid (BelW wr (wr.alloc (.cells (D.map (Value.int .i64)).toArray 3))) := Lib.hid (below_new (Below.refl _ _) _)
                have HCD : Hid (∀ (j : Nat) (u : Value), (D.map (Value.int .i64))[j]? = some u → (wr.alloc (.cells (D.map (Value.int .i64)).toArray 3)).cell? ((⟨wr.heap.size, 0, none⟩ : Addr).add j) = some u) := Lib.hid fun j u h => by
                  rw [WideShapes.add_plain, World.cell?_alloc_at _ _ _ _ rfl, Nat.zero_add]
                  simpa using h
                have hst2 := HST2.out.below HWX.out
                have HST3 := Lib.hid hst2
                have HBX := Lib.hid hbx
                clear hbx hst2 hge
                go_wp2_with (first
                  | (go_at_call 25; (with_reducible refine HBT.out.mono ?_); rintro e w5 ⟨rfl, rfl⟩)
                  | (at_builtin; refine wpList_append_own_at _ rfl _ _ 48 rfl gl 3 ii (.int .i64 0) 1 8 Tryd.underlying48 HJ.out.1 HJ.out.2.1 HJ.out.2.2.1 HJ.out.2.2.2 rfl (by decide) lv PK.length (PK.map (Value.int .i64)) rfl HST3.out ⟨wr.heap.size, 0, none⟩ nd nd (D.map (Value.int .i64)) rfl (by rw [List.length_map, HND.out, Nat.mul_one]) HCD.out (ints_oneCell .i64 D) (by unfold maxLen; omega) (by omega) (by simp; omega) ?_; intro v6 w6 hown6 hgrow6 hnil6 hloc6; have HS6 : Hid (Stk w6 gl v6 (PK ++ D)) := Lib.hid (by unfold Stk; rw [List.length_append, List.map_append, ← HND.out]; exact hown6); have HB6 : Hid (BelW Y w6) := Lib.hid (by rw [HGL.out] at hown6; exact Below.grown (BelW.trans HBX.out HWX.out) hgrow6 (by simp; rw [← HGL.out]; omega) (fun q hq => by rw [← HGL.out]; exact HQ.out q hq)); clear hown6 hgrow6 hnil6 hloc6))
                go_roundw
                case rel => exact ⟨kk + 1, by omega, by go_num, by rw [HGB.out]; exact HS6.out, HB6.out⟩
                case measure => simp [intOf]; omega
            · obtain rfl : ne = kk := by omega
              have HSX : Hid (Stk wr gl lv ((O.take (i + 1)).flatMap FF)) := Lib.hid (by
                rw [HTI.out]
                rw [HNE.out, List.take_length] at hst
                exact hst)
              have HBX := Lib.hid hbx
              clear hst hbx
              go_wp2_with fail
              go_roundw
              case rel => exact ⟨i + 1, by omega, by go_num, HSX.out, HBX.out⟩
              case measure => simp [intOf]; omega
        · obtain rfl : no = i := by omega
          obtain ⟨lv, rfl⟩ : ∃ z, z = u15 := ⟨_, rfl⟩
          rw [HNO.out, List.take_length, ← HRSB.out] at hst
          obtain ⟨Al, cl, rfl, his⟩ := stk_is hst
          have hrs : RS.length ≤ 256 := by
            have := HTL.out no (Nat.le_refl _)
            rwa [HNO.out, List.take_length, ← HRSB.out] at this
          have HVA := Lib.hid (rval_any RS Al RS.length cl wr wr.heap.size his (fun x h => HR1B.out x h) (by omega))
          obtain ⟨vv, HVV⟩ := named (valL RS)
          rw [← HVV.out] at HVA HRWB
          have HBX := Lib.hid hbx
          have HVS2 := Lib.hid (HVS.out.below hbx)
          clear hst his hbx
          go_wp2_with (first
            | (go_at_call 26; (with_reducible refine HVA.out.mono ?_); rintro e w5 ⟨rfl, hb5⟩; have HB5 : Hid (BelW wr w5) := Lib.hid hb5; have HVS5 := Lib.hid (HVS2.out.below hb5); have HBX5 : Hid (BelW X w5) := Lib.hid (BelW.trans HBY.out (BelW.trans HBX.out hb5)); have hsz5 : gx ≤ w5.heap.size := (by rw [HGX.out]; exact Below.size (BelW.trans HBY.out (BelW.trans HBX.out hb5))); clear hb5)
            | (at_builtin; refine wpList_append_own_at _ rfl _ _ 23 rfl gx 24 iv (.int .u8 0) 1 1 Tryd.underlying23 HV.out.1 HV.out.2.1 HV.out.2.2.1 HV.out.2.2.2 rfl (by decide) ov RB.length (RB.map (Value.int .u8)) rfl (World.ownsRow.alloc HVS5.out _) ⟨w5.heap.size, 0, none⟩ 1 1 [.int .u8 vv] rfl rfl (by have := one_new w5 (.int .u8 vv) 24; simpa using this) (by intro u hu; obtain rfl := List.mem_singleton.1 hu; rfl) (by unfold maxLen; omega) (by omega) (by simp; omega) ?_; intro v6 w6 hown6 hgrow6 hnil6 hloc6; have HF := Lib.hid (vpush (g := gx) (x := vv) hsz5 (by rw [HGX.out]; exact HBX5.out) HVS5.out hown6 hgrow6); clear hown6 hgrow6 hnil6 hloc6))
          go_roundw
          case rel => exact ⟨bq + 1, by omega, by go_num, by rw [HRWB.out]; exact HF.out.2, by have := HF.out.1; rwa [HGX.out] at this⟩
          case measure => simp [intOf]; omega
    · obtain rfl : m = bq := by omega
      clear hst hby
      go_wp2_with fail
      go_ret
      exact ⟨ov, rfl, vstk_low HVS.out (by rw [HGX.out]; exact Below.size HBX.out), BelW.trans HBX.out HBY.out⟩
end Go.Proofs.YtcaikkfcjeojiaaDoor
