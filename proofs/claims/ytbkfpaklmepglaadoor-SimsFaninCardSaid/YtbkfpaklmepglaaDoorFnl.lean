/- SimsFanin: the law's walk. -/
import Derived.Test.YtbkfpaklmepglaaDoorOfp
import Derived.Deep.RegionLawGrows
import Derived.Deep.Upon
import Derived.Test.YtbkfpaklmepglaaDoorFnn
import Derived.Test.YtbkfpaklmepglaaDoorCs
import Derived.Test.YtbkfpaklmepglaaDoorSml
import Derived.StillTailTactics
namespace Go.Proofs.YtbkfpaklmepglaaDoor
open Go.RowKit

theorem Is.adr {w : World} {B : Nat} {A : Option Addr} {n c : Nat} {l : List Int} (h : Is w B (.slice A n c) l) : l.length = n ∧ n ≤ c ∧ n ≤ maxLen ∧ ∀ b, A = some b → ∀ j u, (l.map (Value.int .i64))[j]? = some u → w.cell? (b.add j) = some u := by
  obtain ⟨A', b, o, c', e, hA, hle, hm, hc⟩ := h.opens
  simp only [Value.slice.injEq] at e
  obtain ⟨rfl, rfl, rfl⟩ := e
  refine ⟨rfl, hle, hm, fun b' hb j u hj => ?_⟩
  have hjl : j < l.length := by
    have := (List.getElem?_eq_some_iff.1 hj).1
    simpa using this
  have hb2 := hA (by omega)
  rw [hb] at hb2
  obtain rfl := Option.some.inj hb2
  rw [List.getElem?_map, List.getElem?_eq_getElem hjl] at hj
  simp only [Option.map_some, Option.some.injEq] at hj
  rw [← hj, Addr.add_lit, (hc j hjl).2, List.getD_eq_getElem?_getD, List.getElem?_eq_getElem hjl]
  rfl
theorem is_own {w : World} {base n : Nat} {v : Value} {l : List Int} (h : w.ownsRow base 3 1 v n (l.map (Value.int .i64))) (hl : l.length = n) : ∃ A c, v = .slice A n c ∧ Is w w.heap.size (.slice A n c) l := by
  subst hl
  have hs : Stk w base v l := h
  obtain ⟨A, c, rfl, hle, hm, -⟩ := hs.form
  exact ⟨A, c, rfl, hs.reads c hle (Nat.le_trans hle hm)⟩
theorem run_append_full (w : World) (A A' : Option Addr) (n m c' : Nat) (l l' : List Int) (h1 : Is w w.heap.size (.slice A n n) l) (h2 : Is w w.heap.size (.slice A' m c') l') (hnm : n + m ≤ 1000000) :
    ∃ A2 c2 w', (Builtin.append_ #[25, 25] 25 #[.slice A n n, .slice A' m c']).run Tryd.prog w = .ok (.slice A2 (n + m) c2) w' ∧ Is w' w'.heap.size (.slice A2 (n + m) c2) (l ++ l') ∧ Below w.heap.size w w' := by
  obtain ⟨i, hi, hz0, hz1, hz2⟩ := info_parts info_int
  obtain ⟨hl, -, -, ha⟩ := h1.adr
  obtain ⟨hl', -, -, ha'⟩ := h2.adr
  by_cases hm0 : m = 0
  · subst hm0
    obtain rfl : l' = [] := List.eq_nil_of_length_eq_zero hl'
    have hs : Src Tryd.prog i.size 25 (.slice A' 0 c') 0 [] w := by
      cases A' with
      | none => exact Src.ofNil w Tryd.underlying25 c'
      | some a => exact Src.ofSlice w Tryd.underlying25 a 0 c' [] (by simp) (fun j u h => by simp at h) (fun u h => by cases h)
    refine ⟨A, n, w, run_append_nothing w _ _ _ _ i Tryd.underlying25 hi A n n (Nat.le_refl _) _ hs, ?_, Below.refl _ _⟩
    rw [List.append_nil, Nat.add_zero]
    exact h1
  · have hap : ∃ a, A' = some a := by
      obtain ⟨A9, b, o, c9, e, hA, -⟩ := h2.opens
      simp only [Value.slice.injEq] at e
      obtain ⟨rfl, -, -⟩ := e
      exact ⟨_, hA (by omega)⟩
    obtain ⟨a', rfl⟩ := hap
    have hone : ∀ u ∈ l'.map (Value.int .i64), u.oneCell' = true := fun u hu => by
      obtain ⟨z, -, rfl⟩ := List.mem_map.1 hu
      rfl
    have hfin : ∀ v w', w'.ownsRow w.heap.size 3 1 v (n + m) (l.map (Value.int .i64) ++ l'.map (Value.int .i64)) → w.grownBy w' none → ∃ A2 c2, v = .slice A2 (n + m) c2 ∧ Is w' w'.heap.size (.slice A2 (n + m) c2) (l ++ l') ∧ Below w.heap.size w w' := fun v w' r1 r2 => by
      rw [← List.map_append] at r1
      obtain ⟨A2, c2, rfl, h⟩ := is_own r1 (by rw [List.length_append, hl, hl'])
      exact ⟨A2, c2, rfl, h, (Below.refl _ _).grown r2 (Nat.le_refl _) (fun k h => by cases h)⟩
    cases A with
    | some b =>
      obtain ⟨v', w', hrun, r1, r2⟩ := run_append_arg_grows (P := Tryd.prog) w 25 25 3 i (.int .i64 0) 1 8 Tryd.underlying25 hi hz0 hz1 hz2 rfl (by decide) b n n (l.map (Value.int .i64)) (by rw [List.length_map, hl, Nat.mul_one]) (ha b rfl) a' m c' (l'.map (Value.int .i64)) (by rw [List.length_map, hl', Nat.mul_one]) (ha' a' rfl) (by omega) (by unfold maxLen; omega) (by omega)
      obtain ⟨A2, c2, rfl, h3, h4⟩ := hfin v' w' r1 r2
      exact ⟨A2, c2, w', hrun, h3, h4⟩
    | none =>
      have hn0 : n = 0 := by
        obtain ⟨A9, b, o, c9, e, hA, -⟩ := h1.opens
        simp only [Value.slice.injEq] at e
        obtain ⟨rfl, e2, -⟩ := e
        by_cases h0 : 0 < l.length
        · have := hA h0; cases this
        · omega
      subst hn0
      obtain rfl : l = [] := List.eq_nil_of_length_eq_zero hl
      obtain ⟨v', w', hrun, r1, r2, _⟩ := run_append_own (P := Tryd.prog) w w.heap.size 25 25 3 i (.int .i64 0) 1 8 Tryd.underlying25 hi hz0 hz1 hz2 rfl (by decide) (.slice none 0 0) 0 [] (World.ownsRow_nil w _ 3 1) a' m c' (l'.map (Value.int .i64)) (by rw [List.length_map, hl', Nat.mul_one]) (ha' a' rfl) hone (by unfold maxLen; omega) (by omega) (Nat.le_refl _)
      obtain ⟨A2, c2, rfl, h3, h4⟩ := hfin v' w' r1 r2
      exact ⟨A2, c2, w', hrun, h3, h4⟩
theorem step_append_full {ops : Array Oper} {o : Oper} {a : Act} {w : World} {K : Act → World → Prop} {Q : Exit → Act → World → Prop} {E : Prop}
    (hg : o.guard = none) (s x : Operand) (hop : o.op = Op.call { callee := Callee.builtin Builtin.append, args := #[s, x], argTypes := #[25, 25] }) (hty : o.type = 25)
    (A A' : Option Addr) (n m c' : Nat) (l l' : List Int) (hs : a.eval s = .slice A n n) (hx : a.eval x = .slice A' m c') (h1 : Is w w.heap.size (.slice A n n) l) (h2 : Is w w.heap.size (.slice A' m c') l') (k : Nat) (hk : n + m = k) (hnm : k ≤ 1000000)
    (hK : ∀ A2 c2 w', Is w' w'.heap.size (.slice A2 k c2) (l ++ l') → Below w.heap.size w w' → K (a.put o.dst (.slice A2 k c2)) w') :
    if Region.wanted o (yielded ops a.tmps) = true then Oper.wp Tryd.prog o a w K Q else E := by
  have hw : Region.wanted o (yielded ops a.tmps) = true := by simp [Region.wanted, hg]
  rw [if_pos hw]
  subst hk
  obtain ⟨A2, c2, w', hrun, r1, r2⟩ := run_append_full w A A' n m c' l l' h1 h2 hnm
  unfold Oper.wp
  simp [execOp, hop, hty, resolve, invoke, builtin, hs, hx, hrun, Result.andThen]
  exact hK A2 c2 w' r1 r2
/-- A store over a byte leaves a list of numbers as it reads. -/
theorem Is.other8 {w : World} {B : Nat} {v : Value} {l : List Int} {a : Addr} {y : Int} (h : Is w B v l) (ha : w.cell? a = some (.int .u8 y)) (x : Value) : Is (w.setCell a x) B v l := by
  obtain ⟨A, b, o, c, h1, h2, h3, h4, h5⟩ := h
  refine ⟨A, b, o, c, h1, h2, h3, h4, fun k hk => ⟨(h5 k hk).1, ?_⟩⟩
  have h6 : w.cell? ⟨b, o + k * 1, none⟩ = some (.int .i64 (l.getD k 0)) := (h5 k hk).2
  have hne : a ≠ ⟨b, o + k * 1, none⟩ := fun e => by rw [e, h6] at ha; cases ha
  show (w.setCell a x).cell? _ = _
  rw [World.cell?_setCell_other _ _ _ _ hne]
  exact h6
end Go.Proofs.YtbkfpaklmepglaaDoor

namespace Go.Proofs.YtbkfpaklmepglaaDoor
open Go.RowKit

set_option maxRecDepth 100000 in
set_option maxHeartbeats 16000000 in
theorem fanin_law (x : Cx) (hx : Cok x) (sG sA : Value) (lqi lqs : List Int) (Aqi Aqs : Option Addr) (mqi mqs cqi cqs : Nat) (z0 z1 : Int) (w : World) (hT : Lg.Tabs w) (hG : Gs w w.heap.size sG x.gates) (hA : Ks w w.heap.size sA x.outs)
    (kqi : Ks w w.heap.size (.slice Aqi mqi cqi) lqi) (kqs : Ks w w.heap.size (.slice Aqs mqs cqs) lqs) (vqi : ∀ y ∈ lqi, 0 ≤ y ∧ y ≤ 255) (vqs : ∀ y ∈ lqs, 0 ≤ y ∧ y ≤ 255) (vz : 0 ≤ z0 ∧ z0 ≤ 255 ∧ 0 ≤ z1 ∧ z1 ≤ 255) :
    Calls Tryd.prog 8 #[.agg #[.int .u8 x.inN, .int .u8 x.dffs, .int .u8 x.d0, .int .u8 x.d1, .bool x.bus, .bool x.mem, .int .u8 x.p0, .int .u8 x.p1, .int .u8 x.p2, .int .u8 x.p3, sG, sA], .agg #[.slice Aqi mqi cqi, .slice Aqs mqs cqs], .agg #[.int .u8 z0, .int .u8 z1]] w fun e w' => e = .returned (.bool true) ∧ Below w.heap.size w w' := by
  obtain ⟨c, HC⟩ := named (ofC { x with mem := false })
  obtain ⟨n, HN⟩ := named c.nodes.length
  obtain ⟨W1, HW1⟩ := named (((w.alloc (.cells #[.int .u8 x.inN, .int .u8 x.dffs, .int .u8 x.d0, .int .u8 x.d1, .bool x.bus, .bool false, .int .u8 x.p0, .int .u8 x.p1, .int .u8 x.p2, .int .u8 x.p3, sG, sA] 49)).alloc (.cells #[.slice Aqi mqi cqi, .slice Aqs mqs cqs] 51)).alloc (.cells #[.int .u8 z0, .int .u8 z1] 44))
  have hb1 : BelW w W1 := by rw [HW1.out]; exact below_new (below_new (below_new (Below.refl _ _) _) _) _
  have hf0 : Fr W1 (w.heap.size) 49 (#[.int .u8 x.inN, .int .u8 x.dffs, .int .u8 x.d0, .int .u8 x.d1, .bool x.bus, .bool false, .int .u8 x.p0, .int .u8 x.p1, .int .u8 x.p2, .int .u8 x.p3, sG, sA]).toList := by rw [HW1.out]; exact Fr.alloc (Fr.alloc (Fr.made _ _ _ (by simp)) _) _
  have hf1 : Fr W1 (w.heap.size + 1) 51 (#[.slice Aqi mqi cqi, .slice Aqs mqs cqs]).toList := by rw [HW1.out]; exact Fr.alloc (Fr.made _ _ _ (by simp)) _
  have hf2 : Fr W1 (w.heap.size + 1 + 1) 44 (#[.int .u8 z0, .int .u8 z1]).toList := by rw [HW1.out]; exact Fr.made _ _ _ (by simp)
  have HOF := Lib.hid (ofc_s x hx sG sA w W1 hb1 hG hA HC.out HN.out)
  have HXX := Lib.hid hx
  have HT1 := Lib.hid (hT.below hb1)
  have HB1 := Lib.hid hb1
  have HKP : Hid (∀ {v l W}, BelW W1 W → Ks w w.heap.size v l → Ks W W.heap.size v l) := Lib.hid fun h hk => Arr.keep stays_u8 hk (joinB HB1.out h).size fun _ hp => (joinB HB1.out h).cell hp
  have HKqi := Lib.hid kqi
  have HKqs := Lib.hid kqs
  have HVq := Lib.hid (And.intro vqi vqs)
  have HF0 := Lib.hid hf0
  have HF1 := Lib.hid hf1
  have HF2 := Lib.hid hf2
  clear hT hG hA hx hb1 kqi kqs vqi vqs hf0 hf1 hf2
  go_enter Tryd.func8, Tryd.ntmps8
  go_upto_region 2 with (fail)
  rw [← HW1.out]
  have x0 := HF0.out.cell 0
  have x1 := HF0.out.cell 1
  have x2 := HF0.out.cell 2
  have x3 := HF0.out.cell 3
  have x4 := HF0.out.cell 4
  have x5 := HF0.out.cell 5
  have x6 := HF0.out.cell 6
  have x7 := HF0.out.cell 7
  have x8 := HF0.out.cell 8
  have x9 := HF0.out.cell 9
  have x10 := HF0.out.cell 10
  have x11 := HF0.out.cell 11
  go_upto_region 3 with (go_at_call 17; (with_reducible refine HOF.out.mono ?_); rintro e w2 ⟨⟨A0, A1, A2, A3, n1, n3, c0, c1, c2, c3, rfl, hc, hn1, hn3⟩, hb⟩; have HCC := Lib.hid hc; have HB2 := Lib.hid hb; have HN1 := Lib.hid hn1; have HN3 := Lib.hid hn3; clear hc hb hn1 hn3)
  clear x0 x1 x2 x3 x4 x5 x6 x7 x8 x9 x10 x11
  obtain ⟨V2, HV2⟩ := named (w2.alloc (.cells #[.slice A0 n c0, .slice A1 n1 c1, .slice A2 0 c2, .slice A3 n3 c3] 27))
  have hn2 : BelW w2 V2 := by rw [HV2.out]; exact below_new (Below.refl _ _) _
  have hfc2 : Fr V2 w2.heap.size 27 (#[.slice A0 n c0, .slice A1 n1 c1, .slice A2 0 c2, .slice A3 n3 c3]).toList := by rw [HV2.out]; exact Fr.made _ _ _ rfl
  have hb2 : BelW W1 V2 := joinB HB2.out hn2
  obtain ⟨qc, HQC⟩ := named w2.heap.size
  rw [← HQC.out] at hfc2
  rw [← HV2.out, ← HQC.out]
  have hcs2 : Cs c n n1 n3 A0 A1 A2 A3 c0 c1 c2 c3 qc V2 := ⟨HT1.out.below hb2, (HCC.out.below hn2).more (Below.size hn2), hfc2⟩
  have HCS := Lib.hid (fun W (h : BelW V2 W) => hcs2.next h)
  have HCE := Lib.hid (fun W (h : BelW V2 W) => (hcs2.next h).cells)
  have HB2V := Lib.hid hb2
  obtain ⟨ni, HNI⟩ := named (ofTo c.nodes [0] n).length
  obtain ⟨ns, HNS⟩ := named (ofTo c.nodes [14] n).length
  obtain ⟨L, hst⟩ := cst_of x HXX.out HC.out HN.out HN1.out HN3.out HNI.out HNS.out
  have HST := Lib.hid hst
  have hfew : n < 20 := hst.few
  have hniB : ni ≤ n := hst.niB
  have hnsB : ns ≤ n := hst.nsB
  have hpos : 0 < n := by rw [HN.out]; exact ofC_inputs x HC.out
  have HFX : Hid (∀ W, BelW V2 W → Fr W (w.heap.size) 49 (#[.int .u8 x.inN, .int .u8 x.dffs, .int .u8 x.d0, .int .u8 x.d1, .bool x.bus, .bool false, .int .u8 x.p0, .int .u8 x.p1, .int .u8 x.p2, .int .u8 x.p3, sG, sA]).toList ∧ Fr W (w.heap.size + 1) 51 (#[.slice Aqi mqi cqi, .slice Aqs mqs cqs]).toList ∧ Fr W (w.heap.size + 1 + 1) 44 (#[.int .u8 z0, .int .u8 z1]).toList) := Lib.hid fun W h => ⟨HF0.out.below (joinB HB2V.out h), HF1.out.below (joinB HB2V.out h), HF2.out.below (joinB HB2V.out h)⟩
  clear hn2 hfc2 hb2 hcs2 hst HV2 HQC HCC HB2 HW1
  obtain ⟨pin, HPIN⟩ := named (takL lqi 4 ni)
  obtain ⟨pst, HPST⟩ := named (takL lqs 3 ns)
  have HLP : Hid (pin.length = ni) := Lib.hid (by rw [HPIN.out, takL_len])
  have HLS : Hid (pst.length = ns) := Lib.hid (by rw [HPST.out, takL_len])
  have HVP : Hid (∀ y ∈ pin, 0 ≤ y ∧ y ≤ 3) := Lib.hid (by rw [HPIN.out]; exact takL_in4 HVq.out.1 _)
  have HVS : Hid (∀ y ∈ pst, 0 ≤ y ∧ y ≤ 3) := Lib.hid (by rw [HPST.out]; exact takL_in3 HVq.out.2 _)
  have HPQ : Hid (∀ W, BelW V2 W → Calls Tryd.prog 18 #[.agg #[.slice Aqi mqi cqi, .slice Aqs mqs cqs], .agg #[.slice A0 n c0, .slice A1 n1 c1, .slice A2 0 c2, .slice A3 n3 c3]] W fun e w' => ∃ AI cI AS cS, e = .returned (.agg #[.slice AI ni cI, .slice AS ns cS]) ∧ VStk w' W.heap.size (.slice AI ni cI) pin ∧ VStk w' W.heap.size (.slice AS ns cS) pst ∧ (∀ a b, (Value.slice AI ni cI).ownBlock = some a → (Value.slice AS ns cS).ownBlock = some b → a ≠ b) ∧ BelW W w') := Lib.hid fun W h => by
    have := (HCS.out W h).pOf HST.out (HKP.out (joinB HB2V.out h) HKqi.out) (HKP.out (joinB HB2V.out h) HKqs.out) HVq.out.1 HVq.out.2
    rw [← HPIN.out, ← HPST.out] at this
    exact this
  have HP0 := Lib.hid (HPQ.out V2 (Below.refl _ _))
  obtain ⟨x0, x1, x2, x3⟩ := HCE.out V2 (Below.refl _ _)
  have y0 := (HFX.out V2 (Below.refl _ _)).2.1.cell 0
  have y1 := (HFX.out V2 (Below.refl _ _)).2.1.cell 1
  go_upto_region 4 with (go_at_call 18; (with_reducible refine HP0.out.mono ?_); rintro e w3 ⟨BI, dI, BS, dS, rfl, r1, r2, -, hb⟩; have HP1 := Lib.hid r1; have HP2 := Lib.hid r2; have HB3 : Hid (BelW V2 w3) := Lib.hid hb; clear r1 r2 hb)
  clear x0 x1 x2 x3 y0 y1
  obtain ⟨V3, HV3⟩ := named (w3.alloc (.cells #[.slice BI ni dI, .slice BS ns dS] 30))
  have hn3 : BelW w3 V3 := by rw [HV3.out]; exact below_new (Below.refl _ _) _
  have hfp : Fr V3 w3.heap.size 30 [.slice BI ni dI, .slice BS ns dS] := by rw [HV3.out]; exact Fr.made _ _ _ rfl
  have hb3 : BelW V2 V3 := joinB HB3.out hn3
  obtain ⟨qp, HQP⟩ := named w3.heap.size
  rw [← HQP.out] at hfp
  rw [← HV3.out, ← HQP.out]
  have HK3 : Hid (∀ W, BelW V3 W → Fr W qp 30 [.slice BI ni dI, .slice BS ns dS] ∧ Ks W W.heap.size (.slice BI ni dI) pin ∧ Ks W W.heap.size (.slice BS ns dS) pst) := Lib.hid fun W h => ⟨hfp.below h, ((HP1.out.below hn3).below h).ks, ((HP2.out.below hn3).below h).ks⟩
  have HB23 := Lib.hid hb3
  have HP4 := Lib.hid (HPQ.out V3 hb3)
  obtain ⟨x0, x1, x2, x3⟩ := HCE.out V3 hb3
  have y0 := (HFX.out V3 hb3).2.1.cell 0
  have y1 := (HFX.out V3 hb3).2.1.cell 1
  clear hn3 hfp hb3 HV3 HQP HP0
  go_upto_region 5 with (go_at_call 18; (with_reducible refine HP4.out.mono ?_); rintro e w4 ⟨EI, fI, ES, fS, rfl, r1, r2, r3, hb⟩; have HE1 := Lib.hid r1; have HE2 := Lib.hid r2; have HE3 := Lib.hid r3; have HB4 : Hid (BelW V3 w4) := Lib.hid hb; clear r1 r2 r3 hb)
  clear x0 x1 x2 x3 y0 y1
  obtain ⟨V4, HV4⟩ := named (w4.alloc (.cells #[.slice EI ni fI, .slice ES ns fS] 30))
  have hn4 : BelW w4 V4 := by rw [HV4.out]; exact below_new (Below.refl _ _) _
  obtain ⟨q4, HQ4⟩ := named w4.heap.size
  have hmv : MV V3 q4 ni ns fI fS EI ES pin pst V4 := ⟨joinB HB4.out hn4, by rw [HV4.out, HQ4.out]; exact Fr.made _ _ _ rfl, HE1.out.below hn4, HE2.out.below hn4, HE3.out, fun a h => by have := (World.ownsRow.lt HE1.out a h).2; rw [HQ4.out]; omega, fun a h => by have := (World.ownsRow.lt HE2.out a h).2; rw [HQ4.out]; omega, HLP.out, HLS.out⟩
  rw [← HV4.out, ← HQ4.out]
  have HMV := Lib.hid hmv
  clear hn4 hmv HV4 HQ4
  -- the list of inputs and states
  have HB24 : Hid (BelW V2 V4) := Lib.hid (joinB HB23.out HMV.out.bel)
  have HIN : Hid (∀ W, BelW V4 W → Calls Tryd.prog 29 #[.agg #[.slice A0 n c0, .slice A1 n1 c1, .slice A2 0 c2, .slice A3 n3 c3]] W fun e w' => ∃ A, e = .returned (.slice A ni ni) ∧ Is w' w'.heap.size (.slice A ni ni) (ofTo c.nodes [0] n) ∧ BelW W w') := Lib.hid fun W h => (inputs_any c _ W W.heap.size (Nat.le_refl _) (HCS.out W (joinB HB24.out h)).cir (by rw [HST.out.len]; omega)).mono fun e w' ⟨A, he, hi, hb⟩ => by
    rw [HST.out.len, HST.out.hi] at he hi
    exact ⟨A, he, hi, hb⟩
  have HSN : Hid (∀ W, BelW V4 W → Calls Tryd.prog 30 #[.agg #[.slice A0 n c0, .slice A1 n1 c1, .slice A2 0 c2, .slice A3 n3 c3]] W fun e w' => ∃ A, e = .returned (.slice A ns ns) ∧ Is w' w'.heap.size (.slice A ns ns) (ofTo c.nodes [14] n) ∧ BelW W w') := Lib.hid fun W h => (states_any c _ W W.heap.size (Nat.le_refl _) (HCS.out W (joinB HB24.out h)).cir (by rw [HST.out.len]; omega)).mono fun e w' ⟨A, he, hi, hb⟩ => by
    rw [HST.out.len, HST.out.hs] at he hi
    exact ⟨A, he, hi, hb⟩
  obtain ⟨nt, HNT⟩ := named (ni + ns)
  have hnt : ni + ns = nt := HNT.out.symm
  have hin0 : 0 < ni := by rw [HNI.out]; exact ofC_in0 _ HC.out hpos
  have hnt0 : 0 < nt := by omega
  have HKE : Hid (∀ W, BelW V4 W → BelW V4 W ∧ W.cell? ⟨qc, 0, none⟩ = some (.slice A0 n c0) ∧ W.cell? ⟨qc, 1, none⟩ = some (.slice A1 n1 c1) ∧ W.cell? ⟨qc, 2, none⟩ = some (.slice A2 0 c2) ∧ W.cell? ⟨qc, 3, none⟩ = some (.slice A3 n3 c3)) := Lib.hid fun W h => ⟨h, HCE.out W (joinB HB24.out h)⟩
  obtain ⟨-, x0, x1, x2, x3⟩ := HKE.out V4 (Below.refl _ _)
  have hs0 : BelW V4 V4 := Below.refl _ _
  go_region_held3 (fun w' => BelW V4 w' ∧ w'.cell? ⟨qc, 0, none⟩ = some (.slice A0 n c0) ∧ w'.cell? ⟨qc, 1, none⟩ = some (.slice A1 n1 c1) ∧ w'.cell? ⟨qc, 2, none⟩ = some (.slice A2 0 c2) ∧ w'.cell? ⟨qc, 3, none⟩ = some (.slice A3 n3 c3))
    ((refine HKE.out _ ?_; first | (with_reducible assumption) | (refine BelW.drew ?_; with_reducible assumption)))
    (first
      | (go_at_call 29; (with_reducible refine Calls.mono (HIN.out _ ?_) ?_); · (first | (with_reducible assumption) | (refine BelW.drew ?_; with_reducible assumption))
         rintro e wa ⟨AL, rfl, hia, hba⟩
         have hswa : BelW V4 wa := (by refine BelW.next ?_ hba; first | (with_reducible assumption) | (refine BelW.drew ?_; with_reducible assumption)))
      | (go_at_call 30; (with_reducible refine Calls.mono (HSN.out _ ?_) ?_); · (first | (with_reducible assumption) | (refine BelW.drew ?_; with_reducible assumption))
         rintro e wb ⟨AT, rfl, hib, hbb⟩
         have hswb : BelW V4 wb := (by refine BelW.next ?_ hbb; first | (with_reducible assumption) | (refine BelW.drew ?_; with_reducible assumption))
         have hia2 : Is wb wb.heap.size (.slice AL ni ni) (ofTo c.nodes [0] n) := (Is.below hia hbb).more (Below.size hbb))
      | (refine step_append_full rfl (.tmp 35) (.tmp 37) rfl rfl AL AT ni ns ns _ _ rfl rfl hia2 hib nt hnt (by omega) ?_
         intro AM cM wl hic hbc
         have hswc : BelW V4 wl := BelW.next hswb hbc))
  have HLI := Lib.hid hic
  have HBL := Lib.hid hswc
  have hmvl := HMV.out.next hswc
  have hk3 := HK3.out wl hmvl.bel
  have y0 := hk3.1.cell 0
  have y1 := hk3.1.cell 1
  have hz2 := (HFX.out wl (joinB HB24.out hswc)).2.2
  have u0 := hz2.cell 0
  have u1 := hz2.cell 1
  have HMVL := Lib.hid hmvl
  clear x0 x1 x2 x3 hs0 hswa hswb hswc hia hib hia2 hic hba hbb hbc hmvl hk3 hz2
  have hsum : IntKind.i64.wrap ((ni : Int) + (ns : Int)) = (nt : Int) := by simp [IntKind.wrap, IntKind.bits, IntKind.signed]; omega
  have tnz : ((nt : Int) == 0) = false := by rw [beq_eq_false_iff_ne]; omega
  have tne : ((nt : Int) != (nt : Int)) = false := by simp
  go_upto_region 8 with (fail)
  clear y1
  obtain ⟨zn, hzn⟩ := Int.eq_ofNat_of_zero_le vz.1
  subst hzn
  have hnz : ¬ nt = 0 := by omega
  have hw0 : IntKind.i64.wrap (zn : Int) = (zn : Int) := by simp [IntKind.wrap, IntKind.bits, IntKind.signed]; omega
  have hkn : zn % nt < nt := Nat.mod_lt _ hnt0
  have hmod : ((zn : Int)).tmod (nt : Int) = ((zn % nt : Nat) : Int) := by rw [Int.tmod_eq_emod_of_nonneg (by omega)]; simp
  obtain ⟨kk, HKK⟩ := named (zn % nt)
  rw [← HKK.out] at hkn hmod
  obtain ⟨v, HV⟩ := named (z1.tmod 4)
  have hv : 0 ≤ v ∧ v ≤ 3 := by rw [HV.out, Int.tmod_eq_emod_of_nonneg vz.2.2.1]; omega
  have hvr : z1.tmod 4 = v := HV.out.symm
  have hvw : IntKind.u8.wrap v = v := by simp [IntKind.wrap, IntKind.bits, IntKind.signed]; omega
  go_upto_if 64 with (fail)
  go_cut [] (fun wx => ∃ mI mS : List Int, MV V3 q4 ni ns fI fS EI ES mI mS wx ∧ Is wx wx.heap.size (.slice AM nt cM) (ofTo c.nodes [0] n ++ ofTo c.nodes [14] n) ∧ ((kk < ni ∧ mI = pin.set kk v ∧ mS = pst) ∨ (ni ≤ kk ∧ mI = pin ∧ mS = pst.set (kk - ni) v)))
  case first =>
    by_cases hkl : kk < ni
    · have t5 : decide (kk < ni) = true := by simpa using hkl
      have t6 : decide ((kk : Int) < (ni : Int)) = true := by simpa using hkl
      obtain ⟨ge, rfl⟩ := VStk.formK HMVL.out.rI HLP.out hkl
      have hvc := VStk.cellK HMVL.out.rI HLP.out hkl
      have hvf := VStk.frozenK HMVL.out.rI HLP.out kk
      have z4 := HMVL.out.box.cell 0
      obtain ⟨ev, HEV⟩ := named (pin.getD kk 0)
      rw [← HEV.out] at hvc
      have HNX := Lib.hid (HMVL.out.setI kk v)
      have HNL := Lib.hid (HLI.out.other8 hvc (.int .u8 v))
      go_wp2
      go_meet
      case rel => exact ⟨pin.set kk v, pst, HNX.out, by have := HNL.out; simpa [World.setCell] using this, .inl ⟨hkl, rfl, rfl⟩⟩
    · have t5 : decide (kk < ni) = false := by simpa using hkl
      have t6 : decide ((kk : Int) < (ni : Int)) = false := by simpa using hkl
      have hks : kk - ni < ns := by omega
      have hsub : IntKind.i64.wrap ((kk : Int) - (ni : Int)) = ((kk - ni : Nat) : Int) := by simp [IntKind.wrap, IntKind.bits, IntKind.signed]; omega
      obtain ⟨js, HJS⟩ := named (kk - ni)
      rw [← HJS.out] at hks hsub
      obtain ⟨ge, rfl⟩ := VStk.formK HMVL.out.rS HLS.out hks
      have hvc := VStk.cellK HMVL.out.rS HLS.out hks
      have hvf := VStk.frozenK HMVL.out.rS HLS.out js
      have z4 := HMVL.out.box.cell 1
      obtain ⟨ev, HEV⟩ := named (pst.getD js 0)
      rw [← HEV.out] at hvc
      have HNX := Lib.hid (HMVL.out.setS js v)
      have HNL := Lib.hid (HLI.out.other8 hvc (.int .u8 v))
      go_wp2
      go_meet
      case rel => exact ⟨pin, pst.set js v, HNX.out, by have := HNL.out; simpa [World.setCell] using this, .inr ⟨by omega, rfl, by rw [HJS.out]⟩⟩
  case rest =>
    obtain ⟨mI, mS, hmv5, hli5, hcase⟩ := hcut
    obtain ⟨V5, rfl⟩ : ∃ V0 : World, V0 = wc := ⟨_, rfl⟩
    have HM5 := Lib.hid hmv5
    have HL5 := Lib.hid hli5
    have HCASE := Lib.hid hcase
    have HB25 : Hid (BelW V2 V5) := Lib.hid (joinB HB23.out hmv5.bel)
    have HFIN : Hid (∀ W, BelW V5 W → Below w.heap.size w W) := Lib.hid fun W h => joinB HB1.out (joinB HB2V.out (joinB HB25.out h))
    obtain ⟨A, bl, ol, cc, e, hAl, -, -, hcl⟩ := hli5.opens
    simp only [Value.slice.injEq] at e
    obtain ⟨rfl, hll, rfl⟩ := e
    obtain rfl := hAl (by omega)
    obtain ⟨ls, HLSN⟩ := named (ofTo c.nodes [0] n ++ ofTo c.nodes [14] n)
    have hlsr : ∀ y ∈ ls, 0 ≤ y ∧ y < (n : Int) := fun y hy => by
      rw [HLSN.out] at hy
      rcases List.mem_append.1 hy with h | h <;> exact ofTo_in h
    rw [← HLSN.out] at hll hcl
    have hlk := hcl kk (by omega)
    have hsr := hlsr _ (getD_inL (show kk < ls.length by omega))
    obtain ⟨sN, hsN⟩ := Int.eq_ofNat_of_zero_le hsr.1
    rw [hsN] at hlk
    have hsn : sN < n := by omega
    have HSN2 := Lib.hid hsN
    obtain ⟨x0, -, -, -⟩ := HCE.out V5 HB25.out
    obtain ⟨i2, hi2, hz0, hz1, hz2⟩ := info_parts info_bool
    have HI := Lib.hid (And.intro hi2 (And.intro hz0 (And.intro hz1 hz2)))
    clear hmv5 hli5 hcase hAl hcl hlsr hsr hi2 hz0 hz1 hz2 HMVL HLI hsN
    go_upto_region 13 with (at_make; refine wpList_make_full _ rfl _ _ 67 rfl V5.heap.size 4 i2 (.bool false) 1 Tryd.underlying67 HI.out.1 HI.out.2.1 HI.out.2.2.1 .i64 .i64 _ _ n rfl rfl rfl rfl ?b2 ?b3 ?b4 ?_)
    case b2 => rw [HI.out.2.2.2]; omega
    case b3 => unfold maxLen; omega
    case b4 => exact Nat.le_refl _
    intro w6 hown hgr
    rw [made_false] at hown
    have hr6 : BRow w6 V5.heap.size (List.replicate n false) := by unfold BRow; rw [List.length_replicate]; exact hown
    have hb6 : BelW V5 w6 := (Below.refl _ _).grown hgr (Nat.le_refl _) (fun k h => by cases h)
    have hlk6 := (hb6.cell (p := ⟨bl, ol + kk, none⟩) (cell_lt hlk.2)).trans hlk.2
    obtain ⟨g9, HG9⟩ := named V5.heap.size
    rw [← HG9.out] at hr6
    have hon6 : w6.cell? ⟨g9, sN, none⟩ = some (.bool false) := hr6.cell (by rw [List.getElem?_replicate, if_pos hsn])
    have hof6 := hr6.frozen sN
    have HR6 := Lib.hid (hr6.set sN true)
    have HB6 : Hid (BelW V5 (w6.setCell ⟨g9, sN, none⟩ (.bool true))) := Lib.hid (Below.setCell hb6 (by show V5.heap.size ≤ g9; rw [HG9.out]; exact Nat.le_refl _) _)
    rw [← HG9.out]
    clear hown hgr hr6 hb6 hlk x0
    go_upto_region 14 with (fail)
    obtain ⟨V6, HV6⟩ := named (w6.setCell ⟨g9, sN, none⟩ (.bool true))
    rw [← HV6.out] at HR6 HB6
    rw [← HV6.out]
    have HOR := Lib.hid ((HCS.out V6 (joinB HB25.out HB6.out)).order HST.out)
    obtain ⟨x0, x1, x2, x3⟩ := HCE.out V6 (joinB HB25.out HB6.out)
    go_upto_region 15 with (go_at_call 31; (with_reducible refine HOR.out.mono ?_); rintro e w7 ⟨R, d, hsr, hrl, hrm, rfl, hdz, hrd, hb⟩; have HSR := Lib.hid hsr; have HRL := Lib.hid hrl; have HRM := Lib.hid hrm; have HRD := Lib.hid hrd; have HB67 : Hid (BelW V6 w7) := Lib.hid hb; clear hsr hrl hrm hrd hb)
    clear x0 x1 x2 x3
    have HB57 : Hid (BelW V5 w7) := Lib.hid (joinB HB6.out HB67.out)
    have HR7 := Lib.hid (HR6.out.below HB67.out)
    obtain ⟨x0, -, -, -⟩ := HCE.out w7 (joinB HB25.out HB57.out)
    have hgd : g9 < d := Nat.lt_of_lt_of_le HR6.out.lt hdz
    have HON := Lib.hid (OnI.start c.nodes sN n HST.out.len.symm hsn)
    have HKD := Lib.hid ((HCS.out V2 (Below.refl _ _)).kinds HST.out.len)
    go_upto_region 17 with (fail)
    clear x0
    go_wp2
    go_loopw [15] (fun i wr => ∃ (k : Nat) (on : List Bool), k ≤ n ∧ i = .int .i64 k ∧ BelW V5 wr ∧ BRow wr g9 on ∧ Row wr d R ∧ OnI c.nodes sN (R.take k) on) (fun i _ => n - (intOf i).toNat)
    case atStart => exact ⟨0, _, Nat.zero_le _, rfl, HB57.out, HR7.out, HRD.out, HON.out⟩
    case round =>
      obtain ⟨k, on, hk, rfl, hb, hro, hrd, hon⟩ := hrel
      have HB := Lib.hid hb
      have HRO := Lib.hid hro
      have HRD2 := Lib.hid hrd
      have HON2 := Lib.hid hon
      by_cases hlt : k < n
      · obtain ⟨o0, o1, ob⟩ := order_before HSR.out hlt
        obtain ⟨x, hx⟩ := Int.eq_ofNat_of_zero_le o0
        have HOB := Lib.hid ob
        have HX := Lib.hid hx
        have hxn : x < n := by omega
        have hxc : wr.cell? ⟨d, k, none⟩ = some (.int .i64 (x : Int)) := by rw [hrd.cell (by rw [HRL.out]; exact hlt), hx]
        obtain ⟨b4, o4, A4, m4, c4, rfl, hlb, hm4, e0, e1, e2, e3, his, k0, -⟩ := (HCS.out V2 (Below.refl _ _)).node HST.out.len hxn
        have hb2r : BelW V2 wr := joinB HB25.out hb
        replace e0 := (hb2r.cell (p := ⟨b4, _, none⟩) hlb).trans e0
        replace e1 := (hb2r.cell (p := ⟨b4, _, none⟩) hlb).trans e1
        replace e2 := (hb2r.cell (p := ⟨b4, _, none⟩) hlb).trans e2
        replace e3 := (hb2r.cell (p := ⟨b4, _, none⟩) hlb).trans e3
        have hlb2 : V2.heap.size ≤ wr.heap.size := Below.size hb2r
        have HIS := Lib.hid his
        have HB2R := Lib.hid hb2r
        have HM4 := Lib.hid hm4
        obtain ⟨kd, HKDN⟩ := named (c.nodes.getD x default).kind
        obtain ⟨md, HMD⟩ := named (c.nodes.getD x default).mem
        obtain ⟨bd, HBD⟩ := named (c.nodes.getD x default).bit
        rw [← HKDN.out] at e0 k0
        rw [← HMD.out] at e2
        rw [← HBD.out] at e3
        obtain ⟨x0, -, -, -⟩ := HCE.out wr (joinB HB25.out hb)
        have hq1 : qc < wr.heap.size := cell_lt x0
        have hq2 : qc ≠ wr.heap.size := by omega
        have hd1 : d < wr.heap.size := cell_lt hxc
        have hd2 : d ≠ wr.heap.size := by omega
        have hb41 : b4 < wr.heap.size := by omega
        have hbn : b4 ≠ wr.heap.size := by omega
        clear ob o0 o1 hx his hm4 hro hrd hon hb hb2r
        go_upto_region 20 with (fail)
        go_region
        obtain ⟨W2, HW2⟩ := named (wr.alloc (.cells #[.int .u8 kd, .slice A4 m4 c4, .int .i64 md, .int .i64 bd] 62)).drew
        have hnew : BelW wr W2 := by rw [HW2.out]; exact Below.drew (below_new (Below.refl _ _) _)
        have hfv : Fr W2 wr.heap.size 62 [.int .u8 kd, .slice A4 m4 c4, .int .i64 md, .int .i64 bd] := by rw [HW2.out]; exact Fr.made _ _ _ rfl
        obtain ⟨vx, HVX⟩ := named wr.heap.size
        rw [← HVX.out] at hfv
        rw [← HW2.out, ← HVX.out]
        have hb52 : BelW V5 W2 := joinB HB.out hnew
        have HB52 := Lib.hid hb52
        have hv2g : V2.heap.size ≤ g9 := by rw [HG9.out]; exact Below.size HB25.out
        have hgv : g9 < vx := by rw [HVX.out]; exact HRO.out.lt
        have HRW := Lib.hid (And.intro (HRO.out.below hnew) (HRD2.out.below hnew))
        have hord : d ≠ g9 := by omega
        -- the node's cells behind stores into the marks
        have HFV : Hid (∀ W, W2.grownBy W (some g9) → BelW V5 W ∧ Row W d R ∧ W.cell? ⟨vx, 0, none⟩ = some (.int .u8 kd) ∧ W.cell? ⟨vx, 1, none⟩ = some (.slice A4 m4 c4)) := Lib.hid fun W h => by
          have h1 : some vx ≠ some g9 := by simp; omega
          have h2 : some d ≠ some g9 := by simp; omega
          exact ⟨bgrown hb52 h (by rw [HG9.out]; exact Nat.le_refl _), HRW.out.2.kept h h2, (hfv.kept h h1).cell 0, (hfv.kept h h1).cell 1⟩
        have hpin := fun j (hj : j < m4) => (kinds_of HST.out.vld HST.out.h2 (i := x) (by rw [HST.out.len]; exact hxn) (HKD.out x hxn)).2 j (by rw [← HM4.out]; exact hj)
        rw [HST.out.len] at hpin
        have HPIN2 := Lib.hid hpin
        have hpl : m4 ≤ 16 := by rw [HM4.out]; exact HST.out.vld.pins x (by rw [HST.out.len]; exact hxn)
        obtain ⟨A, b5, o5, cc, e, hA5, -, -, hc5⟩ := HIS.out.opens
        simp only [Value.slice.injEq] at e
        obtain ⟨rfl, -, rfl⟩ := e
        rw [← HM4.out] at hA5 hc5
        have HA5 := Lib.hid hA5
        have HC5 : Hid (∀ W, W2.grownBy W (some g9) → ∀ m, m < m4 → W.cell? ⟨b5, o5 + m, none⟩ = some (.int .i64 ((c.nodes.getD x default).ins.getD m 0))) := Lib.hid fun W h m hm => by
          have h1 := ((joinB HB2R.out hnew).cell (p := ⟨b5, o5 + m, none⟩) (hc5 m hm).1).trans (hc5 m hm).2
          have h2 : some b5 ≠ some g9 := by have := (hc5 m hm).1; simp; omega
          exact h.cell h1 h2
        have HCM := Lib.hid (fun w => comb_any kd w)
        have HSTEP := Lib.hid (HON2.out.step HST.out.vld.wf HST.out.vld.lvl (x := (x : Int)) (by omega) (by rw [HST.out.len]; omega) (fun y hy => by
          have h := HOB.out y hy
          rw [HX.out] at h
          exact ⟨h.1, by rw [HST.out.len]; exact h.2.1, h.2.2.1, h.2.2.2⟩))
        have HTK : Hid (R.take (k + 1) = R.take k ++ [(x : Int)]) := Lib.hid (by rw [take_succ_getD _ _ (by rw [HRL.out]; exact hlt)]; have := HX.out; unfold lat at this; rw [Int.toNat_natCast] at this; rw [this])
        have hg0 : W2.grownBy W2 (some g9) := World.grownBy.refl _ _
        obtain ⟨-, -, y0, y1⟩ := HFV.out W2 hg0
        clear hnew hfv hb52 hpin hA5 hc5 e0 e1 e2 e3 x0 hxc
        go_wp2
        clear y0 y1
        cases hcm : cmb kd
        · have HSAME : Hid (onS c.nodes on (x : Int) = on) := Lib.hid (onS_none (by rw [← HKDN.out]; exact hcm))
          go_loopw [17] (fun mi wi => mi = .int .i64 0 ∧ wi = W2) (fun _ _ => 0)
          case atStart => exact ⟨rfl, rfl⟩
          case round =>
            obtain ⟨rfl, rfl⟩ := hrel
            rw [hcm] at HCM
            obtain ⟨-, -, y0, y1⟩ := HFV.out wr hg0
            obtain ⟨W2, rfl⟩ : ∃ V0 : World, V0 = wr := ⟨_, rfl⟩
            by_cases h0 : 0 < m4
            · go_wp2_with (go_at_call 32; (with_reducible refine (HCM.out _).mono ?_); rintro e w' ⟨rfl, rfl⟩)
              go_roundw
              case rel =>
                have h := HSTEP.out
                rw [HSAME.out] at h
                exact ⟨k + 1, on, by omega, by go_num, HB52.out, HRW.out.1, HRW.out.2, by rw [HTK.out]; exact h⟩
              case measure => simp [intOf]; omega
            · obtain rfl : m4 = 0 := by omega
              go_wp2
              go_roundw
              case rel =>
                have h := HSTEP.out
                rw [HSAME.out] at h
                exact ⟨k + 1, on, by omega, by go_num, HB52.out, HRW.out.1, HRW.out.2, by rw [HTK.out]; exact h⟩
              case measure => simp [intOf]; omega
        · have hcx : cmb (c.nodes.getD x default).kind = true := by rw [← HKDN.out]; exact hcm
          have hol : x < on.length := by rw [HON2.out.len, HST.out.len]; exact hxn
          have HOL := Lib.hid hol
          have HCX := Lib.hid hcx
          clear hol hcx
          go_loopw [17] (fun mi wi => ∃ m : Nat, m ≤ m4 ∧ mi = .int .i64 m ∧ W2.grownBy wi (some g9) ∧ BRow wi g9 (on.set x (onM c.nodes on x m))) (fun mi _ => m4 - (intOf mi).toNat)
          case atStart => exact ⟨0, Nat.zero_le _, rfl, hg0, by rw [set_same (onM_zero _ _ _).symm HOL.out]; exact HRW.out.1⟩
          case round =>
            obtain ⟨m, hm, rfl, hgw, hbr⟩ := hrel
            have HGW := Lib.hid hgw
            have HBR := Lib.hid hbr
            obtain ⟨hbw, hrdw, y0, y1⟩ := HFV.out wr hgw
            have HBW := Lib.hid hbw
            rw [hcm] at HCM
            by_cases hltm : m < m4
            · obtain rfl := HA5.out (by omega)
              have f5 := HC5.out wr hgw m hltm
              obtain ⟨p0, p1⟩ := HPIN2.out m hltm
              have hlm : m < (c.nodes.getD x default).ins.length := by rw [← HM4.out]; exact hltm
              have hsu := onM_succ (on := on) hlm
              have hpx : (c.nodes.getD x default).ins.getD m 0 ≠ (x : Int) := fun e => by
                have hz : (c.nodes.getD x default).ins.getD m 0 ∈ dep c.nodes x := by rw [dep_ins (by rw [Int.toNat_natCast]; exact HCX.out), Int.toNat_natCast]; exact ints_mem hlm
                have := HST.out.vld.lvl.lt (i := (x : Int)) (by omega) (by rw [HST.out.len]; omega) hz
                rw [e] at this
                omega
              obtain ⟨p, HP⟩ := named ((c.nodes.getD x default).ins.getD m 0)
              rw [← HP.out] at f5 p0 p1 hpx hsu
              obtain ⟨pn, hpn⟩ := Int.eq_ofNat_of_zero_le p0
              subst hpn
              have hpn : pn < n := by omega
              have hlen : (on.set x (onM c.nodes on x m)).length = n := by rw [List.length_set, HON2.out.len, HST.out.len]
              have hlx : x < (on.set x (onM c.nodes on x m)).length := by rw [hlen]; exact hxn
              have hlp : pn < (on.set x (onM c.nodes on x m)).length := by rw [hlen]; exact hpn
              have f6 : wr.cell? ⟨g9, x, none⟩ = some (.bool (onM c.nodes on x m)) := hbr.cell (by rw [List.getElem?_set, if_pos rfl, if_pos HOL.out])
              have f7 : wr.cell? ⟨g9, pn, none⟩ = some (.bool (onAt on (pn : Int))) := hbr.cell (by
                have hpl2 : pn < on.length := by rw [HON2.out.len, HST.out.len]; exact hpn
                rw [List.getElem?_set, if_neg (fun e => hpx (by omega)), List.getElem?_eq_getElem hpl2]
                unfold onAt
                rw [Int.toNat_natCast, List.getD_eq_getElem?_getD, List.getElem?_eq_getElem hpl2]; rfl)
              have f8 := hbr.frozen x
              have hxc : wr.cell? ⟨d, k, none⟩ = some (.int .i64 (x : Int)) := by rw [hrdw.cell (by rw [HRL.out]; exact hlt), HX.out]
              obtain ⟨bm, HBM⟩ := named (onM c.nodes on x m)
              obtain ⟨bp, HBP⟩ := named (onAt on (pn : Int))
              rw [← HBM.out] at f6 hsu
              rw [← HBP.out] at f7 hsu
              have HSU := Lib.hid hsu
              have HNX : Hid (∀ v, v = (bm || bp) → BRow (wr.setCell ⟨g9, x, none⟩ (.bool v)) g9 (on.set x (onM c.nodes on x (m + 1)))) := Lib.hid fun v hv => by
                have h := HBR.out.set x v
                rw [List.set_set] at h
                rw [HSU.out, ← hv]
                exact h
              have HGN : Hid (∀ v, W2.grownBy (wr.setCell ⟨g9, x, none⟩ (.bool v)) (some g9)) := Lib.hid fun v => grown_v HGW.out x _
              clear hgw hbr hbw hrdw hpx hlen hlx hlp hlm hsu
              cases bm
              · go_upto_region 24 with (go_at_call 32; (with_reducible refine (HCM.out _).mono ?_); rintro e w' ⟨rfl, rfl⟩)
                go_region
                go_wp2
                go_roundw
                case rel => exact ⟨m + 1, by omega, by go_num, gdrew (HGN.out _), HNX.out _ rfl⟩
                case measure => simp [intOf]; omega
              · go_upto_region 24 with (go_at_call 32; (with_reducible refine (HCM.out _).mono ?_); rintro e w' ⟨rfl, rfl⟩)
                go_region
                go_wp2
                go_roundw
                case rel => exact ⟨m + 1, by omega, by go_num, gdrew (HGN.out _), HNX.out _ rfl⟩
                case measure => simp [intOf]; omega
            · obtain rfl : m4 = m := by omega
              have HALL : Hid (onS c.nodes on (x : Int) = on.set x (onM c.nodes on x m4)) := Lib.hid (onS_all HCX.out HM4.out)
              clear hgw hbr hbw
              go_wp2
              go_roundw
              case rel =>
                have h := HSTEP.out
                rw [HALL.out] at h
                exact ⟨k + 1, _, by omega, by go_num, HBW.out, HBR.out, hrdw, by rw [HTK.out]; exact h⟩
              case measure => simp [intOf]; omega
      · obtain rfl : n = k := by omega
        have hta : R.take n = R := List.take_of_length_le (by rw [HRL.out]; exact Nat.le_refl _)
        rw [hta] at hon
        have HONR := Lib.hid hon
        obtain ⟨V7, rfl⟩ : ∃ V0 : World, V0 = wr := ⟨_, rfl⟩
        have hb37 : BelW V3 V7 := joinB HM5.out.bel hb
        have hb27 : BelW V2 V7 := joinB HB25.out hb
        have hk3 := HK3.out V7 hb37
        have HRA := Lib.hid ((HCS.out V7 hb27).run HST.out hk3.2.1 hk3.2.2 HLP.out HLS.out HVP.out HVS.out)
        have y0 := hk3.1.cell 0
        have y1 := hk3.1.cell 1
        obtain ⟨x0, x1, x2, x3⟩ := HCE.out V7 hb27
        have HMI := Lib.hid (fan_in HVP.out HVS.out hv HCASE.out)
        clear hta hon hk3 hb37 hrd
        go_upto_region 26 with (go_at_call 12; (with_reducible refine HRA.out.mono ?_); rintro e w8 ⟨na, g1, h1, k1, hn, hl, rfl, -, -, r3, hb⟩; have HNA := Lib.hid hn; have HLA := Lib.hid hl; have HVA := Lib.hid r3; have HB8 : Hid (BelW V7 w8) := Lib.hid hb; clear hn hl r3 hb)
        clear x0 x1 x2 x3 y0 y1
        obtain ⟨V8, HV8⟩ := named (w8.alloc (.cells #[.slice (some ⟨g1, 0, none⟩) n3 n3, .slice (some ⟨h1, 0, none⟩) ns ns] 36))
        have hn8 : BelW w8 V8 := by rw [HV8.out]; exact below_new (Below.refl _ _) _
        obtain ⟨q8, HQ8⟩ := named w8.heap.size
        rw [← HV8.out, ← HQ8.out]
        have HB78 : Hid (BelW V7 V8) := Lib.hid (joinB HB8.out hn8)
        have HVA8 := Lib.hid (HVA.out.below hn8)
        have HB28 : Hid (BelW V2 V8) := Lib.hid (joinB hb27 HB78.out)
        have HB58 : Hid (BelW V5 V8) := Lib.hid (joinB HB.out HB78.out)
        have hmv8 := HM5.out.next HB58.out
        have HRB := Lib.hid ((HCS.out V8 HB28.out).run HST.out hmv8.rI.ks hmv8.rS.ks hmv8.lenI hmv8.lenS HMI.out.1 HMI.out.2)
        have y0 := hmv8.box.cell 0
        have y1 := hmv8.box.cell 1
        obtain ⟨x0, x1, x2, x3⟩ := HCE.out V8 HB28.out
        clear hn8 hmv8 HV8 HQ8 hb27
        go_upto_region 27 with (go_at_call 12; (with_reducible refine HRB.out.mono ?_); rintro e w9 ⟨nb, g2, h2, k2, hn, hl, rfl, -, -, r3, hb⟩; have HNB := Lib.hid hn; have HLB := Lib.hid hl; have HVB := Lib.hid r3; have HB9 : Hid (BelW V8 w9) := Lib.hid hb; clear hn hl r3 hb)
        clear x0 x1 x2 x3 y0 y1
        obtain ⟨V9, HV9⟩ := named (w9.alloc (.cells #[.slice (some ⟨g2, 0, none⟩) n3 n3, .slice (some ⟨h2, 0, none⟩) ns ns] 36))
        have hn9 : BelW w9 V9 := by rw [HV9.out]; exact below_new (Below.refl _ _) _
        obtain ⟨q9, HQ9⟩ := named w9.heap.size
        rw [← HV9.out, ← HQ9.out]
        have HB89 : Hid (BelW V8 V9) := Lib.hid (joinB HB9.out hn9)
        have HVA9 := Lib.hid (HVA8.out.below HB89.out)
        have HVB9 := Lib.hid (HVB.out.below hn9)
        have HRO9 := Lib.hid (HRO.out.below (joinB HB78.out HB89.out))
        have HB59 : Hid (BelW V5 V9) := Lib.hid (joinB HB58.out HB89.out)
        have HEQ : Hid (∀ i : Nat, i < n → onAt on i = false → lat na i = lat nb i) := Lib.hid fun i hi ho => by
          have hlen := HST.out.len
          exact OnI.keep HST.out.vld.wf HST.out.vld.lvl HONR.out (fun i hi => HRM.out i (by omega)) HNA.out HNB.out
            (fan_eq HST.out.vld HST.out.h2 HKD.out HST.out.hi HST.out.hs HLP.out HLS.out (by rw [← HLSN.out]; exact HSN2.out) HCASE.out) i (by omega) ho
        obtain ⟨x0, -, -, -⟩ := HCE.out V9 (joinB HB25.out HB59.out)
        have HLV := Lib.hid (fun W (h : BelW V9 W) => lives6_any W (HCS.out W (joinB HB25.out (joinB HB59.out h))).tabs)
        have HONL : Hid (on.length = n) := Lib.hid (by rw [HONR.out.len, HST.out.len])
        clear hn9 HV9 HQ9
        go_upto_region 29 with (fail)
        clear x0
        go_wp2
        go_loopw [24] (fun i wr => BelW V9 wr ∧ ∃ j : Nat, j ≤ n ∧ i = .int .i64 j) (fun i _ => n - (intOf i).toNat)
        case atStart => exact ⟨Below.refl _ _, 0, Nat.zero_le _, rfl⟩
        case round =>
          obtain ⟨hbz, j, hj, rfl⟩ := hrel
          have HBZ9 : Hid (BelW V9 wr) := Lib.hid hbz
          by_cases hlj : j < n
          · have f0 : wr.cell? ⟨g9, j, none⟩ = some (.bool (onAt on (j : Int))) := (HRO9.out.below hbz).cell (by
              have hjl : j < on.length := by rw [HONL.out]; exact hlj
              rw [List.getElem?_eq_getElem hjl]
              unfold onAt
              rw [Int.toNat_natCast, List.getD_eq_getElem?_getD, List.getElem?_eq_getElem hjl]; rfl)
            have f1 : wr.cell? ⟨k1, j, none⟩ = some (.int .u8 (lat na j)) := (HVA9.out.below hbz).cell (by rw [HLA.out]; exact hlj)
            have f2 : wr.cell? ⟨k2, j, none⟩ = some (.int .u8 (lat nb j)) := (HVB9.out.below hbz).cell (by rw [HLB.out]; exact hlj)
            have heq := HEQ.out j hlj
            obtain ⟨bo, HBO⟩ := named (onAt on (j : Int))
            rw [← HBO.out] at f0 heq
            cases bo
            · rw [heq rfl] at f1
              obtain ⟨y, HY⟩ := named (lat nb (j : Int))
              rw [← HY.out] at f1 f2
              have t1 : (y != y) = false := by simp
              clear heq hbz
              go_wp2
              go_quiet (fail)
              go_wp2
              go_roundw
              case rel => exact ⟨below_drewN HBZ9.out _, j + 1, by omega, by go_num⟩
              case measure => simp [intOf]; omega
            · clear heq f1 f2 hbz
              go_wp2
              go_quiet (fail)
              go_wp2
              go_roundw
              case rel => exact ⟨below_drewN HBZ9.out _, j + 1, by omega, by go_num⟩
              case measure => simp [intOf]; omega
          · obtain rfl : n = j := by omega
            clear hbz
            go_wp2_with (go_at_call 10; (with_reducible refine (HLV.out _ HBZ9.out).mono ?_); rintro e w12 ⟨rfl, hb⟩; have HBZ := Lib.hid hb; clear hb)
            go_ret
            exact ⟨rfl, joinB (HFIN.out _ (joinB HB59.out HBZ9.out)) HBZ.out⟩
end Go.Proofs.YtbkfpaklmepglaaDoor
