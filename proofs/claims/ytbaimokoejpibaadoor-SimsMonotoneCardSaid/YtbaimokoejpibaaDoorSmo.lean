/- SimsMonotone: the law's walk. -/
import Derived.Test.YtbaimokoejpibaaDoorSmk
import Derived.Test.YtbaimokoejpibaaDoorOfp
import Derived.Test.YtbaimokoejpibaaDoorLcv
import Derived.Test.YtbaimokoejpibaaDoorSml
import Derived.StillTailTactics
namespace Go.Proofs.YtbaimokoejpibaaDoor
open Go.RowKit

theorem pOf_at (c : Ck) (a b : List Int) (A0 A1 A2 A3 Aa Ab : Option Addr) (n n1 n2 n3 ni ns c0 c1 c2 c3 ma mb ca cb : Nat) (w : World) (B : Nat) (hB : B ≤ w.heap.size) (hn : c.nodes.length = n) (hn1 : c.names.length = n1) (hn2 : c.mems.length = n2) (hn3 : c.outs.length = n3) (hni : (ofTo c.nodes [0] n).length = ni) (hns : (ofTo c.nodes [14] n).length = ns)
    (hc : Cir w B (.agg #[.slice A0 n c0, .slice A1 n1 c1, .slice A2 n2 c2, .slice A3 n3 c3]) c) (hi : Ks w B (.slice Aa ma ca) a) (hs : Ks w B (.slice Ab mb cb) b) (hsz : n ≤ 1000000) (va : ∀ y ∈ a, 0 ≤ y ∧ y ≤ 255) (vb : ∀ y ∈ b, 0 ≤ y ∧ y ≤ 255) :
    Calls Tryd.prog 18 #[.agg #[.slice Aa ma ca, .slice Ab mb cb], .agg #[.slice A0 n c0, .slice A1 n1 c1, .slice A2 n2 c2, .slice A3 n3 c3]] w fun e w' => ∃ AI cI AS cS, e = .returned (.agg #[.slice AI ni cI, .slice AS ns cS]) ∧ VStk w' w.heap.size (.slice AI ni cI) (takL a 4 ni) ∧ VStk w' w.heap.size (.slice AS ns cS) (takL b 3 ns) ∧ (∀ a b, (Value.slice AI ni cI).ownBlock = some a → (Value.slice AS ns cS).ownBlock = some b → a ≠ b) ∧ BelW w w' := by
  subst hn hn1 hn2 hn3 hni hns
  have hp := pOf_any c a b A0 A1 A2 A3 Aa Ab c0 c1 c2 c3 ma mb ca cb w B hB hc hi hs hsz va vb
  refine hp.mono fun e w' ⟨AI, cI, AS, cS, he, r1, r2, r3, r4⟩ => ?_
  rw [takL_len] at he r1 r3
  rw [takL_len] at he r2 r3
  exact ⟨AI, cI, AS, cS, he, r1, r2, r3, r4⟩

theorem run_at (c : Ck) (li ls : List Int) (A0 A1 A2 A3 Ai As : Option Addr) (n n1 n2 n3 ni ns c0 c1 c2 c3 ci cs : Nat) (w : World) (B : Nat) (hB : B ≤ w.heap.size) (hT : Lg.Tabs w) (hn : c.nodes.length = n) (hn1 : c.names.length = n1) (hn2 : c.mems.length = n2) (hn20 : n2 = 0) (hn3 : c.outs.length = n3) (hni : (ofTo c.nodes [0] n).length = ni) (hns : (ofTo c.nodes [14] n).length = ns)
    (hc : Cir w B (.agg #[.slice A0 n c0, .slice A1 n1 c1, .slice A2 n2 c2, .slice A3 n3 c3]) c) (hpi : Ks w B (.slice Ai ni ci) li) (hps : Ks w B (.slice As ns cs) ls) (hfew : n < 20) (hos : c.outs.length ≤ 17592186044416) (hck : chkErr c = 0) (l1 : li.length = ni) (l2 : ls.length = ns) (v1 : ∀ y ∈ li, 0 ≤ y ∧ y ≤ 3) (v2 : ∀ y ∈ ls, 0 ≤ y ∧ y ≤ 3) :
    Calls Tryd.prog 12 #[.agg #[.slice A0 n c0, .slice A1 n1 c1, .slice A2 n2 c2, .slice A3 n3 c3], .agg #[.slice Ai ni ci, .slice As ns cs]] w fun e w' => ∃ nets g h k, Net c.nodes (baseV n (ofTo c.nodes [0] n) (ofTo c.nodes [14] n) li ls) nets ∧ nets.length = n ∧ e = .returned (.tuple #[.agg #[.slice (some ⟨g, 0, none⟩) n3 n3, .slice (some ⟨h, 0, none⟩) ns ns], .slice (some ⟨k, 0, none⟩) n n, .int .i64 0]) ∧ VRow w' g (outV c nets) ∧ VRow w' h (nextV c nets) ∧ VRow w' k nets ∧ BelW w w' := by
  subst hn hn1 hn2 hn3
  have hf : Fits c li ls := ⟨hn20, by rw [l1, hni], by rw [l2, hns], v1, v2⟩
  subst l1 l2
  have hr := run_ok c li ls A0 A1 A2 A3 Ai As c0 c1 c2 c3 ci cs w B hB hT hc hpi hps hfew hos hck hf
  refine hr.mono fun e w' ⟨nets, g, h, k, hn, he, r1, r2, r3, _, _, _, r4⟩ => ?_
  have hnl : nets.length = c.nodes.length := hn.1
  have lo : (outV c nets).length = c.outs.length := List.length_map _
  have ln : (nextV c nets).length = ls.length := by rw [← hns]; exact List.length_map _
  refine ⟨nets, g, h, k, hn, hnl, ?_, r1, r2, r3, r4⟩
  rw [lo, ln, hnl] at he
  exact he

theorem VStk.cellK {w : World} {base g n c : Nat} {l : List Int} (h : VStk w base (.slice (some ⟨g, 0, none⟩) n c) l) (hl : l.length = n) {k : Nat} (hk : k < n) : w.cell? ⟨g, k, none⟩ = some (.int .u8 (l.getD k 0)) := by
  subst hl; exact h.cell hk
theorem VStk.frozenK {w : World} {base g n c : Nat} {l : List Int} (h : VStk w base (.slice (some ⟨g, 0, none⟩) n c) l) (hl : l.length = n) (k : Nat) : w.frozen? ⟨g, k, none⟩ = false := by
  subst hl; exact World.ownsRow.frozenAt h k
theorem VStk.formK {w : World} {base n c : Nat} {A : Option Addr} {l : List Int} (h : VStk w base (.slice A n c) l) (hl : l.length = n) {k : Nat} (hk : k < n) : ∃ g, A = some ⟨g, 0, none⟩ := by
  subst hl
  obtain ⟨A', cc, e, -, -, hq⟩ := h.form
  simp only [Value.slice.injEq, true_and] at e
  obtain ⟨rfl, rfl⟩ := e
  obtain ⟨g, rfl, -, -⟩ := hq (by omega)
  exact ⟨g, rfl⟩
theorem mono_nets {c : Ck} {L : List Int} {m n : Nat} (V : Vld c L m) (hn : c.nodes.length = n) {pin pst mI mS nt1 nt2 : List Int} (l1 : pin.length = mI.length) (l2 : pst.length = mS.length) (r1 : ∀ j, j < pin.length → blw (pin.getD j 0) (mI.getD j 0) = true) (r2 : ∀ j, j < pst.length → blw (pst.getD j 0) (mS.getD j 0) = true)
    (h1 : Net c.nodes (baseV n (ofTo c.nodes [0] n) (ofTo c.nodes [14] n) pin pst) nt1) (h2 : Net c.nodes (baseV n (ofTo c.nodes [0] n) (ofTo c.nodes [14] n) mI mS) nt2) : ∀ i : Nat, i < n → blw (lat nt1 i) (lat nt2 i) = true := by
  subst hn
  exact Net.mono V.wf V.lvl h1 h2 fun i hi _ => baseV_rel (R := fun a b => blw a b = true) (fun x hx => (ofTo_in hx).1) (fun x hx => (ofTo_in hx).1) (Lg.blw_refl 0) l1 l2 r1 r2 hi
/-- The law's Below on two rows of values. -/
theorem below_rows {l l' : List Int} {g g' n : Nat} {w : World} (h : VRow w g l) (h' : VRow w g' l') (hl : l.length = n) (hl' : l'.length = n) (hle : ∀ j, j < n → blw (l.getD j 0) (l'.getD j 0) = true) :
    Calls Tryd.prog 19 #[.slice (some ⟨g, 0, none⟩) n n, .slice (some ⟨g', 0, none⟩) n n] w fun e w' => e = .returned (.int .i64 0) ∧ BelW w w' := by
  have k := h.ks
  have k' := h'.ks
  rw [hl] at k
  rw [hl'] at k'
  exact belowL_yes l l' n _ _ n n w _ _ k k' hle
theorem ofC_outs4 (x : Cx) : (ofC x).outs.length ≤ 4 := by
  simp only [ofC, List.length_append, outsTo, List.length_map, List.length_range, List.length_cons, List.length_nil, outsN]
  omega
end Go.Proofs.YtbaimokoejpibaaDoor

namespace Go.Proofs.YtbaimokoejpibaaDoor
open Go.RowKit

theorem ofC_outs (x : Cx) : (ofC x).outs.length ≤ 17592186044416 := by
  have h : (ofC x).outs.length ≤ 4 := ofC_outs4 x
  omega
set_option maxRecDepth 100000 in
set_option maxHeartbeats 16000000 in
theorem mono_law (x : Cx) (hx : Cok x) (sG sA : Value) (qi qs bi bs : List Int) (Aq Ar Ab Ad : Option Addr) (mq mr mb md cq cr cb cd : Nat) (w : World) (hT : Lg.Tabs w) (hG : Gs w w.heap.size sG x.gates) (hA : Ks w w.heap.size sA x.outs)
    (kq : Ks w w.heap.size (.slice Aq mq cq) qi) (kr : Ks w w.heap.size (.slice Ar mr cr) qs) (kb : Ks w w.heap.size (.slice Ab mb cb) bi) (kd : Ks w w.heap.size (.slice Ad md cd) bs)
    (vq : ∀ y ∈ qi, 0 ≤ y ∧ y ≤ 255) (vr : ∀ y ∈ qs, 0 ≤ y ∧ y ≤ 255) (vb : ∀ y ∈ bi, 0 ≤ y ∧ y ≤ 255) (vd : ∀ y ∈ bs, 0 ≤ y ∧ y ≤ 255) :
    Calls Tryd.prog 4 #[.agg #[.int .u8 x.inN, .int .u8 x.dffs, .int .u8 x.d0, .int .u8 x.d1, .bool x.bus, .bool x.mem, .int .u8 x.p0, .int .u8 x.p1, .int .u8 x.p2, .int .u8 x.p3, sG, sA], .agg #[.slice Aq mq cq, .slice Ar mr cr], .agg #[.slice Ab mb cb, .slice Ad md cd]] w fun e w' => e = .returned (.bool true) ∧ Below w.heap.size w w' := by
  have hxf : Cok { x with mem := false } := ⟨hx.inN, hx.dffs, hx.d0, hx.d1, hx.p0, hx.p1, hx.p2, hx.p3, hx.gates, hx.outs⟩
  obtain ⟨L, V0⟩ := vld_c { x with mem := false } hxf
  have hmem : (ofC { x with mem := false }).mems.length = 0 := rfl
  have houts : (ofC { x with mem := false }).outs.length ≤ 17592186044416 := ofC_outs _
  obtain ⟨W1, HW1⟩ := named (((w.alloc (.cells #[.int .u8 x.inN, .int .u8 x.dffs, .int .u8 x.d0, .int .u8 x.d1, .bool x.bus, .bool false, .int .u8 x.p0, .int .u8 x.p1, .int .u8 x.p2, .int .u8 x.p3, sG, sA] 49)).alloc (.cells #[.slice Aq mq cq, .slice Ar mr cr] 51)).alloc (.cells #[.slice Ab mb cb, .slice Ad md cd] 51))
  have hb1 : Below w.heap.size w W1 := by rw [HW1.out]; exact below_new (below_new (below_new (Below.refl _ _) _) _) _
  have hfx : Fr W1 w.heap.size 49 (#[.int .u8 x.inN, .int .u8 x.dffs, .int .u8 x.d0, .int .u8 x.d1, .bool x.bus, .bool false, .int .u8 x.p0, .int .u8 x.p1, .int .u8 x.p2, .int .u8 x.p3, sG, sA]).toList := by rw [HW1.out]; exact Fr.alloc (Fr.alloc (Fr.made _ _ _ rfl) _) _
  have hfq : Fr W1 (w.heap.size + 1) 51 [.slice Aq mq cq, .slice Ar mr cr] := by rw [HW1.out]; exact Fr.alloc (Fr.made _ _ _ (by simp)) _
  have hfb : Fr W1 (w.heap.size + 1 + 1) 51 [.slice Ab mb cb, .slice Ad md cd] := by rw [HW1.out]; exact Fr.made _ _ _ (by simp)
  have hof : Calls Tryd.prog 17 #[.agg #[.int .u8 x.inN, .int .u8 x.dffs, .int .u8 x.d0, .int .u8 x.d1, .bool x.bus, .bool false, .int .u8 x.p0, .int .u8 x.p1, .int .u8 x.p2, .int .u8 x.p3, sG, sA]] W1 fun e w' => (∃ v, e = .returned v ∧ Cir w' w'.heap.size v (ofC { x with mem := false })) ∧ Below W1.heap.size W1 w' :=
    ofc_any { x with mem := false } hxf sG sA W1 w.heap.size hb1.size (hG.below hb1) (Arr.keep stays_u8 hA (Nat.le_refl _) fun _ hp => hb1.cell hp)
  obtain ⟨c, HC⟩ := named (ofC { x with mem := false })
  rw [← HC.out] at V0 hmem houts hof
  obtain ⟨n, HN⟩ := named c.nodes.length
  have hn20 : n < 20 := by have := V0.few; have h2 := V0.len; rw [HN.out, ← h2]; exact this
  obtain ⟨ni, HNI⟩ := named (ofTo c.nodes [0] n).length
  obtain ⟨ns, HNS⟩ := named (ofTo c.nodes [14] n).length
  obtain ⟨pin, HPIN⟩ := named (takL qi 4 ni)
  obtain ⟨pst, HPST⟩ := named (takL qs 3 ns)
  obtain ⟨m0, HM0⟩ := named (takL bi 4 ni)
  obtain ⟨s0, HS0⟩ := named (takL bs 3 ns)
  have lpin : pin.length = ni := by rw [HPIN.out, takL_len]
  have lpst : pst.length = ns := by rw [HPST.out, takL_len]
  have lm0 : m0.length = ni := by rw [HM0.out, takL_len]
  have ls0 : s0.length = ns := by rw [HS0.out, takL_len]
  have hof2 : Calls Tryd.prog 17 #[.agg #[.int .u8 x.inN, .int .u8 x.dffs, .int .u8 x.d0, .int .u8 x.d1, .bool x.bus, .bool false, .int .u8 x.p0, .int .u8 x.p1, .int .u8 x.p2, .int .u8 x.p3, sG, sA]] W1 fun e w' => (∃ A0 A1 A2 A3 n1 n3 c0 c1 c2 c3, e = .returned (.agg #[.slice A0 n c0, .slice A1 n1 c1, .slice A2 0 c2, .slice A3 n3 c3]) ∧ Cir w' w'.heap.size (.agg #[.slice A0 n c0, .slice A1 n1 c1, .slice A2 0 c2, .slice A3 n3 c3]) c ∧ n1 = c.names.length ∧ n3 = c.outs.length) ∧ BelW W1 w' := hof.mono fun e w' ⟨⟨v, he, hc⟩, hb⟩ => by
    have hc2 := hc
    obtain ⟨v0, v1, v2, v3, rfl, g0, g1, g2, g3⟩ := hc2
    obtain ⟨A0, _, _, c0, rfl, -⟩ := id g0
    obtain ⟨A1, _, _, c1, rfl, -⟩ := id g1
    obtain ⟨A2, _, _, c2, rfl, -⟩ := id g2
    obtain ⟨A3, _, _, c3, rfl, -⟩ := id g3
    rw [hmem, ← HN.out] at hc he
    exact ⟨⟨A0, A1, A2, A3, _, _, c0, c1, c2, c3, he, hc, rfl, rfl⟩, hb⟩
  have HOF := Lib.hid hof2
  have HT1 := Lib.hid (hT.below hb1)
  have HB1 := Lib.hid hb1
  have hk1 : ∀ {v l}, Ks w w.heap.size v l → Ks W1 w.heap.size v l := fun h => Arr.keep stays_u8 h (Nat.le_refl _) fun _ hp => hb1.cell hp
  have HQ1 := Lib.hid (hk1 kq)
  have HR1 := Lib.hid (hk1 kr)
  have HBB1 := Lib.hid (hk1 kb)
  have HD1 := Lib.hid (hk1 kd)
  have HFX := Lib.hid hfx
  have HFQ := Lib.hid hfq
  have HFB := Lib.hid hfb
  have HV0 := Lib.hid V0
  have HMEM := Lib.hid hmem
  have HOUTS := Lib.hid houts
  have hwl : w.heap.size ≤ W1.heap.size := hb1.size
  clear hof hof2 hT hG hA kq kr kb kd hk1 hfx hfq hfb V0 hmem houts hb1 hx hxf
  have HVV := Lib.hid (And.intro vq (And.intro vr (And.intro vb vd)))
  go_enter Tryd.func4, Tryd.ntmps4
  go_upto_region 2 with (fail)
  rw [← HW1.out]
  have x0 := HFX.out.cell 0
  have x1 := HFX.out.cell 1
  have x2 := HFX.out.cell 2
  have x3 := HFX.out.cell 3
  have x4 := HFX.out.cell 4
  have x5 := HFX.out.cell 5
  have x6 := HFX.out.cell 6
  have x7 := HFX.out.cell 7
  have x8 := HFX.out.cell 8
  have x9 := HFX.out.cell 9
  have x10 := HFX.out.cell 10
  have x11 := HFX.out.cell 11
  go_upto_region 3 with (go_at_call 17; (with_reducible refine HOF.out.mono ?_); rintro e w2 ⟨⟨A0, A1, A2, A3, n1, n3, c0, c1, c2, c3, rfl, hc, hn1, hn3⟩, hb⟩; have HCC := Lib.hid hc; have HB2 := Lib.hid hb; have HN1 := Lib.hid hn1; have HN3 := Lib.hid hn3; clear hc hb hn1 hn3)
  clear x0 x1 x2 x3 x4 x5 x6 x7 x8 x9 x10 x11
  obtain ⟨V2, HV2⟩ := named (w2.alloc (.cells #[.slice A0 n c0, .slice A1 n1 c1, .slice A2 0 c2, .slice A3 n3 c3] 27))
  have hn2 : Below w2.heap.size w2 V2 := by rw [HV2.out]; exact below_new (Below.refl _ _) _
  have hfc2 : Fr V2 w2.heap.size 27 (#[.slice A0 n c0, .slice A1 n1 c1, .slice A2 0 c2, .slice A3 n3 c3]).toList := by rw [HV2.out]; exact Fr.made _ _ _ rfl
  have hb2 : BelW W1 V2 := joinB HB2.out hn2
  have hc2 : Cir V2 w2.heap.size (.agg #[.slice A0 n c0, .slice A1 n1 c1, .slice A2 0 c2, .slice A3 n3 c3]) c := HCC.out.below hn2
  have hw2 := hn2.size
  obtain ⟨qc, HQC⟩ := named w2.heap.size
  rw [← HQC.out] at hfc2 hc2 hw2
  rw [← HV2.out, ← HQC.out]
  have hwq : w.heap.size ≤ W1.heap.size ∧ W1.heap.size ≤ V2.heap.size := ⟨hwl, Below.size hb2⟩
  have HK2 : Hid (∀ W, BelW V2 W → Lg.Tabs W ∧ Cir W qc (.agg #[.slice A0 n c0, .slice A1 n1 c1, .slice A2 0 c2, .slice A3 n3 c3]) c ∧ Fr W qc 27 (#[.slice A0 n c0, .slice A1 n1 c1, .slice A2 0 c2, .slice A3 n3 c3]).toList ∧ Fr W (w.heap.size + 1) 51 [.slice Aq mq cq, .slice Ar mr cr] ∧ Fr W (w.heap.size + 1 + 1) 51 [.slice Ab mb cb, .slice Ad md cd]) :=
    Lib.hid fun W h => ⟨HT1.out.below (joinB hb2 h), hc2.below (h.mono hw2), hfc2.below h, HFQ.out.below (joinB hb2 h), HFB.out.below (joinB hb2 h)⟩
  have HKS : Hid (∀ W, BelW V2 W → Ks W w.heap.size (.slice Aq mq cq) qi ∧ Ks W w.heap.size (.slice Ar mr cr) qs ∧ Ks W w.heap.size (.slice Ab mb cb) bi ∧ Ks W w.heap.size (.slice Ad md cd) bs) := Lib.hid fun W h => by
    have hk : ∀ {v l}, Ks W1 w.heap.size v l → Ks W w.heap.size v l := fun hh => Arr.keep stays_u8 hh (Nat.le_refl _) fun _ hp => (joinB hb2 h).cell (Nat.lt_of_lt_of_le hp hwl)
    exact ⟨hk HQ1.out, hk HR1.out, hk HBB1.out, hk HD1.out⟩
  have hws : ∀ W, BelW V2 W → w.heap.size ≤ W.heap.size := fun W h => Nat.le_trans hwq.1 (Nat.le_trans hwq.2 (Below.size h))
  have hnm : n ≤ 1000000 := Nat.le_of_lt (Nat.lt_of_lt_of_le hn20 (by decide))
  have hpo : ∀ W (a b : List Int) Aa Ab' ma mb' ca cb', BelW V2 W → Ks W w.heap.size (.slice Aa ma ca) a → Ks W w.heap.size (.slice Ab' mb' cb') b → (∀ y ∈ a, 0 ≤ y ∧ y ≤ 255) → (∀ y ∈ b, 0 ≤ y ∧ y ≤ 255) → Calls Tryd.prog 18 #[.agg #[.slice Aa ma ca, .slice Ab' mb' cb'], .agg #[.slice A0 n c0, .slice A1 n1 c1, .slice A2 0 c2, .slice A3 n3 c3]] W fun e w' => ∃ AI cI AS cS, e = .returned (.agg #[.slice AI ni cI, .slice AS ns cS]) ∧ VStk w' W.heap.size (.slice AI ni cI) (takL a 4 ni) ∧ VStk w' W.heap.size (.slice AS ns cS) (takL b 3 ns) ∧ (∀ a b, (Value.slice AI ni cI).ownBlock = some a → (Value.slice AS ns cS).ownBlock = some b → a ≠ b) ∧ BelW W w' := fun W a b Aa Ab' ma mb' ca cb' h h1 h2 h3 h4 => by
    exact pOf_at c a b A0 A1 A2 A3 Aa Ab' n n1 0 n3 ni ns c0 c1 c2 c3 ma mb' ca cb' W W.heap.size (Nat.le_refl _) HN.out.symm HN1.out.symm HMEM.out HN3.out.symm HNI.out.symm HNS.out.symm ((HK2.out W h).2.1.more (Nat.le_of_lt (HK2.out W h).2.2.1.lt)) (Arr.keep stays_u8 h1 (hws W h) fun _ _ => rfl) (Arr.keep stays_u8 h2 (hws W h) fun _ _ => rfl) hnm h3 h4
  have hk2 := HKS.out V2 (Below.refl _ _)
  have hpq := hpo V2 qi qs _ _ _ _ _ _ (Below.refl _ _) hk2.1 hk2.2.1 vq vr
  rw [← HPIN.out, ← HPST.out] at hpq
  have HPQ := Lib.hid hpq
  have HPB : Hid (∀ W, BelW V2 W → Calls Tryd.prog 18 #[.agg #[.slice Ab mb cb, .slice Ad md cd], .agg #[.slice A0 n c0, .slice A1 n1 c1, .slice A2 0 c2, .slice A3 n3 c3]] W fun e w' => ∃ AI cI AS cS, e = .returned (.agg #[.slice AI ni cI, .slice AS ns cS]) ∧ VStk w' W.heap.size (.slice AI ni cI) m0 ∧ VStk w' W.heap.size (.slice AS ns cS) s0 ∧ (∀ a b, (Value.slice AI ni cI).ownBlock = some a → (Value.slice AS ns cS).ownBlock = some b → a ≠ b) ∧ BelW W w') := Lib.hid fun W h => by
    have hk := HKS.out W h
    have := hpo W bi bs _ _ _ _ _ _ h hk.2.2.1 hk.2.2.2 vb vd
    rw [← HM0.out, ← HS0.out] at this
    exact this
  have HCW : Hid (∀ W, BelW V2 W → W.cell? ⟨qc, 0, none⟩ = some (.slice A0 n c0) ∧ W.cell? ⟨qc, 1, none⟩ = some (.slice A1 n1 c1) ∧ W.cell? ⟨qc, 2, none⟩ = some (.slice A2 0 c2) ∧ W.cell? ⟨qc, 3, none⟩ = some (.slice A3 n3 c3)) := Lib.hid fun W h => have f := (HK2.out W h).2.2.1; ⟨f.cell 0, f.cell 1, f.cell 2, f.cell 3⟩
  have HRUN : Hid (∀ W (li ls : List Int) Ai As ci cs, BelW V2 W → Ks W W.heap.size (.slice Ai ni ci) li → Ks W W.heap.size (.slice As ns cs) ls → li.length = ni → ls.length = ns → (∀ y ∈ li, 0 ≤ y ∧ y ≤ 3) → (∀ y ∈ ls, 0 ≤ y ∧ y ≤ 3) → Calls Tryd.prog 12 #[.agg #[.slice A0 n c0, .slice A1 n1 c1, .slice A2 0 c2, .slice A3 n3 c3], .agg #[.slice Ai ni ci, .slice As ns cs]] W fun e w' => ∃ nets g h k, Net c.nodes (baseV n (ofTo c.nodes [0] n) (ofTo c.nodes [14] n) li ls) nets ∧ nets.length = n ∧ e = .returned (.tuple #[.agg #[.slice (some ⟨g, 0, none⟩) n3 n3, .slice (some ⟨h, 0, none⟩) ns ns], .slice (some ⟨k, 0, none⟩) n n, .int .i64 0]) ∧ VRow w' g (outV c nets) ∧ VRow w' h (nextV c nets) ∧ VRow w' k nets ∧ BelW W w') := Lib.hid fun W li ls Ai As ci cs h h1 h2 l1 l2 v1 v2 => by
    exact run_at c li ls A0 A1 A2 A3 Ai As n n1 0 n3 ni ns c0 c1 c2 c3 ci cs W W.heap.size (Nat.le_refl _) (HK2.out W h).1 HN.out.symm HN1.out.symm HMEM.out rfl HN3.out.symm HNI.out.symm HNS.out.symm ((HK2.out W h).2.1.more (Nat.le_of_lt (HK2.out W h).2.2.1.lt)) h1 h2 hn20 HOUTS.out HV0.out.ok l1 l2 v1 v2
  clear hk2 hpq hpo hws hnm hn2 hfc2 hc2 vq vr vb vd
  obtain ⟨x0, x1, x2, x3⟩ := HCW.out V2 (Below.refl _ _)
  have y0 := (HK2.out V2 (Below.refl _ _)).2.2.2.1.cell 0
  have y1 := (HK2.out V2 (Below.refl _ _)).2.2.2.1.cell 1
  go_upto_region 4 with (go_at_call 18; (with_reducible refine HPQ.out.mono ?_); rintro e w3 ⟨BI, dI, BS, dS, rfl, r1, r2, -, hb⟩; have HP1 := Lib.hid r1; have HP2 := Lib.hid r2; have HB3 : Hid (BelW V2 w3) := Lib.hid hb; clear r1 r2 hb)
  clear x0 x1 x2 x3 y0 y1
  obtain ⟨V3, HV3⟩ := named (w3.alloc (.cells #[.slice BI ni dI, .slice BS ns dS] 30))
  have hn3' : Below w3.heap.size w3 V3 := by rw [HV3.out]; exact below_new (Below.refl _ _) _
  have hfp : Fr V3 w3.heap.size 30 [.slice BI ni dI, .slice BS ns dS] := by rw [HV3.out]; exact Fr.made _ _ _ rfl
  have hb3 : BelW V2 V3 := joinB HB3.out hn3'
  obtain ⟨qp, HQP⟩ := named w3.heap.size
  rw [← HQP.out] at hfp
  rw [← HV3.out, ← HQP.out]
  have HB3V := Lib.hid hb3
  have HK3 : Hid (∀ W, BelW V3 W → Fr W qp 30 [.slice BI ni dI, .slice BS ns dS] ∧ VStk W V2.heap.size (.slice BI ni dI) pin ∧ VStk W V2.heap.size (.slice BS ns dS) pst) := Lib.hid fun W h => ⟨hfp.below h, (HP1.out.below hn3').below h, (HP2.out.below hn3').below h⟩
  have HPB3 := Lib.hid (HPB.out V3 hb3)
  clear hn3' hfp hb3
  obtain ⟨x0, x1, x2, x3⟩ := HCW.out V3 HB3V.out
  have y0 := (HK2.out V3 HB3V.out).2.2.2.2.cell 0
  have y1 := (HK2.out V3 HB3V.out).2.2.2.2.cell 1
  go_upto_region 5 with (go_at_call 18; (with_reducible refine HPB3.out.mono ?_); rintro e w4 ⟨EI, fI, ES, fS, rfl, r1, r2, r3, hb⟩; have HE1 := Lib.hid r1; have HE2 := Lib.hid r2; have HE3 := Lib.hid r3; have HB4 : Hid (BelW V3 w4) := Lib.hid hb; clear r1 r2 r3 hb)
  clear x0 x1 x2 x3 y0 y1
  obtain ⟨V4, HV4⟩ := named (w4.alloc (.cells #[.slice EI ni fI, .slice ES ns fS] 30))
  have hn4 : Below w4.heap.size w4 V4 := by rw [HV4.out]; exact below_new (Below.refl _ _) _
  obtain ⟨q4, HQ4⟩ := named w4.heap.size
  have hmv : MV V3 q4 ni ns fI fS EI ES m0 s0 V4 := ⟨joinB HB4.out hn4, by rw [HV4.out, HQ4.out]; exact Fr.made _ _ _ rfl, HE1.out.below hn4, HE2.out.below hn4, HE3.out, fun a h => by have := (World.ownsRow.lt HE1.out a h).2; rw [HQ4.out]; omega, fun a h => by have := (World.ownsRow.lt HE2.out a h).2; rw [HQ4.out]; omega, lm0, ls0⟩
  rw [← HV4.out, ← HQ4.out]
  have HMV := Lib.hid hmv
  have hni : ni ≤ 1000000 := by have := ofTo_len c.nodes [0] n; rw [HNI.out]; omega
  have hns : ns ≤ 1000000 := by have := ofTo_len c.nodes [14] n; rw [HNS.out]; omega
  have HLP := Lib.hid lpin
  have HLS := Lib.hid lpst
  have HLM := Lib.hid lm0
  have HLT := Lib.hid ls0
  clear hn4 hmv lpin lpst lm0 ls0
  go_wp2
  go_loopw [10] (fun i wr => ∃ k : Nat, k ≤ ni ∧ i = .int .i64 k ∧ MV V3 q4 ni ns fI fS EI ES (mrgTo pin m0 k) s0 wr) (fun i _ => ni - (intOf i).toNat)
  case atStart => exact ⟨0, Nat.zero_le _, rfl, by rw [mrgTo_zero]; exact HMV.out⟩
  case round =>
    clear HMV
    obtain ⟨k, hk, rfl, hmv⟩ := hrel
    have HMV := Lib.hid hmv
    have hk3 := HK3.out wr hmv.bel
    have y0 := hk3.1.cell 0
    have z0 := hmv.box.cell 0
    by_cases hlt : k < ni
    · obtain ⟨gp, rfl⟩ := VStk.formK hk3.2.1 HLP.out hlt
      have hvx := VStk.cellK hk3.2.1 HLP.out hlt
      obtain ⟨pv, HPV⟩ := named (pin.getD k 0)
      rw [← HPV.out] at hvx
      clear hmv hk3
      by_cases h2 : pv = 2
      · have t1 : (pv != 2) = false := by simpa using h2
        have HKP : Hid (mrgTo pin m0 (k + 1) = mrgTo pin m0 k) := Lib.hid (mrgTo_keep (by rw [← HPV.out]; exact h2))
        subst h2
        go_wp2
        go_roundw
        case rel => exact ⟨k + 1, by omega, by go_num, by rw [HKP.out]; exact HMV.out⟩
        case measure => simp [intOf]; omega
      · have t1 : (pv != 2) = true := by simpa using h2
        have HKP : Hid (mrgTo pin m0 (k + 1) = (mrgTo pin m0 k).set k pv) := Lib.hid (by rw [HPV.out]; exact mrgTo_put (by rw [HLM.out]; exact hlt) (by rw [← HPV.out]; exact h2))
        have hml : (mrgTo pin m0 k).length = ni := by rw [mrgTo_len, HLM.out]
        obtain ⟨ge, rfl⟩ := VStk.formK HMV.out.rI hml hlt
        have hve := VStk.cellK HMV.out.rI hml hlt
        have hvf := VStk.frozenK HMV.out.rI hml k
        obtain ⟨ev, HEV⟩ := named ((mrgTo pin m0 k).getD k 0)
        rw [← HEV.out] at hve
        have HNX := Lib.hid (HMV.out.setI k pv)
        clear hml
        go_wp2
        go_still_tail 9, (by kernel_rfl)
        go_wp2
        go_roundw
        case rel => exact ⟨k + 1, by omega, by go_num, by rw [HKP.out]; exact HNX.out.next (Below.drew (Below.refl _ _))⟩
        case measure => simp [intOf]; omega
    · obtain rfl : ni = k := by omega
      clear hmv hk3
      go_wp2
      clear z0 y0
      obtain ⟨V5, rfl⟩ : ∃ V0 : World, V0 = wr := ⟨_, rfl⟩
      obtain ⟨mI, HMI⟩ := named (mrgTo pin m0 ni)
      rw [← HMI.out] at HMV
      have HMW := HMV
      clear HMV
      go_loopw [11] (fun i wr => ∃ k : Nat, k ≤ ns ∧ i = .int .i64 k ∧ MV V3 q4 ni ns fI fS EI ES mI (mrgTo pst s0 k) wr) (fun i _ => ns - (intOf i).toNat)
      case atStart => exact ⟨0, Nat.zero_le _, rfl, by rw [mrgTo_zero]; exact HMW.out⟩
      case round =>
        clear HMW
        obtain ⟨k, hk, rfl, hmv⟩ := hrel
        have HMV := Lib.hid hmv
        have hk3 := HK3.out wr hmv.bel
        have y0 := hk3.1.cell 1
        have z0 := hmv.box.cell 1
        by_cases hlt : k < ns
        · obtain ⟨gp, rfl⟩ := VStk.formK hk3.2.2 HLS.out hlt
          have hvx := VStk.cellK hk3.2.2 HLS.out hlt
          obtain ⟨pv, HPV⟩ := named (pst.getD k 0)
          rw [← HPV.out] at hvx
          clear hmv hk3
          by_cases h2 : pv = 2
          · have t1 : (pv != 2) = false := by simpa using h2
            have HKP : Hid (mrgTo pst s0 (k + 1) = mrgTo pst s0 k) := Lib.hid (mrgTo_keep (by rw [← HPV.out]; exact h2))
            subst h2
            go_wp2
            go_roundw
            case rel => exact ⟨k + 1, by omega, by go_num, by rw [HKP.out]; exact HMV.out⟩
            case measure => simp [intOf]; omega
          · have t1 : (pv != 2) = true := by simpa using h2
            have HKP : Hid (mrgTo pst s0 (k + 1) = (mrgTo pst s0 k).set k pv) := Lib.hid (by rw [HPV.out]; exact mrgTo_put (by rw [HLT.out]; exact hlt) (by rw [← HPV.out]; exact h2))
            have hml : (mrgTo pst s0 k).length = ns := by rw [mrgTo_len, HLT.out]
            obtain ⟨ge, rfl⟩ := VStk.formK HMV.out.rS hml hlt
            have hve := VStk.cellK HMV.out.rS hml hlt
            have hvf := VStk.frozenK HMV.out.rS hml k
            obtain ⟨ev, HEV⟩ := named ((mrgTo pst s0 k).getD k 0)
            rw [← HEV.out] at hve
            have HNX := Lib.hid (HMV.out.setS k pv)
            clear hml
            go_wp2
            go_still_tail 9, (by kernel_rfl)
            go_wp2
            go_roundw
            case rel => exact ⟨k + 1, by omega, by go_num, by rw [HKP.out]; exact HNX.out.next (Below.drew (Below.refl _ _))⟩
            case measure => simp [intOf]; omega
        · obtain rfl : ns = k := by omega
          clear hmv hk3
          go_upto_region 15 with (fail)
          clear z0 y0
          obtain ⟨V6, rfl⟩ : ∃ V0 : World, V0 = wr := ⟨_, rfl⟩
          obtain ⟨mS, HMS⟩ := named (mrgTo pst s0 ns)
          rw [← HMS.out] at HMV
          have hb6 : BelW V2 V6 := joinB HB3V.out HMV.out.bel
          have hk6 := HK3.out V6 HMV.out.bel
          have vpin : ∀ y ∈ pin, 0 ≤ y ∧ y ≤ 3 := by rw [HPIN.out]; exact takL_in HVV.out.1 (by decide) (by decide) ni
          have vpst : ∀ y ∈ pst, 0 ≤ y ∧ y ≤ 3 := by rw [HPST.out]; exact takL_in HVV.out.2.1 (by decide) (by decide) ns
          have vm0 : ∀ y ∈ m0, 0 ≤ y ∧ y ≤ 3 := by rw [HM0.out]; exact takL_in HVV.out.2.2.1 (by decide) (by decide) ni
          have vs0 : ∀ y ∈ s0, 0 ≤ y ∧ y ≤ 3 := by rw [HS0.out]; exact takL_in HVV.out.2.2.2 (by decide) (by decide) ns
          have vmI : ∀ y ∈ mI, 0 ≤ y ∧ y ≤ 3 := by rw [HMI.out]; exact mrgTo_in vpin vm0 (by rw [HLP.out, HLM.out])
          have vmS : ∀ y ∈ mS, 0 ≤ y ∧ y ≤ 3 := by rw [HMS.out]; exact mrgTo_in vpst vs0 (by rw [HLS.out, HLT.out])
          have lmI : mI.length = ni := by rw [HMI.out, mrgTo_len, HLM.out]
          have lmS : mS.length = ns := by rw [HMS.out, mrgTo_len, HLT.out]
          have HR6 := Lib.hid (HRUN.out V6 pin pst _ _ _ _ hb6 hk6.2.1.ks hk6.2.2.ks HLP.out HLS.out vpin vpst)
          have HVM := Lib.hid (And.intro vmI vmS)
          have HLMS := Lib.hid (And.intro lmI lmS)
          obtain ⟨x0, x1, x2, x3⟩ := HCW.out V6 hb6
          have y0 := hk6.1.cell 0
          have y1 := hk6.1.cell 1
          have HB6 := Lib.hid hb6
          clear hk6 vpin vpst vm0 vs0 vmI vmS lmI lmS hb6
          go_upto_region 16 with (go_at_call 12; (with_reducible refine HR6.out.mono ?_); rintro e w7 ⟨nt1, g1, h1, k1, hn, hl, rfl, r1, r2, r3, hb⟩; have HN1' := Lib.hid hn; have HL1 := Lib.hid hl; have HG1 := Lib.hid r1; have HH1 := Lib.hid r2; have HI1 := Lib.hid r3; have HB7 : Hid (BelW V6 w7) := Lib.hid hb; clear hn hl r1 r2 r3 hb)
          clear x0 x1 x2 x3 y0 y1
          obtain ⟨V7, HV7⟩ := named (w7.alloc (.cells #[.slice (some ⟨g1, 0, none⟩) n3 n3, .slice (some ⟨h1, 0, none⟩) ns ns] 36))
          have hn7 : Below w7.heap.size w7 V7 := by rw [HV7.out]; exact below_new (Below.refl _ _) _
          have hf7 : Fr V7 w7.heap.size 36 [.slice (some ⟨g1, 0, none⟩) n3 n3, .slice (some ⟨h1, 0, none⟩) ns ns] := by rw [HV7.out]; exact Fr.made _ _ _ rfl
          have hb7 : BelW V6 V7 := joinB HB7.out hn7
          obtain ⟨q7, HQ7⟩ := named w7.heap.size
          rw [← HQ7.out] at hf7
          rw [← HV7.out, ← HQ7.out]
          have HR7 := Lib.hid (And.intro (HG1.out.below hn7) (And.intro (HH1.out.below hn7) (HI1.out.below hn7)))
          have HF7 := Lib.hid hf7
          have hmv7 := HMV.out.next hb7
          have HB67 := Lib.hid hb7
          have HB27 : Hid (BelW V2 V7) := Lib.hid (joinB HB6.out hb7)
          have HR8 := Lib.hid (HRUN.out V7 mI mS _ _ _ _ HB27.out (by have h := hmv7.rI.ks; exact h) (by have h := hmv7.rS.ks; exact h) HLMS.out.1 HLMS.out.2 HVM.out.1 HVM.out.2)
          obtain ⟨x0, x1, x2, x3⟩ := HCW.out V7 HB27.out
          have y0 := hmv7.box.cell 0
          have y1 := hmv7.box.cell 1
          clear hn7 hf7 hb7 hmv7
          go_upto_region 17 with (go_at_call 12; (with_reducible refine HR8.out.mono ?_); rintro e w8 ⟨nt2, g2, h2, k2, hn, hl, rfl, r1, r2, r3, hb⟩; have HN2' := Lib.hid hn; have HL2 := Lib.hid hl; have HG2 := Lib.hid r1; have HH2 := Lib.hid r2; have HI2 := Lib.hid r3; have HB8 : Hid (BelW V7 w8) := Lib.hid hb; clear hn hl r1 r2 r3 hb)
          clear x0 x1 x2 x3 y0 y1
          obtain ⟨V8, HV8⟩ := named (w8.alloc (.cells #[.slice (some ⟨g2, 0, none⟩) n3 n3, .slice (some ⟨h2, 0, none⟩) ns ns] 36))
          have hn8 : Below w8.heap.size w8 V8 := by rw [HV8.out]; exact below_new (Below.refl _ _) _
          have hf8 : Fr V8 w8.heap.size 36 [.slice (some ⟨g2, 0, none⟩) n3 n3, .slice (some ⟨h2, 0, none⟩) ns ns] := by rw [HV8.out]; exact Fr.made _ _ _ rfl
          have hb8 : BelW V7 V8 := joinB HB8.out hn8
          obtain ⟨q8, HQ8⟩ := named w8.heap.size
          rw [← HQ8.out] at hf8
          rw [← HV8.out, ← HQ8.out]
          have hb28 : BelW V2 V8 := joinB HB27.out hb8
          have hlen2 : nt1.length = nt2.length := by rw [HL1.out, HL2.out]
          have hnet := mono_nets HV0.out HN.out.symm (by rw [HLP.out, HLMS.out.1]) (by rw [HLS.out, HLMS.out.2])
            (fun j hj => by rw [HMI.out]; rw [HLP.out] at hj; exact mrg_le (by rw [HLM.out]; exact hj) hj)
            (fun j hj => by rw [HMS.out]; rw [HLS.out] at hj; exact mrg_le (by rw [HLT.out]; exact hj) hj) HN1'.out HN2'.out
          have hresp := resp_le (c := c) hlen2 (by rw [HL1.out]; exact hnet)
          have lo : ∀ l, (outV c l).length = n3 := fun l => by rw [HN3.out]; exact List.length_map _
          have ln : ∀ l, (nextV c l).length = ns := fun l => by rw [HNS.out, HN.out]; exact List.length_map _
          have hy1 : ∀ W, BelW V8 W → Calls Tryd.prog 19 #[.slice (some ⟨k1, 0, none⟩) n n, .slice (some ⟨k2, 0, none⟩) n n] W fun e w' => e = .returned (.int .i64 0) ∧ BelW W w' := fun W h =>
            below_rows ((HR7.out.2.2.below hb8).below h) ((HI2.out.below hn8).below h) HL1.out HL2.out hnet
          have hy2 : ∀ W, BelW V8 W → Calls Tryd.prog 19 #[.slice (some ⟨g1, 0, none⟩) n3 n3, .slice (some ⟨g2, 0, none⟩) n3 n3] W fun e w' => e = .returned (.int .i64 0) ∧ BelW W w' := fun W h =>
            below_rows ((HR7.out.1.below hb8).below h) ((HG2.out.below hn8).below h) (lo _) (lo _) (fun j hj => hresp.2.1 j (by rw [lo]; exact hj))
          have hy3 : ∀ W, BelW V8 W → Calls Tryd.prog 19 #[.slice (some ⟨h1, 0, none⟩) ns ns, .slice (some ⟨h2, 0, none⟩) ns ns] W fun e w' => e = .returned (.int .i64 0) ∧ BelW W w' := fun W h =>
            below_rows ((HR7.out.2.1.below hb8).below h) ((HH2.out.below hn8).below h) (ln _) (ln _) (fun j hj => hresp.2.2 j (by rw [ln]; exact hj))
          have HY2 := Lib.hid hy2
          have HY3 := Lib.hid hy3
          have HY1 := Lib.hid (hy1 V8 (Below.refl _ _))
          have HF8 : Hid (∀ W, BelW V8 W → W.cell? ⟨q7, 0, none⟩ = some (.slice (some ⟨g1, 0, none⟩) n3 n3) ∧ W.cell? ⟨q7, 1, none⟩ = some (.slice (some ⟨h1, 0, none⟩) ns ns) ∧ W.cell? ⟨q8, 0, none⟩ = some (.slice (some ⟨g2, 0, none⟩) n3 n3) ∧ W.cell? ⟨q8, 1, none⟩ = some (.slice (some ⟨h2, 0, none⟩) ns ns)) := Lib.hid fun W h =>
            ⟨((HF7.out.below hb8).below h).cell 0, ((HF7.out.below hb8).below h).cell 1, (hf8.below h).cell 0, (hf8.below h).cell 1⟩
          have HFIN : Hid (∀ W, BelW V8 W → Lg.Tabs W ∧ Below w.heap.size w W) := Lib.hid fun W h => ⟨(HK2.out W (joinB hb28 h)).1, (joinB HB1.out (joinB hb2 (joinB hb28 h))).mono (Nat.le_refl _)⟩
          obtain ⟨x0, -, -, -⟩ := HCW.out V8 hb28
          clear hn8 hf8 hb8 hb28 hlen2 hnet hresp lo ln hy1 hy2 hy3
          go_upto_region 19 with (fail)
          clear x0
          obtain ⟨a1, b1, a2, b2⟩ := HF8.out V8 (Below.refl _ _)
          go_wp2_with (first
            | (go_at_call 10; (with_reducible refine Calls.mono (HLIV.out) ?_); rintro e w12 ⟨rfl, hb⟩; have HBZ := Lib.hid hb; clear hb)
            | (go_at_call 19; (with_reducible refine HC3.out.mono ?_); rintro e w11 ⟨rfl, hb⟩; have HB11 : Hid (BelW V8 w11) := Lib.hid (joinB HB10.out hb); have HFN := Lib.hid (HFIN.out w11 HB11.out); have HLIV := Lib.hid (lives6_any w11 HFN.out.1); clear hb)
            | (go_at_call 19; (with_reducible refine HC2.out.mono ?_); rintro e w10 ⟨rfl, hb⟩; have HB10 : Hid (BelW V8 w10) := Lib.hid (joinB HB9.out hb); have HC3 := Lib.hid (HY3.out w10 HB10.out); clear a1 b1 a2 b2; obtain ⟨a1, b1, a2, b2⟩ := HF8.out w10 HB10.out; clear hb)
            | (go_at_call 19; (with_reducible refine HY1.out.mono ?_); rintro e w9 ⟨rfl, hb⟩; have HB9 : Hid (BelW V8 w9) := Lib.hid hb; have HC2 := Lib.hid (HY2.out w9 HB9.out); clear a1 b1 a2 b2; obtain ⟨a1, b1, a2, b2⟩ := HF8.out w9 HB9.out; clear hb))
          go_ret
          exact ⟨rfl, joinB HFN.out.2 HBZ.out⟩

end Go.Proofs.YtbaimokoejpibaaDoor
