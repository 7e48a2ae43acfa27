/- The texts Pw9. -/
import Derived.Test.YtkaedfgmhfefjaaGreatDoorM40
import Derived.Test.YtkaedfgmhfefjaaGreatDoorM23
import Derived.Test.YtkaedfgmhfefjaaGreatDoorM41
import Derived.StillTailTactics
namespace Go.Proofs.YtkaedfgmhfefjaaGreatDoor
open Go.RowKit
set_option maxRecDepth 100000 in
set_option maxHeartbeats 16000000 in
theorem plain9_law (x : Cx) (hx : Cok x) (sG sA : Value) (ly lyi lys : List Int) (Ay Ayi Ays : Option Addr) (my myi mys cy cyi cys : Nat) (w : World) (hT : Lg.Tabs w) (hG : Gs w w.heap.size sG x.gates) (hA : Ks w w.heap.size sA x.outs)
    (ky : Ks w w.heap.size (.slice Ay my cy) ly) (kyi : Ks w w.heap.size (.slice Ayi myi cyi) lyi) (kys : Ks w w.heap.size (.slice Ays mys cys) lys) (vy : ∀ y ∈ ly, 0 ≤ y ∧ y ≤ 255) (vyi : ∀ y ∈ lyi, 0 ≤ y ∧ y ≤ 255) (vys : ∀ y ∈ lys, 0 ≤ y ∧ y ≤ 255)
    (zy : 1 + my ≤ 140737488355328) (zyi : 1 + myi ≤ 140737488355328) (zys : 1 + mys ≤ 140737488355328) :
    Calls Tryz.prog 6 #[.agg #[.int .u8 x.inN, .int .u8 x.dffs, .int .u8 x.d0, .int .u8 x.d1, .bool x.bus, .bool x.mem, .int .u8 x.p0, .int .u8 x.p1, .int .u8 x.p2, .int .u8 x.p3, sG, sA], .agg #[.slice Ay my cy, .slice Ayi myi cyi, .slice Ays mys cys]] w fun e w' => e = .returned (.bool true) ∧ Below w.heap.size w w' := by
  obtain ⟨AG, _, _, cG, rfl, -⟩ := id hG
  obtain ⟨AO, _, _, cO, rfl, -⟩ := id hA
  obtain ⟨xc, HXC⟩ : ∃ y, Hid (y = ({ x with mem := false } : Cx)) := ⟨_, Lib.hid rfl⟩
  obtain ⟨xd, HXD⟩ : ∃ y, Hid (y = ({ x with bus := false } : Cx)) := ⟨_, Lib.hid rfl⟩
  have hxc : Cok xc := by rw [HXC.out]; exact ⟨hx.inN, hx.dffs, hx.d0, hx.d1, hx.p0, hx.p1, hx.p2, hx.p3, hx.gates, hx.outs⟩
  have hxd : Cok xd := by rw [HXD.out]; exact ⟨hx.inN, hx.dffs, hx.d0, hx.d1, hx.p0, hx.p1, hx.p2, hx.p3, hx.gates, hx.outs⟩
  obtain ⟨c, HC⟩ := named (ofC xc)
  obtain ⟨n, HN⟩ := named c.nodes.length
  have HM : Hid (0 = c.mems.length) := Lib.hid (by rw [HC.out, HXC.out]; rfl)
  obtain ⟨d, HD⟩ := named (ofC xd)
  obtain ⟨n', HN'⟩ := named d.nodes.length
  obtain ⟨m', HM'⟩ := named d.mems.length
  obtain ⟨W1, HW1⟩ := named (((w.alloc (.cells #[.int .u8 x.inN, .int .u8 x.dffs, .int .u8 x.d0, .int .u8 x.d1, .bool x.bus, .bool false, .int .u8 x.p0, .int .u8 x.p1, .int .u8 x.p2, .int .u8 x.p3, .slice AG x.gates.length cG, .slice AO x.outs.length cO] 27)).alloc (.cells #[.slice Ay my cy, .slice Ayi myi cyi, .slice Ays mys cys] 33)).alloc (.cells #[.int .u8 x.inN, .int .u8 x.dffs, .int .u8 x.d0, .int .u8 x.d1, .bool false, .bool x.mem, .int .u8 x.p0, .int .u8 x.p1, .int .u8 x.p2, .int .u8 x.p3, .slice AG x.gates.length cG, .slice AO x.outs.length cO] 27))
  have hb1 : BelW w W1 := by rw [HW1.out]; exact below_new (below_new (below_new (Below.refl _ _) _) _) _
  have hf0 : Fr W1 w.heap.size 27 (#[.int .u8 x.inN, .int .u8 x.dffs, .int .u8 x.d0, .int .u8 x.d1, .bool x.bus, .bool false, .int .u8 x.p0, .int .u8 x.p1, .int .u8 x.p2, .int .u8 x.p3, .slice AG x.gates.length cG, .slice AO x.outs.length cO]).toList := by rw [HW1.out]; exact Fr.alloc (Fr.alloc (Fr.made _ _ _ (by simp)) _) _
  have hf1 : Fr W1 (w.heap.size + 1) 33 (#[.slice Ay my cy, .slice Ayi myi cyi, .slice Ays mys cys]).toList := by rw [HW1.out]; exact Fr.alloc (Fr.made _ _ _ (by simp)) _
  have hf2 : Fr W1 (w.heap.size + 1 + 1) 27 (#[.int .u8 x.inN, .int .u8 x.dffs, .int .u8 x.d0, .int .u8 x.d1, .bool false, .bool x.mem, .int .u8 x.p0, .int .u8 x.p1, .int .u8 x.p2, .int .u8 x.p3, .slice AG x.gates.length cG, .slice AO x.outs.length cO]).toList := by rw [HW1.out]; exact Fr.made _ _ _ (by simp)
  have HB1 := Lib.hid hb1
  have HOF : Hid (∀ W, BelW w W → Calls Tryz.prog 7 #[.agg #[.int .u8 x.inN, .int .u8 x.dffs, .int .u8 x.d0, .int .u8 x.d1, .bool x.bus, .bool false, .int .u8 x.p0, .int .u8 x.p1, .int .u8 x.p2, .int .u8 x.p3, .slice AG x.gates.length cG, .slice AO x.outs.length cO]] W fun e w' => (∃ A0 A1 A2 A3 n1 n3 c0 c1 c2 c3, e = .returned (.agg #[.slice A0 n c0, .slice A1 n1 c1, .slice A2 0 c2, .slice A3 n3 c3]) ∧ Cir w' w'.heap.size (.agg #[.slice A0 n c0, .slice A1 n1 c1, .slice A2 0 c2, .slice A3 n3 c3]) c ∧ n1 = c.names.length ∧ n3 = c.outs.length) ∧ BelW W w') := Lib.hid fun W h => by
    have h1 := ofc_m xc hxc _ _ w W h (by rw [HXC.out]; exact hG) (by rw [HXC.out]; exact hA) HC.out HN.out HM.out
    rw [HXC.out] at h1
    exact h1
  have HOD : Hid (∀ W, BelW w W → Calls Tryz.prog 7 #[.agg #[.int .u8 x.inN, .int .u8 x.dffs, .int .u8 x.d0, .int .u8 x.d1, .bool false, .bool x.mem, .int .u8 x.p0, .int .u8 x.p1, .int .u8 x.p2, .int .u8 x.p3, .slice AG x.gates.length cG, .slice AO x.outs.length cO]] W fun e w' => (∃ A0 A1 A2 A3 n1 n3 c0 c1 c2 c3, e = .returned (.agg #[.slice A0 n' c0, .slice A1 n1 c1, .slice A2 m' c2, .slice A3 n3 c3]) ∧ Cir w' w'.heap.size (.agg #[.slice A0 n' c0, .slice A1 n1 c1, .slice A2 m' c2, .slice A3 n3 c3]) d ∧ n1 = d.names.length ∧ n3 = d.outs.length) ∧ BelW W w') := Lib.hid fun W h => by
    have h1 := ofc_m xd hxd _ _ w W h (by rw [HXD.out]; exact hG) (by rw [HXD.out]; exact hA) HD.out HN'.out HM'.out
    rw [HXD.out] at h1
    exact h1
  have HXX := Lib.hid (And.intro hxc hxd)
  have HT1 := Lib.hid (hT.below hb1)
  have HKP : Hid (∀ {v l W}, BelW W1 W → Ks w w.heap.size v l → Ks W W.heap.size v l) := Lib.hid fun h hk => Arr.keep stays_u8 hk (joinB HB1.out h).size fun _ hp => (joinB HB1.out h).cell hp
  have HKy := Lib.hid (And.intro ky (And.intro kyi kys))
  have HVy := Lib.hid (And.intro vy (And.intro vyi vys))
  have HZy := Lib.hid (And.intro zy (And.intro zyi zys))
  have HF0 := Lib.hid hf0
  have HF1 := Lib.hid hf1
  have HF2 := Lib.hid hf2
  have HO1 := Lib.hid (HOF.out W1 hb1)
  clear hT hG hA hx hxc hxd hb1 hf0 hf1 hf2 ky kyi kys vy vyi vys zy zyi zys
  go_enter Tryz.func6, Tryz.ntmps6
  go_upto_region 4 with (fail)
  rw [← HW1.out]
  have x0 := HF0.out.cell 0
  have x1 := HF0.out.cell 1
  have x2 := HF0.out.cell 2
  have x3 := HF0.out.cell 3
  have x4 := HF0.out.cell 4
  have x5 := HF0.out.cell 5
  have x6 := HF0.out.cell 6
  have x7 := HF0.out.cell 7
  have x8 := HF0.out.cell 8
  have x9 := HF0.out.cell 9
  have x10 := HF0.out.cell 10
  have x11 := HF0.out.cell 11
  go_upto_region 5 with (go_at_call 7; (with_reducible refine HO1.out.mono ?_); rintro e w2 ⟨⟨A0, A1, A2, A3, n1, n3, c0, c1, c2, c3, rfl, hc, hn1, hn3⟩, hb⟩; have HCC := Lib.hid hc; have HB2 := Lib.hid hb; have HN1 := Lib.hid hn1; have HN3 := Lib.hid hn3; clear hc hb hn1 hn3)
  clear x0 x1 x2 x3 x4 x5 x6 x7 x8 x9 x10 x11
  obtain ⟨V2, HV2⟩ := named (w2.alloc (.cells #[.slice A0 n c0, .slice A1 n1 c1, .slice A2 0 c2, .slice A3 n3 c3] 39))
  have hn2 : BelW w2 V2 := by rw [HV2.out]; exact below_new (Below.refl _ _) _
  have hfc2 : Fr V2 w2.heap.size 39 (#[.slice A0 n c0, .slice A1 n1 c1, .slice A2 0 c2, .slice A3 n3 c3]).toList := by rw [HV2.out]; exact Fr.made _ _ _ rfl
  have hb2 : BelW W1 V2 := joinB HB2.out hn2
  obtain ⟨qc, HQC⟩ := named w2.heap.size
  rw [← HQC.out] at hfc2
  rw [← HV2.out, ← HQC.out]
  have hcs2 : Cm c n n1 0 n3 A0 A1 A2 A3 c0 c1 c2 c3 qc V2 := ⟨HT1.out.below hb2, (HCC.out.below hn2).more (Below.size hn2), hfc2⟩
  have HCS := Lib.hid (fun W (h : BelW V2 W) => hcs2.next h)
  have HCE := Lib.hid (fun W (h : BelW V2 W) => (hcs2.next h).cells)
  have HB2V := Lib.hid hb2
  obtain ⟨ni, HNI⟩ := named (ofTo c.nodes [0] n).length
  obtain ⟨ns, HNS⟩ := named (ofTo c.nodes [14] n).length
  obtain ⟨L, hst⟩ := cmt_of xc HXX.out.1 HC.out HN.out HN1.out HM.out HN3.out HNI.out HNS.out
  have HST := Lib.hid hst
  have hfew : n < 20 := hst.few
  have hniB : ni ≤ n := hst.niB
  have hnsB : ns ≤ n := hst.nsB
  have HFY : Hid (∀ W, BelW V2 W → Fr W (w.heap.size + 1) 33 (#[.slice Ay my cy, .slice Ayi myi cyi, .slice Ays mys cys]).toList) := Lib.hid fun W h => HF1.out.below (joinB HB2V.out h)
  have HFD : Hid (∀ W, BelW V2 W → Fr W (w.heap.size + 1 + 1) 27 (#[.int .u8 x.inN, .int .u8 x.dffs, .int .u8 x.d0, .int .u8 x.d1, .bool false, .bool x.mem, .int .u8 x.p0, .int .u8 x.p1, .int .u8 x.p2, .int .u8 x.p3, .slice AG x.gates.length cG, .slice AO x.outs.length cO]).toList) := Lib.hid fun W h => HF2.out.below (joinB HB2V.out h)
  have HC1 := Lib.hid (step9_any hcs2 hst (HKP.out hb2 HKy.out.1) (HKP.out hb2 HKy.out.2.1) (HKP.out hb2 HKy.out.2.2) HVy.out.1 HVy.out.2.1 HVy.out.2.2)
  clear hn2 hfc2 hb2 hcs2 hst HV2 HQC HCC HB2 HW1
  obtain ⟨x0, x1, x2, x3⟩ := HCE.out V2 (Below.refl _ _)
  have y0 := (HFY.out V2 (Below.refl _ _)).cell 0
  have y1 := (HFY.out V2 (Below.refl _ _)).cell 1
  have y2 := (HFY.out V2 (Below.refl _ _)).cell 2
  go_upto_region 6 with (go_at_call 8; (with_reducible refine HC1.out.mono ?_); rintro e w3 ⟨S0, s0, S1, s1, S2, s2, AI, cI, rfl, ho, hv, hb⟩; have HO3 := Lib.hid ho; have HI3 := Lib.hid hv; have HB3 := Lib.hid hb; clear ho hv hb)
  obtain ⟨V3, HV3⟩ := named (w3.alloc (.cells #[.slice S0 ns s0, .slice S1 0 s1, .slice S2 0 s2] 45))
  have hn3 : BelW w3 V3 := by rw [HV3.out]; exact below_new (Below.refl _ _) _
  have hf3 : Fr V3 w3.heap.size 45 [.slice S0 ns s0, .slice S1 0 s1, .slice S2 0 s2] := by rw [HV3.out]; exact Fr.made _ [.slice S0 ns s0, .slice S1 0 s1, .slice S2 0 s2] _ rfl
  obtain ⟨q3, HQ3⟩ := named w3.heap.size
  rw [← HQ3.out] at hf3
  rw [← HV3.out, ← HQ3.out]
  have hb23 : BelW V2 V3 := joinB HB3.out hn3
  obtain ⟨ss, HSS⟩ := named (sofS c ns 0 ly)
  obtain ⟨inp, HIP⟩ := named (takL lyi 4 ni)
  rw [← HSS.out] at HO3
  rw [← HIP.out] at HI3
  have hil : inp.length = ni := by rw [HIP.out, takL_len]
  have HIL := Lib.hid hil
  have HSTR : Hid (∀ W, BelW V3 W → StR W W.heap.size S0 S1 S2 ns 0 0 s0 s1 s2 ss) := Lib.hid fun W h => (HO3.out.below (joinB hn3 h)).str
  have HINK : Hid (∀ W, BelW V3 W → Ks W W.heap.size (.slice AI ni cI) inp) := Lib.hid fun W h => (HI3.out.below (joinB hn3 h)).ks
  have HF3 : Hid (∀ W, BelW V3 W → Fr W q3 45 [.slice S0 ns s0, .slice S1 0 s1, .slice S2 0 s2]) := Lib.hid fun W h => hf3.below h
  have HB23 := Lib.hid hb23
  have HFS : Hid (FitS c ns 0 ss) := Lib.hid (by rw [HSS.out]; exact sofS_fits _ _ _ _)
  have HSV : Hid (∀ y ∈ ss.dff, 0 ≤ y ∧ y ≤ 3) := Lib.hid (by rw [HSS.out]; exact takL9_in HVy.out.1 _ _)
  have HIV : Hid (∀ y ∈ inp, 0 ≤ y ∧ y ≤ 3) := Lib.hid (by rw [HIP.out]; exact takL_in4 HVy.out.2.1 ni)
  clear x0 x1 x2 x3 y0 y1 y2 hn3
  obtain ⟨x0, x1, x2, x3⟩ := HCE.out V3 hb23
  have y0 := hf3.cell 0
  have y1 := hf3.cell 1
  have y2 := hf3.cell 2
  have HY3 := Lib.hid ((HCS.out V3 hb23).cycle HST.out (HSTR.out V3 (Below.refl _ _)) (HINK.out V3 (Below.refl _ _)) HFS.out hil HIV.out)
  obtain ⟨nt1, HN1'⟩ := named (cyN c L n ss inp)
  rw [← HN1'.out] at HY3
  clear hil hf3 hb23
  go_upto_region 7 with (go_at_call 9; (with_reducible refine HY3.out.mono ?_); rintro e w7 ⟨aB, aD, aE, go1, gn1, gw1, rfl, r1, r2, r3, r4, hb⟩; have HR7 := Lib.hid (And.intro r1 (And.intro r2 (And.intro r3 r4))); have HB7 : Hid (BelW V3 w7) := Lib.hid hb; clear r1 r2 r3 r4 hb)
  clear x0 x1 x2 x3 y0 y1 y2
  obtain ⟨V7, HV7⟩ := named ((w7.alloc (.cells #[.slice (some ⟨aB, 0, none⟩) ns ns, .slice (some ⟨aD, 0, none⟩) 0 0, .slice (some ⟨aE, 0, none⟩) 0 0] 45)).alloc (.cells #[.slice (some ⟨go1, 0, none⟩) n3 n3, .slice (some ⟨gn1, 0, none⟩) ns ns] 49))
  have hn7 : BelW w7 V7 := by rw [HV7.out]; exact below_new (below_new (Below.refl _ _) _) _
  have hf7 : Fr V7 w7.heap.size 45 [.slice (some ⟨aB, 0, none⟩) ns ns, .slice (some ⟨aD, 0, none⟩) 0 0, .slice (some ⟨aE, 0, none⟩) 0 0] := by rw [HV7.out]; exact Fr.alloc (Fr.made _ [.slice (some ⟨aB, 0, none⟩) ns ns, .slice (some ⟨aD, 0, none⟩) 0 0, .slice (some ⟨aE, 0, none⟩) 0 0] _ rfl) _
  have hf7r : Fr V7 (w7.heap.size + 1) 49 [.slice (some ⟨go1, 0, none⟩) n3 n3, .slice (some ⟨gn1, 0, none⟩) ns ns] := by rw [HV7.out]; exact Fr.made _ [.slice (some ⟨go1, 0, none⟩) n3 n3, .slice (some ⟨gn1, 0, none⟩) ns ns] _ (by simp)
  obtain ⟨q7, HQ7⟩ := named w7.heap.size
  rw [← HQ7.out] at hf7 hf7r
  rw [← HV7.out, ← HQ7.out]
  have hb37 : BelW V3 V7 := joinB HB7.out hn7
  have HB37 := Lib.hid hb37
  have HA7 : Hid (∀ W, BelW V7 W → StR W W.heap.size (some ⟨aB, 0, none⟩) (some ⟨aD, 0, none⟩) (some ⟨aE, 0, none⟩) ns 0 0 ns 0 0 (nxtS c ns 0 ss nt1)) := Lib.hid fun W h => HR7.out.2.2.2.keep (Nat.le_refl _) (joinB hn7 h) (Below.size (joinB hn7 h))
  have HW7 : Hid (∀ W, BelW V7 W → VRow W gw1 nt1 ∧ VRow W go1 (outV c nt1) ∧ VRow W gn1 (nextV c nt1)) := Lib.hid fun W h => ⟨HR7.out.1.below (joinB hn7 h), HR7.out.2.1.below (joinB hn7 h), HR7.out.2.2.1.below (joinB hn7 h)⟩
  have HF7 : Hid (∀ W, BelW V7 W → Fr W q7 45 [.slice (some ⟨aB, 0, none⟩) ns ns, .slice (some ⟨aD, 0, none⟩) 0 0, .slice (some ⟨aE, 0, none⟩) 0 0] ∧ Fr W (q7 + 1) 49 [.slice (some ⟨go1, 0, none⟩) n3 n3, .slice (some ⟨gn1, 0, none⟩) ns ns]) := Lib.hid fun W h => ⟨hf7.below h, hf7r.below h⟩
  have HB27 : Hid (BelW V2 V7) := Lib.hid (joinB HB23.out hb37)
  -- sims.Run
  have HCT : Hid (∀ W, BelW V2 W → Cs c n n1 n3 A0 A1 A2 A3 c0 c1 c2 c3 qc W) := Lib.hid fun W h => ⟨(HCS.out W h).tabs, (HCS.out W h).cir, (HCS.out W h).box⟩
  have HY7 := Lib.hid ((HCT.out V7 HB27.out).run HST.out.cst (HINK.out V7 hb37) (HSTR.out V7 hb37).sd HIL.out HFS.out.dl HIV.out HSV.out)
  obtain ⟨x0, x1, x2, x3⟩ := HCE.out V7 HB27.out
  have hf3 := HF3.out V7 hb37
  have y0 := hf3.cell 0
  have y1 := hf3.cell 1
  have y2 := hf3.cell 2
  clear hf3 hn7 hf7 hf7r hb37
  go_upto_region 8 with (go_at_call 27; (with_reducible refine HY7.out.mono ?_); rintro e w8 ⟨nt2, go2, gn2, gw2, hnet, hl2, rfl, r1, r2, r3, hb⟩; have HR8 := Lib.hid (And.intro r1 (And.intro r2 r3)); have HNET := Lib.hid hnet; have HB8 : Hid (BelW V7 w8) := Lib.hid hb; clear r1 r2 r3 hb hnet)
  clear x0 x1 x2 x3 y0 y1 y2
  obtain ⟨V8, HV8⟩ := named (w8.alloc (.cells #[.slice (some ⟨go2, 0, none⟩) n3 n3, .slice (some ⟨gn2, 0, none⟩) ns ns] 49))
  have hn8 : BelW w8 V8 := by rw [HV8.out]; exact below_new (Below.refl _ _) _
  have hf8 : Fr V8 w8.heap.size 49 [.slice (some ⟨go2, 0, none⟩) n3 n3, .slice (some ⟨gn2, 0, none⟩) ns ns] := by rw [HV8.out]; exact Fr.made _ [.slice (some ⟨go2, 0, none⟩) n3 n3, .slice (some ⟨gn2, 0, none⟩) ns ns] _ rfl
  obtain ⟨q8, HQ8⟩ := named w8.heap.size
  rw [← HQ8.out] at hf8
  rw [← HV8.out, ← HQ8.out]
  have hb78 : BelW V7 V8 := joinB HB8.out hn8
  have hnn : nt1 = nt2 := by rw [HN1'.out]; exact cyN_run HST.out HNET.out
  subst hnn
  have HB28 : Hid (BelW V2 V8) := Lib.hid (joinB HB27.out hb78)
  have hlo : (outV c nt1).length = n3 := by rw [HN3.out]; exact List.length_map _
  have hln : (nextV c nt1).length = ns := by rw [HNS.out, HN.out]; exact List.length_map _
  have hSN : ∀ xx : Beh V8, Calls Tryz.prog 12 #[.slice (some ⟨gw1, 0, none⟩) n n, .slice (some ⟨gw2, 0, none⟩) n n] xx.x fun e w' => e = .returned (.int .i64 0) ∧ Below V8.heap.size V8 w' := fun xx => by
    have k1 := (HW7.out xx.x (joinB hb78 xx.below)).1.ks
    have k2 := (HR8.out.2.2.below (joinB hn8 xx.below)).ks
    rw [hl2] at k1 k2
    have h := same6_any _ _ _ _ _ _ _ _ xx.x _ _ k1 k2
    rw [if_pos rfl] at h
    exact h.mono fun _ _ ⟨he, hb⟩ => ⟨he, joinB xx.below hb⟩
  have hSO : ∀ xx : Beh V8, Calls Tryz.prog 12 #[.slice (some ⟨go1, 0, none⟩) n3 n3, .slice (some ⟨go2, 0, none⟩) n3 n3] xx.x fun e w' => e = .returned (.int .i64 0) ∧ Below V8.heap.size V8 w' := fun xx => by
    have k1 := (HW7.out xx.x (joinB hb78 xx.below)).2.1.ks
    have k2 := (HR8.out.1.below (joinB hn8 xx.below)).ks
    rw [hlo] at k1 k2
    have h := same6_any _ _ _ _ _ _ _ _ xx.x _ _ k1 k2
    rw [if_pos rfl] at h
    exact h.mono fun _ _ ⟨he, hb⟩ => ⟨he, joinB xx.below hb⟩
  have hSX : ∀ xx : Beh V8, Calls Tryz.prog 12 #[.slice (some ⟨gn1, 0, none⟩) ns ns, .slice (some ⟨gn2, 0, none⟩) ns ns] xx.x fun e w' => e = .returned (.int .i64 0) ∧ Below V8.heap.size V8 w' := fun xx => by
    have k1 := (HW7.out xx.x (joinB hb78 xx.below)).2.2.ks
    have k2 := (HR8.out.2.1.below (joinB hn8 xx.below)).ks
    rw [hln] at k1 k2
    have h := same6_any _ _ _ _ _ _ _ _ xx.x _ _ k1 k2
    rw [if_pos rfl] at h
    exact h.mono fun _ _ ⟨he, hb⟩ => ⟨he, joinB xx.below hb⟩
  have hSD : ∀ xx : Beh V8, Calls Tryz.prog 12 #[.slice (some ⟨aB, 0, none⟩) ns ns, .slice (some ⟨gn2, 0, none⟩) ns ns] xx.x fun e w' => e = .returned (.int .i64 0) ∧ Below V8.heap.size V8 w' := fun xx => by
    have k1 := (HA7.out xx.x (joinB hb78 xx.below)).sd
    have k2 := (HR8.out.2.1.below (joinB hn8 xx.below)).ks
    rw [hln] at k2
    have e1 : (nxtS c ns 0 ss nt1).dff = nextV c nt1 := bitsL_next c nt1 hln
    rw [e1] at k1
    have h := same6_any _ _ _ _ _ _ _ _ xx.x _ _ k1 k2
    rw [if_pos rfl] at h
    exact h.mono fun _ _ ⟨he, hb⟩ => ⟨he, joinB xx.below hb⟩
  have HSN := Lib.hid hSN
  have HSO := Lib.hid hSO
  have HSX := Lib.hid hSX
  have HSD := Lib.hid hSD
  have HB78 := Lib.hid hb78
  have ga0 : ∀ xx : Beh V8, xx.x.cell? ⟨q7, 0, none⟩ = some (.slice (some ⟨aB, 0, none⟩) ns ns) := fun xx => (HF7.out xx.x (joinB HB78.out xx.below)).1.cell 0
  have ga1 : ∀ xx : Beh V8, xx.x.cell? ⟨q7, 1, none⟩ = some (.slice (some ⟨aD, 0, none⟩) 0 0) := fun xx => (HF7.out xx.x (joinB HB78.out xx.below)).1.cell 1
  have ga2 : ∀ xx : Beh V8, xx.x.cell? ⟨q7, 2, none⟩ = some (.slice (some ⟨aE, 0, none⟩) 0 0) := fun xx => (HF7.out xx.x (joinB HB78.out xx.below)).1.cell 2
  have gb0 : ∀ xx : Beh V8, xx.x.cell? ⟨q7 + 1, 0, none⟩ = some (.slice (some ⟨go1, 0, none⟩) n3 n3) := fun xx => (HF7.out xx.x (joinB HB78.out xx.below)).2.cell 0
  have gb1 : ∀ xx : Beh V8, xx.x.cell? ⟨q7 + 1, 1, none⟩ = some (.slice (some ⟨gn1, 0, none⟩) ns ns) := fun xx => (HF7.out xx.x (joinB HB78.out xx.below)).2.cell 1
  have gc0 : ∀ xx : Beh V8, xx.x.cell? ⟨q8, 0, none⟩ = some (.slice (some ⟨go2, 0, none⟩) n3 n3) := fun xx => (hf8.below xx.below).cell 0
  have gc1 : ∀ xx : Beh V8, xx.x.cell? ⟨q8, 1, none⟩ = some (.slice (some ⟨gn2, 0, none⟩) ns ns) := fun xx => (hf8.below xx.below).cell 1
  have gd0 : ∀ xx : Beh V8, xx.x.cell? ⟨qc, 0, none⟩ = some (.slice A0 n c0) := fun xx => (HCE.out xx.x (joinB HB28.out xx.below)).1
  clear hn8 hf8 hb78 hlo hln hSN hSO hSX hSD hl2
  go_upto_region 8 with (fail)
  refine region_class (w0 := V8) (Below.refl _ _) (by kernel_rfl) (by kernel_rfl) ?_
  repeat (first
    | go_big_quiet_skip
    | (go_big_quiet_want; go_big_quiet_op; first
      | go_big_quiet_on
      | (apply Exists.intro
         refine ⟨fun xx => ?_, ?_⟩
         focus first
          | (go_at_call 12; with_reducible exact beh_of (HSN.out xx))
          | (go_at_call 12; with_reducible exact beh_of (HSO.out xx))
          | (go_at_call 12; with_reducible exact beh_of (HSX.out xx))
          | (go_at_call 12; with_reducible exact beh_of (HSD.out xx))
         go_big_quiet_on)))
  refine wpQuiet_nil ?_
  rintro V9 ⟨⟨V9y, hz⟩, rfl⟩
  have HZ9 : Hid (BelW V8 V9) := Lib.hid hz
  clear ga0 ga1 ga2 gb0 gb1 gc0 gc1 gd0 hz
  have HB29 : Hid (BelW V2 V9) := Lib.hid (joinB HB28.out HZ9.out)
  have HO9 := Lib.hid (HOD.out V9 (joinB HB1.out (joinB HB2V.out HB29.out)))
  have x0 := (HFD.out V9 HB29.out).cell 0
  have x1 := (HFD.out V9 HB29.out).cell 1
  have x2 := (HFD.out V9 HB29.out).cell 2
  have x3 := (HFD.out V9 HB29.out).cell 3
  have x4 := (HFD.out V9 HB29.out).cell 4
  have x5 := (HFD.out V9 HB29.out).cell 5
  have x6 := (HFD.out V9 HB29.out).cell 6
  have x7 := (HFD.out V9 HB29.out).cell 7
  have x8 := (HFD.out V9 HB29.out).cell 8
  have x9 := (HFD.out V9 HB29.out).cell 9
  have x10 := (HFD.out V9 HB29.out).cell 10
  have x11 := (HFD.out V9 HB29.out).cell 11
  go_upto_region 11 with (go_at_call 7; (with_reducible refine HO9.out.mono ?_); rintro e w10 ⟨⟨B0, B1, B2, B3, n1', n3', c0', c1', c2', c3', rfl, hc, hn1, hn3⟩, hb⟩; have HCC := Lib.hid hc; have HB10 := Lib.hid hb; have HN1d := Lib.hid hn1; have HN3d := Lib.hid hn3; clear hc hb hn1 hn3)
  clear x0 x1 x2 x3 x4 x5 x6 x7 x8 x9 x10 x11
  obtain ⟨V10, HV10⟩ := named (w10.alloc (.cells #[.slice B0 n' c0', .slice B1 n1' c1', .slice B2 m' c2', .slice B3 n3' c3'] 39))
  have hn10 : BelW w10 V10 := by rw [HV10.out]; exact below_new (Below.refl _ _) _
  have hfd10 : Fr V10 w10.heap.size 39 (#[.slice B0 n' c0', .slice B1 n1' c1', .slice B2 m' c2', .slice B3 n3' c3']).toList := by rw [HV10.out]; exact Fr.made _ _ _ rfl
  have hb210 : BelW V2 V10 := joinB HB29.out (joinB HB10.out hn10)
  obtain ⟨qd, HQD⟩ := named w10.heap.size
  rw [← HQD.out] at hfd10
  rw [← HV10.out, ← HQD.out]
  have hds : Cm d n' n1' m' n3' B0 B1 B2 B3 c0' c1' c2' c3' qd V10 := ⟨(HCS.out V10 hb210).tabs, (HCC.out.below hn10).more (Below.size hn10), hfd10⟩
  have HDS := Lib.hid (fun W (h : BelW V10 W) => hds.next h)
  have HDE := Lib.hid (fun W (h : BelW V10 W) => (hds.next h).cells)
  have HB210 := Lib.hid hb210
  obtain ⟨ni', HNI'⟩ := named (ofTo d.nodes [0] n').length
  obtain ⟨ns', HNS'⟩ := named (ofTo d.nodes [14] n').length
  obtain ⟨L', hdt⟩ := cmt_of xd HXX.out.2 HD.out HN'.out HN1d.out HM'.out HN3d.out HNI'.out HNS'.out
  have HDT := Lib.hid hdt
  have hfew' : n' < 20 := hdt.few
  have hniB' : ni' ≤ n' := hdt.niB
  have hnsB' : ns' ≤ n' := hdt.nsB
  have hm1' : m' ≤ 1 := hdt.m1
  have HNT : Hid (∀ i : Nat, i < n' → (d.nodes.getD i default).kind ≠ 12) := Lib.hid fun i hi => ofC_nt (x := xd) (by rw [HXD.out]) HD.out i (by rw [← HN'.out]; exact hi)
  have HFY10 : Hid (∀ W, BelW V10 W → Fr W (w.heap.size + 1) 33 (#[.slice Ay my cy, .slice Ayi myi cyi, .slice Ays mys cys]).toList) := Lib.hid fun W h => HFY.out W (joinB HB210.out h)
  have hky := HKP.out (joinB HB2V.out hb210) HKy.out.1
  obtain ⟨Ay', by0, oy0, cy', ey, hAy, -, -, hcy⟩ := id hky
  simp only [Value.slice.injEq] at ey
  obtain ⟨rfl, hmy, rfl⟩ := ey
  have HAY := Lib.hid hAy
  have HCY := Lib.hid hcy
  have HMY : Hid (my = ly.length) := Lib.hid hmy
  have HZ1 : 1 + my ≤ 140737488355328 := HZy.out.1
  obtain ⟨iu, hu1, hu2, hu3, hu4⟩ := info_parts info_u8
  have HU8 := Lib.hid (And.intro hu1 (And.intro hu2 (And.intro hu3 hu4)))
  clear hn10 hfd10 hb210 hds hdt hky hAy hcy hmy hu1 hu2 hu3 hu4
  go_upto_region 13 with (fail)
  go_wp2
  go_loopw [17, 18] (fun sv ci wr => ∃ (k : Nat) (Al : Option Addr) (ca : Nat), k ≤ my ∧ sv = .slice Al k ca ∧ ci = .int .i64 k ∧ BelW V10 wr ∧ BStk wr V10.heap.size (.slice Al k ca) ((mod2 ly).take k)) (fun _ ci _ => my - (intOf ci).toNat)
  case atStart => exact ⟨0, none, 0, Nat.zero_le _, rfl, rfl, Below.refl _ _, BStk.nil _ _⟩
  case round =>
    obtain ⟨k, Al, ca, hk, rfl, rfl, hb, hst⟩ := hrel
    have HB := Lib.hid hb
    have hfy := HFY10.out wr hb
    have y0 := hfy.cell 0
    by_cases hlt : k < my
    · have hk2 : (k : Int) < (my : Int) := by omega
      obtain rfl := HAY.out (by rw [← HMY.out]; omega)
      obtain ⟨hlb, hx1⟩ := HCY.out k (by rw [← HMY.out]; exact hlt)
      rw [Nat.mul_one] at hx1
      have hx2 : wr.cell? ⟨by0, oy0 + k, none⟩ = some (.int .u8 (ly.getD k 0)) := (hb.cell (p := ⟨by0, _, none⟩) hlb).trans hx1
      have hlen : ((mod2 ly).take k).length = k := by rw [List.length_take]; unfold mod2; rw [List.length_map]; rw [← HMY.out]; omega
      have hsu : (mod2 ly).take (k + 1) = (mod2 ly).take k ++ [(ly.getD k 0).tmod 2] := by
        have hkl : k < ly.length := by rw [← HMY.out]; exact hlt
        unfold mod2
        rw [List.take_succ_eq_append_getElem (by rw [List.length_map]; exact hkl), List.getElem_map, List.getD_eq_getElem?_getD, List.getElem?_eq_getElem hkl]; rfl
      have hmem := HVy.out.1 (ly.getD k 0) (by rw [List.getD_eq_getElem?_getD, List.getElem?_eq_getElem (by rw [← HMY.out]; exact hlt)]; exact List.getElem_mem _)
      obtain ⟨y, HY⟩ := named (ly.getD k 0)
      rw [← HY.out] at hx2 hmem hsu
      have hyb := Int.tmod_lt_of_pos y (by decide : (0 : Int) < 2)
      have hyn := Int.tmod_nonneg 2 hmem.1
      have hwx : IntKind.u8.wrap (y.tmod 2) = y.tmod 2 := by
        simp [IntKind.wrap, IntKind.bits, IntKind.signed]; omega
      obtain ⟨z, HZZ⟩ := named (y.tmod 2)
      rw [← HZZ.out] at hwx hsu
      have HSU := Lib.hid hsu
      have HROW : Hid (wr.ownsRow V10.heap.size 5 1 (.slice Al k ca) k (((mod2 ly).take k).map (Value.int .u8))) := Lib.hid (by have h := hst; unfold BStk at h; rw [hlen] at h; exact h)
      have HLN := Lib.hid hlen
      have hyz : y.tmod 2 = z := HZZ.out.symm
      have HSZR := Lib.hid (Below.size hb)
      clear hst hb hfy hlen hsu hx1 hlb hyb hyn HY
      go_upto_region 14 with (at_builtin; refine wpList_append_own_at _ rfl _ _ 25 rfl V10.heap.size 5 iu (.int .u8 0) 1 1 Tryz.underlying25 HU8.out.1 HU8.out.2.1 HU8.out.2.2.1 HU8.out.2.2.2 rfl (by decide) _ _ _ rfl (World.ownsRow.alloc HROW.out _) ⟨wr.heap.size, 0, none⟩ 1 1 [.int .u8 z] rfl rfl (by have := one_new wr (.int .u8 z) 5; simpa using this) (ints_oneCell .u8 [z]) (by unfold maxLen; omega) (by omega) (by have := HSZR.out; simp; omega) ?_; intro v' w5 hown' hgrow hnil hloc; obtain ⟨A5, c5, rfl⟩ := own_sl hown'; have HO5 := Lib.hid (And.intro hown' hgrow); clear hown' hgrow hnil hloc)
      have HF5 : Hid (BelW V10 w5 ∧ BStk w5 V10.heap.size (.slice A5 (k + 1) c5) ((mod2 ly).take (k + 1))) := Lib.hid (by
        refine ⟨bel_push HB.out HO5.out.2 fun q h => (World.ownsRow.lt HROW.out q h).1, ?_⟩
        rw [HSU.out]
        unfold BStk
        rw [List.length_append, List.map_append, HLN.out]
        exact HO5.out.1)
      go_wp2
      go_roundw
      case rel => exact ⟨k + 1, A5, c5, by omega, rfl, by go_num, HF5.out.1, HF5.out.2⟩
      case measure => simp [intOf]; omega
    · obtain rfl : my = k := by omega
      obtain ⟨V11, rfl⟩ : ∃ V : World, V = wr := ⟨_, rfl⟩
      have hml : (mod2 ly).length = my := by unfold mod2; rw [List.length_map, HMY.out]
      rw [List.take_of_length_le (by omega)] at hst
      obtain ⟨ll, HLL⟩ := named (mod2 ly)
      rw [← HLL.out] at hml hst
      have HLK : Hid (∀ y ∈ ll ++ [1], k01 y) := Lib.hid (by rw [HLL.out]; exact mod2_k HVy.out.1)
      have HSOF : Hid (∀ W A cc, BelW V10 W → Ks W W.heap.size (.slice A (my + 1) cc) (ll ++ [1]) → Calls Tryz.prog 23 #[.agg #[.slice A (my + 1) cc], .agg #[.slice B0 n' c0', .slice B1 n1' c1', .slice B2 m' c2', .slice B3 n3' c3']] W fun e w' => ∃ s', e = .returned s' ∧ ∃ A0 A1 A2 k0 k1 k2, s' = .agg #[.slice A0 ns' k0, .slice A1 m' k1, .slice A2 m' k2] ∧ OwnS w' V10.heap.size A0 A1 A2 ns' m' m' k0 k1 k2 (sofS d ns' m' (ll ++ [1])) ∧ BelW W w') := Lib.hid fun W A cc h hk =>
        (sof9_any d (ll ++ [1]) A B0 B1 B2 B3 n' n1' m' n3' c0' c1' c2' c3' (my + 1) cc ns' W (HDS.out W h).cir hk (k01_in HLK.out) (by rw [HDT.out.len]; omega) HDT.out.hs' (by omega) (by omega) (fun k hk => by obtain ⟨p, q⟩ := HDT.out.port k hk; omega) HDT.out.pos).mono fun e w' ⟨A7, c7, Aa1, ca1, Aa2, ca2, he, ho, hb⟩ => ⟨_, he, A7, Aa1, Aa2, c7, ca1, ca2, rfl, ho.low (Below.size h), hb⟩
      have hstd : BStk V11.drew V10.heap.size (.slice Al my ca) ll := hst.below (BelW.drew (Below.refl _ _))
      have hHB : BelW V10 V11.drew := BelW.drew hb
      have hm47 : my + 1 ≤ 140737488355328 := by omega
      clear hst
      go_upto_region 16 with (fail)
      refine wp_region_held_drew (S := fun w' => BelW V10 w') (by kernel_rfl) hHB (fun hHeld => ?_)
      refine wpAnyH_take (i := 0) (oi := ⟨some 127, _, _, _, _, _⟩) (v := .slice Al my ca) rfl (by kernel_rfl) (by kernel_rfl) (by kernel_rfl) (fun _ _ _ h => h) (Or.inl ⟨by rfl, ?_⟩) hHeld ?_
      · intro w' hSw; first | (go_simp; done) | (go_simp; with_reducible rfl)
      simp only [Act.put, List.setIfInBounds_toArray, List.set_cons_zero, List.set_cons_succ]
      refine wpAnyH_take (i := 4) (oi := ⟨some 131, _, _, _, _, _⟩) (v := .agg #[.slice B0 n' c0', .slice B1 n1' c1', .slice B2 m' c2', .slice B3 n3' c3']) rfl (by kernel_rfl) (by kernel_rfl) (by kernel_rfl) (fun _ _ _ h => h) (Or.inl ⟨by rfl, ?_⟩) hHeld ?_
      · intro w' hSw; obtain ⟨x0, x1, x2, x3⟩ := HDE.out w' hSw; first | (go_simp; done) | (go_simp; with_reducible rfl)
      simp only [Act.put, List.setIfInBounds_toArray, List.set_cons_zero, List.set_cons_succ]
      refine r16_reg (Al := Al) (n := my) (cl := ca) (l0 := ll) (c := d) (ns := ns') (m := m') (wb := V10) (sC := .agg #[.slice B0 n' c0', .slice B1 n1' c1', .slice B2 m' c2', .slice B3 n3' c3']) _ rfl (by kernel_rfl) (Nat.le_of_ble_eq_true (by rfl)) ⟨_, rfl, rfl, rfl, rfl, by kernel_rfl⟩ ⟨_, rfl, rfl, rfl, rfl, by kernel_rfl⟩ ⟨_, rfl, rfl, rfl, rfl, by kernel_rfl⟩ ⟨_, rfl, rfl, rfl, rfl, by kernel_rfl⟩ ⟨_, rfl, rfl, rfl, rfl, by kernel_rfl⟩ ⟨_, rfl, rfl, rfl, rfl, by kernel_rfl⟩ rfl rfl hml hm47 HSOF.out ?_ ?_ _ hHeld hstd
      · rfl
      intro v19 v128 v129 v130 v132 w16 I
      obtain ⟨K0, K1, K2, k0, k1, k2, rfl, hown, h7⟩ := I.s5 rfl
      obtain ⟨q16, rfl, hq16, hf16⟩ := h7 rfl
      have HB16 : Hid (BelW V10 w16) := Lib.hid I.bel
      obtain ⟨kk, HKK⟩ := named (sofS d ns' m' (ll ++ [1]))
      rw [← HKK.out] at hown
      have HOK := Lib.hid hown
      have HF16 : Hid (∀ W, BelW w16 W → Fr W q16 45 [.slice K0 ns' k0, .slice K1 m' k1, .slice K2 m' k2]) := Lib.hid fun W h => hf16.below h
      have HFK : Hid (FitS d ns' m' kk) := Lib.hid (by rw [HKK.out]; exact sofS_fits _ _ _ _)
      have HKK1 : Hid (KnS kk) := Lib.hid (by rw [HKK.out]; exact sofS_k HLK.out (by simp) _ _ _)
      clear I hown h7 hq16 hf16 hHeld hstd hHB hb
      simp only [Gkq, Act.put, List.setIfInBounds_toArray, List.set_cons_zero, List.set_cons_succ]
      obtain ⟨in2, HI2⟩ := named (takL (0 :: lyi) 2 ni')
      have hil2 : in2.length = ni' := by rw [HI2.out, takL_len]
      have hik2 : ∀ y ∈ in2, k01 y := by rw [HI2.out]; exact takL_k (fun y hy => by rcases List.mem_cons.1 hy with rfl | hy; decide; exact HVy.out.2.1 y hy) (by simp) ni'
      have HIL2 := Lib.hid (And.intro hil2 hik2)
      obtain ⟨nt3, HN3'⟩ := named (cyN d L' n' kk in2)
      have HKN : Hid (∀ W, BelW w16 W → Calls Tryz.prog 28 #[.agg #[.slice Ayi myi cyi, .slice Ays mys cys], .agg #[.slice B0 n' c0', .slice B1 n1' c1', .slice B2 m' c2', .slice B3 n3' c3']] W fun e w' => ∃ s', e = .returned s' ∧ ∃ AI cI AS cS, s' = .agg #[.slice AI ni' cI, .slice AS ns' cS] ∧ VStk w' w16.heap.size (.slice AI ni' cI) in2 ∧ BelW W w') := Lib.hid fun W h => by
        have hd := HDS.out W (joinB HB16.out h)
        have hw1 := joinB HB2V.out (joinB HB210.out (joinB HB16.out h))
        rw [HI2.out]
        exact (pKno_at d lyi lys B0 B1 B2 B3 Ayi Ays n' n1' m' n3' ni' ns' c0' c1' c2' c3' myi mys cyi cys W HDT.out.len HDT.out.hi HDT.out.hs hd.cir (HKP.out hw1 HKy.out.2.1) (HKP.out hw1 HKy.out.2.2) (by omega) HVy.out.2.1 HVy.out.2.2 HZy.out.2.1 HZy.out.2.2).mono fun e w' ⟨AI, cI, AS, cS, he, r1, _, _, hb⟩ => ⟨_, he, AI, cI, AS, cS, rfl, r1.low (Below.size h), hb⟩
      have HCYC : Hid (∀ W AI cI, BelW w16 W → VStk W w16.heap.size (.slice AI ni' cI) in2 → Calls Tryz.prog 9 #[.agg #[.slice B0 n' c0', .slice B1 n1' c1', .slice B2 m' c2', .slice B3 n3' c3'], .agg #[.slice K0 ns' k0, .slice K1 m' k1, .slice K2 m' k2], .slice AI ni' cI] W fun e w' => ∃ s', e = .returned s' ∧ ∃ gB D1 D2 go gn g, s' = .tuple #[.agg #[.slice (some ⟨gB, 0, none⟩) ns' ns', .slice (some ⟨D1, 0, none⟩) m' m', .slice (some ⟨D2, 0, none⟩) m' m'], .agg #[.slice (some ⟨go, 0, none⟩) n3' n3', .slice (some ⟨gn, 0, none⟩) ns' ns'], .slice (some ⟨g, 0, none⟩) n' n', .int .i64 0] ∧ CyR d ns' m' kk nt3 w' gB D1 D2 go gn g ∧ BelW W w') := Lib.hid fun W AI cI h hv => by
        rw [HN3'.out]
        exact ((HDS.out W (joinB HB16.out h)).cycle0 HDT.out (HOK.out.below h).str hv.ks HFK.out HIL2.out.1 (k01_in3 HIL2.out.2)).mono fun e w' ⟨gB, D1, D2, go, gn, g, he, hr, hb⟩ => ⟨_, he, gB, D1, D2, go, gn, g, rfl, hr, hb⟩
      clear hil2 hik2
      go_upto_region 17 with (fail)
      refine wp_region_held_drew (S := fun w' => BelW w16 w') (by kernel_rfl) (BelW.drew (Below.refl _ _)) (fun hHeld => ?_)
      refine wpAnyH_take (i := 0) (oi := ⟨some 134, _, _, _, _, _⟩) (v := .agg #[.slice B0 n' c0', .slice B1 n1' c1', .slice B2 m' c2', .slice B3 n3' c3']) rfl (by kernel_rfl) (by kernel_rfl) (by kernel_rfl) (fun _ _ _ h => h) (Or.inl ⟨by rfl, ?_⟩) hHeld ?_
      · intro w' hSw; obtain ⟨x0, x1, x2, x3⟩ := HDE.out w' (joinB HB16.out hSw); first | (go_simp; done) | (go_simp; with_reducible rfl)
      simp only [Act.put, List.setIfInBounds_toArray, List.set_cons_zero, List.set_cons_succ]
      refine wpAnyH_take (i := 1) (oi := ⟨some 135, _, _, _, _, _⟩) (v := .agg #[.slice K0 ns' k0, .slice K1 m' k1, .slice K2 m' k2]) rfl (by kernel_rfl) (by kernel_rfl) (by kernel_rfl) (fun _ _ _ h => h) (Or.inl ⟨by rfl, ?_⟩) hHeld ?_
      · intro w' hSw; have hk := HF16.out w' hSw; have z0 := hk.cell 0; have z1 := hk.cell 1; have z2 := hk.cell 2; clear hk; first | (go_simp; done) | (go_simp; with_reducible rfl)
      simp only [Act.put, List.setIfInBounds_toArray, List.set_cons_zero, List.set_cons_succ]
      refine wpAnyH_take (i := 2) (oi := ⟨some 136, _, _, _, _, _⟩) (v := .pointer (some ⟨w.heap.size + 1, 1, none⟩)) rfl (by kernel_rfl) (by kernel_rfl) (by kernel_rfl) (fun _ _ _ h => h) (Or.inl ⟨by rfl, ?_⟩) hHeld ?_
      · intro w' hSw; first | (go_simp; done) | (go_simp; with_reducible rfl)
      simp only [Act.put, List.setIfInBounds_toArray, List.set_cons_zero, List.set_cons_succ]
      refine wpAnyH_take (i := 3) (oi := ⟨some 137, _, _, _, _, _⟩) (v := .agg #[.slice Ayi myi cyi, .slice Ays mys cys]) rfl (by kernel_rfl) (by kernel_rfl) (by kernel_rfl) (fun _ _ _ h => h) (Or.inl ⟨by rfl, ?_⟩) hHeld ?_
      · intro w' hSw; have hk := HFY10.out w' (joinB HB16.out hSw); have z1 := hk.cell 1; have z2 := hk.cell 2; clear hk; first | (go_simp; done) | (go_simp; with_reducible rfl)
      simp only [Act.put, List.setIfInBounds_toArray, List.set_cons_zero, List.set_cons_succ]
      refine wpAnyH_take (i := 4) (oi := ⟨some 138, _, _, _, _, _⟩) (v := .agg #[.slice B0 n' c0', .slice B1 n1' c1', .slice B2 m' c2', .slice B3 n3' c3']) rfl (by kernel_rfl) (by kernel_rfl) (by kernel_rfl) (fun _ _ _ h => h) (Or.inl ⟨by rfl, ?_⟩) hHeld ?_
      · intro w' hSw; obtain ⟨x0, x1, x2, x3⟩ := HDE.out w' (joinB HB16.out hSw); first | (go_simp; done) | (go_simp; with_reducible rfl)
      simp only [Act.put, List.setIfInBounds_toArray, List.set_cons_zero, List.set_cons_succ]
      refine r17_reg (inp := in2) (ni := ni') (ns := ns') (m := m') (n3 := n3') (n := n') (RS := CyR d ns' m' kk nt3) (wb := w16) (sC := .agg #[.slice B0 n' c0', .slice B1 n1' c1', .slice B2 m' c2', .slice B3 n3' c3']) (sS := .agg #[.slice K0 ns' k0, .slice K1 m' k1, .slice K2 m' k2]) (sP := .agg #[.slice Ayi myi cyi, .slice Ays mys cys]) _ rfl (by kernel_rfl) (Nat.le_of_ble_eq_true (by rfl)) ⟨_, rfl, rfl, rfl, rfl, by kernel_rfl⟩ ⟨_, rfl, rfl, rfl, rfl, by kernel_rfl⟩ ⟨_, rfl, rfl, rfl, rfl, by kernel_rfl⟩ ⟨_, rfl, rfl, rfl, rfl, by kernel_rfl⟩ ⟨_, rfl, rfl, rfl, rfl, by kernel_rfl⟩ ⟨_, rfl, rfl, rfl, rfl, by kernel_rfl⟩ ⟨_, rfl, rfl, rfl, rfl, by kernel_rfl⟩ ⟨_, rfl, rfl, rfl, rfl, by kernel_rfl⟩ ⟨_, rfl, rfl, rfl, rfl, by kernel_rfl⟩ ⟨_, rfl, rfl, rfl, rfl, by kernel_rfl⟩ ⟨_, rfl, rfl, rfl, rfl, by kernel_rfl⟩ ⟨_, rfl, rfl, rfl, rfl, by kernel_rfl⟩ ⟨_, rfl, rfl, rfl, rfl, by kernel_rfl⟩ ⟨_, rfl, rfl, rfl, rfl, by kernel_rfl⟩ rfl rfl rfl rfl (fun w w' gB D1 D2 go gn g h hb => h.below hb) (fun w gB D1 D2 go gn g q t lx ht h hf j v => h.setU ht hf j v) HKN.out HCYC.out ?_ ?_ _ hHeld
      · simp only [Gkc, Act.put, List.setIfInBounds_toArray, List.set_cons_zero, List.set_cons_succ]
      intro v20 v21 v22 v23 v133 v139 v140 v141 v142 v143 v144 v145 w17 I
      obtain ⟨gB, D1, D2, go, gn, g, q20, q21, rfl, rfl, rfl, rfl, hf20, hf21, hcyr, hb17⟩ := r17_end I
      clear I hHeld
      simp only [Gkc, Act.put, List.setIfInBounds_toArray, List.set_cons_zero, List.set_cons_succ]
      have HB17 := Lib.hid hb17
      have HB217 : Hid (BelW V2 w17) := Lib.hid (joinB HB210.out (joinB HB16.out hb17))
      have HB1017 : Hid (BelW V10 w17) := Lib.hid (joinB HB16.out hb17)
      have HF20 : Hid (∀ W, BelW w17 W → Fr W q20 45 [.slice (some ⟨gB, 0, none⟩) ns' ns', .slice (some ⟨D1, 0, none⟩) m' m', .slice (some ⟨D2, 0, none⟩) m' m'] ∧ Fr W q21 49 [.slice (some ⟨go, 0, none⟩) n3' n3', .slice (some ⟨gn, 0, none⟩) ns' ns']) := Lib.hid fun W h => ⟨hf20.below h, hf21.below h⟩
      have HCR : Hid (∀ W, BelW w17 W → CyR d ns' m' kk nt3 W gB D1 D2 go gn g) := Lib.hid fun W h => hcyr.below h
      have HSTN : Hid (∀ W, BelW w17 W → StR W W.heap.size (some ⟨gB, 0, none⟩) (some ⟨D1, 0, none⟩) (some ⟨D2, 0, none⟩) ns' m' m' ns' m' m' (nxtS d ns' m' kk nt3)) := Lib.hid fun W h => (hcyr.below h).str HDT.out HFK.out
      have hnl3 : nt3.length = n' := by rw [HN3'.out]; exact cyN_len _ _ _ _ _
      have hnk3 : ∀ y ∈ nt3, k01 y := by rw [HN3'.out]; exact cyN_k HDT.out ((HDS.out V10 (Below.refl _ _)).kinds HDT.out.len) HKK1.out HFK.out.dl HIL2.out.1 HIL2.out.2 HNT.out
      have HNX : Hid (KnS (nxtS d ns' m' kk nt3)) := Lib.hid (next_k HDT.out HFK.out HKK1.out hnl3 hnk3)
      obtain ⟨ol, HOL⟩ := named (outV d nt3)
      obtain ⟨dl, HDLL⟩ := named (bitsL (nextV d nt3) ns')
      have hol : ol.length = n3' := by rw [HOL.out, HN3d.out]; exact List.length_map _
      have hdl : dl.length = ns' := by rw [HDLL.out]; exact bitsL_len _ _
      have hok : ∀ y ∈ ol, k01 y := by rw [HOL.out]; exact outV_k HDT.out hnl3 hnk3
      have hdk : ∀ y ∈ dl, k01 y := by rw [HDLL.out]; exact HNX.out.d
      have HRW : Hid (∀ W, BelW w17 W → VRow W gB dl ∧ VRow W go ol ∧ VRow W g nt3) := Lib.hid fun W h => by
        obtain ⟨h1, h2, h3, h4, -⟩ := hcyr.below h
        rw [HOL.out, HDLL.out]
        exact ⟨h4, h2, h1⟩
      have HLK3 := Lib.hid (And.intro hnl3 (And.intro hol hdl))
      have HKK3 := Lib.hid (And.intro hnk3 (And.intro hok hdk))
      have hn3b : n3' ≤ 17592186044416 := by have h := HDT.out.outs; rw [HDT.out.h3] at h; exact h
      obtain ⟨i1, hi1, hz0, hz1, hz2⟩ := info_parts info_val
      have HI := Lib.hid (And.intro hi1 (And.intro hz0 (And.intro hz1 hz2)))
      obtain ⟨x0, -, -, -⟩ := HDE.out w17 HB1017.out
      clear hi1 hz0 hz1 hz2 hb17 hf20 hf21 hcyr hnl3 hnk3 hol hdl hok hdk
      go_upto_region 20 with (fail)
      clear x0
      have HS20 : Hid (∀ W, BelW w17 W → W.cell? ⟨q20, 0, none⟩ = some (.slice (some ⟨gB, 0, none⟩) ns' ns') ∧ W.cell? ⟨q21, 0, none⟩ = some (.slice (some ⟨go, 0, none⟩) n3' n3')) := Lib.hid fun W h => ⟨(HF20.out W h).1.cell 0, (HF20.out W h).2.cell 0⟩
      have HD : Hid (BelW w17 w17.drew) := Lib.hid (BelW.drew (Below.refl _ _))
      have HS0 := Lib.hid (HS20.out _ HD.out)
      refine AnyX.start (S := (fun w' => w'.cell? ⟨q20, 0, none⟩ = some (.slice (some ⟨gB, 0, none⟩) ns' ns') ∧ w'.cell? ⟨q21, 0, none⟩ = some (.slice (some ⟨go, 0, none⟩) n3' n3'))) (t := 8) (by kernel_rfl) ?_
      refine AnyX.take (i := 0) (oi := ⟨some 156, _, _, _, _, _⟩) (v := .pointer (some ⟨q20, 0, none⟩)) rfl rfl (by kernel_rfl) (by kernel_rfl) (by kernel_rfl) (by kernel_rfl) (fun _ _ _ h => h) (Or.inl ⟨by rfl, ?_⟩) HS0.out ?_
      · intro w' hSw
        obtain ⟨k1', k2'⟩ := hSw
        first | (go_simp; done) | (go_simp; with_reducible rfl) | (go_simp; intro hh; exfalso; omega)
      simp only [Act.put, List.setIfInBounds_toArray, List.set_cons_zero, List.set_cons_succ]
      refine AnyX.take (i := 1) (oi := ⟨some 157, _, _, _, _, _⟩) (v := .slice (some ⟨gB, 0, none⟩) ns' ns') rfl rfl (by kernel_rfl) (by kernel_rfl) (by kernel_rfl) (by kernel_rfl) (fun _ _ _ h => h) (Or.inl ⟨by rfl, ?_⟩) HS0.out ?_
      · intro w' hSw
        obtain ⟨k1', k2'⟩ := hSw
        first | (go_simp; done) | (go_simp; with_reducible rfl) | (go_simp; intro hh; exfalso; omega)
      simp only [Act.put, List.setIfInBounds_toArray, List.set_cons_zero, List.set_cons_succ]
      refine AnyX.take (i := 3) (oi := ⟨some 159, _, _, _, _, _⟩) (v := .pointer (some ⟨q21, 0, none⟩)) rfl rfl (by kernel_rfl) (by kernel_rfl) (by kernel_rfl) (by kernel_rfl) (fun _ _ _ h => h) (Or.inl ⟨by rfl, ?_⟩) HS0.out ?_
      · intro w' hSw
        obtain ⟨k1', k2'⟩ := hSw
        first | (go_simp; done) | (go_simp; with_reducible rfl) | (go_simp; intro hh; exfalso; omega)
      simp only [Act.put, List.setIfInBounds_toArray, List.set_cons_zero, List.set_cons_succ]
      refine AnyX.take (i := 4) (oi := ⟨some 160, _, _, _, _, _⟩) (v := .slice (some ⟨go, 0, none⟩) n3' n3') rfl rfl (by kernel_rfl) (by kernel_rfl) (by kernel_rfl) (by kernel_rfl) (fun _ _ _ h => h) (Or.inl ⟨by rfl, ?_⟩) HS0.out ?_
      · intro w' hSw
        obtain ⟨k1', k2'⟩ := hSw
        first | (go_simp; done) | (go_simp; with_reducible rfl) | (go_simp; intro hh; exfalso; omega)
      simp only [Act.put, List.setIfInBounds_toArray, List.set_cons_zero, List.set_cons_succ]
      refine AnyX.take (i := 6) (oi := ⟨some 162, _, _, _, _, _⟩) (v := .slice (some ⟨g, 0, none⟩) n' n') rfl rfl (by kernel_rfl) (by kernel_rfl) (by kernel_rfl) (by kernel_rfl) (fun _ _ _ h => h) (Or.inl ⟨by rfl, ?_⟩) HS0.out ?_
      · intro w' hSw
        obtain ⟨k1', k2'⟩ := hSw
        first | (go_simp; done) | (go_simp; with_reducible rfl) | (go_simp; intro hh; exfalso; omega)
      simp only [Act.put, List.setIfInBounds_toArray, List.set_cons_zero, List.set_cons_succ]
      refine AnyX.one (i := 2) (o := ⟨some 158, _, _, _, _, _⟩) (by kernel_rfl) rfl (fun K' hK => ?_)
      have HK := Lib.hid hK
      clear hK
      refine step_own9 rfl (.const (.slice none 0 0)) (.tmp 157) 41 (by rfl) w17.heap.size 77 i1 (.int .u8 0) Tryz.underlying41 HI.out.1 HI.out.2.1 HI.out.2.2.1 HI.out.2.2.2 rfl (.slice none 0 0) (0) ([]) (by first | rfl | simp [Act.eval]) (World.ownsRow_nil _ _ _ _) ⟨gB, 0, none⟩ (ns') (ns') (dl.map (Value.int .u8)) (by first | rfl | simp [Act.eval]) (by rw [List.length_map]; exact HLK3.out.2.2) (vrow_news (HRW.out _ HD.out).1) (one_u8 _) (by omega) (Below.size HD.out) ?_
      intro v21 w21 ho21 hg21
      obtain ⟨A21, c21, rfl⟩ := own_sl ho21
      have hb21 : BelW w17 w21 := bel_grown HD.out hg21 fun q h => by simp [Value.ownBlock] at h
      have hv21 : VStk w21 w17.heap.size (.slice A21 (0 + ns') c21) ([] ++ dl) := vapp rfl HLK3.out.2.2 ho21
      rw [Nat.zero_add, List.nil_append] at hv21
      rw [Nat.zero_add]
      have HV21 := Lib.hid hv21
      have HB21 := Lib.hid hb21
      have hr21 : w21.ownsRow w17.heap.size 77 1 (.slice A21 ns' c21) ns' (dl.map (Value.int .u8)) := by have h := hv21; unfold VStk at h; rw [HLK3.out.2.2] at h; exact h
      have HR21 := Lib.hid hr21
      clear ho21 hg21 hb21 hv21 hr21
      refine HK.out _ _ (fun _ => HS20.out _ HB21.out) ?_
      clear HK
      (try simp only [Act.put, List.setIfInBounds_toArray, List.set_cons_zero, List.set_cons_succ])
      refine AnyX.one (i := 5) (o := ⟨some 161, _, _, _, _, _⟩) (by kernel_rfl) rfl (fun K' hK => ?_)
      have HK := Lib.hid hK
      clear hK
      refine step_own9 rfl (.tmp 158) (.tmp 160) 41 (by rfl) w17.heap.size 77 i1 (.int .u8 0) Tryz.underlying41 HI.out.1 HI.out.2.1 HI.out.2.2.1 HI.out.2.2.2 rfl (.slice A21 ns' c21) (ns') (dl.map (Value.int .u8)) (by first | rfl | simp [Act.eval]) HR21.out ⟨go, 0, none⟩ (n3') (n3') (ol.map (Value.int .u8)) (by first | rfl | simp [Act.eval]) (by rw [List.length_map]; exact HLK3.out.2.1) (vrow_news (HRW.out _ HB21.out).2.1) (one_u8 _) (by omega) (Below.size HB21.out) ?_
      intro v22 w22 ho22 hg22
      obtain ⟨A22, c22, rfl⟩ := own_sl ho22
      have hb22 : BelW w17 w22 := bel_grown HB21.out hg22 fun q h => (World.ownsRow.lt HR21.out q h).1
      have hv22 : VStk w22 w17.heap.size (.slice A22 (ns' + n3') c22) (dl ++ ol) := vapp HLK3.out.2.2 HLK3.out.2.1 ho22
      have HB22 := Lib.hid hb22
      have hr22 : w22.ownsRow w17.heap.size 77 1 (.slice A22 (ns' + n3') c22) (ns' + n3') ((dl ++ ol).map (Value.int .u8)) := by have h := hv22; unfold VStk at h; rw [List.length_append, HLK3.out.2.2, HLK3.out.2.1] at h; exact h
      have HR22 := Lib.hid hr22
      clear ho22 hg22 hb22 hv22 hr22
      refine HK.out _ _ (fun _ => HS20.out _ HB22.out) ?_
      clear HK
      (try simp only [Act.put, List.setIfInBounds_toArray, List.set_cons_zero, List.set_cons_succ])
      refine AnyX.one (i := 7) (o := ⟨some 163, _, _, _, _, _⟩) (by kernel_rfl) rfl (fun K' hK => ?_)
      have HK := Lib.hid hK
      clear hK
      refine step_own9 rfl (.tmp 161) (.tmp 162) 41 (by rfl) w17.heap.size 77 i1 (.int .u8 0) Tryz.underlying41 HI.out.1 HI.out.2.1 HI.out.2.2.1 HI.out.2.2.2 rfl (.slice A22 (ns' + n3') c22) (ns' + n3') ((dl ++ ol).map (Value.int .u8)) (by first | rfl | simp [Act.eval]) HR22.out ⟨g, 0, none⟩ (n') (n') (nt3.map (Value.int .u8)) (by first | rfl | simp [Act.eval]) (by rw [List.length_map]; exact HLK3.out.1) (vrow_news (HRW.out _ HB22.out).2.2) (one_u8 _) (by omega) (Below.size HB22.out) ?_
      intro v23 w23 ho23 hg23
      obtain ⟨A23, c23, rfl⟩ := own_sl ho23
      have hb23 : BelW w17 w23 := bel_grown HB22.out hg23 fun q h => (World.ownsRow.lt HR22.out q h).1
      have hv23 : VStk w23 w17.heap.size (.slice A23 (ns' + n3' + n') c23) (dl ++ ol ++ nt3) := vapp (by rw [List.length_append, HLK3.out.2.2, HLK3.out.2.1]) HLK3.out.1 ho23
      have HB23x := Lib.hid hb23
      have HV23 := Lib.hid hv23
      clear ho23 hg23 hb23 hv23
      refine HK.out _ _ (fun _ => HS20.out _ HB23x.out) ?_
      clear HK
      (try simp only [Act.put, List.setIfInBounds_toArray, List.set_cons_zero, List.set_cons_succ])
      refine AnyX.one (i := 8) (o := ⟨some 24, _, _, _, _, _⟩) (by kernel_rfl) rfl (fun K' hK => ?_)
      have HK := Lib.hid hK
      clear hK
      go_simp
      refine HK.out _ _ (fun h => absurd rfl h) ?_
      clear HK
      (try simp only [Act.put, List.setIfInBounds_toArray, List.set_cons_zero, List.set_cons_succ])
      refine AnyX.done (by kernel_rfl) ?_ _
      have HNW : Hid (∀ (A : Option Addr) (cc : Nat) (wd : List Int), wd.length = 2 → Ks w17 w17.heap.size (.slice A 2 cc) wd → ∃ b3 o3, A = some ⟨b3, o3, none⟩ ∧ ∀ W, BelW w17 W → ∀ j u, (wd.map (Value.int .u8))[j]? = some u → W.cell? ((⟨b3, o3, none⟩ : Addr).add j) = some u) := Lib.hid fun A cc wd hl hk => by
        obtain ⟨b3, o3, rfl, -, -⟩ := ks_news hk (by decide)
        refine ⟨b3, o3, rfl, fun W h => ?_⟩
        have hk2 : Ks W W.heap.size (.slice (some ⟨b3, o3, none⟩) 2 cc) wd := Arr.keep stays_u8 hk (Below.size h) fun _ hp => Below.cell h hp
        obtain ⟨b', o', e, -, hn⟩ := ks_news hk2 (by decide)
        obtain ⟨rfl, rfl⟩ : b3 = b' ∧ o3 = o' := by simpa using e
        exact hn
      have HRDW : Hid (∀ k, k < m' → ∃ Aw cw, (∀ W, BelW w17 W → W.cell? ⟨D1, k, none⟩ = some (.slice Aw 2 cw)) ∧ ∀ i, i < 2 → ∃ (b2 o2 b3 o3 ci : Nat) (wd : List Int), Aw = some ⟨b2, o2, none⟩ ∧ wd.length = 2 ∧ (∀ y ∈ wd, k01 y) ∧ ∀ W, BelW w17 W → W.cell? ⟨b2, o2 + i, none⟩ = some (.slice (some ⟨b3, o3, none⟩) 2 ci) ∧ ∀ j u, (wd.map (Value.int .u8))[j]? = some u → W.cell? ((⟨b3, o3, none⟩ : Addr).add j) = some u) := Lib.hid fun k hlt => by
        have hS := HSTN.out w17 (Below.refl _ _)
        obtain ⟨hp1, hp2⟩ := HDT.out.port k hlt
        have hb2 : blN d.mems k = 2 := by show 2 ^ (d.mems.getD k default).addr.length = 2; rw [hp1]
        obtain ⟨hw1, hw2⟩ := nxtS_w HFK.out nt3 hlt
        rw [hb2] at hw1
        obtain ⟨b1, o1, Aw, cw, e1, l1, e2, e3⟩ := hS.sw.at9 hlt
        obtain ⟨rfl, rfl⟩ : D1 = b1 ∧ 0 = o1 := by simpa using e1
        rw [hw1] at e2 e3
        rw [Nat.zero_add] at e2
        refine ⟨Aw, cw, fun W h => (h.cell (p := ⟨D1, k, none⟩) l1).trans e2, fun i hi => ?_⟩
        obtain ⟨b2, o2, Ai, ci, rfl, l2, e4, e5⟩ := e3.at9 hi
        have hwl : (((nxtS d ns' m' kk nt3).words.getD k []).getD i []).length = 2 := by rw [hw2 i (by omega), hp2]
        rw [hwl] at e4 e5
        obtain ⟨b3, o3, rfl, hn⟩ := HNW.out Ai ci _ hwl e5
        exact ⟨b2, o2, b3, o3, ci, _, rfl, hwl, HNX.out.word k i, fun W h => ⟨(h.cell (p := ⟨b2, o2 + i, none⟩) l2).trans e4, hn W h⟩⟩
      have HRDR : Hid (∀ k, k < m' → ∃ (b3 o3 ci : Nat) (wd : List Int), wd.length = 2 ∧ (∀ y ∈ wd, k01 y) ∧ ∀ W, BelW w17 W → W.cell? ⟨D2, k, none⟩ = some (.slice (some ⟨b3, o3, none⟩) 2 ci) ∧ ∀ j u, (wd.map (Value.int .u8))[j]? = some u → W.cell? ((⟨b3, o3, none⟩ : Addr).add j) = some u) := Lib.hid fun k hlt => by
        have hS := HSTN.out w17 (Below.refl _ _)
        obtain ⟨hp1, hp2⟩ := HDT.out.port k hlt
        have hwl : ((nxtS d ns' m' kk nt3).read.getD k []).length = 2 := by rw [nxtS_r HFK.out nt3 hlt, hp2]
        obtain ⟨b1, o1, Ai, ci, e1, l1, e4, e5⟩ := hS.sr.at9 hlt
        obtain ⟨rfl, rfl⟩ : D2 = b1 ∧ 0 = o1 := by simpa using e1
        rw [hwl] at e4 e5
        rw [Nat.zero_add] at e4
        obtain ⟨b3, o3, rfl, hn⟩ := HNW.out Ai ci _ hwl e5
        exact ⟨b3, o3, ci, _, hwl, HNX.out.reads k, fun W h => ⟨(h.cell (p := ⟨D2, k, none⟩) l1).trans e4, hn W h⟩⟩
      obtain ⟨al0, HAL0⟩ := named (dl ++ ol ++ nt3)
      have hal0 : al0.length = ns' + n3' + n' := by rw [HAL0.out, List.length_append, List.length_append, HLK3.out.1, HLK3.out.2.1, HLK3.out.2.2]
      have hak0 : ∀ y ∈ al0, k01 y := by rw [HAL0.out]; exact k_app (k_app HKK3.out.2.2 HKK3.out.2.1) HKK3.out.1
      obtain ⟨N0, HN0⟩ := named (ns' + n3' + n')
      rw [← HAL0.out] at HV23
      rw [← HN0.out] at HV23 hal0
      rw [← HN0.out]
      have hN0 : N0 ≤ 17592186044516 := by rw [HN0.out]; omega
      have HA0 := Lib.hid (And.intro hal0 hak0)
      clear hal0 hak0
      go_wp2
      go_loopw [24, 25] (fun sv ci wr => ∃ (k nal : Nat) (Aal : Option Addr) (cal : Nat) (al : List Int), k ≤ m' ∧ ci = .int .i64 k ∧ sv = .slice Aal nal cal ∧ al.length = nal ∧ VStk wr w17.heap.size (.slice Aal nal cal) al ∧ (∀ y ∈ al, k01 y) ∧ nal ≤ N0 + 100 * k ∧ BelW w17 wr) (fun _ ci _ => m' - (intOf ci).toNat)
      case atStart => exact ⟨0, N0, A23, c23, al0, Nat.zero_le _, rfl, rfl, HA0.out.1, HV23.out, HA0.out.2, Nat.le_refl _, HB23x.out⟩
      case round =>
        clear HV23 HA0 HB23x
        obtain ⟨k, nal, Aal, cal, al, hk, rfl, rfl, hal, hv, hak, hnb, hb⟩ := hrel
        obtain ⟨Vr, rfl⟩ : ∃ V : World, V = wr := ⟨_, rfl⟩
        have z1 := (HF20.out Vr hb).1.cell 1
        by_cases hlt : k < m'
        · have hk2 : (k : Int) < (m' : Int) := by omega
          obtain ⟨Aw, cw, hcw, hii⟩ := HRDW.out k hlt
          have d1 := hcw Vr hb
          have HCW := Lib.hid hcw
          have HII := Lib.hid hii
          have HAC := Lib.hid (And.intro hal (And.intro hv hak))
          have HBR := Lib.hid hb
          clear hcw hii hal hv hak hb
          go_wp2
          go_loopw [24, 26] (fun sv ci wr => ∃ (i nal2 : Nat) (Aal : Option Addr) (cal : Nat) (al : List Int), i ≤ 2 ∧ ci = .int .i64 i ∧ sv = .slice Aal nal2 cal ∧ al.length = nal2 ∧ VStk wr w17.heap.size (.slice Aal nal2 cal) al ∧ (∀ y ∈ al, k01 y) ∧ nal2 ≤ nal + 2 * i ∧ BelW w17 wr) (fun _ ci _ => 2 - (intOf ci).toNat)
          case atStart => exact ⟨0, nal, Aal, cal, al, Nat.zero_le _, rfl, rfl, HAC.out.1, HAC.out.2.1, HAC.out.2.2, by omega, HBR.out⟩
          case round =>
            clear z1 d1 HAC HBR
            obtain ⟨i, nal2, Aal, cal, al, hi, rfl, rfl, hal, hv, hak, hnb2, hb⟩ := hrel
            have z1 := (HF20.out wr hb).1.cell 1
            have d1 := HCW.out wr hb
            by_cases hlt2 : i < 2
            · have hi2 : (i : Int) < 2 := by omega
              obtain ⟨b2, o2, b3, o3, ci, wd, rfl, hwl, hwk, hcc⟩ := HII.out i hlt2
              obtain ⟨d2, hnews⟩ := hcc wr hb
              have HNEWS := Lib.hid hnews
              have HWL := Lib.hid (And.intro hwl hwk)
              have HROW : Hid (wr.ownsRow w17.heap.size 77 1 (.slice Aal nal2 cal) nal2 (al.map (Value.int .u8))) := Lib.hid (by have h := hv; unfold VStk at h; rw [hal] at h; exact h)
              have HAC := Lib.hid (And.intro hal hak)
              have HB := Lib.hid hb
              clear hal hv hak hb hcc hnews hwl hwk
              go_upto_region 26 with (at_builtin; refine wpList_append_own_at _ rfl _ _ 41 rfl w17.heap.size 77 i1 (.int .u8 0) 1 1 Tryz.underlying41 HI.out.1 HI.out.2.1 HI.out.2.2.1 HI.out.2.2.2 rfl (by decide) (.slice Aal nal2 cal) nal2 (al.map (Value.int .u8)) rfl HROW.out ⟨b3, o3, none⟩ 2 ci (wd.map (Value.int .u8)) rfl (by rw [List.length_map]; exact HWL.out.1) HNEWS.out (one_u8 _) (by unfold maxLen; omega) (by omega) (Below.size HB.out) ?_; intro v' w5 hown' hgrow hnil hloc; obtain ⟨A5, c5, rfl⟩ := own_sl hown'; have HO5 := Lib.hid (And.intro hown' hgrow); clear hown' hgrow hnil hloc)
              have HF5 : Hid (BelW w17 w5 ∧ VStk w5 w17.heap.size (.slice A5 (nal2 + 2) c5) (al ++ wd)) := Lib.hid ⟨bel_grown HB.out HO5.out.2 fun q h => (World.ownsRow.lt HROW.out q h).1, vapp HAC.out.1 HWL.out.1 HO5.out.1⟩
              go_wp2
              go_roundw
              case rel => exact ⟨i + 1, nal2 + 2, A5, c5, al ++ wd, by omega, by go_num, rfl, by rw [List.length_append, HAC.out.1, HWL.out.1], HF5.out.2, k_app HAC.out.2 HWL.out.2, by omega, HF5.out.1⟩
              case measure => simp [intOf]; omega
            · obtain rfl : i = 2 := by omega
              have HAC := Lib.hid (And.intro hal (And.intro hv (And.intro hak hb)))
              clear hal hv hak hb
              go_wp2
              go_roundw
              case rel => exact ⟨k + 1, nal2, Aal, cal, al, by omega, by go_num, rfl, HAC.out.1, HAC.out.2.1, HAC.out.2.2.1, by omega, HAC.out.2.2.2⟩
              case measure => simp [intOf]; omega
        · obtain rfl : m' = k := by omega
          have HAC := Lib.hid (And.intro hal (And.intro hv (And.intro hak hb)))
          clear hal hv hak hb
          go_wp2
          go_loopw [24, 27] (fun sv ci wr => ∃ (k nal2 : Nat) (Aal : Option Addr) (cal : Nat) (al : List Int), k ≤ m' ∧ ci = .int .i64 k ∧ sv = .slice Aal nal2 cal ∧ al.length = nal2 ∧ VStk wr w17.heap.size (.slice Aal nal2 cal) al ∧ (∀ y ∈ al, k01 y) ∧ nal2 ≤ nal + 2 * k ∧ BelW w17 wr) (fun _ ci _ => m' - (intOf ci).toNat)
          case atStart => exact ⟨0, nal, Aal, cal, al, Nat.zero_le _, rfl, rfl, HAC.out.1, HAC.out.2.1, HAC.out.2.2.1, by omega, HAC.out.2.2.2⟩
          case round =>
            clear z1 HAC
            obtain ⟨k, nal2, Aal, cal, al, hk3, rfl, rfl, hal, hv, hak, hnb2, hb⟩ := hrel
            have z2 := (HF20.out wr hb).1.cell 2
            by_cases hlt2 : k < m'
            · have hi2 : (k : Int) < (m' : Int) := by omega
              obtain ⟨b3, o3, ci, wd, hwl, hwk, hcc⟩ := HRDR.out k hlt2
              obtain ⟨d2, hnews⟩ := hcc wr hb
              have HNEWS := Lib.hid hnews
              have HWL := Lib.hid (And.intro hwl hwk)
              have HROW : Hid (wr.ownsRow w17.heap.size 77 1 (.slice Aal nal2 cal) nal2 (al.map (Value.int .u8))) := Lib.hid (by have h := hv; unfold VStk at h; rw [hal] at h; exact h)
              have HAC := Lib.hid (And.intro hal hak)
              have HB := Lib.hid hb
              clear hal hv hak hb hcc hnews hwl hwk
              go_upto_region 30 with (at_builtin; refine wpList_append_own_at _ rfl _ _ 41 rfl w17.heap.size 77 i1 (.int .u8 0) 1 1 Tryz.underlying41 HI.out.1 HI.out.2.1 HI.out.2.2.1 HI.out.2.2.2 rfl (by decide) (.slice Aal nal2 cal) nal2 (al.map (Value.int .u8)) rfl HROW.out ⟨b3, o3, none⟩ 2 ci (wd.map (Value.int .u8)) rfl (by rw [List.length_map]; exact HWL.out.1) HNEWS.out (one_u8 _) (by unfold maxLen; omega) (by omega) (Below.size HB.out) ?_; intro v' w5 hown' hgrow hnil hloc; obtain ⟨A5, c5, rfl⟩ := own_sl hown'; have HO5 := Lib.hid (And.intro hown' hgrow); clear hown' hgrow hnil hloc)
              have HF5 : Hid (BelW w17 w5 ∧ VStk w5 w17.heap.size (.slice A5 (nal2 + 2) c5) (al ++ wd)) := Lib.hid ⟨bel_grown HB.out HO5.out.2 fun q h => (World.ownsRow.lt HROW.out q h).1, vapp HAC.out.1 HWL.out.1 HO5.out.1⟩
              go_wp2
              go_roundw
              case rel => exact ⟨k + 1, nal2 + 2, A5, c5, al ++ wd, by omega, by go_num, rfl, by rw [List.length_append, HAC.out.1, HWL.out.1], HF5.out.2, k_app HAC.out.2 HWL.out.2, by omega, HF5.out.1⟩
              case measure => simp [intOf]; omega
            · obtain rfl : m' = k := by omega
              have HAC := Lib.hid (And.intro hal (And.intro hv (And.intro hak hb)))
              obtain ⟨Vs, rfl⟩ : ∃ V : World, V = wr := ⟨_, rfl⟩
              clear hal hv hak hb
              go_wp2
              go_loopw [28] (fun ci wr => Vs = wr ∧ ∃ k : Nat, k ≤ nal2 ∧ ci = .int .i64 k) (fun ci _ => nal2 - (intOf ci).toNat)
              case atStart => exact ⟨rfl, 0, Nat.zero_le _, rfl⟩
              case round =>
                obtain ⟨hwr, k2, hk4, rfl⟩ := hrel
                obtain rfl : Vs = wr := hwr
                by_cases hlt3 : k2 < nal2
                · have hi3 : (k2 : Int) < (nal2 : Int) := by omega
                  obtain ⟨ga, rfl⟩ := VStk.formK HAC.out.2.1 HAC.out.1 hlt3
                  have hvx := VStk.cellK HAC.out.2.1 HAC.out.1 hlt3
                  have hkx : knw (al.getD k2 0) = true := knw_iff.2 (getD_k HAC.out.2.2.1 k2)
                  obtain ⟨pv, HPV⟩ := named (al.getD k2 0)
                  rw [← HPV.out] at hvx hkx
                  have HKN2 := Lib.hid (Lg.known_any pv Vs)
                  rw [hkx] at HKN2
                  clear hkx
                  go_wp2_with (go_at_call 29; (with_reducible refine HKN2.out.mono ?_); rintro e wz ⟨rfl, hwz⟩; subst hwz)
                  go_roundw
                  case rel => exact ⟨by trivial, k2 + 1, by omega, by go_num⟩
                  case measure => simp [intOf]; omega
                · have hi3 : ¬ (k2 : Int) < (nal2 : Int) := by omega
                  have HEND : Hid (BelW w Vs) := Lib.hid (joinB HB1.out (joinB HB2V.out (joinB HB217.out HAC.out.2.2.2)))
                  have HLV := Lib.hid (lives9_any Vs fun k hk => (HCS.out Vs (joinB HB217.out HAC.out.2.2.2)).tabs.2.2 k hk)
                  go_wp2_with (go_at_call 17; (with_reducible refine HLV.out.mono ?_); rintro e wz ⟨rfl, hbz⟩; have HBZ := Lib.hid hbz; clear hbz)
                  go_ret
                  exact ⟨rfl, joinB HEND.out HBZ.out⟩
end Go.Proofs.YtkaedfgmhfefjaaGreatDoor
