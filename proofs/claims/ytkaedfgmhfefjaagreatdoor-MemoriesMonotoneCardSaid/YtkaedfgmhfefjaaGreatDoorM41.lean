/- The texts Mw9. -/
import Derived.Test.YtkaedfgmhfefjaaGreatDoorM38
import Derived.Test.YtkaedfgmhfefjaaGreatDoorM39
import Derived.Test.YtkaedfgmhfefjaaGreatDoorM40
import Derived.Test.YtkaedfgmhfefjaaGreatDoorM30
import Derived.StillTailTactics
namespace Go.Proofs.YtkaedfgmhfefjaaGreatDoor
open Go.RowKit

/-- While the replacing inputs are changed in place: rows behind V3; the state above lies from block B4 on. -/
structure MW (V3 : World) (B4 q5 ni ns m cM : Nat) (AM U0 U1 U2 : Option Addr) (u0 u1 u2 : Nat) (u : Stt) (lM : List Int) (wr : World) : Prop where
  bel : BelW V3 wr
  r : VStk wr V3.heap.size (.slice AM ni cM) lM
  own : OwnS wr B4 U0 U1 U2 ns m m u0 u1 u2 u
  box : Fr wr q5 45 [.slice U0 ns u0, .slice U1 m u1, .slice U2 m u2]
  len : lM.length = ni
  off : ∀ a, (Value.slice AM ni cM).ownBlock = some a → a < B4
  far : B4 ≤ q5
section
variable {V3 wr w' : World} {B4 q5 ni ns m cM u0 u1 u2 : Nat} {AM U0 U1 U2 : Option Addr} {u : Stt} {lM : List Int}
theorem MW.next (h : MW V3 B4 q5 ni ns m cM AM U0 U1 U2 u0 u1 u2 u lM wr) (hb : BelW wr w') : MW V3 B4 q5 ni ns m cM AM U0 U1 U2 u0 u1 u2 u lM w' :=
  ⟨joinB h.bel hb, h.r.below hb, h.own.below hb, h.box.below hb, h.len, h.off, h.far⟩
theorem MW.set {g : Nat} (h : MW V3 B4 q5 ni ns m cM (some ⟨g, 0, none⟩) U0 U1 U2 u0 u1 u2 u lM wr) (j : Nat) (x : Int) : MW V3 B4 q5 ni ns m cM (some ⟨g, 0, none⟩) U0 U1 U2 u0 u1 u2 u (lM.set j x) (wr.setCell ⟨g, j, none⟩ (.int .u8 x)) := by
  have h1 : g < B4 := h.off g rfl
  have h2 := h.far
  exact ⟨Below.setCell h.bel (World.ownsRow.lt h.r g rfl).1 _, h.r.set h.len j x, h.own.setS (a := ⟨g, j, none⟩) h1 _, h.box.other (a := ⟨g, j, none⟩) (by show g ≠ q5; omega) _, by rw [List.length_set]; exact h.len, h.off, h.far⟩
end
set_option maxRecDepth 100000 in
set_option maxHeartbeats 16000000 in
theorem mmono_law (x : Cx) (hx : Cok x) (sG sA : Value) (ly lyi lys : List Int) (Ay Ayi Ays : Option Addr) (my myi mys cy cyi cys : Nat) (lz lzi lzs : List Int) (Az Azi Azs : Option Addr) (mz mzi mzs cz czi czs : Nat) (w : World) (hT : Lg.Tabs w) (hG : Gs w w.heap.size sG x.gates) (hA : Ks w w.heap.size sA x.outs)
    (ky : Ks w w.heap.size (.slice Ay my cy) ly) (kyi : Ks w w.heap.size (.slice Ayi myi cyi) lyi) (kys : Ks w w.heap.size (.slice Ays mys cys) lys) (vy : ∀ y ∈ ly, 0 ≤ y ∧ y ≤ 255) (vyi : ∀ y ∈ lyi, 0 ≤ y ∧ y ≤ 255) (vys : ∀ y ∈ lys, 0 ≤ y ∧ y ≤ 255) (kz : Ks w w.heap.size (.slice Az mz cz) lz) (kzi : Ks w w.heap.size (.slice Azi mzi czi) lzi) (kzs : Ks w w.heap.size (.slice Azs mzs czs) lzs) (vz : ∀ y ∈ lz, 0 ≤ y ∧ y ≤ 255) (vzi : ∀ y ∈ lzi, 0 ≤ y ∧ y ≤ 255) (vzs : ∀ y ∈ lzs, 0 ≤ y ∧ y ≤ 255) :
    Calls Tryz.prog 5 #[.agg #[.int .u8 x.inN, .int .u8 x.dffs, .int .u8 x.d0, .int .u8 x.d1, .bool x.bus, .bool x.mem, .int .u8 x.p0, .int .u8 x.p1, .int .u8 x.p2, .int .u8 x.p3, sG, sA], .agg #[.slice Ay my cy, .slice Ayi myi cyi, .slice Ays mys cys], .agg #[.slice Az mz cz, .slice Azi mzi czi, .slice Azs mzs czs]] w fun e w' => e = .returned (.bool true) ∧ Below w.heap.size w w' := by
  obtain ⟨c, HC⟩ := named (ofC x)
  obtain ⟨n, HN⟩ := named c.nodes.length
  obtain ⟨m, HM⟩ := named c.mems.length
  obtain ⟨W1, HW1⟩ := named (((w.alloc (.cells #[.int .u8 x.inN, .int .u8 x.dffs, .int .u8 x.d0, .int .u8 x.d1, .bool x.bus, .bool x.mem, .int .u8 x.p0, .int .u8 x.p1, .int .u8 x.p2, .int .u8 x.p3, sG, sA] 27)).alloc (.cells #[.slice Ay my cy, .slice Ayi myi cyi, .slice Ays mys cys] 33)).alloc (.cells #[.slice Az mz cz, .slice Azi mzi czi, .slice Azs mzs czs] 33))
  have hb1 : BelW w W1 := by rw [HW1.out]; exact below_new (below_new (below_new (Below.refl _ _) _) _) _
  have hf0 : Fr W1 w.heap.size 27 (#[.int .u8 x.inN, .int .u8 x.dffs, .int .u8 x.d0, .int .u8 x.d1, .bool x.bus, .bool x.mem, .int .u8 x.p0, .int .u8 x.p1, .int .u8 x.p2, .int .u8 x.p3, sG, sA]).toList := by rw [HW1.out]; exact Fr.alloc (Fr.alloc (Fr.made _ _ _ (by simp)) _) _
  have hf1 : Fr W1 (w.heap.size + 1) 33 (#[.slice Ay my cy, .slice Ayi myi cyi, .slice Ays mys cys]).toList := by rw [HW1.out]; exact Fr.alloc (Fr.made _ _ _ (by simp)) _
  have hf2 : Fr W1 (w.heap.size + 1 + 1) 33 (#[.slice Az mz cz, .slice Azi mzi czi, .slice Azs mzs czs]).toList := by rw [HW1.out]; exact Fr.made _ _ _ (by simp)
  have HOF := Lib.hid (ofc_m x hx sG sA w W1 hb1 hG hA HC.out HN.out HM.out)
  have HXX := Lib.hid hx
  have HT1 := Lib.hid (hT.below hb1)
  have HB1 := Lib.hid hb1
  have HKP : Hid (∀ {v l W}, BelW W1 W → Ks w w.heap.size v l → Ks W W.heap.size v l) := Lib.hid fun h hk => Arr.keep stays_u8 hk (joinB HB1.out h).size fun _ hp => (joinB HB1.out h).cell hp
  have HKy := Lib.hid (And.intro ky (And.intro kyi kys))
  have HVy := Lib.hid (And.intro vy (And.intro vyi vys))
  have HKz := Lib.hid (And.intro kz (And.intro kzi kzs))
  have HVz := Lib.hid (And.intro vz (And.intro vzi vzs))
  have HF0 := Lib.hid hf0
  have HF1 := Lib.hid hf1
  have HF2 := Lib.hid hf2
  clear hT hG hA hx hb1 hf0 hf1 hf2 ky kyi kys vy vyi vys kz kzi kzs vz vzi vzs
  go_enter Tryz.func5, Tryz.ntmps5
  go_upto_region 1 with (fail)
  rw [← HW1.out]
  have x0 := HF0.out.cell 0
  have x1 := HF0.out.cell 1
  have x2 := HF0.out.cell 2
  have x3 := HF0.out.cell 3
  have x4 := HF0.out.cell 4
  have x5 := HF0.out.cell 5
  have x6 := HF0.out.cell 6
  have x7 := HF0.out.cell 7
  have x8 := HF0.out.cell 8
  have x9 := HF0.out.cell 9
  have x10 := HF0.out.cell 10
  have x11 := HF0.out.cell 11
  go_upto_region 2 with (go_at_call 7; (with_reducible refine HOF.out.mono ?_); rintro e w2 ⟨⟨A0, A1, A2, A3, n1, n3, c0, c1, c2, c3, rfl, hc, hn1, hn3⟩, hb⟩; have HCC := Lib.hid hc; have HB2 := Lib.hid hb; have HN1 := Lib.hid hn1; have HN3 := Lib.hid hn3; clear hc hb hn1 hn3)
  clear x0 x1 x2 x3 x4 x5 x6 x7 x8 x9 x10 x11
  obtain ⟨V2, HV2⟩ := named (w2.alloc (.cells #[.slice A0 n c0, .slice A1 n1 c1, .slice A2 m c2, .slice A3 n3 c3] 39))
  have hn2 : BelW w2 V2 := by rw [HV2.out]; exact below_new (Below.refl _ _) _
  have hfc2 : Fr V2 w2.heap.size 39 (#[.slice A0 n c0, .slice A1 n1 c1, .slice A2 m c2, .slice A3 n3 c3]).toList := by rw [HV2.out]; exact Fr.made _ _ _ rfl
  have hb2 : BelW W1 V2 := joinB HB2.out hn2
  obtain ⟨qc, HQC⟩ := named w2.heap.size
  rw [← HQC.out] at hfc2
  rw [← HV2.out, ← HQC.out]
  have hcs2 : Cm c n n1 m n3 A0 A1 A2 A3 c0 c1 c2 c3 qc V2 := ⟨HT1.out.below hb2, (HCC.out.below hn2).more (Below.size hn2), hfc2⟩
  have HCS := Lib.hid (fun W (h : BelW V2 W) => hcs2.next h)
  have HCE := Lib.hid (fun W (h : BelW V2 W) => (hcs2.next h).cells)
  have HB2V := Lib.hid hb2
  obtain ⟨ni, HNI⟩ := named (ofTo c.nodes [0] n).length
  obtain ⟨ns, HNS⟩ := named (ofTo c.nodes [14] n).length
  obtain ⟨L, hst⟩ := cmt_of x HXX.out HC.out HN.out HN1.out HM.out HN3.out HNI.out HNS.out
  have HST := Lib.hid hst
  have hfew : n < 20 := hst.few
  have hniB : ni ≤ n := hst.niB
  have hnsB : ns ≤ n := hst.nsB
  have hm1 : m ≤ 1 := hst.m1
  have HFy : Hid (∀ W, BelW V2 W → Fr W (w.heap.size + 1) 33 (#[.slice Ay my cy, .slice Ayi myi cyi, .slice Ays mys cys]).toList) := Lib.hid fun W h => HF1.out.below (joinB HB2V.out h)
  have HSy : Hid (∀ W, BelW V2 W → Calls Tryz.prog 8 #[.agg #[.slice Ay my cy, .slice Ayi myi cyi, .slice Ays mys cys], .agg #[.slice A0 n c0, .slice A1 n1 c1, .slice A2 m c2, .slice A3 n3 c3]] W fun e w' => ∃ A7 c7 Aa1 ca1 Aa2 ca2 AI cI, e = .returned (.tuple #[.agg #[.slice A7 ns c7, .slice Aa1 m ca1, .slice Aa2 m ca2], .slice AI ni cI]) ∧ OwnS w' W.heap.size A7 Aa1 Aa2 ns m m c7 ca1 ca2 (sofS c ns m ly) ∧ VStk w' W.heap.size (.slice AI ni cI) (takL lyi 4 ni) ∧ BelW W w') := Lib.hid fun W h =>
    step9_any (HCS.out W h) HST.out (HKP.out (joinB HB2V.out h) HKy.out.1) (HKP.out (joinB HB2V.out h) HKy.out.2.1) (HKP.out (joinB HB2V.out h) HKy.out.2.2) HVy.out.1 HVy.out.2.1 HVy.out.2.2
  have HFz : Hid (∀ W, BelW V2 W → Fr W (w.heap.size + 1 + 1) 33 (#[.slice Az mz cz, .slice Azi mzi czi, .slice Azs mzs czs]).toList) := Lib.hid fun W h => HF2.out.below (joinB HB2V.out h)
  have HSz : Hid (∀ W, BelW V2 W → Calls Tryz.prog 8 #[.agg #[.slice Az mz cz, .slice Azi mzi czi, .slice Azs mzs czs], .agg #[.slice A0 n c0, .slice A1 n1 c1, .slice A2 m c2, .slice A3 n3 c3]] W fun e w' => ∃ A7 c7 Aa1 ca1 Aa2 ca2 AI cI, e = .returned (.tuple #[.agg #[.slice A7 ns c7, .slice Aa1 m ca1, .slice Aa2 m ca2], .slice AI ni cI]) ∧ OwnS w' W.heap.size A7 Aa1 Aa2 ns m m c7 ca1 ca2 (sofS c ns m lz) ∧ VStk w' W.heap.size (.slice AI ni cI) (takL lzi 4 ni) ∧ BelW W w') := Lib.hid fun W h =>
    step9_any (HCS.out W h) HST.out (HKP.out (joinB HB2V.out h) HKz.out.1) (HKP.out (joinB HB2V.out h) HKz.out.2.1) (HKP.out (joinB HB2V.out h) HKz.out.2.2) HVz.out.1 HVz.out.2.1 HVz.out.2.2
  clear hn2 hfc2 hb2 hcs2 hst HV2 HQC HCC HB2 HW1
  obtain ⟨x0, x1, x2, x3⟩ := HCE.out V2 (Below.refl _ _)
  have y0 := (HFy.out V2 (Below.refl _ _)).cell 0
  have y1 := (HFy.out V2 (Below.refl _ _)).cell 1
  have y2 := (HFy.out V2 (Below.refl _ _)).cell 2
  have HC1 := Lib.hid (HSy.out V2 (Below.refl _ _))
  go_upto_region 3 with (go_at_call 8; (with_reducible refine HC1.out.mono ?_); rintro e w3 ⟨S0, s0, S1, s1, S2, s2, AI, cI, rfl, ho, hv, hb⟩; have HO3 := Lib.hid ho; have HI3 := Lib.hid hv; have HB3 := Lib.hid hb; clear ho hv hb)
  obtain ⟨V3, HV3⟩ := named (w3.alloc (.cells #[.slice S0 ns s0, .slice S1 m s1, .slice S2 m s2] 45))
  have hn3 : BelW w3 V3 := by rw [HV3.out]; exact below_new (Below.refl _ _) _
  have hf3 : Fr V3 w3.heap.size 45 [.slice S0 ns s0, .slice S1 m s1, .slice S2 m s2] := by rw [HV3.out]; exact Fr.made _ [.slice S0 ns s0, .slice S1 m s1, .slice S2 m s2] _ rfl
  obtain ⟨q3, HQ3⟩ := named w3.heap.size
  rw [← HQ3.out] at hf3
  rw [← HV3.out, ← HQ3.out]
  have hb23 : BelW V2 V3 := joinB HB3.out hn3
  obtain ⟨ss, HSS⟩ := named (sofS c ns m ly)
  obtain ⟨inp, HIP⟩ := named (takL lyi 4 ni)
  rw [← HSS.out] at HO3
  rw [← HIP.out] at HI3
  have hil : inp.length = ni := by rw [HIP.out, takL_len]
  have HIL := Lib.hid hil
  have HSTR : Hid (∀ W, BelW V3 W → StR W W.heap.size S0 S1 S2 ns m m s0 s1 s2 ss) := Lib.hid fun W h => (HO3.out.below (joinB hn3 h)).str
  have HINV : Hid (∀ W, BelW V3 W → VStk W V2.heap.size (.slice AI ni cI) inp) := Lib.hid fun W h => HI3.out.below (joinB hn3 h)
  have HF3 : Hid (∀ W, BelW V3 W → Fr W q3 45 [.slice S0 ns s0, .slice S1 m s1, .slice S2 m s2]) := Lib.hid fun W h => hf3.below h
  have HB23 := Lib.hid hb23
  have HFS : Hid (FitS c ns m ss) := Lib.hid (by rw [HSS.out]; exact sofS_fits _ _ _ _)
  have HIV : Hid (∀ y ∈ inp, 0 ≤ y ∧ y ≤ 3) := Lib.hid (by rw [HIP.out]; exact takL_in4 HVy.out.2.1 ni)
  clear x0 x1 x2 x3 y0 y1 y2 hn3 hf3
  obtain ⟨x0, x1, x2, x3⟩ := HCE.out V3 hb23
  have y0 := (HFz.out V3 hb23).cell 0
  have y1 := (HFz.out V3 hb23).cell 1
  have y2 := (HFz.out V3 hb23).cell 2
  have HC2 := Lib.hid (HSz.out V3 hb23)
  clear hb23 hil
  go_upto_region 4 with (go_at_call 8; (with_reducible refine HC2.out.mono ?_); rintro e w4 ⟨T0, t0, T1, t1, T2, t2, AM, cM, rfl, ho, hv, hb⟩; have HO4 := Lib.hid ho; have HI4 := Lib.hid hv; have HB4 := Lib.hid hb; clear ho hv hb)
  obtain ⟨V4, HV4⟩ := named (w4.alloc (.cells #[.slice T0 ns t0, .slice T1 m t1, .slice T2 m t2] 45))
  have hn4 : BelW w4 V4 := by rw [HV4.out]; exact below_new (Below.refl _ _) _
  have hf4 : Fr V4 w4.heap.size 45 [.slice T0 ns t0, .slice T1 m t1, .slice T2 m t2] := by rw [HV4.out]; exact Fr.made _ [.slice T0 ns t0, .slice T1 m t1, .slice T2 m t2] _ rfl
  obtain ⟨q4, HQ4⟩ := named w4.heap.size
  rw [← HQ4.out] at hf4
  rw [← HV4.out, ← HQ4.out]
  have hb34 : BelW V3 V4 := joinB HB4.out hn4
  obtain ⟨tt, HTT⟩ := named (sofS c ns m lz)
  obtain ⟨mo, HMO⟩ := named (takL lzi 4 ni)
  rw [← HTT.out] at HO4
  rw [← HMO.out] at HI4
  have hml : mo.length = ni := by rw [HMO.out, takL_len]
  have HML := Lib.hid hml
  have HFT : Hid (FitS c ns m tt) := Lib.hid (by rw [HTT.out]; exact sofS_fits _ _ _ _)
  have HMV : Hid (∀ y ∈ mo, 0 ≤ y ∧ y ≤ 3) := Lib.hid (by rw [HMO.out]; exact takL_in4 HVz.out.2.1 ni)
  have HMR : Hid (VStk V4 V3.heap.size (.slice AM ni cM) mo) := Lib.hid (HI4.out.below hn4)
  have HB34 := Lib.hid hb34
  clear x0 x1 x2 x3 y0 y1 y2
  have hf3 := HF3.out V4 hb34
  have y0 := hf3.cell 0
  have y1 := hf3.cell 1
  have y2 := hf3.cell 2
  have z0 := hf4.cell 0
  have z1 := hf4.cell 1
  have z2 := hf4.cell 2
  have HAB := Lib.hid (above9_any c ss tt S0 S1 S2 T0 T1 T2 ns m s0 s1 s2 t0 t1 t2 V4 (HSTR.out V4 hb34) (HO4.out.below hn4).str HFS.out HFT.out (by omega) (by omega) (fun k hk => by
    obtain ⟨p, q⟩ := HST.out.port k hk
    have e1 : blN c.mems k = 2 ^ (c.mems.getD k default).addr.length := rfl
    rw [e1, p, q]; decide))
  clear hn4 hf4 hb34 hf3 hml
  go_upto_region 5 with (go_at_call 24; (with_reducible refine HAB.out.mono ?_); rintro e w5 ⟨U0, u0, U1, u1, U2, u2, rfl, ho, hb⟩; have HO5 := Lib.hid ho; have HB5 := Lib.hid hb; clear ho hb)
  clear y0 y1 y2 z0 z1 z2
  obtain ⟨V5, HV5⟩ := named (w5.alloc (.cells #[.slice U0 ns u0, .slice U1 m u1, .slice U2 m u2] 45))
  have hn5 : BelW w5 V5 := by rw [HV5.out]; exact below_new (Below.refl _ _) _
  have hf5 : Fr V5 w5.heap.size 45 [.slice U0 ns u0, .slice U1 m u1, .slice U2 m u2] := by rw [HV5.out]; exact Fr.made _ [.slice U0 ns u0, .slice U1 m u1, .slice U2 m u2] _ rfl
  obtain ⟨q5, HQ5⟩ := named w5.heap.size
  rw [← HQ5.out] at hf5
  rw [← HV5.out, ← HQ5.out]
  obtain ⟨uu, HUU⟩ := named (aboveS ss tt)
  rw [← HUU.out] at HO5
  have HFU : Hid (FitS c ns m uu) := Lib.hid (by rw [HUU.out]; exact aboveS_fits HFS.out HFT.out)
  have HLE : Hid (LeS ss uu) := Lib.hid (by rw [HUU.out]; exact aboveS_le HFS.out HFT.out)
  have HMW : Hid (MW V3 V4.heap.size q5 ni ns m cM AM U0 U1 U2 u0 u1 u2 uu mo V5) := Lib.hid ⟨joinB HB34.out (joinB HB5.out hn5), (HMR.out.below HB5.out).below hn5, HO5.out.below hn5, hf5, HML.out, fun a ha => (World.ownsRow.lt HMR.out a ha).2, by rw [HQ5.out]; exact Below.size HB5.out⟩
  clear hn5 hf5
  go_wp2
  go_loopw [13] (fun ci wr => ∃ k : Nat, k ≤ ni ∧ ci = .int .i64 k ∧ MW V3 V4.heap.size q5 ni ns m cM AM U0 U1 U2 u0 u1 u2 uu (mrgTo inp mo k) wr) (fun ci _ => ni - (intOf ci).toNat)
  case atStart => exact ⟨0, Nat.zero_le _, rfl, by rw [mrgTo_zero]; exact HMW.out⟩
  case round =>
    clear HMW
    obtain ⟨k, hk, rfl, hmv⟩ := hrel
    have HMW := Lib.hid hmv
    have hiv := HINV.out wr hmv.bel
    by_cases hlt : k < ni
    · have hlt2 : (k : Int) < (ni : Int) := by omega
      obtain ⟨gp, rfl⟩ := VStk.formK hiv HIL.out hlt
      have hvx := VStk.cellK hiv HIL.out hlt
      obtain ⟨pv, HPV⟩ := named (inp.getD k 0)
      rw [← HPV.out] at hvx
      clear hmv hiv
      by_cases h2 : pv = 2
      · have HKP : Hid (mrgTo inp mo (k + 1) = mrgTo inp mo k) := Lib.hid (mrgTo_keep (by rw [← HPV.out]; exact h2))
        subst h2
        go_wp2
        go_roundw
        case rel => exact ⟨k + 1, by omega, by go_num, by rw [HKP.out]; exact HMW.out⟩
        case measure => simp [intOf]; omega
      · have t1 : (pv != 2) = true := by simpa using h2
        have HKP : Hid (mrgTo inp mo (k + 1) = (mrgTo inp mo k).set k pv) := Lib.hid (by rw [HPV.out]; exact mrgTo_put (by rw [HML.out]; exact hlt) (by rw [← HPV.out]; exact h2))
        have hml : (mrgTo inp mo k).length = ni := by rw [mrgTo_len, HML.out]
        obtain ⟨ge, rfl⟩ := VStk.formK HMW.out.r hml hlt
        have hve := VStk.cellK HMW.out.r hml hlt
        have hvf := VStk.frozenK HMW.out.r hml k
        obtain ⟨ev, HEV⟩ := named ((mrgTo inp mo k).getD k 0)
        rw [← HEV.out] at hve
        have HNX := Lib.hid (HMW.out.set k pv)
        clear hml
        go_wp2
        go_roundw
        case rel => exact ⟨k + 1, by omega, by go_num, by rw [HKP.out]; exact HNX.out⟩
        case measure => simp [intOf]; omega
    · obtain rfl : ni = k := by omega
      clear hmv hiv
      go_upto_region 10 with (fail)
      obtain ⟨V6, rfl⟩ : ∃ V0 : World, V0 = wr := ⟨_, rfl⟩
      obtain ⟨mI, HMI⟩ := named (mrgTo inp mo ni)
      rw [← HMI.out] at HMW
      have hmw := HMW.out
      have HB26 : Hid (BelW V2 V6) := Lib.hid (joinB HB23.out hmw.bel)
      have hmil : mI.length = ni := by rw [HMI.out, mrgTo_len, HML.out]
      have hmiv : ∀ y ∈ mI, 0 ≤ y ∧ y ≤ 3 := by rw [HMI.out]; exact mrgTo_in HIV.out HMV.out (by rw [HIL.out, HML.out])
      have HMIL := Lib.hid (And.intro hmil hmiv)
      have HLI : Hid (Lg.LeL inp mI) := Lib.hid ⟨by rw [HIL.out, hmil], fun j hj => by rw [HMI.out]; rw [HIL.out] at hj; exact mrg_le (by rw [HML.out]; exact hj) hj⟩
      have HUST : Hid (∀ W, BelW V6 W → StR W W.heap.size U0 U1 U2 ns m m u0 u1 u2 uu) := Lib.hid fun W h => (hmw.own.below h).str
      have HMIK : Hid (∀ W, BelW V6 W → Ks W W.heap.size (.slice AM ni cM) mI) := Lib.hid fun W h => (hmw.r.below h).ks
      have HF5 : Hid (∀ W, BelW V6 W → Fr W q5 45 [.slice U0 ns u0, .slice U1 m u1, .slice U2 m u2]) := Lib.hid fun W h => hmw.box.below h
      have HB36 := Lib.hid hmw.bel
      clear hmw hmil hmiv HMW
      have HY6 := Lib.hid ((HCS.out V6 HB26.out).cycle HST.out (HSTR.out V6 HB36.out) (HINV.out V6 HB36.out).ks HFS.out HIL.out HIV.out)
      obtain ⟨x0, x1, x2, x3⟩ := HCE.out V6 HB26.out
      have hf3 := HF3.out V6 HB36.out
      have y0 := hf3.cell 0
      have y1 := hf3.cell 1
      have y2 := hf3.cell 2
      obtain ⟨nt1, HN1'⟩ := named (cyN c L n ss inp)
      rw [← HN1'.out] at HY6
      clear hf3
      go_upto_region 11 with (go_at_call 9; (with_reducible refine HY6.out.mono ?_); rintro e w7 ⟨aB, aD, aE, go1, gn1, gw1, rfl, r1, r2, r3, r4, hb⟩; have HR7 := Lib.hid (And.intro r1 (And.intro r2 (And.intro r3 r4))); have HB7 : Hid (BelW V6 w7) := Lib.hid hb; clear r1 r2 r3 r4 hb)
      clear x0 x1 x2 x3 y0 y1 y2
      obtain ⟨V7, HV7⟩ := named ((w7.alloc (.cells #[.slice (some ⟨aB, 0, none⟩) ns ns, .slice (some ⟨aD, 0, none⟩) m m, .slice (some ⟨aE, 0, none⟩) m m] 45)).alloc (.cells #[.slice (some ⟨go1, 0, none⟩) n3 n3, .slice (some ⟨gn1, 0, none⟩) ns ns] 49))
      have hn7 : BelW w7 V7 := by rw [HV7.out]; exact below_new (below_new (Below.refl _ _) _) _
      have hf7 : Fr V7 w7.heap.size 45 [.slice (some ⟨aB, 0, none⟩) ns ns, .slice (some ⟨aD, 0, none⟩) m m, .slice (some ⟨aE, 0, none⟩) m m] := by rw [HV7.out]; exact Fr.alloc (Fr.made _ [.slice (some ⟨aB, 0, none⟩) ns ns, .slice (some ⟨aD, 0, none⟩) m m, .slice (some ⟨aE, 0, none⟩) m m] _ rfl) _
      have hf7r : Fr V7 (w7.heap.size + 1) 49 [.slice (some ⟨go1, 0, none⟩) n3 n3, .slice (some ⟨gn1, 0, none⟩) ns ns] := by rw [HV7.out]; exact Fr.made _ [.slice (some ⟨go1, 0, none⟩) n3 n3, .slice (some ⟨gn1, 0, none⟩) ns ns] _ (by simp)
      obtain ⟨q7, HQ7⟩ := named w7.heap.size
      rw [← HQ7.out] at hf7 hf7r
      rw [← HV7.out, ← HQ7.out]
      have hb67 : BelW V6 V7 := joinB HB7.out hn7
      have HB67 := Lib.hid hb67
      have HA7 : Hid (∀ W, BelW V7 W → StR W W.heap.size (some ⟨aB, 0, none⟩) (some ⟨aD, 0, none⟩) (some ⟨aE, 0, none⟩) ns m m ns m m (nxtS c ns m ss nt1)) := Lib.hid fun W h => HR7.out.2.2.2.keep (Nat.le_refl _) (joinB hn7 h) (Below.size (joinB hn7 h))
      have HW7 : Hid (∀ W, BelW V7 W → VRow W gw1 nt1 ∧ VRow W go1 (outV c nt1) ∧ VRow W gn1 (nextV c nt1)) := Lib.hid fun W h => ⟨HR7.out.1.below (joinB hn7 h), HR7.out.2.1.below (joinB hn7 h), HR7.out.2.2.1.below (joinB hn7 h)⟩
      have HF7 : Hid (∀ W, BelW V7 W → Fr W q7 45 [.slice (some ⟨aB, 0, none⟩) ns ns, .slice (some ⟨aD, 0, none⟩) m m, .slice (some ⟨aE, 0, none⟩) m m] ∧ Fr W (q7 + 1) 49 [.slice (some ⟨go1, 0, none⟩) n3 n3, .slice (some ⟨gn1, 0, none⟩) ns ns]) := Lib.hid fun W h => ⟨hf7.below h, hf7r.below h⟩
      have HB27 : Hid (BelW V2 V7) := Lib.hid (joinB HB26.out hb67)
      have HY7 := Lib.hid ((HCS.out V7 HB27.out).cycle HST.out (HUST.out V7 hb67) (HMIK.out V7 hb67) HFU.out HMIL.out.1 HMIL.out.2)
      obtain ⟨x0, x1, x2, x3⟩ := HCE.out V7 HB27.out
      have hf5 := HF5.out V7 hb67
      have y0 := hf5.cell 0
      have y1 := hf5.cell 1
      have y2 := hf5.cell 2
      obtain ⟨nt2, HN2'⟩ := named (cyN c L n uu mI)
      rw [← HN2'.out] at HY7
      clear hf5 hn7 hf7 hf7r hb67
      go_upto_region 12 with (go_at_call 9; (with_reducible refine HY7.out.mono ?_); rintro e w8 ⟨bB, bD, bE, go2, gn2, gw2, rfl, r1, r2, r3, r4, hb⟩; have HR8 := Lib.hid (And.intro r1 (And.intro r2 (And.intro r3 r4))); have HB8 : Hid (BelW V7 w8) := Lib.hid hb; clear r1 r2 r3 r4 hb)
      clear x0 x1 x2 x3 y0 y1 y2
      obtain ⟨V8, HV8⟩ := named ((w8.alloc (.cells #[.slice (some ⟨bB, 0, none⟩) ns ns, .slice (some ⟨bD, 0, none⟩) m m, .slice (some ⟨bE, 0, none⟩) m m] 45)).alloc (.cells #[.slice (some ⟨go2, 0, none⟩) n3 n3, .slice (some ⟨gn2, 0, none⟩) ns ns] 49))
      have hn8 : BelW w8 V8 := by rw [HV8.out]; exact below_new (below_new (Below.refl _ _) _) _
      have hf8 : Fr V8 w8.heap.size 45 [.slice (some ⟨bB, 0, none⟩) ns ns, .slice (some ⟨bD, 0, none⟩) m m, .slice (some ⟨bE, 0, none⟩) m m] := by rw [HV8.out]; exact Fr.alloc (Fr.made _ [.slice (some ⟨bB, 0, none⟩) ns ns, .slice (some ⟨bD, 0, none⟩) m m, .slice (some ⟨bE, 0, none⟩) m m] _ rfl) _
      have hf8r : Fr V8 (w8.heap.size + 1) 49 [.slice (some ⟨go2, 0, none⟩) n3 n3, .slice (some ⟨gn2, 0, none⟩) ns ns] := by rw [HV8.out]; exact Fr.made _ [.slice (some ⟨go2, 0, none⟩) n3 n3, .slice (some ⟨gn2, 0, none⟩) ns ns] _ (by simp)
      obtain ⟨q8, HQ8⟩ := named w8.heap.size
      rw [← HQ8.out] at hf8 hf8r
      rw [← HV8.out, ← HQ8.out]
      have hb78 : BelW V7 V8 := joinB HB8.out hn8
      have HB78 := Lib.hid hb78
      have HB28 : Hid (BelW V2 V8) := Lib.hid (joinB HB27.out hb78)
      have HB68 : Hid (BelW V6 V8) := Lib.hid (joinB HB67.out hb78)
      have HB38 : Hid (BelW V3 V8) := Lib.hid (joinB HB36.out HB68.out)
      -- the plain side
      have hnet : Lg.LeL nt1 nt2 := by rw [HN1'.out, HN2'.out]; exact nets_mono HLI.out HLE.out.d HLE.out.r
      have hl1 : nt1.length = n := by rw [HN1'.out]; exact cyN_len _ _ _ _ _
      have hl2 : nt2.length = n := by rw [HN2'.out]; exact cyN_len _ _ _ _ _
      have hls : LeS (nxtS c ns m ss nt1) (nxtS c ns m uu nt2) := nxtS_mono HFS.out HLE.out hnet
      have hov : Lg.LeL (outV c nt1) (outV c nt2) := outV_mono hnet
      have hnv : Lg.LeL (nextV c nt1) (nextV c nt2) := nextV_mono hnet
      have ho1 : ∀ l, (outV c l).length = n3 := fun l => by rw [HN3.out]; exact List.length_map _
      have hn1' : ∀ l, (nextV c l).length = ns := fun l => by rw [HNS.out, HN.out]; exact List.length_map _
      have HBA : Hid (∀ W, BelW V8 W → Calls Tryz.prog 25 #[.agg #[.slice (some ⟨aB, 0, none⟩) ns ns, .slice (some ⟨aD, 0, none⟩) m m, .slice (some ⟨aE, 0, none⟩) m m], .agg #[.slice (some ⟨bB, 0, none⟩) ns ns, .slice (some ⟨bD, 0, none⟩) m m, .slice (some ⟨bE, 0, none⟩) m m]] W fun e w' => e = .returned (.bool true) ∧ BelW W w') := Lib.hid fun W h => by
        have h1 := HA7.out W (joinB hb78 h)
        have h2 : StR W W.heap.size (some ⟨bB, 0, none⟩) (some ⟨bD, 0, none⟩) (some ⟨bE, 0, none⟩) ns m m ns m m (nxtS c ns m uu nt2) := HR8.out.2.2.2.keep (Nat.le_refl _) (joinB hn8 h) (Below.size (joinB hn8 h))
        have h3 := mbelow_any _ _ _ _ _ _ _ _ _ _ _ _ _ _ _ _ _ _ _ _ W W.heap.size (Nat.le_refl _) h1 h2
        rw [hls.rel] at h3
        exact h3
      have HBS : Hid (∀ W, BelW V8 W → Calls Tryz.prog 25 #[.agg #[.slice S0 ns s0, .slice S1 m s1, .slice S2 m s2], .agg #[.slice U0 ns u0, .slice U1 m u1, .slice U2 m u2]] W fun e w' => e = .returned (.bool true) ∧ BelW W w') := Lib.hid fun W h => by
        have h3 := mbelow_any _ _ _ _ _ _ _ _ _ _ _ _ _ _ _ _ _ _ _ _ W W.heap.size (Nat.le_refl _) (HSTR.out W (joinB HB38.out h)) (HUST.out W (joinB HB68.out h))
        rw [HLE.out.rel] at h3
        exact h3
      have HBK : Hid (∀ W, BelW V8 W → Calls Tryz.prog 20 #[.agg #[.slice A0 n c0, .slice A1 n1 c1, .slice A2 m c2, .slice A3 n3 c3]] W fun e w' => ∃ gB D1 D2, e = .returned (.agg #[.slice (some ⟨gB, 0, none⟩) ns ns, .slice (some ⟨D1, 0, none⟩) m m, .slice (some ⟨D2, 0, none⟩) m m]) ∧ StR w' w'.heap.size (some ⟨gB, 0, none⟩) (some ⟨D1, 0, none⟩) (some ⟨D2, 0, none⟩) ns m m ns m m (blS c ns m) ∧ BelW W w') := Lib.hid fun W h => (HCS.out W (joinB HB28.out h)).blank HST.out
      have HBB : Hid (∀ (W : World) (gB D1 D2 : Nat), BelW V8 W → StR W W.heap.size (some ⟨gB, 0, none⟩) (some ⟨D1, 0, none⟩) (some ⟨D2, 0, none⟩) ns m m ns m m (blS c ns m) → Calls Tryz.prog 25 #[.agg #[.slice (some ⟨gB, 0, none⟩) ns ns, .slice (some ⟨D1, 0, none⟩) m m, .slice (some ⟨D2, 0, none⟩) m m], .agg #[.slice S0 ns s0, .slice S1 m s1, .slice S2 m s2]] W fun e w' => e = .returned (.bool true) ∧ BelW W w') := Lib.hid fun W gB D1 D2 h hs => by
        have h3 := mbelow_any _ _ _ _ _ _ _ _ _ _ _ _ _ _ _ _ _ _ _ _ W W.heap.size (Nat.le_refl _) hs (HSTR.out W (joinB HB38.out h))
        rw [(blS_le HFS.out).rel] at h3
        exact h3
      have HQ1 : Hid (∀ W, BelW V8 W → Calls Tryz.prog 26 #[.slice (some ⟨go1, 0, none⟩) n3 n3, .slice (some ⟨go2, 0, none⟩) n3 n3] W fun e w' => e = .returned (.int .i64 0) ∧ BelW W w') := Lib.hid fun W h =>
        below_rows (HW7.out W (joinB hb78 h)).2.1 (HR8.out.2.1.below (joinB hn8 h)) (ho1 _) (ho1 _) fun j hj => hov.2 j (by rw [ho1]; exact hj)
      have HQ2 : Hid (∀ W, BelW V8 W → Calls Tryz.prog 26 #[.slice (some ⟨gn1, 0, none⟩) ns ns, .slice (some ⟨gn2, 0, none⟩) ns ns] W fun e w' => e = .returned (.int .i64 0) ∧ BelW W w') := Lib.hid fun W h =>
        below_rows (HW7.out W (joinB hb78 h)).2.2 (HR8.out.2.2.1.below (joinB hn8 h)) (hn1' _) (hn1' _) fun j hj => hnv.2 j (by rw [hn1']; exact hj)
      have HQN : Hid (∀ W, BelW V8 W → Calls Tryz.prog 26 #[.slice (some ⟨gw1, 0, none⟩) n n, .slice (some ⟨gw2, 0, none⟩) n n] W fun e w' => e = .returned (.int .i64 0) ∧ BelW W w') := Lib.hid fun W h =>
        below_rows (HW7.out W (joinB hb78 h)).1 (HR8.out.1.below (joinB hn8 h)) hl1 hl2 fun j hj => hnet.2 j (by rw [hl1]; exact hj)
      have HLV : Hid (∀ W, BelW V8 W → Calls Tryz.prog 17 #[] W fun e w' => e = .returned (.bool true) ∧ BelW W w') := Lib.hid fun W h => lives9_any W fun k hk => (HCS.out W (joinB HB28.out h)).tabs.2.2 k hk
      have HKE : Hid (∀ W, BelW V8 W → W.cell? ⟨qc, 0, none⟩ = some (.slice A0 n c0) ∧ W.cell? ⟨qc, 1, none⟩ = some (.slice A1 n1 c1) ∧ W.cell? ⟨qc, 2, none⟩ = some (.slice A2 m c2) ∧ W.cell? ⟨qc, 3, none⟩ = some (.slice A3 n3 c3) ∧ W.cell? ⟨q3, 0, none⟩ = some (.slice S0 ns s0) ∧ W.cell? ⟨q3, 1, none⟩ = some (.slice S1 m s1) ∧ W.cell? ⟨q3, 2, none⟩ = some (.slice S2 m s2) ∧ W.cell? ⟨q5, 0, none⟩ = some (.slice U0 ns u0) ∧ W.cell? ⟨q5, 1, none⟩ = some (.slice U1 m u1) ∧ W.cell? ⟨q5, 2, none⟩ = some (.slice U2 m u2)) := Lib.hid fun W h => by
        obtain ⟨x0, x1, x2, x3⟩ := HCE.out W (joinB HB28.out h)
        have hf3 := HF3.out W (joinB HB38.out h)
        have hf5 := HF5.out W (joinB HB68.out h)
        exact ⟨x0, x1, x2, x3, hf3.cell 0, hf3.cell 1, hf3.cell 2, hf5.cell 0, hf5.cell 1, hf5.cell 2⟩
      have HF8 : Hid (∀ W, BelW V8 W → Fr W q8 45 [.slice (some ⟨bB, 0, none⟩) ns ns, .slice (some ⟨bD, 0, none⟩) m m, .slice (some ⟨bE, 0, none⟩) m m] ∧ Fr W (q8 + 1) 49 [.slice (some ⟨go2, 0, none⟩) n3 n3, .slice (some ⟨gn2, 0, none⟩) ns ns]) := Lib.hid fun W h => ⟨hf8.below h, hf8r.below h⟩
      have HFW : Hid (BelW w V8) := Lib.hid (joinB HB1.out (joinB HB2V.out HB28.out))
      clear hn8 hf8 hf8r hb78 hnet hl1 hl2 hls hov hnv ho1 hn1'
      have h0 : BelW V8 V8 := Below.refl _ _
      go_upto_region 12 with (fail)
      go_region_held3 (fun w' => w'.cell? ⟨qc, 0, none⟩ = some (.slice A0 n c0) ∧ w'.cell? ⟨qc, 1, none⟩ = some (.slice A1 n1 c1) ∧ w'.cell? ⟨qc, 2, none⟩ = some (.slice A2 m c2) ∧ w'.cell? ⟨qc, 3, none⟩ = some (.slice A3 n3 c3) ∧ w'.cell? ⟨q3, 0, none⟩ = some (.slice S0 ns s0) ∧ w'.cell? ⟨q3, 1, none⟩ = some (.slice S1 m s1) ∧ w'.cell? ⟨q3, 2, none⟩ = some (.slice S2 m s2) ∧ w'.cell? ⟨q5, 0, none⟩ = some (.slice U0 ns u0) ∧ w'.cell? ⟨q5, 1, none⟩ = some (.slice U1 m u1) ∧ w'.cell? ⟨q5, 2, none⟩ = some (.slice U2 m u2))
        ((refine HKE.out _ ?_; (with_reducible repeat (first | assumption | refine BelW.drew ?_))))
        (first
          | (go_at_call 25; (refine Calls.mono (HBB.out w10 gB D1 D2 h10 hst10) ?_)
             rintro e w11 ⟨rfl, hb11⟩
             have h11 : BelW V8 w11 := BelW.trans h10 hb11)
          | (go_at_call 20; (refine Calls.mono (HBK.out _ h9) ?_)
             rintro e w10 ⟨gB, D1, D2, rfl, hst10, hb10⟩
             have h10 : BelW V8 w10 := BelW.trans h9 hb10)
          | (go_at_call 25; (refine Calls.mono (HBS.out _ (BelW.drew h0)) ?_)
             rintro e w9 ⟨rfl, hb9⟩
             have h9 : BelW V8 w9 := BelW.trans (BelW.drew h0) hb9))
      have ga0 : ∀ xx : Beh w11, xx.x.cell? ⟨q7, 0, none⟩ = some (.slice (some ⟨aB, 0, none⟩) ns ns) := fun xx => (HF7.out xx.x (joinB HB78.out (joinB h11 xx.below))).1.cell 0
      have ga1 : ∀ xx : Beh w11, xx.x.cell? ⟨q7, 1, none⟩ = some (.slice (some ⟨aD, 0, none⟩) m m) := fun xx => (HF7.out xx.x (joinB HB78.out (joinB h11 xx.below))).1.cell 1
      have ga2 : ∀ xx : Beh w11, xx.x.cell? ⟨q7, 2, none⟩ = some (.slice (some ⟨aE, 0, none⟩) m m) := fun xx => (HF7.out xx.x (joinB HB78.out (joinB h11 xx.below))).1.cell 2
      have gb0 : ∀ xx : Beh w11, xx.x.cell? ⟨q7 + 1, 0, none⟩ = some (.slice (some ⟨go1, 0, none⟩) n3 n3) := fun xx => (HF7.out xx.x (joinB HB78.out (joinB h11 xx.below))).2.cell 0
      have gb1 : ∀ xx : Beh w11, xx.x.cell? ⟨q7 + 1, 1, none⟩ = some (.slice (some ⟨gn1, 0, none⟩) ns ns) := fun xx => (HF7.out xx.x (joinB HB78.out (joinB h11 xx.below))).2.cell 1
      have gc0 : ∀ xx : Beh w11, xx.x.cell? ⟨q8, 0, none⟩ = some (.slice (some ⟨bB, 0, none⟩) ns ns) := fun xx => (HF8.out xx.x (joinB h11 xx.below)).1.cell 0
      have gc1 : ∀ xx : Beh w11, xx.x.cell? ⟨q8, 1, none⟩ = some (.slice (some ⟨bD, 0, none⟩) m m) := fun xx => (HF8.out xx.x (joinB h11 xx.below)).1.cell 1
      have gc2 : ∀ xx : Beh w11, xx.x.cell? ⟨q8, 2, none⟩ = some (.slice (some ⟨bE, 0, none⟩) m m) := fun xx => (HF8.out xx.x (joinB h11 xx.below)).1.cell 2
      have gd0 : ∀ xx : Beh w11, xx.x.cell? ⟨q8 + 1, 0, none⟩ = some (.slice (some ⟨go2, 0, none⟩) n3 n3) := fun xx => (HF8.out xx.x (joinB h11 xx.below)).2.cell 0
      have gd1 : ∀ xx : Beh w11, xx.x.cell? ⟨q8 + 1, 1, none⟩ = some (.slice (some ⟨gn2, 0, none⟩) ns ns) := fun xx => (HF8.out xx.x (joinB h11 xx.below)).2.cell 1
      have HP0 : Hid (∀ xx : Beh w11, Calls Tryz.prog 25 #[.agg #[.slice (some ⟨aB, 0, none⟩) ns ns, .slice (some ⟨aD, 0, none⟩) m m, .slice (some ⟨aE, 0, none⟩) m m], .agg #[.slice (some ⟨bB, 0, none⟩) ns ns, .slice (some ⟨bD, 0, none⟩) m m, .slice (some ⟨bE, 0, none⟩) m m]] xx.x fun e w' => e = .returned (.bool true) ∧ Below w11.heap.size w11 w') := Lib.hid fun xx => (HBA.out xx.x (joinB h11 xx.below)).mono fun _ _ ⟨he, hb⟩ => ⟨he, joinB xx.below hb⟩
      have HP1 : Hid (∀ xx : Beh w11, Calls Tryz.prog 26 #[.slice (some ⟨go1, 0, none⟩) n3 n3, .slice (some ⟨go2, 0, none⟩) n3 n3] xx.x fun e w' => e = .returned (.int .i64 0) ∧ Below w11.heap.size w11 w') := Lib.hid fun xx => (HQ1.out xx.x (joinB h11 xx.below)).mono fun _ _ ⟨he, hb⟩ => ⟨he, joinB xx.below hb⟩
      have HP2 : Hid (∀ xx : Beh w11, Calls Tryz.prog 26 #[.slice (some ⟨gn1, 0, none⟩) ns ns, .slice (some ⟨gn2, 0, none⟩) ns ns] xx.x fun e w' => e = .returned (.int .i64 0) ∧ Below w11.heap.size w11 w') := Lib.hid fun xx => (HQ2.out xx.x (joinB h11 xx.below)).mono fun _ _ ⟨he, hb⟩ => ⟨he, joinB xx.below hb⟩
      have HP3 : Hid (∀ xx : Beh w11, Calls Tryz.prog 26 #[.slice (some ⟨gw1, 0, none⟩) n n, .slice (some ⟨gw2, 0, none⟩) n n] xx.x fun e w' => e = .returned (.int .i64 0) ∧ Below w11.heap.size w11 w') := Lib.hid fun xx => (HQN.out xx.x (joinB h11 xx.below)).mono fun _ _ ⟨he, hb⟩ => ⟨he, joinB xx.below hb⟩
      have HP4 : Hid (∀ xx : Beh w11, Calls Tryz.prog 17 #[] xx.x fun e w' => e = .returned (.bool true) ∧ Below w11.heap.size w11 w') := Lib.hid fun xx => (HLV.out xx.x (joinB h11 xx.below)).mono fun _ _ ⟨he, hb⟩ => ⟨he, joinB xx.below hb⟩
      have HEND : Hid (BelW w w11) := Lib.hid (joinB HFW.out h11)
      clear h0 hb9 h9 hb10 h10 hst10 hb11 h11
      go_upto_region 14 with (fail)
      refine region_class (w0 := w11) (Below.refl _ _) (by kernel_rfl) (by kernel_rfl) ?_
      repeat (first
        | go_big_quiet_skip
        | (go_big_quiet_want; go_big_quiet_op; first
          | go_big_quiet_on
          | (apply Exists.intro
             refine ⟨fun xx => ?_, ?_⟩
             focus first
              | (go_at_call 25; with_reducible exact beh_of (HP0.out xx))
              | (go_at_call 26; with_reducible exact beh_of (HP1.out xx))
              | (go_at_call 26; with_reducible exact beh_of (HP2.out xx))
              | (go_at_call 26; with_reducible exact beh_of (HP3.out xx))
              | (go_at_call 17; with_reducible exact beh_of (HP4.out xx))
             go_big_quiet_on)))
      refine wpQuiet_nil ?_
      rintro wz ⟨⟨wz', hz⟩, rfl⟩
      go_wp2
      go_ret
      exact ⟨rfl, joinB HEND.out hz⟩
end Go.Proofs.YtkaedfgmhfefjaaGreatDoor
