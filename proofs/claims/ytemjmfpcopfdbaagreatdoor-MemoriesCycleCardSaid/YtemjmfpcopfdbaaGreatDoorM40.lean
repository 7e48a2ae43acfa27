/- The texts Mc9. -/
import Derived.Test.YtemjmfpcopfdbaaGreatDoorM26
import Derived.Test.YtemjmfpcopfdbaaGreatDoorM35
import Derived.Test.YtemjmfpcopfdbaaGreatDoorM32
import Derived.Test.YtemjmfpcopfdbaaGreatDoorM36
import Derived.Test.YtemjmfpcopfdbaaGreatDoorM39
import Derived.StillTailTactics
namespace Go.Proofs.YtemjmfpcopfdbaaGreatDoor
open Go.RowKit
theorem ofC_pos(x:Cx){c:Ck}(hc:c=ofC x):0<c.nodes.length:=by
 rw[hc,ofC_len]
 have:=sizeN_le x
 omega
theorem sofS_in{l:List Int}(h:∀y∈l,0≤y∧y≤255)(c:Ck)(ns m:Nat):(∀y∈(sofS c ns m l).dff,0≤y∧y≤3)∧∀i j,0≤((sofS c ns m l).read.getD i []).getD j 0∧((sofS c ns m l).read.getD i []).getD j 0≤3:=by
 refine⟨takL9_in h _ _,fun i j=>?_⟩
 by_cases hi:i<m
 ·have e:(sofS c ns m l).read.getD i []=takL9 l (posS c.mems ns i+blN c.mems i*(c.mems.getD i default).data.length) (c.mems.getD i default).data.length:=getD_range_map _ _ _ _ hi
  rw[e]
  exact getD_le (takL9_in h _ _) (by decide) (by decide)
 ·have e:(sofS c ns m l).read.getD i []=[]:=by
   rw[List.getD_eq_getElem?_getD,List.getElem?_eq_none (by simp[sofS];omega)];rfl
  rw[e];exact⟨by simp,by simp⟩
theorem cyN_in{c:Ck}{L:List Int}{n:Nat}(V:Vld c L n){s:Stt}{inp:List Int}(vi:∀y∈inp,0≤y∧y≤3)(vd:∀y∈s.dff,0≤y∧y≤3)(vr:∀i j,0≤(s.read.getD i []).getD j 0∧(s.read.getD i []).getD j 0≤3):∀y∈cyN c L n s inp,0≤y∧y≤3:=fun y hy=>by
 obtain⟨i,hi,rfl⟩:=List.mem_iff_getElem.1 hy
 have hN:=cyN_net V s inp
 have hin:i<c.nodes.length:=by rw[←hN.1];exact hi
 have h:=hN.2 i hin
 have e:lat (cyN c L n s inp) i=(cyN c L n s inp)[i]:=by
  unfold lat
  rw[Int.toNat_natCast,List.getD_eq_getElem?_getD,List.getElem?_eq_getElem hi];rfl
 rw[←e,h]
 split
 ·unfold gateV;exact evalL_in _ _
 ·rw[lat_baseM hin]
  split
  ·unfold memV;exact vr _ _
  ·unfold lat
   refine getD_le ?_ (by decide) (by decide)
   unfold cyB
   exact asg_in vd (asg_in vi fun y hy=>by
    obtain⟨-,rfl⟩:=List.mem_replicate.1 hy
    exact⟨by decide,by decide⟩)
theorem valL_nn{l:List Int}(h:∀x∈l,x=0∨x=1):0≤valL l:=by
 unfold valL
 split
 ·split
  ·decide
  ·rename_i hne
   obtain⟨a,t,rfl⟩:=List.exists_cons_of_ne_nil hne
   show (0:Int)≤a
   rcases h a List.mem_cons_self with e|e<;>omega
 ·decide
theorem stW_nn(ws:List (List Int))(ad dt:List Int)(en:Int)(j:Nat):∀y∈stW ws ad dt en j,0≤y:=fun y hy=>by
 obtain⟨b,hb,rfl⟩:=List.mem_iff_getElem.1 hy
 have h:=store_ref ws ad dt en j b (by rw[stW_len]at hb;exact hb)
 rw[List.getD_eq_getElem?_getD,List.getElem?_eq_getElem hb]at h
 have e:(stW ws ad dt en j)[b]=valL (refS (ws.getD j []) j ad dt en b):=h
 rw[e]
 exact valL_nn fun x hx=>refS_01 _ _ _ _ _ _ x hx
theorem nxL_at{ms:List Mm}{ws:List (List (List Int))}{nets:List Int}{k m i:Nat}(hi:i<m):(nxL ms ws nets k m).getD i []=nxW ms ws nets k i:=getD_range_map _ _ _ _ hi
theorem Cm.observe{c:Ck}{L:List Int}{n n1 m n3 ni ns:Nat}{A0 A1 A2 A3:Option Addr}{c0 c1 c2 c3 q:Nat}{W:World}(H:Cm c n n1 m n3 A0 A1 A2 A3 c0 c1 c2 c3 q W)(S:Cmt c L n n1 m n3 ni ns){nets:List Int}{An:Option Addr}{nn cn:Nat}(hs:Ks W W.heap.size (.slice An nn cn) nets)(hn:∀y∈nets,0≤y∧y≤3)(ho:c.outs.length≤1000000):
 Calls Tryz.prog 11 #[.agg #[.slice A0 n c0,.slice A1 n1 c1,.slice A2 m c2,.slice A3 n3 c3],.slice An nn cn] W fun e w'=>(∃D E d f,e=.returned (.agg #[.slice D n3 d,.slice E ns f])∧Ks w' w'.heap.size (.slice D n3 d) (outV c nets)∧Ks w' w'.heap.size (.slice E ns f) (nextV c nets))∧BelW W w':=by
 have h1:=rob_any c nets (fun x hx=>(hn x hx).1) A0 A1 A2 A3 An c0 c1 c2 c3 nn cn W W.heap.size (Nat.le_refl _) (by rw[S.len,S.h1,S.h2,S.h3];exact H.cir) hs (by rw[S.len];have:=S.few;omega) ho
 have e1:(outV c nets).length=n3:=by rw[←S.h3];exact List.length_map _
 have e2:(nextV c nets).length=ns:=by rw[←S.hs,←S.len];exact List.length_map _
 rw[S.len,S.h1,S.h2,S.h3,e1,e2]at h1
 exact h1
set_option maxRecDepth 100000 in
set_option maxHeartbeats 16000000 in
theorem mcyc_law(x:Cx)(hx:Cok x)(sG sA:Value)(ly lyi lys:List Int)(Ay Ayi Ays:Option Addr)(my myi mys cy cyi cys:Nat)(w:World)(hT:Lg.Tabs w)(hG:Gs w w.heap.size sG x.gates)(hA:Ks w w.heap.size sA x.outs)
 (ky:Ks w w.heap.size (.slice Ay my cy) ly) (kyi:Ks w w.heap.size (.slice Ayi myi cyi) lyi) (kys:Ks w w.heap.size (.slice Ays mys cys) lys) (vy:∀y∈ly,0≤y∧y≤255) (vyi:∀y∈lyi,0≤y∧y≤255) (vys:∀y∈lys,0≤y∧y≤255):
 Calls Tryz.prog 3 #[.agg #[.int .u8 x.inN,.int .u8 x.dffs,.int .u8 x.d0,.int .u8 x.d1,.bool x.bus,.bool x.mem,.int .u8 x.p0,.int .u8 x.p1,.int .u8 x.p2,.int .u8 x.p3,sG,sA],.agg #[.slice Ay my cy,.slice Ayi myi cyi,.slice Ays mys cys]] w fun e w'=>e=.returned (.bool true)∧Below w.heap.size w w':=by
 obtain⟨c,HC⟩:=named (ofC x)
 obtain⟨n,HN⟩:=named c.nodes.length
 obtain⟨m,HM⟩:=named c.mems.length
 obtain⟨W1,HW1⟩:=named ((w.alloc (.cells #[.int .u8 x.inN,.int .u8 x.dffs,.int .u8 x.d0,.int .u8 x.d1,.bool x.bus,.bool x.mem,.int .u8 x.p0,.int .u8 x.p1,.int .u8 x.p2,.int .u8 x.p3,sG,sA] 27)).alloc (.cells #[.slice Ay my cy,.slice Ayi myi cyi,.slice Ays mys cys] 33))
 have hb1:BelW w W1:=by rw[HW1.out];exact below_new (below_new (Below.refl _ _) _) _
 have hf0:Fr W1 w.heap.size 27 (#[.int .u8 x.inN,.int .u8 x.dffs,.int .u8 x.d0,.int .u8 x.d1,.bool x.bus,.bool x.mem,.int .u8 x.p0,.int .u8 x.p1,.int .u8 x.p2,.int .u8 x.p3,sG,sA]).toList:=by rw[HW1.out];exact Fr.alloc (Fr.made _ _ _ (by simp)) _
 have hf1:Fr W1 (w.heap.size+1) 33 (#[.slice Ay my cy,.slice Ayi myi cyi,.slice Ays mys cys]).toList:=by rw[HW1.out];exact Fr.made _ _ _ (by simp)
 have HOF:=Lib.hid (ofc_m x hx sG sA w W1 hb1 hG hA HC.out HN.out HM.out)
 have HXX:=Lib.hid hx
 have HT1:=Lib.hid (hT.below hb1)
 have HB1:=Lib.hid hb1
 have HGX:=Lib.hid hG
 have HAX:=Lib.hid hA
 have HKP:Hid (∀ {v l W},BelW W1 W→Ks w w.heap.size v l→Ks W W.heap.size v l):=Lib.hid fun h hk=>Arr.keep stays_u8 hk (joinB HB1.out h).size fun _ hp=>(joinB HB1.out h).cell hp
 have HKy:=Lib.hid (And.intro ky (And.intro kyi kys))
 have HVy:=Lib.hid (And.intro vy (And.intro vyi vys))
 have HF0:=Lib.hid hf0
 have HF1:=Lib.hid hf1
 clear hT hG hA hx hb1 hf0 hf1 ky kyi kys vy vyi vys
 go_enter Tryz.func3,Tryz.ntmps3
 go_upto_region 1 with (fail)
 rw[←HW1.out]
 have x0:=HF0.out.cell 0
 have x1:=HF0.out.cell 1
 have x2:=HF0.out.cell 2
 have x3:=HF0.out.cell 3
 have x4:=HF0.out.cell 4
 have x5:=HF0.out.cell 5
 have x6:=HF0.out.cell 6
 have x7:=HF0.out.cell 7
 have x8:=HF0.out.cell 8
 have x9:=HF0.out.cell 9
 have x10:=HF0.out.cell 10
 have x11:=HF0.out.cell 11
 go_upto_region 2 with (go_at_call 7;(with_reducible refine HOF.out.mono ?_);rintro e w2 ⟨⟨A0,A1,A2,A3,n1,n3,c0,c1,c2,c3,rfl,hc,hn1,hn3⟩,hb⟩;have HCC:=Lib.hid hc;have HB2:=Lib.hid hb;have HN1:=Lib.hid hn1;have HN3:=Lib.hid hn3;clear hc hb hn1 hn3)
 clear x0 x1 x2 x3 x4 x5 x6 x7 x8 x9 x10 x11
 obtain⟨V2,HV2⟩:=named (w2.alloc (.cells #[.slice A0 n c0,.slice A1 n1 c1,.slice A2 m c2,.slice A3 n3 c3] 39))
 have hn2:BelW w2 V2:=by rw[HV2.out];exact below_new (Below.refl _ _) _
 have hfc2:Fr V2 w2.heap.size 39 (#[.slice A0 n c0,.slice A1 n1 c1,.slice A2 m c2,.slice A3 n3 c3]).toList:=by rw[HV2.out];exact Fr.made _ _ _ rfl
 have hb2:BelW W1 V2:=joinB HB2.out hn2
 obtain⟨qc,HQC⟩:=named w2.heap.size
 rw[←HQC.out]at hfc2
 rw[←HV2.out,←HQC.out]
 have hcs2:Cm c n n1 m n3 A0 A1 A2 A3 c0 c1 c2 c3 qc V2:=⟨HT1.out.below hb2,(HCC.out.below hn2).more (Below.size hn2),hfc2⟩
 have HCS:=Lib.hid (fun W (h:BelW V2 W)=>hcs2.next h)
 have HCE:=Lib.hid (fun W (h:BelW V2 W)=>(hcs2.next h).cells)
 have HB2V:=Lib.hid hb2
 obtain⟨ni,HNI⟩:=named (ofTo c.nodes [0] n).length
 obtain⟨ns,HNS⟩:=named (ofTo c.nodes [14] n).length
 obtain⟨L,hst⟩:=cmt_of x HXX.out HC.out HN.out HN1.out HM.out HN3.out HNI.out HNS.out
 have HST:=Lib.hid hst
 have hfew:n<20:=hst.few
 have hniB:ni≤n:=hst.niB
 have hnsB:ns≤n:=hst.nsB
 have hm1:m≤1:=hst.m1
 have hpos:0<n:=by rw[HN.out];exact ofC_pos x HC.out
 have HP7:Hid (∀k,k<c.nodes.length→(c.nodes.getD k default).ins.length≤7):=Lib.hid fun k hk=>by
  have h:=HC.out
  subst h
  have:=ofC_pins x hk
  omega
 have HO4:Hid (c.outs.length≤1000000):=Lib.hid (by
  have:=ofC_outs4 x
  rw[←HC.out]at this
  omega)
 have HFy:Hid (∀W,BelW V2 W→Fr W (w.heap.size+1) 33 (#[.slice Ay my cy,.slice Ayi myi cyi,.slice Ays mys cys]).toList):=Lib.hid fun W h=>HF1.out.below (joinB HB2V.out h)
 have HFx:Hid (∀W,BelW V2 W→Fr W w.heap.size 27 (#[.int .u8 x.inN,.int .u8 x.dffs,.int .u8 x.d0,.int .u8 x.d1,.bool x.bus,.bool x.mem,.int .u8 x.p0,.int .u8 x.p1,.int .u8 x.p2,.int .u8 x.p3,sG,sA]).toList):=Lib.hid fun W h=>HF0.out.below (joinB HB2V.out h)
 have HSy:Hid (∀W,BelW V2 W→Calls Tryz.prog 8 #[.agg #[.slice Ay my cy,.slice Ayi myi cyi,.slice Ays mys cys],.agg #[.slice A0 n c0,.slice A1 n1 c1,.slice A2 m c2,.slice A3 n3 c3]] W fun e w'=>∃A7 c7 Aa1 ca1 Aa2 ca2 AI cI,e=.returned (.tuple #[.agg #[.slice A7 ns c7,.slice Aa1 m ca1,.slice Aa2 m ca2],.slice AI ni cI])∧OwnS w' W.heap.size A7 Aa1 Aa2 ns m m c7 ca1 ca2 (sofS c ns m ly)∧VStk w' W.heap.size (.slice AI ni cI) (takL lyi 4 ni)∧BelW W w'):=Lib.hid fun W h=>
  step9_any (HCS.out W h) HST.out (HKP.out (joinB HB2V.out h) HKy.out.1) (HKP.out (joinB HB2V.out h) HKy.out.2.1) (HKP.out (joinB HB2V.out h) HKy.out.2.2) HVy.out.1 HVy.out.2.1 HVy.out.2.2
 have HOF2:Hid (∀W,BelW V2 W→Calls Tryz.prog 7 #[.agg #[.int .u8 x.inN,.int .u8 x.dffs,.int .u8 x.d0,.int .u8 x.d1,.bool x.bus,.bool x.mem,.int .u8 x.p0,.int .u8 x.p1,.int .u8 x.p2,.int .u8 x.p3,sG,sA]] W fun e w'=>(∃A0 A1 A2 A3 n1 n3 c0 c1 c2 c3,e=.returned (.agg #[.slice A0 n c0,.slice A1 n1 c1,.slice A2 m c2,.slice A3 n3 c3])∧Cir w' w'.heap.size (.agg #[.slice A0 n c0,.slice A1 n1 c1,.slice A2 m c2,.slice A3 n3 c3]) c∧n1=c.names.length∧n3=c.outs.length)∧BelW W w'):=Lib.hid fun W h=>ofc_m x HXX.out sG sA w W (joinB HB1.out (joinB HB2V.out h)) HGX.out HAX.out HC.out HN.out HM.out
 clear hn2 hfc2 hb2 hcs2 hst HV2 HQC HCC HB2 HW1
 obtain⟨x0,x1,x2,x3⟩:=HCE.out V2 (Below.refl _ _)
 have y0:=(HFy.out V2 (Below.refl _ _)).cell 0
 have y1:=(HFy.out V2 (Below.refl _ _)).cell 1
 have y2:=(HFy.out V2 (Below.refl _ _)).cell 2
 have HC1:=Lib.hid (HSy.out V2 (Below.refl _ _))
 go_upto_region 3 with (go_at_call 8;(with_reducible refine HC1.out.mono ?_);rintro e w3 ⟨S0,s0,S1,s1,S2,s2,AI,cI,rfl,ho,hv,hb⟩;have HO3:=Lib.hid ho;have HI3:=Lib.hid hv;have HB3:=Lib.hid hb;clear ho hv hb)
 obtain⟨V3,HV3⟩:=named (w3.alloc (.cells #[.slice S0 ns s0,.slice S1 m s1,.slice S2 m s2] 45))
 have hn3:BelW w3 V3:=by rw[HV3.out];exact below_new (Below.refl _ _) _
 have hf3:Fr V3 w3.heap.size 45 [.slice S0 ns s0,.slice S1 m s1,.slice S2 m s2]:=by rw[HV3.out];exact Fr.made _ [.slice S0 ns s0,.slice S1 m s1,.slice S2 m s2] _ rfl
 obtain⟨q3,HQ3⟩:=named w3.heap.size
 rw[←HQ3.out]at hf3
 rw[←HV3.out,←HQ3.out]
 have hb23:BelW V2 V3:=joinB HB3.out hn3
 obtain⟨ss,HSS⟩:=named (sofS c ns m ly)
 obtain⟨inp,HIP⟩:=named (takL lyi 4 ni)
 have hss:=sofS_in HVy.out.1 c ns m
 rw[←HSS.out]at HO3 hss
 rw[←HIP.out]at HI3
 have HSI:=Lib.hid hss
 have hil:inp.length=ni:=by rw[HIP.out,takL_len]
 have HIL:=Lib.hid hil
 have HSTR:Hid (∀W,BelW V3 W→StR W W.heap.size S0 S1 S2 ns m m s0 s1 s2 ss):=Lib.hid fun W h=>(HO3.out.below (joinB hn3 h)).str
 have HINV:Hid (∀W,BelW V3 W→VStk W V2.heap.size (.slice AI ni cI) inp):=Lib.hid fun W h=>HI3.out.below (joinB hn3 h)
 have HF3:Hid (∀W,BelW V3 W→Fr W q3 45 [.slice S0 ns s0,.slice S1 m s1,.slice S2 m s2]):=Lib.hid fun W h=>hf3.below h
 have HB23:=Lib.hid hb23
 have HFS:Hid (FitS c ns m ss):=Lib.hid (by rw[HSS.out];exact sofS_fits _ _ _ _)
 have HIV:Hid (∀y∈inp,0≤y∧y≤3):=Lib.hid (by rw[HIP.out];exact takL_in4 HVy.out.2.1 ni)
 clear x0 x1 x2 x3 y0 y1 y2 hn3 hf3 hil hss
 obtain⟨x0,x1,x2,x3⟩:=HCE.out V3 hb23
 have hf3:=HF3.out V3 (Below.refl _ _)
 have y0:=hf3.cell 0
 have y1:=hf3.cell 1
 have y2:=hf3.cell 2
 obtain⟨nt1,HNT⟩:=named (cyN c L n ss inp)
 have HY6:=Lib.hid ((HCS.out V3 hb23).cycle HST.out (HSTR.out V3 (Below.refl _ _)) (HINV.out V3 (Below.refl _ _)).ks HFS.out HIL.out HIV.out)
 rw[←HNT.out]at HY6
 have HNV:Hid (∀y∈nt1,0≤y∧y≤3):=Lib.hid (by rw[HNT.out];exact cyN_in HST.out.vld HIV.out HSI.out.1 HSI.out.2)
 have HNLN:Hid (nt1.length=n):=Lib.hid (by rw[HNT.out];exact cyN_len _ _ _ _ _)
 clear hf3 hb23
 go_upto_region 4 with (go_at_call 9;(with_reducible refine HY6.out.mono ?_);rintro e w7 ⟨aB,aD,aE,go1,gn1,gw1,rfl,r1,r2,r3,r4,hb⟩;have HR7:=Lib.hid (And.intro r1 (And.intro r2 (And.intro r3 r4)));have HB7:Hid (BelW V3 w7):=Lib.hid hb;clear r1 r2 r3 r4 hb)
 clear x0 x1 x2 x3 y0 y1 y2
 obtain⟨V7,HV7⟩:=named ((w7.alloc (.cells #[.slice (some ⟨aB,0,none⟩) ns ns,.slice (some ⟨aD,0,none⟩) m m,.slice (some ⟨aE,0,none⟩) m m] 45)).alloc (.cells #[.slice (some ⟨go1,0,none⟩) n3 n3,.slice (some ⟨gn1,0,none⟩) ns ns] 49))
 have hn7:BelW w7 V7:=by rw[HV7.out];exact below_new (below_new (Below.refl _ _) _) _
 have hf7:Fr V7 w7.heap.size 45 [.slice (some ⟨aB,0,none⟩) ns ns,.slice (some ⟨aD,0,none⟩) m m,.slice (some ⟨aE,0,none⟩) m m]:=by rw[HV7.out];exact Fr.alloc (Fr.made _ [.slice (some ⟨aB,0,none⟩) ns ns,.slice (some ⟨aD,0,none⟩) m m,.slice (some ⟨aE,0,none⟩) m m] _ rfl) _
 have hf7r:Fr V7 (w7.heap.size+1) 49 [.slice (some ⟨go1,0,none⟩) n3 n3,.slice (some ⟨gn1,0,none⟩) ns ns]:=by rw[HV7.out];exact Fr.made _ [.slice (some ⟨go1,0,none⟩) n3 n3,.slice (some ⟨gn1,0,none⟩) ns ns] _ (by simp)
 obtain⟨q7,HQ7⟩:=named w7.heap.size
 rw[←HQ7.out]at hf7 hf7r
 rw[←HV7.out,←HQ7.out]
 have hb37:BelW V3 V7:=joinB HB7.out hn7
 have HB37:=Lib.hid hb37
 have HB27:Hid (BelW V2 V7):=Lib.hid (joinB HB23.out hb37)
 have HA7:Hid (∀W,BelW V7 W→StR W W.heap.size (some ⟨aB,0,none⟩) (some ⟨aD,0,none⟩) (some ⟨aE,0,none⟩) ns m m ns m m (nxtS c ns m ss nt1)):=Lib.hid fun W h=>HR7.out.2.2.2.keep (Nat.le_refl _) (joinB hn7 h) (Below.size (joinB hn7 h))
 have HW7:Hid (∀W,BelW V7 W→VRow W gw1 nt1∧VRow W go1 (outV c nt1)∧VRow W gn1 (nextV c nt1)):=Lib.hid fun W h=>⟨HR7.out.1.below (joinB hn7 h),HR7.out.2.1.below (joinB hn7 h),HR7.out.2.2.1.below (joinB hn7 h)⟩
 have HF7:Hid (∀W,BelW V7 W→Fr W q7 45 [.slice (some ⟨aB,0,none⟩) ns ns,.slice (some ⟨aD,0,none⟩) m m,.slice (some ⟨aE,0,none⟩) m m]∧Fr W (q7+1) 49 [.slice (some ⟨go1,0,none⟩) n3 n3,.slice (some ⟨gn1,0,none⟩) ns ns]):=Lib.hid fun W h=>⟨hf7.below h,hf7r.below h⟩
 clear hn7 hf7 hf7r
 obtain⟨x0,x1,x2,x3⟩:=HCE.out V7 HB27.out
 have hf3:=HF3.out V7 hb37
 have y0:=hf3.cell 0
 have y1:=hf3.cell 1
 have y2:=hf3.cell 2
 have HNE:=Lib.hid (rnets_any V7 (HCS.out V7 HB27.out) HST.out HFS.out (HSTR.out V7 hb37).sd (HSTR.out V7 hb37).sr (HINV.out V7 hb37).ks HIL.out HIV.out HSI.out.1 HSI.out.2 hpos HP7.out)
 rw[←HNT.out]at HNE
 clear hf3 hb37
 go_upto_region 5 with (go_at_call 10;(with_reducible refine HNE.out.mono ?_);rintro e w8 ⟨gN,dN,rfl,hv,hb⟩;have HV8:=Lib.hid hv;have HB8:Hid (BelW V7 w8):=Lib.hid hb;clear hv hb)
 clear x0 x1 x2 x3 y0 y1 y2
 have HB28:Hid (BelW V2 w8):=Lib.hid (joinB HB27.out HB8.out)
 obtain⟨x0,x1,x2,x3⟩:=HCE.out w8 HB28.out
 have HOB:=Lib.hid ((HCS.out w8 HB28.out).observe HST.out HV8.out.ks HNV.out HO4.out)
 go_upto_region 6 with (go_at_call 11;(with_reducible refine HOB.out.mono ?_);rintro e w9 ⟨⟨D,E,d9,e9,rfl,hk1,hk2⟩,hb⟩;have HK9:=Lib.hid (And.intro hk1 hk2);have HB9:Hid (BelW w8 w9):=Lib.hid hb;clear hk1 hk2 hb)
 clear x0 x1 x2 x3
 obtain⟨V9,HV9⟩:=named (w9.alloc (.cells #[.slice D n3 d9,.slice E ns e9] 49))
 have hn9:BelW w9 V9:=by rw[HV9.out];exact below_new (Below.refl _ _) _
 have hf9:Fr V9 w9.heap.size 49 [.slice D n3 d9,.slice E ns e9]:=by rw[HV9.out];exact Fr.made _ [.slice D n3 d9,.slice E ns e9] _ rfl
 obtain⟨q9,HQ9⟩:=named w9.heap.size
 rw[←HQ9.out]at hf9
 rw[←HV9.out,←HQ9.out]
 have hb89:BelW w8 V9:=joinB HB9.out hn9
 have HB89:=Lib.hid hb89
 have HB79:Hid (BelW V7 V9):=Lib.hid (joinB HB8.out hb89)
 have HB39:Hid (BelW V3 V9):=Lib.hid (joinB HB37.out HB79.out)
 have HB29:Hid (BelW V2 V9):=Lib.hid (joinB HB28.out hb89)
 have HNK:Hid (∀W,BelW V9 W→Ks W W.heap.size (.slice (some ⟨gN,0,none⟩) n dN) nt1):=Lib.hid fun W h=>(HV8.out.below (joinB hb89 h)).ks
 have HRK:Hid (∀W,BelW V9 W→Ks W W.heap.size (.slice D n3 d9) (outV c nt1)∧Ks W W.heap.size (.slice E ns e9) (nextV c nt1)):=Lib.hid fun W h=>⟨Arr.keep stays_u8 HK9.out.1 (Below.size (joinB hn9 h)) fun _ hp=>Below.cell (joinB hn9 h) hp,Arr.keep stays_u8 HK9.out.2 (Below.size (joinB hn9 h)) fun _ hp=>Below.cell (joinB hn9 h) hp⟩
 have HF9:Hid (∀W,BelW V9 W→Fr W q9 49 [.slice D n3 d9,.slice E ns e9]):=Lib.hid fun W h=>hf9.below h
 clear hn9 hf9 hb89
 have hnb:bitsL (nextV c nt1) ns=nextV c nt1:=bitsL_next c nt1 (by rw[HNS.out,HN.out];exact List.length_map _)
 have HQN:Hid (∀W,BelW V9 W→Calls Tryz.prog 12 #[.slice (some ⟨gw1,0,none⟩) n n,.slice (some ⟨gN,0,none⟩) n dN] W fun e w'=>e=.returned (.int .i64 0)∧BelW W w'):=Lib.hid fun W h=>by
  have h1:=(HW7.out W (joinB HB79.out h)).1.ks
  rw[HNLN.out]at h1
  have h2:=same6_any nt1 nt1 n n _ _ _ _ W W.heap.size W.heap.size h1 (HNK.out W h)
  rw[if_pos rfl]at h2
  exact h2
 have HQ1:Hid (∀W,BelW V9 W→Calls Tryz.prog 12 #[.slice (some ⟨go1,0,none⟩) n3 n3,.slice D n3 d9] W fun e w'=>e=.returned (.int .i64 0)∧BelW W w'):=Lib.hid fun W h=>by
  have h1:=(HW7.out W (joinB HB79.out h)).2.1.ks
  have e1:(outV c nt1).length=n3:=by rw[HN3.out];exact List.length_map _
  rw[e1]at h1
  have h2:=same6_any _ _ n3 n3 _ _ _ _ W W.heap.size W.heap.size h1 (HRK.out W h).1
  rw[if_pos rfl]at h2
  exact h2
 have HQ2:Hid (∀W,BelW V9 W→Calls Tryz.prog 12 #[.slice (some ⟨gn1,0,none⟩) ns ns,.slice E ns e9] W fun e w'=>e=.returned (.int .i64 0)∧BelW W w'):=Lib.hid fun W h=>by
  have h1:=(HW7.out W (joinB HB79.out h)).2.2.ks
  have e1:(nextV c nt1).length=ns:=by rw[HNS.out,HN.out];exact List.length_map _
  rw[e1]at h1
  have h2:=same6_any _ _ ns ns _ _ _ _ W W.heap.size W.heap.size h1 (HRK.out W h).2
  rw[if_pos rfl]at h2
  exact h2
 have HQ3:Hid (∀W,BelW V9 W→Calls Tryz.prog 12 #[.slice (some ⟨aB,0,none⟩) ns ns,.slice E ns e9] W fun e w'=>e=.returned (.int .i64 0)∧BelW W w'):=Lib.hid fun W h=>by
  have h1:Ks W W.heap.size (.slice (some ⟨aB,0,none⟩) ns ns) (bitsL (nextV c nt1) ns):=(HA7.out W (joinB HB79.out h)).sd
  rw[hnb]at h1
  have h2:=same6_any _ _ ns ns _ _ _ _ W W.heap.size W.heap.size h1 (HRK.out W h).2
  rw[if_pos rfl]at h2
  exact h2
 clear hnb
 have ga0:∀xx:Beh V9,xx.x.cell? ⟨q7,0,none⟩=some (.slice (some ⟨aB,0,none⟩) ns ns):=fun xx=>((HF7.out xx.x (joinB HB79.out xx.below)).1).cell 0
 have ga1:∀xx:Beh V9,xx.x.cell? ⟨q7,1,none⟩=some (.slice (some ⟨aD,0,none⟩) m m):=fun xx=>((HF7.out xx.x (joinB HB79.out xx.below)).1).cell 1
 have ga2:∀xx:Beh V9,xx.x.cell? ⟨q7,2,none⟩=some (.slice (some ⟨aE,0,none⟩) m m):=fun xx=>((HF7.out xx.x (joinB HB79.out xx.below)).1).cell 2
 have gb0:∀xx:Beh V9,xx.x.cell? ⟨q7+1,0,none⟩=some (.slice (some ⟨go1,0,none⟩) n3 n3):=fun xx=>((HF7.out xx.x (joinB HB79.out xx.below)).2).cell 0
 have gb1:∀xx:Beh V9,xx.x.cell? ⟨q7+1,1,none⟩=some (.slice (some ⟨gn1,0,none⟩) ns ns):=fun xx=>((HF7.out xx.x (joinB HB79.out xx.below)).2).cell 1
 have gc0:∀xx:Beh V9,xx.x.cell? ⟨q9,0,none⟩=some (.slice D n3 d9):=fun xx=>(HF9.out xx.x xx.below).cell 0
 have gc1:∀xx:Beh V9,xx.x.cell? ⟨q9,1,none⟩=some (.slice E ns e9):=fun xx=>(HF9.out xx.x xx.below).cell 1
 have gd2:∀xx:Beh V9,xx.x.cell? ⟨qc,2,none⟩=some (.slice A2 m c2):=fun xx=>(HCE.out xx.x (joinB HB29.out xx.below)).2.2.1
 have HP0:Hid (∀xx:Beh V9,Calls Tryz.prog 12 #[.slice (some ⟨gw1,0,none⟩) n n,.slice (some ⟨gN,0,none⟩) n dN] xx.x fun e w'=>e=.returned (.int .i64 0)∧Below V9.heap.size V9 w'):=Lib.hid fun xx=>(HQN.out xx.x xx.below).mono fun _ _ ⟨he,hb⟩=>⟨he,joinB xx.below hb⟩
 have HP1:Hid (∀xx:Beh V9,Calls Tryz.prog 12 #[.slice (some ⟨go1,0,none⟩) n3 n3,.slice D n3 d9] xx.x fun e w'=>e=.returned (.int .i64 0)∧Below V9.heap.size V9 w'):=Lib.hid fun xx=>(HQ1.out xx.x xx.below).mono fun _ _ ⟨he,hb⟩=>⟨he,joinB xx.below hb⟩
 have HP2:Hid (∀xx:Beh V9,Calls Tryz.prog 12 #[.slice (some ⟨gn1,0,none⟩) ns ns,.slice E ns e9] xx.x fun e w'=>e=.returned (.int .i64 0)∧Below V9.heap.size V9 w'):=Lib.hid fun xx=>(HQ2.out xx.x xx.below).mono fun _ _ ⟨he,hb⟩=>⟨he,joinB xx.below hb⟩
 have HP3:Hid (∀xx:Beh V9,Calls Tryz.prog 12 #[.slice (some ⟨aB,0,none⟩) ns ns,.slice E ns e9] xx.x fun e w'=>e=.returned (.int .i64 0)∧Below V9.heap.size V9 w'):=Lib.hid fun xx=>(HQ3.out xx.x xx.below).mono fun _ _ ⟨he,hb⟩=>⟨he,joinB xx.below hb⟩
 go_upto_region 6 with (fail)
 refine region_class (w0:=V9) (Below.refl _ _) (by kernel_rfl) (by kernel_rfl) ?_
 repeat (first
  |go_big_quiet_skip
  |(go_big_quiet_want;go_big_quiet_op;first
   |go_big_quiet_on
   |(apply Exists.intro
     refine⟨fun xx=>?_,?_⟩
     focus first
      |(go_at_call 12;with_reducible exact beh_of (HP0.out xx))
      |(go_at_call 12;with_reducible exact beh_of (HP1.out xx))
      |(go_at_call 12;with_reducible exact beh_of (HP2.out xx))
      |(go_at_call 12;with_reducible exact beh_of (HP3.out xx))
     go_big_quiet_on)))
 refine wpQuiet_nil ?_
 rintro wz ⟨⟨wz',hz⟩,rfl⟩
 have HBZ:Hid (BelW V9 wz):=Lib.hid hz
 clear ga0 ga1 ga2 gb0 gb1 gc0 gc1 gd2 HP0 HP1 HP2 HP3 hz
 go_wp2
 have HMS:Hid (∀k,k<m→∃b1 o1 Aw mw cw nd,S1=some ⟨b1,o1,none⟩∧nd=(c.mems.getD k default).data.length∧nd≤1000∧mw≤1000∧(nxtS c ns m ss nt1).words.getD k []=nxL c.mems ss.words nt1 k mw∧(nxtS c ns m ss nt1).read.getD k []=nxR c.mems ss.words nt1 k∧(nxR c.mems ss.words nt1 k).length=nd∧(∀W,BelW V3 W→W.cell? ⟨b1,o1+k,none⟩=some (.slice Aw mw cw)∧Wrds W W.heap.size (.slice Aw mw cw) (ss.words.getD k []))∧mw=(ss.words.getD k []).length∧(∀i,i<mw→(nxW c.mems ss.words nt1 k i).length≤1000∧∀y∈nxW c.mems ss.words nt1 k i,0≤y)):=Lib.hid fun k hk=>by
  obtain⟨p1,p2⟩:=HST.out.port k hk
  obtain⟨f1,f2⟩:=HFS.out.wk k hk
  have hbl:blN c.mems k=2:=by
   have e1:blN c.mems k=2^(c.mems.getD k default).addr.length:=rfl
   rw[e1,p1]
  obtain⟨b1,o1,Aw,cw,hA,hb,hc1,hW⟩:=(HSTR.out V3 (Below.refl _ _)).sw.at9 hk
  refine⟨b1,o1,Aw,(ss.words.getD k []).length,cw,(c.mems.getD k default).data.length,hA,rfl,by omega,by omega,getD_range_map _ _ _ _ hk,getD_range_map _ _ _ _ hk,?_,fun W h=>⟨(h.cell (p:=⟨b1,_,none⟩) hb).trans hc1,Arr.keep stays_wds hW (Below.size h) fun _ hp=>Below.cell h hp⟩,rfl,fun i hi=>?_⟩
  ·show (lkS _ _ _ _).2.length=_
   rw[lkS_len]
   exact (f2 0 (by omega)).1
  ·refine⟨?_,fun y hy=>stW_nn _ _ _ _ _ y hy⟩
   show (stW _ _ _ _ _).length≤1000
   rw[stW_len,(f2 i (by omega)).1]
   omega
 go_loopw [14] (fun ov wr=>∃k:Nat,k≤m∧ov=.int .i64 k∧BelW V9 wr) (fun ov _=>m-(intOf ov).toNat)
 case atStart=>exact⟨0,Nat.zero_le _,rfl,HBZ.out⟩
 case round=>
  clear HBZ
  obtain⟨k,hk,rfl,hbv⟩:=hrel
  have HBV:=Lib.hid hbv
  obtain⟨x0,x1,x2,x3⟩:=HCE.out wr (joinB HB29.out hbv)
  by_cases hlt:k<m
  ·have hlt2:(k:Int)<(m:Int):=by omega
   obtain⟨b1,o1,Aw,mw,cw,nd,rfl,hnd,hnd9,hmw9,ew,er,el,hcw,hml,hww⟩:=HMS.out k hlt
   have HNX:=Lib.hid (fun W (h:BelW V9 W)=>rnext_any W (HCS.out W (joinB HB29.out h)) HST.out HFS.out hlt (hcw W (joinB HB39.out h)).2 (HNK.out W h) HNLN.out hnd)
   have HCW:=Lib.hid (fun W (h:BelW V3 W)=>(hcw W h).1)
   have HEW:=Lib.hid (And.intro ew (And.intro er (And.intro el hww)))
   clear ew er el hcw hml hww hnd
   have HSC:Hid (∀W,BelW V9 W→W.cell? ⟨qc,0,none⟩=some (.slice A0 n c0)∧W.cell? ⟨qc,1,none⟩=some (.slice A1 n1 c1)∧W.cell? ⟨qc,2,none⟩=some (.slice A2 m c2)∧W.cell? ⟨qc,3,none⟩=some (.slice A3 n3 c3)∧W.cell? ⟨q3,1,none⟩=some (.slice (some ⟨b1,o1,none⟩) m s1)∧W.cell? ⟨b1,o1+k,none⟩=some (.slice Aw mw cw)):=Lib.hid fun W h=>by
    obtain⟨x0,x1,x2,x3⟩:=HCE.out W (joinB HB29.out h)
    exact⟨x0,x1,x2,x3,(HF3.out W (joinB HB39.out h)).cell 1,HCW.out W (joinB HB39.out h)⟩
   have HD:Hid (BelW wr wr.drew):=Lib.hid (BelW.drew (Below.refl _ _))
   have HT10:=Lib.hid (HNX.out wr.drew (joinB hbv HD.out))
   have HS0:=Lib.hid (HSC.out _ (joinB hbv HD.out))
   clear hbv
   go_upto_region 11 with (fail)
   clear x0 x1 x2 x3
   refine AnyX.start (S:=(fun w'=>w'.cell? ⟨qc,0,none⟩=some (.slice A0 n c0)∧w'.cell? ⟨qc,1,none⟩=some (.slice A1 n1 c1)∧w'.cell? ⟨qc,2,none⟩=some (.slice A2 m c2)∧w'.cell? ⟨qc,3,none⟩=some (.slice A3 n3 c3)∧w'.cell? ⟨q3,1,none⟩=some (.slice (some ⟨b1,o1,none⟩) m s1)∧w'.cell? ⟨b1,o1+k,none⟩=some (.slice Aw mw cw))) (t:=13) (by kernel_rfl) ?_
   refine AnyX.take (i:=0) (oi:=⟨some 98,_,_,_,_,_⟩) (v:=.agg #[.slice A0 n c0,.slice A1 n1 c1,.slice A2 m c2,.slice A3 n3 c3]) rfl rfl (by kernel_rfl) (by kernel_rfl) (by kernel_rfl) (by kernel_rfl) (fun _ _ _ h=>h) (Or.inl ⟨by rfl,?_⟩) HS0.out ?_
   ·intro w' hSw
    obtain⟨k1',k2',k3',k4',k5',k6'⟩:=hSw
    first|(go_simp;done)|(go_simp;with_reducible rfl)|(go_simp;intro hh;exfalso;omega)
   simp only[Act.put,List.setIfInBounds_toArray,List.set_cons_zero,List.set_cons_succ]
   refine AnyX.take (i:=1) (oi:=⟨some 99,_,_,_,_,_⟩) (v:=.int .i64 (k:Int)) rfl rfl (by kernel_rfl) (by kernel_rfl) (by kernel_rfl) (by kernel_rfl) (fun _ _ _ h=>h) (Or.inl ⟨by rfl,?_⟩) HS0.out ?_
   ·intro w' hSw
    obtain⟨k1',k2',k3',k4',k5',k6'⟩:=hSw
    first|(go_simp;done)|(go_simp;with_reducible rfl)|(go_simp;intro hh;exfalso;omega)
   simp only[Act.put,List.setIfInBounds_toArray,List.set_cons_zero,List.set_cons_succ]
   refine AnyX.take (i:=2) (oi:=⟨some 100,_,_,_,_,_⟩) (v:=.pointer (some ⟨q3,1,none⟩)) rfl rfl (by kernel_rfl) (by kernel_rfl) (by kernel_rfl) (by kernel_rfl) (fun _ _ _ h=>h) (Or.inl ⟨by rfl,?_⟩) HS0.out ?_
   ·intro w' hSw
    obtain⟨k1',k2',k3',k4',k5',k6'⟩:=hSw
    first|(go_simp;done)|(go_simp;with_reducible rfl)|(go_simp;intro hh;exfalso;omega)
   simp only[Act.put,List.setIfInBounds_toArray,List.set_cons_zero,List.set_cons_succ]
   refine AnyX.take (i:=3) (oi:=⟨some 101,_,_,_,_,_⟩) (v:=.slice (some ⟨b1,o1,none⟩) m s1) rfl rfl (by kernel_rfl) (by kernel_rfl) (by kernel_rfl) (by kernel_rfl) (fun _ _ _ h=>h) (Or.inl ⟨by rfl,?_⟩) HS0.out ?_
   ·intro w' hSw
    obtain⟨k1',k2',k3',k4',k5',k6'⟩:=hSw
    first|(go_simp;done)|(go_simp;with_reducible rfl)|(go_simp;intro hh;exfalso;omega)
   simp only[Act.put,List.setIfInBounds_toArray,List.set_cons_zero,List.set_cons_succ]
   refine AnyX.take (i:=4) (oi:=⟨some 102,_,_,_,_,_⟩) (v:=.int .i64 (k:Int)) rfl rfl (by kernel_rfl) (by kernel_rfl) (by kernel_rfl) (by kernel_rfl) (fun _ _ _ h=>h) (Or.inl ⟨by rfl,?_⟩) HS0.out ?_
   ·intro w' hSw
    obtain⟨k1',k2',k3',k4',k5',k6'⟩:=hSw
    first|(go_simp;done)|(go_simp;with_reducible rfl)|(go_simp;intro hh;exfalso;omega)
   simp only[Act.put,List.setIfInBounds_toArray,List.set_cons_zero,List.set_cons_succ]
   refine AnyX.take (i:=5) (oi:=⟨some 103,_,_,_,_,_⟩) (v:=.pointer (some ⟨b1,o1+k,none⟩)) rfl rfl (by kernel_rfl) (by kernel_rfl) (by kernel_rfl) (by kernel_rfl) (fun _ _ _ h=>h) (Or.inl ⟨by rfl,?_⟩) HS0.out ?_
   ·intro w' hSw
    obtain⟨k1',k2',k3',k4',k5',k6'⟩:=hSw
    first|(go_simp;done)|(go_simp;with_reducible rfl)|(go_simp;intro hh;exfalso;omega)
   simp only[Act.put,List.setIfInBounds_toArray,List.set_cons_zero,List.set_cons_succ]
   refine AnyX.take (i:=6) (oi:=⟨some 104,_,_,_,_,_⟩) (v:=.slice Aw mw cw) rfl rfl (by kernel_rfl) (by kernel_rfl) (by kernel_rfl) (by kernel_rfl) (fun _ _ _ h=>h) (Or.inl ⟨by rfl,?_⟩) HS0.out ?_
   ·intro w' hSw
    obtain⟨k1',k2',k3',k4',k5',k6'⟩:=hSw
    first|(go_simp;done)|(go_simp;with_reducible rfl)|(go_simp;intro hh;exfalso;omega)
   simp only[Act.put,List.setIfInBounds_toArray,List.set_cons_zero,List.set_cons_succ]
   refine AnyX.take (i:=7) (oi:=⟨some 105,_,_,_,_,_⟩) (v:=.slice (some ⟨gN,0,none⟩) n dN) rfl rfl (by kernel_rfl) (by kernel_rfl) (by kernel_rfl) (by kernel_rfl) (fun _ _ _ h=>h) (Or.inl ⟨by rfl,?_⟩) HS0.out ?_
   ·intro w' hSw
    obtain⟨k1',k2',k3',k4',k5',k6'⟩:=hSw
    first|(go_simp;done)|(go_simp;with_reducible rfl)|(go_simp;intro hh;exfalso;omega)
   simp only[Act.put,List.setIfInBounds_toArray,List.set_cons_zero,List.set_cons_succ]
   refine AnyX.one (i:=8) (o:=⟨some 106,_,_,_,_,_⟩) (by kernel_rfl) rfl (fun K' hK=>?_)
   have HK:=Lib.hid hK
   clear hK
   go_simp
   go_at_call 13
   (with_reducible refine HT10.out.mono ?_)
   rintro e w5 ⟨A5,c5,A6,c6,rfl,hv5,hv6,hb5⟩
   have HB5:Hid (BelW wr w5):=Lib.hid (joinB HD.out hb5)
   have HV5:=Lib.hid (And.intro hv5 hv6)
   have hs6:=HSC.out _ (joinB HBV.out HB5.out)
   have HS6:=Lib.hid hs6
   clear hv5 hv6 hb5
   refine HK.out _ _ (fun _=>hs6) ?_
   clear HK
   (try simp only[Act.put,List.setIfInBounds_toArray,List.set_cons_zero,List.set_cons_succ])
   clear hs6
   refine AnyX.take (i:=9) (oi:=⟨some 97,_,_,_,_,_⟩) (v:=.tuple #[.slice A5 nd c5,.slice A6 mw c6]) rfl rfl (by kernel_rfl) (by kernel_rfl) (by kernel_rfl) (by kernel_rfl) (fun _ _ _ h=>h) (Or.inl ⟨by rfl,?_⟩) HS6.out ?_
   ·intro w' hSw
    obtain⟨k1',k2',k3',k4',k5',k6'⟩:=hSw
    first|(go_simp;done)|(go_simp;with_reducible rfl)|(go_simp;intro hh;exfalso;omega)
   simp only[Act.put,List.setIfInBounds_toArray,List.set_cons_zero,List.set_cons_succ]
   refine AnyX.take (i:=10) (oi:=⟨some 107,_,_,_,_,_⟩) (v:=.slice A5 nd c5) rfl rfl (by kernel_rfl) (by kernel_rfl) (by kernel_rfl) (by kernel_rfl) (fun _ _ _ h=>h) (Or.inl ⟨by rfl,?_⟩) HS6.out ?_
   ·intro w' hSw
    obtain⟨k1',k2',k3',k4',k5',k6'⟩:=hSw
    first|(go_simp;done)|(go_simp;with_reducible rfl)|(go_simp;intro hh;exfalso;omega)
   simp only[Act.put,List.setIfInBounds_toArray,List.set_cons_zero,List.set_cons_succ]
   refine AnyX.take (i:=11) (oi:=⟨some 108,_,_,_,_,_⟩) (v:=.slice A6 mw c6) rfl rfl (by kernel_rfl) (by kernel_rfl) (by kernel_rfl) (by kernel_rfl) (fun _ _ _ h=>h) (Or.inl ⟨by rfl,?_⟩) HS6.out ?_
   ·intro w' hSw
    obtain⟨k1',k2',k3',k4',k5',k6'⟩:=hSw
    first|(go_simp;done)|(go_simp;with_reducible rfl)|(go_simp;intro hh;exfalso;omega)
   simp only[Act.put,List.setIfInBounds_toArray,List.set_cons_zero,List.set_cons_succ]
   refine AnyX.take (i:=12) (oi:=⟨some 15,_,_,_,_,_⟩) (v:=.slice A5 nd c5) rfl rfl (by kernel_rfl) (by kernel_rfl) (by kernel_rfl) (by kernel_rfl) (fun _ _ _ h=>h) (Or.inl ⟨by rfl,?_⟩) HS6.out ?_
   ·intro w' hSw
    obtain⟨k1',k2',k3',k4',k5',k6'⟩:=hSw
    first|(go_simp;done)|(go_simp;with_reducible rfl)|(go_simp;intro hh;exfalso;omega)
   simp only[Act.put,List.setIfInBounds_toArray,List.set_cons_zero,List.set_cons_succ]
   refine AnyX.one (i:=13) (o:=⟨some 16,_,_,_,_,_⟩) (by kernel_rfl) rfl (fun K' hK=>?_)
   have HK:=Lib.hid hK
   clear hK
   go_simp
   refine HK.out _ _ (fun h=>absurd rfl h) ?_
   clear HK
   (try simp only[Act.put,List.setIfInBounds_toArray,List.set_cons_zero,List.set_cons_succ])
   refine AnyX.done (by kernel_rfl) ?_ _
   have HB95:Hid (BelW V9 w5):=Lib.hid (joinB HBV.out HB5.out)
   have HB75:Hid (BelW V7 w5):=Lib.hid (joinB HB79.out HB95.out)
   have hst7:=HA7.out w5 HB75.out
   obtain⟨bX,oX,Ar,cr,hA1,hbr,hcr,hkr⟩:=hst7.sr.at9 hlt
   obtain⟨bY,oY,As9,cs9,hA2,hbs,hcs,hks⟩:=hst7.sw.at9 hlt
   injection hA1 with hA1
   injection hA1 with e1 e2 e3
   subst e1 e2
   injection hA2 with hA2
   injection hA2 with e1 e2 e3
   subst e1 e2
   rw[HEW.out.2.1,HEW.out.2.2.1]at hcr
   rw[HEW.out.2.1,HEW.out.2.2.1]at hkr
   rw[HEW.out.1,nxL_len]at hcs
   rw[HEW.out.1,nxL_len]at hks
   rw[Nat.zero_add]at hcr hcs
   have HCR:Hid (∀W,BelW w5 W→W.cell? ⟨aE,k,none⟩=some (.slice Ar nd cr)∧W.cell? ⟨aD,k,none⟩=some (.slice As9 mw cs9)):=Lib.hid fun W h=>⟨(h.cell (p:=⟨aE,k,none⟩) hbr).trans hcr,(h.cell (p:=⟨aD,k,none⟩) hbs).trans hcs⟩
   have HF6:Hid (Calls Tryz.prog 12 #[.slice Ar nd cr,.slice A5 nd c5] w5 fun e w'=>e=.returned (.int .i64 0)∧BelW w5 w'):=Lib.hid (by
    have h2:=same6_any _ _ nd nd Ar A5 cr c5 w5 w5.heap.size w5.heap.size hkr HV5.out.1.ks
    rw[if_pos rfl]at h2
    exact h2)
   have HLW:Hid (∀i,i<mw→((nxL c.mems ss.words nt1 k mw).getD i []).length≤1000∧∀y∈(nxL c.mems ss.words nt1 k mw).getD i [],0≤y):=Lib.hid fun i hi=>by
    rw[nxL_at hi]
    exact HEW.out.2.2.2 i hi
   obtain⟨tx,HTX⟩:=named (txtW (nxL c.mems ss.words nt1 k mw) mw)
   have HTA:Hid (∀W,BelW w5 W→Calls Tryz.prog 14 #[.slice As9 mw cs9] W fun e w'=>e=.returned (.string tx)∧BelW W w'):=Lib.hid fun W h=>by
    rw[HTX.out]
    exact textw_any _ As9 mw cs9 W W.heap.size (Nat.le_refl _) (Arr.keep stays_wds hks (Below.size h) fun _ hp=>Below.cell h hp) hmw9 HLW.out fun k hk=>(HCS.out W (joinB HB29.out (joinB HB95.out h))).tabs.2.2 k hk
   have HTB:Hid (∀W,BelW w5 W→Calls Tryz.prog 14 #[.slice A6 mw c6] W fun e w'=>e=.returned (.string tx)∧BelW W w'):=Lib.hid fun W h=>by
    rw[HTX.out]
    have hw6:=(HV5.out.2.below h).wds
    exact textw_any _ A6 mw c6 W W.heap.size (Nat.le_refl _) hw6 hmw9 HLW.out fun k hk=>(HCS.out W (joinB HB29.out (joinB HB95.out h))).tabs.2.2 k hk
   have HFW:Hid (∀W,BelW w5 W→W.cell? ⟨q7,1,none⟩=some (.slice (some ⟨aD,0,none⟩) m m)∧W.cell? ⟨q7,2,none⟩=some (.slice (some ⟨aE,0,none⟩) m m)):=Lib.hid fun W h=>⟨(HF7.out W (joinB HB75.out h)).1.cell 1,(HF7.out W (joinB HB75.out h)).1.cell 2⟩
   clear hst7 hbr hcr hkr hbs hcs hks
   obtain⟨p1,p2⟩:=HFW.out w5 (Below.refl _ _)
   obtain⟨p3,p4⟩:=HCR.out w5 (Below.refl _ _)
   go_wp2_with (first
    |(go_at_call 12;(with_reducible refine HF6.out.mono ?_);rintro e w6 ⟨rfl,hb6⟩;have HB6:Hid (BelW w5 w6):=Lib.hid hb6;obtain⟨r1,r2⟩:=HFW.out w6 hb6;obtain⟨r3,r4⟩:=HCR.out w6 hb6;have HT1W:=Lib.hid (HTA.out w6 hb6);clear hb6)
    |(go_at_call 14;(with_reducible refine HT1W.out.mono ?_);rintro e w7 ⟨rfl,hb7⟩;have HB7:Hid (BelW w5 w7):=Lib.hid (joinB HB6.out hb7);have HT2W:=Lib.hid (HTB.out w7 HB7.out);clear hb7 HT1W)
    |(go_at_call 14;(with_reducible refine HT2W.out.mono ?_);rintro e w8 ⟨rfl,hb8⟩;have HB8:Hid (BelW w5 w8):=Lib.hid (joinB HB7.out hb8);clear hb8))
   go_roundw
   case rel=>exact⟨k+1,by omega,by go_num,joinB HB95.out HB8.out⟩
   case measure=>simp[intOf];omega
  ·obtain rfl:m=k:=by omega
   clear hbv
   go_upto_region 14 with (fail)
   have hb2r:BelW V2 wr:=joinB HB29.out HBV.out
   have y0:=(HFy.out wr hb2r).cell 0
   have y1:=(HFy.out wr hb2r).cell 1
   have y2:=(HFy.out wr hb2r).cell 2
   have HC2:=Lib.hid (HSy.out wr hb2r)
   rw[←HSS.out]at HC2
   have HB2R:=Lib.hid hb2r
   clear hb2r
   go_upto_region 15 with (go_at_call 8;(with_reducible refine HC2.out.mono ?_);rintro e w4 ⟨T0,t0,T1,t1,T2,t2,AM,cM,rfl,ho,hv,hb⟩;have HOT:=Lib.hid ho;have HBT:Hid (BelW wr w4):=Lib.hid hb;clear ho hv hb)
   clear x0 x1 x2 x3 y0 y1 y2
   obtain⟨VT,HVT⟩:=named (w4.alloc (.cells #[.slice T0 ns t0,.slice T1 m t1,.slice T2 m t2] 45))
   have hnt:BelW w4 VT:=by rw[HVT.out];exact below_new (Below.refl _ _) _
   have hft:Fr VT w4.heap.size 45 [.slice T0 ns t0,.slice T1 m t1,.slice T2 m t2]:=by rw[HVT.out];exact Fr.made _ [.slice T0 ns t0,.slice T1 m t1,.slice T2 m t2] _ rfl
   obtain⟨qt,HQT⟩:=named w4.heap.size
   rw[←HQT.out]at hft
   rw[←HVT.out,←HQT.out]
   have HB2T:Hid (BelW V2 VT):=Lib.hid (joinB HB2R.out (joinB HBT.out hnt))
   have HB3T:Hid (BelW V3 VT):=Lib.hid (joinB HB39.out (joinB HBV.out (joinB HBT.out hnt)))
   have HTST:Hid (∀W,BelW VT W→StR W W.heap.size T0 T1 T2 ns m m t0 t1 t2 ss):=Lib.hid fun W h=>(HOT.out.below (joinB hnt h)).str
   have HSM:Hid (∀W,BelW VT W→Calls Tryz.prog 15 #[.agg #[.slice S0 ns s0,.slice S1 m s1,.slice S2 m s2],.agg #[.slice T0 ns t0,.slice T1 m t1,.slice T2 m t2]] W fun e w'=>e=.returned (.bool true)∧BelW W w'):=Lib.hid fun W h=>by
    have h3:=msame_any _ _ _ _ _ _ _ _ _ _ _ _ _ _ _ _ _ _ _ _ W W.heap.size (Nat.le_refl _) (HSTR.out W (joinB HB3T.out h)) (HTST.out W h)
    rw[relS_refl eqI (fun x=>by unfold eqI;simp) ss]at h3
    exact h3
   have HES:Hid (∀(W:World) (v:Value),BelW VT W→Cir W W.heap.size v c→Calls Tryz.prog 16 #[.agg #[.slice A0 n c0,.slice A1 n1 c1,.slice A2 m c2,.slice A3 n3 c3],v] W fun e w'=>e=.returned (.bool true)∧BelW W w'):=Lib.hid fun W v h hv=>by
    have h3:=same_any c c _ v W W.heap.size W.heap.size (Nat.le_refl _) (Nat.le_refl _) (HCS.out W (joinB HB2T.out h)).cir hv
    rw[ckEq_self]at h3
    exact h3
   have HOZ:Hid (∀W,BelW VT W→Calls Tryz.prog 7 #[.agg #[.int .u8 x.inN,.int .u8 x.dffs,.int .u8 x.d0,.int .u8 x.d1,.bool x.bus,.bool x.mem,.int .u8 x.p0,.int .u8 x.p1,.int .u8 x.p2,.int .u8 x.p3,sG,sA]] W fun e w'=>(∃A0 A1 A2 A3 n1 n3 c0 c1 c2 c3,e=.returned (.agg #[.slice A0 n c0,.slice A1 n1 c1,.slice A2 m c2,.slice A3 n3 c3])∧Cir w' w'.heap.size (.agg #[.slice A0 n c0,.slice A1 n1 c1,.slice A2 m c2,.slice A3 n3 c3]) c∧n1=c.names.length∧n3=c.outs.length)∧BelW W w'):=Lib.hid fun W h=>HOF2.out W (joinB HB2T.out h)
   have HLV:Hid (∀W,BelW VT W→Calls Tryz.prog 17 #[] W fun e w'=>e=.returned (.bool true)∧BelW W w'):=Lib.hid fun W h=>lives9_any W fun k hk=>(HCS.out W (joinB HB2T.out h)).tabs.2.2 k hk
   have HKE:Hid (∀W,BelW VT W→W.cell? ⟨qc,0,none⟩=some (.slice A0 n c0)∧W.cell? ⟨qc,1,none⟩=some (.slice A1 n1 c1)∧W.cell? ⟨qc,2,none⟩=some (.slice A2 m c2)∧W.cell? ⟨qc,3,none⟩=some (.slice A3 n3 c3)∧W.cell? ⟨q3,0,none⟩=some (.slice S0 ns s0)∧W.cell? ⟨q3,1,none⟩=some (.slice S1 m s1)∧W.cell? ⟨q3,2,none⟩=some (.slice S2 m s2)∧W.cell? ⟨qt,0,none⟩=some (.slice T0 ns t0)∧W.cell? ⟨qt,1,none⟩=some (.slice T1 m t1)∧W.cell? ⟨qt,2,none⟩=some (.slice T2 m t2)∧W.cell? ⟨w.heap.size,0,none⟩=some (.int .u8 x.inN)∧W.cell? ⟨w.heap.size,1,none⟩=some (.int .u8 x.dffs)∧W.cell? ⟨w.heap.size,2,none⟩=some (.int .u8 x.d0)∧W.cell? ⟨w.heap.size,3,none⟩=some (.int .u8 x.d1)∧W.cell? ⟨w.heap.size,4,none⟩=some (.bool x.bus)∧W.cell? ⟨w.heap.size,5,none⟩=some (.bool x.mem)∧W.cell? ⟨w.heap.size,6,none⟩=some (.int .u8 x.p0)∧W.cell? ⟨w.heap.size,7,none⟩=some (.int .u8 x.p1)∧W.cell? ⟨w.heap.size,8,none⟩=some (.int .u8 x.p2)∧W.cell? ⟨w.heap.size,9,none⟩=some (.int .u8 x.p3)∧W.cell? ⟨w.heap.size,10,none⟩=some (sG)∧W.cell? ⟨w.heap.size,11,none⟩=some (sA)):=Lib.hid fun W h=>by
    obtain⟨x0,x1,x2,x3⟩:=HCE.out W (joinB HB2T.out h)
    have hf3:=HF3.out W (joinB HB3T.out h)
    have hfx:=HFx.out W (joinB HB2T.out h)
    have hfw:=hft.below h
    exact⟨x0,x1,x2,x3,hf3.cell 0,hf3.cell 1,hf3.cell 2,hfw.cell 0,hfw.cell 1,hfw.cell 2,hfx.cell 0,hfx.cell 1,hfx.cell 2,hfx.cell 3,hfx.cell 4,hfx.cell 5,hfx.cell 6,hfx.cell 7,hfx.cell 8,hfx.cell 9,hfx.cell 10,hfx.cell 11⟩
   have HFW:Hid (BelW w VT):=Lib.hid (joinB HB1.out (joinB HB2V.out HB2T.out))
   clear hnt hft
   have h0:BelW VT VT:=Below.refl _ _
   go_region_held3 (fun w'=>w'.cell? ⟨qc,0,none⟩=some (.slice A0 n c0)∧w'.cell? ⟨qc,1,none⟩=some (.slice A1 n1 c1)∧w'.cell? ⟨qc,2,none⟩=some (.slice A2 m c2)∧w'.cell? ⟨qc,3,none⟩=some (.slice A3 n3 c3)∧w'.cell? ⟨q3,0,none⟩=some (.slice S0 ns s0)∧w'.cell? ⟨q3,1,none⟩=some (.slice S1 m s1)∧w'.cell? ⟨q3,2,none⟩=some (.slice S2 m s2)∧w'.cell? ⟨qt,0,none⟩=some (.slice T0 ns t0)∧w'.cell? ⟨qt,1,none⟩=some (.slice T1 m t1)∧w'.cell? ⟨qt,2,none⟩=some (.slice T2 m t2)∧w'.cell? ⟨w.heap.size,0,none⟩=some (.int .u8 x.inN)∧w'.cell? ⟨w.heap.size,1,none⟩=some (.int .u8 x.dffs)∧w'.cell? ⟨w.heap.size,2,none⟩=some (.int .u8 x.d0)∧w'.cell? ⟨w.heap.size,3,none⟩=some (.int .u8 x.d1)∧w'.cell? ⟨w.heap.size,4,none⟩=some (.bool x.bus)∧w'.cell? ⟨w.heap.size,5,none⟩=some (.bool x.mem)∧w'.cell? ⟨w.heap.size,6,none⟩=some (.int .u8 x.p0)∧w'.cell? ⟨w.heap.size,7,none⟩=some (.int .u8 x.p1)∧w'.cell? ⟨w.heap.size,8,none⟩=some (.int .u8 x.p2)∧w'.cell? ⟨w.heap.size,9,none⟩=some (.int .u8 x.p3)∧w'.cell? ⟨w.heap.size,10,none⟩=some (sG)∧w'.cell? ⟨w.heap.size,11,none⟩=some (sA))
    ((refine HKE.out _ ?_;(with_reducible repeat (first|assumption|refine BelW.drew ?_))))
    (first
      |(go_at_call 17;(refine Calls.mono (HLV.out _ h13) ?_)
        rintro e w14 ⟨rfl,hb14⟩
        have h14:BelW VT w14:=BelW.trans h13 hb14)
      |(go_at_call 16;(refine Calls.mono (HES.out w12 _ h12 hcir12) ?_)
        rintro e w13 ⟨rfl,hb13⟩
        have h13:BelW VT w13:=BelW.trans h12 hb13)
      |(go_at_call 7;(refine Calls.mono (HOZ.out _ h11) ?_)
        rintro e w12 ⟨⟨E0,E1,E2,E3,f1,f3,g0,g1,g2,g3,rfl,hcir12,-,-⟩,hb12⟩
        have h12:BelW VT w12:=BelW.trans h11 hb12)
      |(go_at_call 15;(refine Calls.mono (HSM.out _ (BelW.drew h0)) ?_)
        rintro e w11 ⟨rfl,hb11⟩
        have h11:BelW VT w11:=BelW.trans (BelW.drew h0) hb11))
   go_wp2
   go_ret
   exact⟨rfl,joinB HFW.out (by first|exact h14|exact BelW.drew h14)⟩
end Go.Proofs.YtemjmfpcopfdbaaGreatDoor
