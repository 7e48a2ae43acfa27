import Derived.Test.YtjdjcaobkmpoeaaDoorSt5
import Derived.Test.YtjdjcaobkmpoeaaDoorM36
import Derived.Test.YtjdjcaobkmpoeaaDoorM31
import Derived.Test.YtjdjcaobkmpoeaaDoorM33
import Derived.Test.YtjdjcaobkmpoeaaDoorM29
import Derived.Test.YtjdjcaobkmpoeaaDoorM17
import Derived.Test.YtjdjcaobkmpoeaaDoorM35
namespace Go.Proofs.YtjdjcaobkmpoeaaDoor
open Go.RowKit
set_option maxRecDepth 100000 in
set_option maxHeartbeats 8000000 in
theorem lawBl(x:Cx)(hx:Cok x)(sG sA:Value)(Ag:Option Addr)(ng cg:Nat)(gv:List Int)(hgl:gv.length=ng)(hgb:∀y∈gv,0≤y∧y<256)(z0 z1:Int)(hz0:U8 z0)(hz1:U8 z1)(w:World)(hT:Tabs w)(hG:Gs w w.heap.size sG x.gates)(hA:Ks w w.heap.size sA x.outs)(hK:Ks w w.heap.size (.slice Ag ng cg) gv):
 Calls Tryd.prog 4 #[.agg #[.int .u8 x.inN,.int .u8 x.dffs,.int .u8 x.d0,.int .u8 x.d1,.bool x.bus,.bool x.mem,.int .u8 x.p0,.int .u8 x.p1,.int .u8 x.p2,.int .u8 x.p3,sG,sA],.slice Ag ng cg,.agg #[.int .u8 z0,.int .u8 z1]] w fun e w'=>e=.returned (.bool true)∧Below w.heap.size w w':=by
 have hz0b:=hz0
 have hz1b:=hz1
 unfold U8 at hz0b hz1b
 obtain⟨za,rfl⟩:∃zn:Nat,z0=(zn:Int):=⟨z0.toNat,by omega⟩
 clear hz0 hz1
 obtain⟨L,V0⟩:=vld_c x hx
 have hz:=sizeN_le x
 obtain⟨W2,HW2⟩:=named ((w.alloc (.cells #[.int .u8 x.inN,.int .u8 x.dffs,.int .u8 x.d0,.int .u8 x.d1,.bool x.bus,.bool x.mem,.int .u8 x.p0,.int .u8 x.p1,.int .u8 x.p2,.int .u8 x.p3,sG,sA] 49)).alloc (.cells #[.int .u8 (za:Int),.int .u8 z1] 44))
 have hb2:BelW w W2:=by rw[HW2.out];exact joinB (below_new (Below.refl _ _) _) (below_new (Below.refl _ _) _)
 have hfz:Fr W2 (w.heap.size+1) 44 [.int .u8 (za:Int),.int .u8 z1]:=by rw[HW2.out];exact Fr.made _ _ _ (Array.size_push _).symm
 have HG2:Gs W2 W2.heap.size sG x.gates:=Arr.keep stays_g hG (Below.size hb2) fun _ hp=>Below.cell hb2 hp
 have HA2:Ks W2 W2.heap.size sA x.outs:=Arr.keep stays_u8 hA (Below.size hb2) fun _ hp=>Below.cell hb2 hp
 have HK2:Hid (∀W,Below W2.heap.size W2 W→Ks W W.heap.size (.slice Ag ng cg) gv):=Lib.hid fun W h=>Arr.keep stays_u8 hK (Below.size (joinB hb2 h)) fun _ hp=>Below.cell (joinB hb2 h) hp
 have HT2:Tabs W2:=hT.below hb2
 have HOF:Hid (∀n,n=sizeN x→Calls Tryd.prog 19 #[.agg #[.int .u8 x.inN,.int .u8 x.dffs,.int .u8 x.d0,.int .u8 x.d1,.bool x.bus,.bool x.mem,.int .u8 x.p0,.int .u8 x.p1,.int .u8 x.p2,.int .u8 x.p3,sG,sA]] W2
  fun e w'=>∃A0 A1 A2 A3 n1 n2 n3 c0 c1 c2 c3,e=.returned (.agg #[.slice A0 n c0,.slice A1 n1 c1,.slice A2 n2 c2,.slice A3 n3 c3])∧Below W2.heap.size W2 w'∧
   LC (ofC x) W2 w'.heap.size A0 A1 A2 A3 n n1 n2 n3 c0 c1 c2 c3 (w'.alloc (.cells #[.slice A0 n c0,.slice A1 n1 c1,.slice A2 n2 c2,.slice A3 n3 c3] 27))):=
  Lib.hid fun n hn=>ofc_c x hx HT2 HG2 HA2 (Below.refl _ _) hn
 have HB02:Hid (BelW w W2):=Lib.hid hb2
 clear hT hG hA hx hK HG2 HA2 HT2 hb2
 obtain⟨n,HN⟩:=named (sizeN x)
 rw[←HN.out]at V0 hz
 have HPOS:Hid (∀ {L:List Int},G5 (ofC x) n L→0<(memB (ptB (ofC x)) n).length):=Lib.hid fun G=>ofC_pts x G (by have:=hz.1;omega) HN.out
 obtain⟨c,HC0⟩:=named (ofC x)
 rw[←HC0.out]at V0 HPOS
 have HV:=Lib.hid V0
 have HG:Hid (G5 c n L):=Lib.hid ⟨V0.ok,V0.lvl,V0.len.symm,by have:=V0.few;omega⟩
 have hn1:0<n:=hz.1
 have hn20:n<20:=V0.few
 clear V0 hz
 have HOBL:Hid ((obsN c).length≤1000000000):=Lib.hid HG.out.obl
 obtain⟨ya,HYA⟩:=named (za%n)
 have hya:ya<n:=by rw[HYA.out];exact Nat.mod_lt _ (by omega)
 have HMA:Hid ((za:Int)%(n:Int)=(ya:Int)):=Lib.hid (by rw[HYA.out];rfl)
 clear HYA
 have HFZ:=Lib.hid hfz
 have HGL:=Lib.hid hgl
 have HGB:=Lib.hid hgb
 clear hfz hgl hgb
 go_enter Tryd.func4,Tryd.ntmps4
 go_upto_region 2 with (go_at_call 19;rw[←HW2.out];(with_reducible refine (HOF.out n HN.out).mono ?_);rintro e w1 ⟨A0,A1,A2,A3,n1,n2,n3,c0,c1,c2,c3,rfl,hb,hl⟩;rw[←HC0.out]at hl;have HL0:=Lib.hid hl;clear hb hl)
 obtain⟨W1,HW1⟩:=named (w1.alloc (.cells #[.slice A0 n c0,.slice A1 n1 c1,.slice A2 n2 c2,.slice A3 n3 c3] 27))
 rw[←HW1.out]at HL0
 rw[←HW1.out]
 obtain⟨q,HQ⟩:=named w1.heap.size
 rw[←HQ.out]at HL0
 rw[←HQ.out]
 have HFZ1:Hid (Fr W1 (w.heap.size+1) 44 [.int .u8 (za:Int),.int .u8 z1]):=Lib.hid (HFZ.out.below HL0.out.bel)
 obtain⟨qz,HQZ⟩:=named (w.heap.size+1)
 rw[←HQZ.out]at HFZ1
 rw[←HQZ.out]
 have HKS:Hid (∀W,BelW W1 W→Ks W W.heap.size (.slice Ag ng cg) gv):=Lib.hid fun W h=>HK2.out W (HL0.out.next h).bel
 clear HW1 HQ HOF HFZ HW2 HK2
 have HCE:Hid (∀W,BelW W1 W→W.cell? ⟨q,0,none⟩=some (.slice A0 n c0)∧W.cell? ⟨q,1,none⟩=some (.slice A1 n1 c1)∧W.cell? ⟨q,2,none⟩=some (.slice A2 n2 c2)∧W.cell? ⟨q,3,none⟩=some (.slice A3 n3 c3)):=Lib.hid fun W h=>(HL0.out.next h).cells
 have HC:Hid (∀W,BelW W1 W→Tabs W∧Cir W W.heap.size (.agg #[.slice A0 n c0,.slice A1 n1 c1,.slice A2 n2 c2,.slice A3 n3 c3]) c):=Lib.hid fun W h=>⟨(HL0.out.next h).tabs,(HL0.out.next h).all⟩
 have HW0:Hid (Below w.heap.size w W1):=Lib.hid (joinB HB02.out HL0.out.bel)
 have HLV:Hid (∀W,BelW W1 W→Calls Tryd.prog 6 #[] W fun e w'=>e=.returned (.bool true)∧BelW W w'):=Lib.hid fun W h=>lives5_any W (HC.out W h).1
 obtain⟨x0,x1,x2,x3⟩:=HCE.out W1 (Below.refl _ _)
 have y0:=HFZ1.out.cell 0
 have y1:=HFZ1.out.cell 1
 simp only[List.getElem?_cons_zero,List.getElem?_cons_succ]at y0 y1
 go_upto_region 3 with (fail)
 rw[HMA.out]
 clear y0 y1
 have HOR:Hid (Calls Tryd.prog 20 #[.agg #[.slice A0 n c0,.slice A1 n1 c1,.slice A2 n2 c2,.slice A3 n3 c3]] W1 fun e w'=>∃d,e=.returned (.tuple #[.slice (some ⟨d,0,none⟩) n n,.int .i64 0])∧Row w' d (ordTo L n n)∧BelW W1 w'):=Lib.hid (by
  refine (ord_v HV.out HL0.out (Below.refl _ _)).mono fun e w' ⟨⟨d,h1,_,h2⟩,h3,_⟩=>?_
  exact⟨d,h1,h2,h3⟩)
 have HO5:Hid (Ord5 L n (ordTo L n n)):=Lib.hid (ord5_to HG.out.bnd)
 obtain⟨O,HO⟩:=named (ordTo L n n)
 rw[←HO.out]at HOR HO5
 clear HO
 go_upto_region 4 with (go_at_call 20;(with_reducible refine HOR.out.mono ?_);rintro e w2 ⟨d,rfl,h1,h2⟩;have HRO:=Lib.hid h1;have HB2:Hid (BelW W1 w2):=Lib.hid h2;clear h1 h2 x0 x1 x2 x3)
 obtain⟨x0,x1,x2,x3⟩:=HCE.out w2 HB2.out
 have HDO:=Lib.hid (doms_ok c L A0 A1 A2 A3 n n1 n2 n3 c0 c1 c2 c3 w2 ya hya HG.out (HC.out w2 HB2.out).1 (HC.out w2 HB2.out).2)
 go_upto_region 5 with (go_at_call 11;(with_reducible refine HDO.out.mono ?_);rintro e w3 ⟨AT,T,rfl,h1,h2,h3⟩;have HDL:=Lib.hid h1;have HIT:=Lib.hid h2;have HB23:Hid (BelW w2 w3):=Lib.hid h3;clear h1 h2 h3 x0 x1 x2 x3)
 have HB3:Hid (BelW W1 w3):=Lib.hid (joinB HB2.out HB23.out)
 obtain⟨x0,x1,x2,x3⟩:=HCE.out w3 HB3.out
 have HPP:Hid (Calls Tryd.prog 16 #[.agg #[.slice A0 n c0,.slice A1 n1 c1,.slice A2 n2 c2,.slice A3 n3 c3]] w3 fun e w'=>∃A,e=.returned (.slice A (memB (ptB c) n).length (memB (ptB c) n).length)∧Is w' w'.heap.size (.slice A (memB (ptB c) n).length (memB (ptB c) n).length) (memB (ptB c) n)∧BelW w3 w'):=Lib.hid (points_any c A0 A1 A2 A3 n n1 n2 n3 c0 c1 c2 c3 w3 (HC.out w3 HB3.out).2 HG.out.len (by omega))
 go_upto_region 6 with (go_at_call 16;(with_reducible refine HPP.out.mono ?_);rintro e w4 ⟨AP,rfl,h1,h2⟩;have HIP:=Lib.hid h1;have HB34:Hid (BelW w3 w4):=Lib.hid h2;clear h1 h2 x0 x1 x2 x3)
 have HB4:Hid (BelW W1 w4):=Lib.hid (joinB HB3.out HB34.out)
 obtain⟨x0,x1,x2,x3⟩:=HCE.out w4 HB4.out
 have HFA:Hid (Calls Tryd.prog 10 #[.agg #[.slice A0 n c0,.slice A1 n1 c1,.slice A2 n2 c2,.slice A3 n3 c3],.slice (some ⟨w4.heap.size,0,none⟩) 1 1] (w4.alloc (.cells #[.int .i64 (ya:Int)] 3)) fun e w'=>∃A R,Vis (rdL c.nodes) n (List.replicate n false) [(ya:Int)] R∧e=.returned (.tuple #[.slice A (memB R n).length (memB R n).length,.int .i64 0])∧Is w' w'.heap.size (.slice A (memB R n).length (memB R n).length) (memB R n)∧BelW w4 w'):=Lib.hid (by
  have hal:BelW w4 (w4.alloc (.cells #[.int .i64 (ya:Int)] 3)):=below_new (Below.refl _ _) _
  have hb:=joinB HB4.out hal
  refine (fanout_g HG.out _ (HC.out _ hb).1 (HC.out _ hb).2 _ [(ya:Int)] (lit5 w4 [(ya:Int)] (by show 1≤maxLen;unfold maxLen;decide)) (fun y hy=>by rw[List.mem_singleton.1 hy];omega)).mono fun e w' ⟨A,R,h1,h2,h3,h4⟩=>?_
  exact⟨A,R,h1,h2,h3,joinB hal h4⟩)
 go_upto_region 7 with (go_at_call 10;(with_reducible refine HFA.out.mono ?_);rintro e w5 ⟨AC,R,h0,rfl,h1,h2⟩;have HVI:=Lib.hid h0;have HIC:=Lib.hid h1;have HB45:Hid (BelW w4 w5):=Lib.hid h2;clear h0 h1 h2 x0 x1 x2 x3)
 have HB5:Hid (BelW W1 w5):=Lib.hid (joinB HB4.out HB45.out)
 have hmP:0<(memB (ptB c) n).length:=HPOS.out HG.out
 have hmP2:=memB_len (ptB c) n
 have hmC2:=memB_len R n
 have hmC:0<(memB R n).length:=List.length_pos_of_mem (a:=(ya:Int)) (mem_memB.2 ⟨ya,hya,rfl,(HVI.out.all ya).2 (.base (by simp))⟩)
 have hmT:T.length≤1000000:=by
  have h1:T.length≤n:=by
   have hnd:T.Nodup:=HDL.out.up.imp fun {a b} hab e=>by subst e;omega
   have h2:=List.Nodup.length_le_of_subset (l₂:=(List.range n).map fun(j:Nat)=>(j:Int)) hnd fun y hy=>by
    have h3:=HDL.out.nod y hy
    exact List.mem_map.2 ⟨y.toNat,List.mem_range.2 (by have:=h3.1;have:=h3.2;omega),by have:=h3.1;omega⟩
   simpa using h2
  omega
 have HMP:Hid (∀j,j<(memB (ptB c) n).length→∃p:Nat,(memB (ptB c) n).getD j 0=(p:Int)∧p<n):=Lib.hid fun j hj=>by
  obtain⟨p,h1,h2,_⟩:=mem_memB.1 (getD_mem5 hj)
  exact⟨p,h2,h1⟩
 have HMC:Hid (∀j,j<(memB R n).length→∃p:Nat,(memB R n).getD j 0=(p:Int)∧p<n):=Lib.hid fun j hj=>by
  obtain⟨p,h1,h2,_⟩:=mem_memB.1 (getD_mem5 hj)
  exact⟨p,h2,h1⟩
 have HMT:Hid (∀j,j<T.length→∃p:Nat,T.getD j 0=(p:Int)∧p<n):=Lib.hid fun j hj=>by
  have h3:=HDL.out.nod _ (getD_mem5 hj)
  exact⟨(T.getD j 0).toNat,by have:=h3.1;omega,by have:=h3.1;have:=h3.2;omega⟩
 have HBD:Hid (∀a b:List Int,(∀y,Nod n y→lat a y=fvB c.nodes gv a y)→(∀y,Nod n y→lat b y=nvB c.nodes gv (ya:Int) (z1%4) b y)→(∀d∈T,(lat a d==lat b d)=true→sameL a b (memB (ptB c) n)=true)∧(pathL (memB R n) (memB (ptB c) n)=false→sameL a b (memB (ptB c) n)=true∧T.length=0)):=Lib.hid fun a b ha hb=>⟨block_dom HG.out ⟨by omega,by omega⟩ ha hb HDL.out,block_path HG.out ⟨by omega,by omega⟩ ha hb HDL.out HVI.out⟩
 obtain⟨PT,HPT⟩:=named (memB (ptB c) n)
 obtain⟨CL,HCL⟩:=named (memB R n)
 rw[←HPT.out]at hmP hmP2 HIP HMP HBD
 rw[←HPT.out]
 rw[←HCL.out]at hmC hmC2 HIC HMC HBD
 rw[←HCL.out]
 obtain⟨mP,HmP⟩:=named PT.length
 obtain⟨mC,HmC⟩:=named CL.length
 obtain⟨mT,HmT⟩:=named T.length
 rw[←HmP.out]at hmP hmP2 HIP HMP
 rw[←HmP.out]
 rw[←HmC.out]at hmC hmC2 HIC HMC
 rw[←HmC.out]
 rw[←HmT.out]at hmT HIT HMT HBD
 rw[←HmT.out]
 have q1:((mP:Int)==0)=false:=by rw[beq_eq_false_iff_ne];omega
 have q2:((mC:Int)==0)=false:=by rw[beq_eq_false_iff_ne];omega
 clear HPT HCL HPOS HDL
 obtain⟨x0,x1,x2,x3⟩:=HCE.out w5 HB5.out
 have HSA:=Lib.hid (settled_any c L O gv A0 A1 A2 A3 Ag n n1 n2 n3 c0 c1 c2 c3 ng cg d 0 n (-1) 0 w5 hn1 HG.out HO5.out (HC.out w5 HB5.out).1 (HC.out w5 HB5.out).2 (HKS.out w5 HB5.out) HGL.out HGB.out (by have h1:=(HRO.out.below (joinB HB23.out (joinB HB34.out HB45.out))).is (by rw[HO5.out.len];unfold maxLen;omega);rw[HO5.out.len]at h1;exact h1))
 go_upto_region 9 with (fail)
 clear q1 q2
 go_upto_region 10 with (go_at_call 21;(with_reducible refine HSA.out.mono ?_);rintro e w6 ⟨ga,a,rfl,h1,h2,h3⟩;have HA1:=Lib.hid h1;have HVA:=Lib.hid h2;have HB56:Hid (BelW w5 w6):=Lib.hid h3;clear h1 h2 h3 x0 x1 x2 x3)
 have HB6:Hid (BelW W1 w6):=Lib.hid (joinB HB5.out HB56.out)
 obtain⟨x0,x1,x2,x3⟩:=HCE.out w6 HB6.out
 have y1:w6.cell? ⟨qz,1,none⟩=some (.int .u8 z1):=by have h:=(HFZ1.out.below HB6.out).cell 1;simpa using h
 have hm4:0≤z1%4∧z1%4<4:=by omega
 have HSB:=Lib.hid (settled_any c L O gv A0 A1 A2 A3 Ag n n1 n2 n3 c0 c1 c2 c3 ng cg d 0 n (ya:Int) (z1%4) w6 hn1 HG.out HO5.out (HC.out w6 HB6.out).1 (HC.out w6 HB6.out).2 (HKS.out w6 HB6.out) HGL.out HGB.out (by have h1:=(HRO.out.below (joinB HB23.out (joinB HB34.out (joinB HB45.out HB56.out)))).is (by rw[HO5.out.len];unfold maxLen;omega);rw[HO5.out.len]at h1;exact h1))
 go_upto_region 11 with (go_at_call 21;(with_reducible refine HSB.out.mono ?_);rintro e w7 ⟨gb,b,rfl,h1,h2,h3⟩;have HB1:=Lib.hid h1;have HVB:=Lib.hid h2;have HB67:Hid (BelW w6 w7):=Lib.hid h3;clear h1 h2 h3 x0 x1 x2 x3 y1)
 have HB7:Hid (BelW W1 w7):=Lib.hid (joinB HB6.out HB67.out)
 obtain⟨HDm,HPa⟩:=HBD.out a b (fun y hy=>by
  have h:=HA1.out.all HO5.out hy
  unfold nvB at h
  rw[if_neg (by have:=hy.1;omega)]at h
  exact h) (fun y hy=>HB1.out.all HO5.out hy)
 have HDM:=Lib.hid HDm
 have HPA:=Lib.hid HPa
 clear HDm HPa HBD
 have HVAL:Hid (∀W,BelW w7 W→∀j:Nat,j<n→W.cell? ⟨ga,j,none⟩=some (.int .u8 (lat a (j:Int)))∧W.cell? ⟨gb,j,none⟩=some (.int .u8 (lat b (j:Int)))):=Lib.hid fun W h j hj=>⟨((HVA.out.below HB67.out).below h).cell (by have:=HA1.out.len;have:=HG.out.len;omega),(HVB.out.below h).cell (by have:=HB1.out.len;have:=HG.out.len;omega)⟩
 have hIP:=HIP.out.on (joinB HB45.out (joinB HB56.out HB67.out))
 obtain⟨AP',bp,op,cp,e,hAP,-,-,hcp⟩:=hIP.opens
 rw[←HmP.out]at e hAP hcp
 simp only[Value.slice.injEq]at e
 obtain⟨rfl,-,rfl⟩:=e
 obtain rfl:=hAP hmP
 have HPC:Hid (∀W,BelW w7 W→∀j,j<mP→W.cell? ⟨bp,op+j,none⟩=some (.int .i64 (PT.getD j 0))):=Lib.hid fun W h j hj=>(Below.cell h (p:=⟨bp,op+j,none⟩) (hcp j hj).1).trans (hcp j hj).2
 have hIC:=HIC.out.on (joinB HB56.out HB67.out)
 obtain⟨AC',bc,oc,cc,e,hAC,-,-,hcc⟩:=hIC.opens
 rw[←HmC.out]at e hAC hcc
 simp only[Value.slice.injEq]at e
 obtain⟨rfl,-,rfl⟩:=e
 obtain rfl:=hAC hmC
 have HCC:Hid (∀W,BelW w7 W→∀j,j<mC→W.cell? ⟨bc,oc+j,none⟩=some (.int .i64 (CL.getD j 0))):=Lib.hid fun W h j hj=>(Below.cell h (p:=⟨bc,oc+j,none⟩) (hcc j hj).1).trans (hcc j hj).2
 have hITT:=HIT.out.on (joinB HB34.out (joinB HB45.out (joinB HB56.out HB67.out)))
 obtain⟨AT',bt,ot,ct,e,hAT,-,-,hct⟩:=hITT.opens
 rw[←HmT.out]at e hAT hct
 simp only[Value.slice.injEq]at e
 obtain⟨rfl,-,rfl⟩:=e
 have HAT:=Lib.hid hAT
 have HTC:Hid (∀W,BelW w7 W→∀j,j<mT→W.cell? ⟨bt,ot+j,none⟩=some (.int .i64 (T.getD j 0))):=Lib.hid fun W h j hj=>(Below.cell h (p:=⟨bt,ot+j,none⟩) (hct j hj).1).trans (hct j hj).2
 have HFT:Hid (∀j,j<mT→T.getD j 0∈T):=Lib.hid fun j hj=>getD_mem5 (by rw[←HmT.out];exact hj)
 clear hIP hIC hITT hAP hAC hAT hcp hcc hct HIP HIC HIT HSA HSB HPP HFA HDO HOR
 have HSE:Hid (sameL a b PT=PT.all fun p=>lat a p==lat b p):=Lib.hid rfl
 obtain⟨SP,HSP⟩:=named (fun j:Nat=>(PT.take j).all fun p=>lat a p==lat b p)
 have HS0:Hid (SP 0=true):=Lib.hid (by rw[HSP.out];rfl)
 have HSN:Hid (∀j,j<mP→SP (j+1)=(SP j&&(lat a (PT.getD j 0)==lat b (PT.getD j 0)))):=Lib.hid fun j hj=>by
  rw[HSP.out]
  simp only
  rw[take_succ_getD _ _ (by rw[←HmP.out];exact hj),List.all_append]
  simp
 have HSL:Hid (SP mP=sameL a b PT):=Lib.hid (by rw[HSP.out,HSE.out];simp only;rw[List.take_of_length_le (by rw[HmP.out];exact Nat.le_refl _)])
 clear HSP HSE
 go_wp2
 go_loopw [18,19] (fun sv iv wr=>∃j:Nat,j≤mP∧iv=.int .i64 j∧sv=.bool (SP j)∧Hid (BelW w7 wr)) (fun _ iv _=>mP-(intOf iv).toNat)
 case atStart=>exact⟨0,Nat.zero_le _,rfl,by rw[HS0.out],Lib.hid (Below.refl _ _)⟩
 case round=>
  obtain⟨j,hj,rfl,rfl,HB⟩:=hrel
  by_cases hjl:j<mP
  ·obtain⟨p,ep,hp⟩:=HMP.out j hjl
   have y2:=HPC.out wr HB.out j hjl
   have HNX:Hid (SP (j+1)=(SP j&&(lat a (p:Int)==lat b (p:Int)))):=Lib.hid (by rw[HSN.out j hjl,ep])
   rw[ep]at y2
   obtain⟨y3,y4⟩:=HVAL.out wr HB.out p hp
   obtain⟨va,HVA1⟩:=named (lat a (p:Int))
   obtain⟨vb,HVB1⟩:=named (lat b (p:Int))
   rw[←HVA1.out]at y3 HNX
   rw[←HVB1.out]at y4 HNX
   obtain⟨t,HT⟩:=named (SP j)
   rw[←HT.out]at HNX
   rw[←HT.out]
   obtain⟨u,HU⟩:=named (va==vb)
   rw[←HU.out]at HNX
   have q3:(va==vb)=u:=HU.out.symm
   have q4:decide ((p:Int)<0)=false:=by simp
   have q5:decide ((n:Int)≤(p:Int))=false:=by simp;omega
   have hp2:(p:Int)<(n:Int):=by omega
   have hj2:(j:Int)<(mP:Int):=by omega
   clear ep HVA1 HVB1 HT HU
   cases t
   ·have HNX2:Hid (SP (j+1)=false):=Lib.hid (by rw[HNX.out];rfl)
    go_wp2
    go_quiet (fail)
    go_wp2
    go_roundw
    case rel=>exact⟨j+1,by omega,by go_num,by rw[HNX2.out],Lib.hid (joinB HB.out (below_drewN (Below.refl _ _) nq))⟩
    case measure=>simp[intOf];omega
   ·have HNX2:Hid (SP (j+1)=u):=Lib.hid (by rw[HNX.out];simp)
    go_wp2
    go_quiet (fail)
    go_wp2
    go_roundw
    case rel=>exact⟨j+1,by omega,by go_num,by rw[HNX2.out],Lib.hid (joinB HB.out (below_drewN (Below.refl _ _) nq))⟩
    case measure=>simp[intOf];omega
  ·obtain rfl:mP=j:=by omega
   rw[HSL.out]
   obtain⟨sm,HSMM⟩:=named (sameL a b PT)
   rw[←HSMM.out]at HDM HPA
   rw[←HSMM.out]
   have HB8:Hid (BelW w7 wr):=HB
   obtain⟨V8,HV8⟩:=named wr
   rw[←HV8.out]at HB8
   rw[←HV8.out]
   clear HSMM HSL HSN HS0 HV8 HB hj hjl
   go_wp2
   go_loopw [20] (fun iv wr=>∃j:Nat,j≤mT∧iv=.int .i64 j∧Hid (BelW w7 wr)) (fun iv _=>mT-(intOf iv).toNat)
   case atStart=>exact⟨0,Nat.zero_le _,rfl,HB8⟩
   case round=>
    clear HB8
    obtain⟨j,hj,rfl,HB⟩:=hrel
    by_cases hjl:j<mT
    ·obtain rfl:=HAT.out (by omega)
     obtain⟨p,ep,hp⟩:=HMT.out j hjl
     have y2:=HTC.out wr HB.out j hjl
     have HUS:Hid ((lat a (p:Int)==lat b (p:Int))=true→sm=true):=Lib.hid fun h=>HDM.out _ (HFT.out j hjl) (by rw[ep];exact h)
     rw[ep]at y2
     obtain⟨y3,y4⟩:=HVAL.out wr HB.out p hp
     obtain⟨va,HVA1⟩:=named (lat a (p:Int))
     obtain⟨vb,HVB1⟩:=named (lat b (p:Int))
     rw[←HVA1.out]at y3 HUS
     rw[←HVB1.out]at y4 HUS
     obtain⟨u,HU⟩:=named (va==vb)
     rw[←HU.out]at HUS
     have q3:(va==vb)=u:=HU.out.symm
     have q4:decide ((p:Int)<0)=false:=by simp
     have q5:decide ((n:Int)≤(p:Int))=false:=by simp;omega
     have hp2:(p:Int)<(n:Int):=by omega
     have hj2:(j:Int)<(mT:Int):=by omega
     clear ep HVA1 HVB1 HU
     cases u
     ·go_wp2
      go_quiet (fail)
      go_wp2
      go_roundw
      case rel=>exact⟨j+1,by omega,by go_num,Lib.hid (joinB HB.out (below_drewN (Below.refl _ _) nq))⟩
      case measure=>simp[intOf];omega
     ·obtain rfl:=HUS.out rfl
      go_wp2
      go_quiet (fail)
      go_wp2
      go_roundw
      case rel=>exact⟨j+1,by omega,by go_num,Lib.hid (joinB HB.out (below_drewN (Below.refl _ _) nq))⟩
      case measure=>simp[intOf];omega
    ·obtain⟨V9,HV9⟩:=named wr
     have HB9:Hid (BelW w7 V9):=Lib.hid (by rw[HV9.out];exact HB.out)
     rw[←HV9.out]
     clear HV9 HB
     obtain⟨PF,HPF⟩:=named (fun i:Nat=>(CL.take i).any fun x=>PT.any fun y=>x==y)
     obtain⟨PG,HPG⟩:=named (fun(i k:Nat)=>PF i||(PT.take k).any fun y=>CL.getD i 0==y)
     have HF0:Hid (PF 0=false):=Lib.hid (by rw[HPF.out];rfl)
     have HG0:Hid (∀i,PG i 0=PF i):=Lib.hid fun i=>by rw[HPG.out];simp
     have HGN:Hid (∀i k,k<mP→PG i (k+1)=(PG i k||(CL.getD i 0==PT.getD k 0))):=Lib.hid fun i k hk=>by
      rw[HPG.out]
      simp only
      rw[take_succ_getD _ _ (by rw[←HmP.out];exact hk),List.any_append]
      simp[Bool.or_assoc]
     have HFN:Hid (∀i,i<mC→PF (i+1)=PG i mP):=Lib.hid fun i hi=>by
      rw[HPG.out,HPF.out]
      simp only
      rw[take_succ_getD _ _ (by rw[←HmC.out];exact hi),List.any_append,List.take_of_length_le (l:=PT) (by rw[HmP.out];exact Nat.le_refl _)]
      simp
     have HFL:Hid (PF mC=pathL CL PT):=Lib.hid (by rw[HPF.out];unfold pathL;simp only;rw[List.take_of_length_le (by rw[HmC.out];exact Nat.le_refl _)])
     clear HPF HPG
     go_wp2
     go_loopw [21,22] (fun pv iv wr=>∃i:Nat,i≤mC∧iv=.int .i64 i∧pv=.bool (PF i)∧Hid (BelW w7 wr)) (fun _ iv _=>mC-(intOf iv).toNat)
     case atStart=>exact⟨0,Nat.zero_le _,rfl,by rw[HF0.out],HB9⟩
     case round=>
      clear HB9
      obtain⟨i,hi,rfl,rfl,HB⟩:=hrel
      by_cases hil:i<mC
      ·obtain⟨V10,HV10⟩:=named wr
       have HB10:Hid (BelW w7 V10):=Lib.hid (by rw[HV10.out];exact HB.out)
       rw[←HV10.out]
       clear HV10 HB
       have hi2:(i:Int)<(mC:Int):=by omega
       go_wp2
       go_loopw [21,23] (fun pv kv wr=>∃k:Nat,k≤mP∧kv=.int .i64 k∧pv=.bool (PG i k)∧Hid (BelW w7 wr)) (fun _ kv _=>mP-(intOf kv).toNat)
       case atStart=>exact⟨0,Nat.zero_le _,rfl,by rw[HG0.out],HB10⟩
       case round=>
        clear HB10
        obtain⟨k,hk,rfl,rfl,HB⟩:=hrel
        by_cases hkl:k<mP
        ·have hk2:(k:Int)<(mP:Int):=by omega
         have y2:=HPC.out wr HB.out k hkl
         have y3:=HCC.out wr HB.out i hil
         have HNX:=Lib.hid (HGN.out i k hkl)
         obtain⟨va,HVA1⟩:=named (CL.getD i 0)
         obtain⟨vb,HVB1⟩:=named (PT.getD k 0)
         rw[←HVA1.out]at y3 HNX
         rw[←HVB1.out]at y2 HNX
         obtain⟨t,HT⟩:=named (PG i k)
         rw[←HT.out]at HNX
         rw[←HT.out]
         obtain⟨u,HU⟩:=named (va==vb)
         rw[←HU.out]at HNX
         have q3:(va==vb)=u:=HU.out.symm
         clear HVA1 HVB1 HT HU
         cases t
         ·have HNX2:Hid (PG i (k+1)=u):=Lib.hid (by rw[HNX.out];simp)
          go_wp2
          go_quiet (fail)
          go_wp2
          go_roundw
          case rel=>exact⟨k+1,by omega,by go_num,by rw[HNX2.out],Lib.hid (joinB HB.out (below_drewN (Below.refl _ _) nq))⟩
          case measure=>simp[intOf];omega
         ·have HNX2:Hid (PG i (k+1)=true):=Lib.hid (by rw[HNX.out];rfl)
          go_wp2
          go_quiet (fail)
          go_wp2
          go_roundw
          case rel=>exact⟨k+1,by omega,by go_num,by rw[HNX2.out],Lib.hid (joinB HB.out (below_drewN (Below.refl _ _) nq))⟩
          case measure=>simp[intOf];omega
        ·obtain rfl:mP=k:=by omega
         rw[←HFN.out i hil]
         obtain⟨t,HT⟩:=named (PF (i+1))
         rw[←HT.out]
         go_wp2
         go_roundw
         case rel=>exact⟨i+1,by omega,by go_num,by rw[HT.out],HB⟩
         case measure=>simp[intOf];omega
      ·obtain rfl:mC=i:=by omega
       rw[HFL.out]
       obtain⟨pv,HPV⟩:=named (pathL CL PT)
       rw[←HPV.out]at HPA
       rw[←HPV.out]
       have HB11:Hid (BelW W1 wr):=Lib.hid (joinB HB7.out HB.out)
       clear HPV
       cases pv
       ·obtain⟨hsm,hmt⟩:=HPA.out rfl
        obtain rfl:=hsm
        have q0:((mT:Int)==0)=true:=by rw[beq_iff_eq];omega
        clear hmt
        go_wp2_with (go_at_call 6;(with_reducible refine (HLV.out wr HB11.out).mono ?_);rintro e w15 ⟨rfl,h1⟩;have HB15:=Lib.hid h1;clear h1)
        go_ret
        exact⟨rfl,joinB HW0.out (joinB HB11.out HB15.out)⟩
       ·go_wp2_with (go_at_call 6;(with_reducible refine (HLV.out wr HB11.out).mono ?_);rintro e w15 ⟨rfl,h1⟩;have HB15:=Lib.hid h1;clear h1)
        go_ret
        exact⟨rfl,joinB HW0.out (joinB HB11.out HB15.out)⟩
end Go.Proofs.YtjdjcaobkmpoeaaDoor
