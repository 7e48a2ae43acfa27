import Derived.Test.YtckgnoopjapknaaDoorM41
import Derived.Test.YtckgnoopjapknaaDoorM35
import Derived.Test.YtckgnoopjapknaaDoorM32
namespace Go.Proofs.YtckgnoopjapknaaDoor
open Go.RowKit
set_option maxRecDepth 100000 in
set_option maxHeartbeats 8000000 in
theorem lawDm(x:Cx)(hx:Cok x)(sG sA:Value)(z:Int)(hz8:U8 z)(w:World)(hT:Tabs w)(hG:Gs w w.heap.size sG x.gates)(hA:Ks w w.heap.size sA x.outs):
 Calls Tryd.prog 5 #[.agg #[.int .u8 x.inN,.int .u8 x.dffs,.int .u8 x.d0,.int .u8 x.d1,.bool x.bus,.bool x.mem,.int .u8 x.p0,.int .u8 x.p1,.int .u8 x.p2,.int .u8 x.p3,sG,sA],.int .u8 z] w fun e w'=>e=.returned (.bool true)∧Below w.heap.size w w':=by
 obtain⟨L,V0⟩:=vld_c x hx
 have hz:=sizeN_le x
 have HOF:Hid (∀W,Below w.heap.size w W→∀n,n=sizeN x→Calls Tryd.prog 24 #[.agg #[.int .u8 x.inN,.int .u8 x.dffs,.int .u8 x.d0,.int .u8 x.d1,.bool x.bus,.bool x.mem,.int .u8 x.p0,.int .u8 x.p1,.int .u8 x.p2,.int .u8 x.p3,sG,sA]] W
  fun e w'=>∃A0 A1 A2 A3 n1 n2 n3 c0 c1 c2 c3,e=.returned (.agg #[.slice A0 n c0,.slice A1 n1 c1,.slice A2 n2 c2,.slice A3 n3 c3])∧Below w.heap.size w w'∧
   LC (ofC x) w w'.heap.size A0 A1 A2 A3 n n1 n2 n3 c0 c1 c2 c3 (w'.alloc (.cells #[.slice A0 n c0,.slice A1 n1 c1,.slice A2 n2 c2,.slice A3 n3 c3] 27))):=
  Lib.hid fun W hb n hn=>ofc_c x hx hT hG hA hb hn
 clear hT hG hA hx
 obtain⟨n,HN⟩:=named (sizeN x)
 rw[←HN.out]at V0 hz
 obtain⟨c,HC0⟩:=named (ofC x)
 rw[←HC0.out]at V0
 have HV:=Lib.hid V0
 have HG:Hid (G5 c n L):=Lib.hid ⟨V0.ok,V0.lvl,V0.len.symm,by have:=V0.few;omega⟩
 have HBX:Hid (Below w.heap.size w (w.alloc (.cells #[.int .u8 x.inN,.int .u8 x.dffs,.int .u8 x.d0,.int .u8 x.d1,.bool x.bus,.bool x.mem,.int .u8 x.p0,.int .u8 x.p1,.int .u8 x.p2,.int .u8 x.p3,sG,sA] 49))):=Lib.hid (below_new (Below.refl _ _) _)
 have hn1:0<n:=hz.1
 have hn20:n<20:=V0.few
 clear V0 hz
 have HOBL:Hid ((obsN c).length≤1000000000):=Lib.hid HG.out.obl
 have hzb:=hz8
 unfold U8 at hzb
 obtain⟨zn,rfl⟩:∃zn:Nat,z=(zn:Int):=⟨z.toNat,by omega⟩
 obtain⟨y,HY⟩:=named (zn%n)
 have hyn:y<n:=by rw[HY.out];exact Nat.mod_lt _ (by omega)
 have HYM:Hid ((zn:Int)%(n:Int)=(y:Int)):=Lib.hid (by rw[HY.out];rfl)
 clear hz8 HY
 go_enter Tryd.func5,Tryd.ntmps5
 go_upto_region 2 with (go_at_call 24;(with_reducible refine (HOF.out _ HBX.out n HN.out).mono ?_);rintro e w1 ⟨A0,A1,A2,A3,n1,n2,n3,c0,c1,c2,c3,rfl,hb,hl⟩;rw[←HC0.out]at hl;have HL0:=Lib.hid hl;clear hb hl)
 obtain⟨W1,HW1⟩:=named (w1.alloc (.cells #[.slice A0 n c0,.slice A1 n1 c1,.slice A2 n2 c2,.slice A3 n3 c3] 27))
 rw[←HW1.out]at HL0
 rw[←HW1.out]
 obtain⟨q,HQ⟩:=named w1.heap.size
 rw[←HQ.out]at HL0
 rw[←HQ.out]
 clear HW1 HQ HOF HBX
 have HCE:Hid (∀W,BelW W1 W→W.cell? ⟨q,0,none⟩=some (.slice A0 n c0)∧W.cell? ⟨q,1,none⟩=some (.slice A1 n1 c1)∧W.cell? ⟨q,2,none⟩=some (.slice A2 n2 c2)∧W.cell? ⟨q,3,none⟩=some (.slice A3 n3 c3)):=Lib.hid fun W h=>(HL0.out.next h).cells
 have HC:Hid (∀W,BelW W1 W→Tabs W∧Cir W W.heap.size (.agg #[.slice A0 n c0,.slice A1 n1 c1,.slice A2 n2 c2,.slice A3 n3 c3]) c):=Lib.hid fun W h=>⟨(HL0.out.next h).tabs,(HL0.out.next h).all⟩
 have HW0:Hid (Below w.heap.size w W1):=Lib.hid HL0.out.bel
 have HLV:Hid (∀W,BelW W1 W→Calls Tryd.prog 11 #[] W fun e w'=>e=.returned (.bool true)∧BelW W w'):=Lib.hid fun W h=>lives5_any W (HC.out W h).1
 have HPT:Hid (∀W,BelW W1 W→PtsC c (.agg #[.slice A0 n c0,.slice A1 n1 c1,.slice A2 n2 c2,.slice A3 n3 c3]) n W):=Lib.hid fun W h V hv=>refpts_any c A0 A1 A2 A3 n n1 n2 n3 c0 c1 c2 c3 V (HC.out V (joinB h hv)).2 (by omega) HOBL.out
 obtain⟨x0,x1,x2,x3⟩:=HCE.out W1 (Below.refl _ _)
 go_upto_region 3 with (fail)
 rw[HYM.out]
 have HD5:=Lib.hid (dom5_any c L A0 A1 A2 A3 n n1 n2 n3 c0 c1 c2 c3 W1 (HC.out W1 (Below.refl _ _)).2 (HPT.out W1 (Below.refl _ _)) y hyn (by omega) HG.out.hl0 HG.out.hl1 HG.out.hl2)
 go_upto_region 4 with (go_at_call 26;(with_reducible refine HD5.out.mono ?_);rintro e w2 ⟨g,R,rfl,h1,h2,h3,h4⟩;have HR2:=Lib.hid h1;have HRL:=Lib.hid h2;have HRI:=Lib.hid h3;have HB2:Hid (BelW W1 w2):=Lib.hid h4;clear h1 h2 h3 h4 x0 x1 x2 x3)
 obtain⟨x0,x1,x2,x3⟩:=HCE.out w2 HB2.out
 have HDO:=Lib.hid (doms_ok c L A0 A1 A2 A3 n n1 n2 n3 c0 c1 c2 c3 w2 y hyn HG.out (HC.out w2 HB2.out).1 (HC.out w2 HB2.out).2)
 go_upto_region 5 with (go_at_call 16;(with_reducible refine HDO.out.mono ?_);rintro e w3 ⟨A5,T,rfl,h1,h2,h3⟩;have HDL:=Lib.hid h1;have HT3:=Lib.hid h2;have HB23:Hid (BelW w2 w3):=Lib.hid h3;clear h1 h2 h3 x0 x1 x2 x3)
 have HB3:Hid (BelW W1 w3):=Lib.hid (joinB HB2.out HB23.out)
 obtain⟨x0,x1,x2,x3⟩:=HCE.out w3 HB3.out
 have HLE:Hid (Calls Tryd.prog 27 #[.agg #[.slice A0 n c0,.slice A1 n1 c1,.slice A2 n2 c2,.slice A3 n3 c3]] w3 fun e w'=>∃gl,e=.returned (.tuple #[.slice (some ⟨gl,0,none⟩) n n,.int .i64 0])∧Row w' gl L∧BelW w3 w'):=Lib.hid (by
  refine (lev_v HV.out (HL0.out.next HB3.out) (Below.refl _ _)).mono fun e w' ⟨⟨gl,h1,_,h2⟩,h3,_⟩=>?_
  exact⟨gl,h1,h2,h3⟩)
 go_upto_region 6 with (go_at_call 27;(with_reducible refine HLE.out.mono ?_);rintro e w4 ⟨gl,rfl,h1,h2⟩;have HL4:=Lib.hid h1;have HB34:Hid (BelW w3 w4):=Lib.hid h2;clear h1 h2 x0 x1 x2 x3)
 have HB24:Hid (BelW w2 w4):=Lib.hid (joinB HB23.out HB34.out)
 have HB4:Hid (BelW W1 w4):=Lib.hid (joinB HB2.out HB24.out)
 have HCN:Hid (T.length=(memB R n).length):=Lib.hid (HDL.out.count fun i hi=>by
  rw[HRI.out i hi]
  constructor
  ·rintro⟨h1,h2,h3⟩;exact⟨by omega,h2,h3⟩
  ·rintro⟨h1,h2,h3⟩;exact⟨by omega,h2,h3⟩)
 have HSE:Hid (Calls Tryd.prog 22 #[.slice (some ⟨g,0,none⟩) n n] w4 fun e w'=>∃A c,e=.returned (.slice A T.length c)∧BelW w4 w'):=Lib.hid (by
  refine (set5_any g n R w4 (HR2.out.below HB24.out) HRL.out (by omega)).mono fun e w' ⟨A,c,h1,_,h2⟩=>?_
  exact⟨A,c,by rw[h1,HCN.out],h2⟩)
 have hmt:T.length≤1000000:=by
  have h1:T.length≤n:=by
   have hnd:T.Nodup:=HDL.out.up.imp fun {a b} hab e=>by subst e;omega
   have h2:=List.Nodup.length_le_of_subset (l₂:=(List.range n).map fun(j:Nat)=>(j:Int)) hnd fun y hy=>by
    have h3:=HDL.out.nod y hy
    exact List.mem_map.2 ⟨y.toNat,List.mem_range.2 (by have:=h3.1;have:=h3.2;omega),by have:=h3.1;omega⟩
   simpa using h2
  omega
 obtain⟨A5',b5,o5,c5,e,hA5,-,-,hc5⟩:=HT3.out.opens
 simp only[Value.slice.injEq]at e
 obtain⟨rfl,-,rfl⟩:=e
 have HA5:=Lib.hid hA5
 have HC5:=Lib.hid hc5
 clear hA5 hc5
 have HRJ:Hid (∀W,BelW w2 W→∀k:Nat,k<n→W.cell? ⟨g,k,none⟩=some (.bool (bat R k))):=Lib.hid fun W h k hk=>by
  exact (HR2.out.below h).cell (by unfold bat;rw[List.getD_eq_getElem?_getD,List.getElem?_eq_getElem (by have:=HRL.out;omega)];rfl)
 have HLJ:Hid (∀W,BelW w4 W→∀k:Nat,k<n→W.cell? ⟨gl,k,none⟩=some (.int .i64 (lat L k))):=Lib.hid fun W h k hk=>by
  exact (HL4.out.below h).cell (j:=k) (by have:=HG.out.lvl.1;have:=HG.out.len;omega)
 obtain⟨lv,HLVK⟩:=named (fun k:Nat=>if k=0 then lat L y else lat L (T.getD (k-1) 0))
 have HTK:Hid (∀k:Nat,k<T.length→∃d:Nat,T.getD k 0=(d:Int)∧d<n∧bat R d=true∧lv k<lat L d∧lv (k+1)=lat L d):=Lib.hid fun k hk=>by
  have hmem:T.getD k 0∈T:=by
   rw[List.getD_eq_getElem?_getD,List.getElem?_eq_getElem hk];exact List.getElem_mem hk
  have hnd:=HDL.out.nod _ hmem
  have h1:=hnd.1
  have h2:=hnd.2
  refine⟨(T.getD k 0).toNat,by omega,by omega,?_,?_,?_⟩
  ·refine (HRI.out _ (by omega)).2 ?_
   have h3:=(HDL.out.mem _ hnd).1 hmem
   have h4:(((T.getD k 0).toNat:Nat):Int)=T.getD k 0:=by omega
   rw[h4]
   exact⟨fun e=>h3.1 (by omega),h3.2⟩
  ·have h4:(((T.getD k 0).toNat:Nat):Int)=T.getD k 0:=by omega
   rw[h4,HLVK.out]
   show (if k=0 then _ else _)<_
   split
   ·exact HDL.out.lo _ hmem
   ·have h5:k-1<T.length:=by omega
    have:=List.pairwise_iff_getElem.1 HDL.out.up (k-1) k h5 hk (by omega)
    rw[List.getD_eq_getElem?_getD,List.getD_eq_getElem?_getD,List.getElem?_eq_getElem h5,List.getElem?_eq_getElem hk]
    exact this
  ·have h4:(((T.getD k 0).toNat:Nat):Int)=T.getD k 0:=by omega
   rw[h4,HLVK.out]
   show (if k+1=0 then _ else lat L (T.getD (k+1-1) 0))=_
   rw[if_neg (by omega),Nat.add_sub_cancel]
 have HLV0:Hid (lat L y=lv 0):=Lib.hid (by rw[HLVK.out];rfl)
 obtain⟨m,HM⟩:=named T.length
 rw[←HM.out]at HTK HA5 HC5 hmt HSE
 rw[←HM.out]
 clear HLVK
 obtain⟨x0,x1,x2,x3⟩:=HCE.out w4 HB4.out
 have hmm:(m != m)=false:=by simp
 go_upto_region 8 with (go_at_call 22;(with_reducible refine HSE.out.mono ?_);rintro e w5 ⟨A6,c6,rfl,h1⟩;have HB45:Hid (BelW w4 w5):=Lib.hid h1;have HB5:Hid (BelW W1 w5):=Lib.hid (joinB HB4.out h1);clear h1 x0 x1 x2 x3;obtain⟨x0,x1,x2,x3⟩:=HCE.out w5 HB5.out)
 have y0:=HLJ.out w5 HB45.out y hyn
 rw[HLV0.out]at y0
 have hyn2:(y:Int)<(n:Int):=by omega
 clear hmm
 go_wp2
 go_loopw [12,13] (fun lw iv wr=>∃j:Nat,j≤m∧iv=.int .i64 j∧lw=.int .i64 (lv j)∧Hid (BelW w5 wr)) (fun _ iv _=>m-(intOf iv).toNat)
 case atStart=>exact⟨0,Nat.zero_le _,rfl,rfl,Lib.hid (Below.refl _ _)⟩
 case round=>
  obtain⟨j,hj,rfl,rfl,HB⟩:=hrel
  clear y0 x0 x1 x2 x3
  by_cases hjl:j<m
  ·have hj2:(j:Int)<(m:Int):=by omega
   have hbs:=HA5.out (by omega)
   have hc0:=(HC5.out j hjl)
   obtain⟨d,hd,hdn,hbr,hlt,hnx⟩:=HTK.out j hjl
   have HB35:Hid (BelW w3 wr):=Lib.hid (joinB HB34.out (joinB HB45.out HB.out))
   have y1:wr.cell? ⟨b5,o5+j,none⟩=some (.int .i64 (T.getD j 0)):=(Below.cell HB35.out (p:=⟨b5,o5+j,none⟩) hc0.1).trans hc0.2
   have y2:=HRJ.out wr (joinB HB23.out HB35.out) d hdn
   have y3:=HLJ.out wr (joinB HB45.out HB.out) d hdn
   rw[hd]at y1
   rw[hbr]at y2
   have HNX:=Lib.hid hnx
   obtain⟨u,HU⟩:=named (lat L (d:Int))
   rw[←HU.out]at y3 hlt HNX
   obtain⟨v,HVV⟩:=named (lv j)
   rw[←HVV.out]at hlt
   rw[←HVV.out]
   have hdn2:(d:Int)<(n:Int):=by omega
   have hq1:decide ((d:Int)<0)=false:=by simp
   have hq2:decide ((n:Int)≤(d:Int))=false:=by simp;omega
   have hq3:decide (u≤v)=false:=by simp;omega
   subst hbs
   clear hc0 hd hbr hnx HU HVV hlt
   go_upto_region 14 with (fail)
   go_wp2
   go_roundw
   case rel=>exact⟨j+1,by omega,by go_num,by rw[HNX.out],HB⟩
   case measure=>simp[intOf];omega
  ·obtain rfl:m=j:=by omega
   have HBW9:Hid (BelW W1 wr):=Lib.hid (joinB HB5.out HB.out)
   go_wp2_with (go_at_call 11;(with_reducible refine (HLV.out _ HBW9.out).mono ?_);rintro e w8 ⟨rfl,h1⟩;have HB8:=Lib.hid h1;clear h1)
   go_ret
   exact⟨rfl,joinB HW0.out (joinB HBW9.out HB8.out)⟩
end Go.Proofs.YtckgnoopjapknaaDoor
