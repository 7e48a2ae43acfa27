/- The texts Ev9. -/
import Derived.Test.YtemjmfpcopfdbaaGreatDoorM22
import Derived.Test.YtemjmfpcopfdbaaGreatDoorM14
import Derived.Test.YtemjmfpcopfdbaaGreatDoorM20
namespace Go.Proofs.YtemjmfpcopfdbaaGreatDoor
open Go.RowKit
def gateR(nodes:List Nd)(out:List Int)(i:Int):Int:=evalL (nodes.getD i.toNat default).kind ((nodes.getD i.toNat default).ins.map fun x=>lat out x)
def memV(nodes:List Nd)(rd:List (List Int))(i:Int):Int:=(rd.getD (nodes.getD i.toNat default).mem.toNat []).getD (nodes.getD i.toNat default).bit.toNat 0
def stm(nodes:List Nd)(rd:List (List Int))(out:List Int)(i:Int):List Int:=
 if (nodes.getD i.toNat default).kind=15 then out.set i.toNat (memV nodes rd i) else if cmb (nodes.getD i.toNat default).kind=true then out.set i.toNat (gateR nodes out i) else out
theorem stm_len(nodes:List Nd)(rd:List (List Int))(out:List Int)(i:Int):(stm nodes rd out i).length=out.length:=by
 unfold stm
 split
 ·exact List.length_set
 ·split
  ·exact List.length_set
  ·rfl
def stmK(nodes:List Nd)(rd:List (List Int))(out R:List Int)(k:Nat):List Int:=(R.take k).foldl (stm nodes rd) out
theorem stmK_len(nodes:List Nd)(rd:List (List Int))(out R:List Int)(k:Nat):(stmK nodes rd out R k).length=out.length:=by
 unfold stmK
 induction R.take k generalizing out with
 |nil=>rfl
 |cons p t ih=>rw[List.foldl_cons,ih,stm_len]
theorem stmK_succ(nodes:List Nd)(rd:List (List Int))(out R:List Int)(k:Nat)(h:k<R.length):stmK nodes rd out R (k+1)=stm nodes rd (stmK nodes rd out R k) (R.getD k 0):=by
 unfold stmK
 rw[List.take_succ_eq_append_getElem h,List.foldl_append,List.getD_eq_getElem?_getD,List.getElem?_eq_getElem h];rfl
def MemOk(nodes:List Nd)(rd:List (List Int)):Prop:=∀i:Nat,i<nodes.length→(nodes.getD i default).kind=15→0≤(nodes.getD i default).mem∧(nodes.getD i default).mem<(rd.length:Int)∧0≤(nodes.getD i default).bit∧(nodes.getD i default).bit<((rd.getD (nodes.getD i default).mem.toNat []).length:Int)
set_option maxRecDepth 100000 in
set_option maxHeartbeats 8000000 in
theorem meval_any(nd:List Nd)(rd:List (List Int))(out0 R:List Int)(A0 Ar:Option Addr)(v1 v2 v3 v4 v5:Value)(n c0 nr cr g d m:Nat)(w0 w:World)(hb:BelW w0 w)(hgl:w0.heap.size≤g)(hT:Lg.Tabs w0)(hN:Ns w0 w0.heap.size (.slice A0 n c0) nd)(hrd:Wrds w0 w0.heap.size (.slice Ar nr cr) rd)
 (hrow:VRow w g out0) (hol:out0.length=n) (hord:Row w d R) (hdg:d≠g) (hm:R.length=m) (hin:∀x∈R,0≤x∧x<(n:Int)) (hw:Wf nd) (hpins:∀k,k<nd.length→(nd.getD k default).ins.length≤16) (hmo:MemOk nd rd) (hm1:m≤1000000):
 Calls Tryz.prog 38 #[.agg #[.slice A0 n c0,v1,v2,v3,v4,v5,.slice Ar nr cr,.slice (some ⟨g,0,none⟩) n n],.slice (some ⟨d,0,none⟩) m m] w fun e w'=>e=.returned (.tuple #[])∧VRow w' g (stmK nd rd out0 R m)∧BelW w0 w'∧w.grownBy w' (some g):=by
 obtain⟨A',b0,o0,c',e,hA0,-,-,hc0⟩:=id hN
 simp only[Value.slice.injEq]at e
 obtain⟨rfl,hnl,rfl⟩:=e
 rw[←hnl]at hA0 hc0
 obtain⟨A'',br,orr,c'',e,hAr,-,-,hcr⟩:=id hrd
 simp only[Value.slice.injEq]at e
 obtain⟨rfl,hrl,rfl⟩:=e
 rw[←hrl]at hAr hcr
 obtain⟨W1,HW1⟩:=named (w.alloc (.cells #[.slice A0 n c0,v1,v2,v3,v4,v5,.slice Ar nr cr,.slice (some ⟨g,0,none⟩) n n] 90))
 have hb1:BelW w W1:=by rw[HW1.out];exact below_new (Below.refl _ _) _
 have hg1:w.grownBy W1 (some g):=by rw[HW1.out];exact World.grownBy_alloc w _ _
 have hf1:Fr W1 w.heap.size 90 [.slice A0 n c0,v1,v2,v3,v4,v5,.slice Ar nr cr,.slice (some ⟨g,0,none⟩) n n]:=by rw[HW1.out];exact Fr.made _ [.slice A0 n c0,v1,v2,v3,v4,v5,.slice Ar nr cr,.slice (some ⟨g,0,none⟩) n n] _ rfl
 have hgw:g<w.heap.size:=hrow.lt
 have hdw:d<w.heap.size:=hord.lt
 obtain⟨s,HS⟩:=named w.heap.size
 rw[←HS.out]at hf1
 have hsg:s≠g:=by rw[HS.out];omega
 have HNG:Hid (∀W,W1.grownBy W (some g)→W.cell? ⟨s,0,none⟩=some (.slice A0 n c0)∧W.cell? ⟨s,1,none⟩=some (v1)∧W.cell? ⟨s,2,none⟩=some (v2)∧W.cell? ⟨s,3,none⟩=some (v3)∧W.cell? ⟨s,4,none⟩=some (v4)∧W.cell? ⟨s,5,none⟩=some (v5)∧W.cell? ⟨s,6,none⟩=some (.slice Ar nr cr)∧W.cell? ⟨s,7,none⟩=some (.slice (some ⟨g,0,none⟩) n n)):=Lib.hid fun W h=>by
  have h2:some s≠some g:=by simpa using hsg
  exact⟨h.cell (hf1.cell 0) h2,h.cell (hf1.cell 1) h2,h.cell (hf1.cell 2) h2,h.cell (hf1.cell 3) h2,h.cell (hf1.cell 4) h2,h.cell (hf1.cell 5) h2,h.cell (hf1.cell 6) h2,h.cell (hf1.cell 7) h2⟩
 have HDR:Hid (∀W,W1.grownBy W (some g)→Row W d R):=Lib.hid fun W h=>(hord.below hb1).kept h (by simpa using hdg)
 have HBL:Hid (∀W,W1.grownBy W (some g)→BelW w0 W):=Lib.hid fun W h=>bgrown (BelW.trans hb hb1) h hgl
 have HTW:Hid (∀W,BelW w0 W→Lg.Tabs W):=Lib.hid fun W h=>hT.below h
 have HND:Hid (∀x,x<n→∃A4 c4,A0=some ⟨b0,o0,none⟩∧0≤(nd.getD x default).kind∧∀W,BelW w0 W→W.cell? ⟨b0,o0+x*4,none⟩=some (.int .u8 (nd.getD x default).kind)∧W.cell? ⟨b0,o0+x*4+1,none⟩=some (.slice A4 (nd.getD x default).ins.length c4)∧W.cell? ⟨b0,o0+x*4+2,none⟩=some (.int .i64 (nd.getD x default).mem)∧W.cell? ⟨b0,o0+x*4+3,none⟩=some (.int .i64 (nd.getD x default).bit)∧Is W W.heap.size (.slice A4 (nd.getD x default).ins.length c4) (nd.getD x default).ins):=Lib.hid fun x hx=>by
  obtain⟨hlb,sv,e0,e1,e2,e3,h4,k0,-⟩:=hc0 x hx
  obtain⟨A4,b4,o4,c4,rfl,-⟩:=id h4
  refine⟨A4,c4,hA0 (by omega),k0,fun W h=>?_⟩
  have hk:∀j,W.cell? ⟨b0,j,none⟩=w0.cell? ⟨b0,j,none⟩:=fun j=>Below.cell h (p:=⟨b0,j,none⟩) hlb
  exact⟨by rw[hk];exact e0,by rw[hk];exact e1,by rw[hk];exact e2,by rw[hk];exact e3,(h4.below h).more (Below.size h)⟩
 have HRD:Hid (∀k,k<nr→∃Ak ck,Ar=some ⟨br,orr,none⟩∧∀W,BelW w0 W→W.cell? ⟨br,orr+k,none⟩=some (.slice Ak (rd.getD k []).length ck)∧∀j,j<(rd.getD k []).length→∃bk ok,Ak=some ⟨bk,ok,none⟩∧W.cell? ⟨bk,ok+j,none⟩=some (.int .u8 ((rd.getD k []).getD j 0))):=Lib.hid fun k hk=>by
  obtain⟨hlb,Ak,ck,h1,h2⟩:=hcr k hk
  rw[Nat.mul_one]at h1
  obtain⟨A9,bk,ok,c9,e,hA9,-,-,hj⟩:=h2.opens
  simp only[Value.slice.injEq,true_and]at e
  obtain⟨rfl,rfl⟩:=e
  exact⟨Ak,ck,hAr (by omega),fun W h=>⟨(Below.cell h (p:=⟨br,orr+k,none⟩) hlb).trans h1,fun j hj2=>⟨bk,ok,hA9 (by omega),(Below.cell h (p:=⟨bk,ok+j,none⟩) (hj j hj2).1).trans (hj j hj2).2⟩⟩⟩
 have HRN:Hid (∀k,k<m→∃x:Nat,R.getD k 0=x∧x<n):=Lib.hid fun k hk=>by
  have hmem:R.getD k 0∈R:=by rw[List.getD_eq_getElem?_getD,List.getElem?_eq_getElem (by rw[hm];exact hk)];exact List.getElem_mem _
  obtain⟨j0,j1⟩:=hin _ hmem
  obtain⟨x,hx⟩:=Int.eq_ofNat_of_zero_le j0
  exact⟨x,hx,by omega⟩
 have HRC:Hid (∀W,W1.grownBy W (some g)→∀k,k<m→W.cell? ⟨d,k,none⟩=some (.int .i64 (R.getD k 0))):=Lib.hid fun W h k hk=>by
  have:=(HDR.out W h).cell (j:=k) (by rw[hm];exact hk)
  unfold lat at this
  rw[Int.toNat_natCast]at this
  exact this
 have HMO:Hid (∀x:Nat,x<n→(nd.getD x default).kind=15→∃km kb:Nat,(nd.getD x default).mem=km∧km<nr∧(nd.getD x default).bit=kb∧kb<(rd.getD km []).length):=Lib.hid fun x hx hk=>by
  obtain⟨m0,m1,b1,b2⟩:=hmo x (by rw[←hnl];exact hx) hk
  obtain⟨km,hkm⟩:=Int.eq_ofNat_of_zero_le m0
  obtain⟨kb,hkb⟩:=Int.eq_ofNat_of_zero_le b1
  rw[hkm,Int.toNat_natCast]at b2
  exact⟨km,kb,hkm,by omega,hkb,by omega⟩
 have HSU:Hid (∀k,k<m→stmK nd rd out0 R (k+1)=stm nd rd (stmK nd rd out0 R k) (R.getD k 0)):=Lib.hid fun k hk=>stmK_succ nd rd out0 R k (by rw[hm];exact hk)
 have HSL:Hid (∀k,(stmK nd rd out0 R k).length=n):=Lib.hid fun k=>by rw[stmK_len,hol]
 have HPINS:Hid (∀k,k<n→(nd.getD k default).ins.length≤16∧∀x∈(nd.getD k default).ins,0≤x∧x<(n:Int)):=Lib.hid fun k hk=>⟨hpins k (by rw[←hnl];exact hk),fun x hx=>by have:=hw k (by rw[←hnl];exact hk) x hx;rw[←hnl]at this;exact this⟩
 have HR1:Hid (VRow W1 g out0):=Lib.hid (hrow.below hb1)
 have HGW:Hid (∀W,W1.grownBy W (some g)→w.grownBy W (some g)):=Lib.hid fun W h=>by
  obtain⟨a1,a2,a3,a4,a5⟩:=hg1
  obtain⟨b1,b2,b3,b4,b5⟩:=h
  exact⟨b1.trans a1,b2.trans a2,b3.trans a3,Nat.le_trans a4 b4,fun i hi hne=>(b5 i (Nat.lt_of_lt_of_le hi a4) hne).trans (a5 i hi hne)⟩
 clear hb hgl hT hN hrd hrow hol hord hm hin hw hpins hmo hA0 hc0 hnl hAr hcr hrl hb1 hg1 hf1
 go_enter Tryz.func38,Tryz.ntmps38
 go_upto_region 1 with (fail)
 rw[←HW1.out,←HS.out]
 go_wp2
 go_loopw [9] (fun i wr=>∃k:Nat,k≤m∧i=.int .i64 k∧W1.grownBy wr (some g)∧VRow wr g (stmK nd rd out0 R k)) (fun i _=>m-(intOf i).toNat)
 case atStart=>exact⟨0,Nat.zero_le _,rfl,World.grownBy.refl _ _,HR1.out⟩
 case round=>
  obtain⟨k,hk,rfl,hg,hv⟩:=hrel
  have HG:=Lib.hid hg
  have HVR:=Lib.hid hv
  by_cases hlt:k<m
  ·have hk2:(k:Int)<(m:Int):=by omega
   obtain⟨x,hx,hxn⟩:=HRN.out k hlt
   have hxc:=HRC.out wr hg k hlt
   have hsu:=HSU.out k hlt
   rw[hx]at hxc hsu
   have HSUK:=Lib.hid hsu
   have hxn2:(x:Int)<(n:Int):=by omega
   obtain⟨A4,c4,rfl,hk0,hnd⟩:=HND.out x hxn
   obtain⟨e0,e1,e2,e3,his⟩:=hnd wr (HBL.out wr hg)
   have HIS:=Lib.hid (fun W h=>(hnd W h).2.2.2.2)
   have hpi:=HPINS.out x hxn
   have HPI:=Lib.hid hpi.2
   have hni0:=hpi.1
   have HMX:=Lib.hid (HMO.out x hxn)
   obtain⟨b,rfl⟩:∃z,z=b0:=⟨_,rfl⟩
   obtain⟨o,rfl⟩:∃z,z=o0:=⟨_,rfl⟩
   obtain⟨s0,s1,s2,s3,s4,s5,s6,s7⟩:=HNG.out wr hg
   have HSTM:Hid (stm nd rd (stmK nd rd out0 R k) (x:Int)=if (nd.getD x default).kind=15 then (stmK nd rd out0 R k).set x (memV nd rd (x:Int)) else if cmb (nd.getD x default).kind=true then (stmK nd rd out0 R k).set x (gateR nd (stmK nd rd out0 R k) (x:Int)) else stmK nd rd out0 R k):=Lib.hid (by unfold stm;rw[Int.toNat_natCast])
   have hol:=HSL.out k
   have HGR:Hid (gateR nd (stmK nd rd out0 R k) (x:Int)=evalL (nd.getD x default).kind ((nd.getD x default).ins.map fun y=>lat (stmK nd rd out0 R k) y)):=Lib.hid (by unfold gateR;rw[Int.toNat_natCast])
   have HMV:Hid (memV nd rd (x:Int)=(rd.getD (nd.getD x default).mem.toNat []).getD (nd.getD x default).bit.toNat 0):=Lib.hid (by unfold memV;rw[Int.toNat_natCast])
   obtain⟨mvx,HMVX⟩:=named (memV nd rd (x:Int))
   rw[←HMVX.out]at HSTM HMV
   obtain⟨out,HOUT⟩:=named (stmK nd rd out0 R k)
   rw[←HOUT.out]at HSTM HGR HSUK hol HVR hv
   obtain⟨ni4,HNI⟩:=named (nd.getD x default).ins.length
   obtain⟨kd,HKD⟩:=named (nd.getD x default).kind
   obtain⟨md,HMD⟩:=named (nd.getD x default).mem
   obtain⟨bd,HBD⟩:=named (nd.getD x default).bit
   rw[←HKD.out]at e0 hk0 HMX HSTM HGR
   rw[←HNI.out]at e1 his HIS hni0
   rw[←HMD.out]at e2 HMX HMV
   rw[←HBD.out]at e3 HMX HMV
   have z1:=hv.cell (j:=x) (by rw[hol];exact hxn)
   have z2:=hv.frozen x
   obtain⟨zo,HZO⟩:=named (lat out (x:Int))
   rw[←HZO.out]at z1
   obtain⟨W2,HW2⟩:=named (wr.alloc (.cells #[.int .u8 kd,.slice A4 ni4 c4,.int .i64 md,.int .i64 bd] 65))
   have hnew:BelW wr W2:=by rw[HW2.out];exact below_new (Below.refl _ _) _
   have hgr2:W1.grownBy W2 (some g):=gnext hg hnew
   have hfv:Fr W2 wr.heap.size 65 [.int .u8 kd,.slice A4 ni4 c4,.int .i64 md,.int .i64 bd]:=by rw[HW2.out];exact Fr.made _ [.int .u8 kd,.slice A4 ni4 c4,.int .i64 md,.int .i64 bd] _ rfl
   have hgv:g<wr.heap.size:=hv.lt
   obtain⟨v,HVV⟩:=named wr.heap.size
   rw[←HVV.out]at hfv hgv
   have hvg:v≠g:=by omega
   have HV2:Hid (VRow W2 g out):=Lib.hid (hv.below hnew)
   have HG2:=Lib.hid hgr2
   have HCM:=Lib.hid (fun w=>comb_any kd w)
   have vc0:W2.cell? ⟨v,0,none⟩=some (.int .u8 kd):=hfv.cell 0
   have vc1:W2.cell? ⟨v,1,none⟩=some (.slice A4 ni4 c4):=hfv.cell 1
   have vc2:W2.cell? ⟨v,2,none⟩=some (.int .i64 md):=hfv.cell 2
   have vc3:W2.cell? ⟨v,3,none⟩=some (.int .i64 bd):=hfv.cell 3
   have z3:=HV2.out.cell (j:=x) (by rw[hol];exact hxn)
   rw[←HZO.out]at z3
   have z4:=HV2.out.frozen x
   have HSETV:Hid (∀W z,W1.grownBy W (some g)→VRow W g out→W1.grownBy (W.setCell ⟨g,x,none⟩ (.int .u8 z)).drew (some g)∧VRow (W.setCell ⟨g,x,none⟩ (.int .u8 z)).drew g (out.set x z)):=Lib.hid fun W z h h2=>⟨gdrew (grown_v h x _),(h2.set x z).below (BelW.drew (Below.refl _ _))⟩
   clear hnd hpi hx hsu hg hv his hnew hfv hgr2
   by_cases h15:kd=15
   ·subst h15
    obtain⟨km,kb,hkm,hkm2,hkb,hkb2⟩:=HMX.out rfl
    obtain⟨Ak,ck,rfl,hrk⟩:=HRD.out km hkm2
    obtain⟨r1,r2⟩:=hrk W2 (HBL.out W2 HG2.out)
    obtain⟨bk,ok,rfl,r3⟩:=r2 kb hkb2
    have HMVE:Hid (mvx=(rd.getD km []).getD kb 0):=Lib.hid (by rw[HMV.out,hkm,hkb,Int.toNat_natCast,Int.toNat_natCast])
    rw[←HMVE.out]at r3
    have HSX:Hid (stmK nd rd out0 R (k+1)=out.set x mvx):=Lib.hid (by rw[HSUK.out,HSTM.out,if_pos rfl])
    obtain⟨nk,HNK⟩:=named (rd.getD km []).length
    rw[←HNK.out]at r1 hkb2
    subst hkm hkb
    have q1:(km:Int)<(nr:Int):=by omega
    have q2:(kb:Int)<(nk:Int):=by omega
    obtain⟨s0,s1,s2,s3,s4,s5,s6,s7⟩:=HNG.out W2 HG2.out
    clear hrk r2 z1 z2
    go_upto_region 5 with (fail)
    rw[←HW2.out,←HVV.out]
    clear e0 e1 e2 e3 hxc
    go_wp2
    go_still_tail 15,(by kernel_rfl)
    go_wp2
    go_roundw
    case rel=>
     obtain⟨f1,f2⟩:=HSETV.out W2 mvx HG2.out HV2.out
     exact⟨k+1,by omega,by go_num,f1,by rw[HSX.out];exact f2⟩
    case measure=>simp[intOf];omega
   ·have t1:(kd==15)=false:=by simpa using h15
    cases hcm:cmb kd
    ·have HSX:Hid (stmK nd rd out0 R (k+1)=out):=Lib.hid (by rw[HSUK.out,HSTM.out,if_neg h15,if_neg (by rw[hcm];simp)])
     rw[hcm]at HCM
     clear h15
     go_upto_region 5 with (fail)
     rw[←HW2.out,←HVV.out]
     clear s0 s1 s2 s3 s4 s5 s6 s7 e0 e1 e2 e3 hxc
     go_wp2_with (go_at_call 70;(with_reducible refine (HCM.out _).mono ?_);rintro e w' ⟨rfl,rfl⟩)
     go_roundw
     case rel=>exact⟨k+1,by omega,by go_num,HG2.out,by rw[HSX.out];exact HV2.out⟩
     case measure=>simp[intOf];omega
    ·have HSX0:Hid (stmK nd rd out0 R (k+1)=out.set x (gateR nd out (x:Int))):=Lib.hid (by rw[HSUK.out,HSTM.out,if_neg h15,if_pos hcm])
     obtain⟨nv,HNV⟩:=named (gateR nd out (x:Int))
     rw[←HNV.out]at HSX0 HGR
     have HVX:Hid (∀W,W1.grownBy W (some g)→VRow W g out→Calls Tryz.prog 85 #[.agg #[.slice (some ⟨b,o,none⟩) n c0,v1,v2,v3,v4,v5,.slice Ar nr cr,.slice (some ⟨g,0,none⟩) n n],.slice A4 ni4 c4] W fun e w'=>∃g',e=.returned (.slice (some ⟨g',0,none⟩) ni4 ni4)∧VRow w' g' ((nd.getD x default).ins.map fun y=>lat out y)∧W.heap.size≤g'∧BelW W w'):=Lib.hid fun W h h2=>mvals_any out _ _ v1 v2 v3 v4 v5 _ A4 ni4 c4 g n W W.heap.size (Nat.le_refl _) (HIS.out W (HBL.out W h)) h2 hol HPI.out (by omega)
     have HEX:Hid (∀W g5,BelW w0 W→VRow W g5 ((nd.getD x default).ins.map fun y=>lat out y)→Calls Tryz.prog 71 #[.int .u8 kd,.slice (some ⟨g5,0,none⟩) ni4 ni4] W fun e w'=>e=.returned (.int .u8 nv)∧BelW W w'):=Lib.hid fun W g5 h h2=>by
      have h3:=Lg.eval_any kd hk0 (Nat.le_refl _) h2.ks.vs (HTW.out W h)
      rw[List.length_map,←HNI.out,←HGR.out]at h3
      exact h3
     rw[hcm]at HCM
     have HKE:Hid (∀w',W2.grownBy w' (some g)→W2.grownBy w' (some g)∧w'.cell? ⟨s,0,none⟩=some (.slice (some ⟨b,o,none⟩) n c0)∧w'.cell? ⟨s,1,none⟩=some (v1)∧w'.cell? ⟨s,2,none⟩=some (v2)∧w'.cell? ⟨s,3,none⟩=some (v3)∧w'.cell? ⟨s,4,none⟩=some (v4)∧w'.cell? ⟨s,5,none⟩=some (v5)∧w'.cell? ⟨s,6,none⟩=some (.slice Ar nr cr)∧w'.cell? ⟨s,7,none⟩=some (.slice (some ⟨g,0,none⟩) n n)∧w'.cell? ⟨v,0,none⟩=some (.int .u8 kd)∧w'.cell? ⟨v,1,none⟩=some (.slice A4 ni4 c4)):=Lib.hid fun w' h=>by
      have h2:some v≠some g:=by simpa using hvg
      have h3:W1.grownBy w' (some g):=by
       obtain⟨a1,a2,a3,a4,a5⟩:=HG2.out
       obtain⟨b1,b2,b3,b4,b5⟩:=h
       exact⟨b1.trans a1,b2.trans a2,b3.trans a3,Nat.le_trans a4 b4,fun i hi hne=>(b5 i (Nat.lt_of_lt_of_le hi a4) hne).trans (a5 i hi hne)⟩
      obtain⟨q0,q1,q2,q3,q4,q5,q6,q7⟩:=HNG.out w' h3
      exact⟨h,q0,q1,q2,q3,q4,q5,q6,q7,h.cell vc0 h2,h.cell vc1 h2⟩
     have HG1T:Hid (∀w',W2.grownBy w' (some g)→W1.grownBy w' (some g)):=Lib.hid fun w' h=>by
      obtain⟨a1,a2,a3,a4,a5⟩:=HG2.out
      obtain⟨b1,b2,b3,b4,b5⟩:=h
      exact⟨b1.trans a1,b2.trans a2,b3.trans a3,Nat.le_trans a4 b4,fun i hi hne=>(b5 i (Nat.lt_of_lt_of_le hi a4) hne).trans (a5 i hi hne)⟩
     have hlx:x<out.length:=by rw[hol];exact hxn
     have HLX:=Lib.hid hlx
     clear h15 hlx hcm
     go_upto_region 5 with (fail)
     rw[←HW2.out,←HVV.out]
     go_wp2_with (go_at_call 70;(with_reducible refine (HCM.out _).mono ?_);rintro e w' ⟨rfl,rfl⟩)
     have hg0:W2.grownBy W2 (some g):=World.grownBy.refl _ _
     clear vc0 vc1 vc2 vc3 s0 s1 s2 s3 s4 s5 s6 s7 e0 e1 e2 e3 hxc z1 z2 z3 z4
     go_region_held3 (fun w'=>W2.grownBy w' (some g)∧w'.cell? ⟨s,0,none⟩=some (.slice (some ⟨b,o,none⟩) n c0)∧w'.cell? ⟨s,1,none⟩=some (v1)∧w'.cell? ⟨s,2,none⟩=some (v2)∧w'.cell? ⟨s,3,none⟩=some (v3)∧w'.cell? ⟨s,4,none⟩=some (v4)∧w'.cell? ⟨s,5,none⟩=some (v5)∧w'.cell? ⟨s,6,none⟩=some (.slice Ar nr cr)∧w'.cell? ⟨s,7,none⟩=some (.slice (some ⟨g,0,none⟩) n n)∧w'.cell? ⟨v,0,none⟩=some (.int .u8 kd)∧w'.cell? ⟨v,1,none⟩=some (.slice A4 ni4 c4))
      ((refine HKE.out _ ?_;first|(with_reducible assumption)|(refine gdrew ?_;with_reducible assumption)|(refine grown_v ?_ _ _;with_reducible assumption)))
      (first
        |(go_at_call 85;(refine Calls.mono (HVX.out _ (HG1T.out _ (gdrew hg0)) (HV2.out.below (BelW.drew (Below.refl _ _)))) ?_)
          rintro e wA ⟨g5,rfl,hvA,-,hbA⟩
          have hgA:W2.grownBy wA (some g):=gnext (gdrew hg0) hbA
          have hrA:VRow wA g out:=(HV2.out.below (BelW.drew (Below.refl _ _))).below hbA
          have hbelA:BelW w0 wA:=HBL.out wA (HG1T.out wA hgA))
        |(go_at_call 71;(with_reducible refine Calls.mono (HEX.out _ _ hbelA hvA) ?_)
          rintro e wB ⟨rfl,hbB⟩
          have hgB:W2.grownBy wB (some g):=gnext hgA hbB
          have hrB:VRow wB g out:=hrA.below hbB
          have hcB:=VRow.cell hrB HLX.out
          have hfB:=VRow.frozen hrB x))
     have HRB:=Lib.hid (HSETV.out wB nv (HG1T.out wB hgB) hrB)
     have HRB2:=Lib.hid (And.intro (grown_v (HG1T.out wB hgB) x (.int .u8 nv)) (hrB.set x nv))
     clear hrB hcB hfB hgB hrA hbelA hgA hvA hbA hbB hg0
     go_wp2
     go_roundw
     case rel=>exact⟨k+1,by omega,by go_num,by first|exact HRB2.out.1|exact HRB.out.1,by rw[HSX0.out];first|exact HRB2.out.2|exact HRB.out.2⟩
     case measure=>simp[intOf];omega
  ·obtain rfl:m=k:=by omega
   have HEND:=Lib.hid (HBL.out wr hg)
   have HEN2:=Lib.hid (HGW.out wr hg)
   clear hg hv
   go_wp2
   go_end0
   exact⟨rfl,HVR.out,HEND.out,HEN2.out⟩
end Go.Proofs.YtemjmfpcopfdbaaGreatDoor
