/- The texts Kpt. -/
import Derived.Test.YtjdjcaobkmpoeaaDoorM16
import Derived.Test.YtjdjcaobkmpoeaaDoorM29
import Derived.Test.YtjdjcaobkmpoeaaDoorM17
import Derived.Test.YtjdjcaobkmpoeaaDoorM21
import Derived.Test.YtjdjcaobkmpoeaaDoorM19
import Derived.Test.YtjdjcaobkmpoeaaDoorM27
namespace Go.Proofs.YtjdjcaobkmpoeaaDoor
open Go.RowKit
def Y6(CV:Value)(A:Option Addr)(m c k b ob:Nat)(z:Int)(t:Bool)(i:Nat)(v:Value)(_:World):Prop:=
 (i=0→v=CV)∧(i=1→v=.slice A m c)∧(i=2→v=.int .i64 (k:Int))∧(i=3→v=.pointer (some ⟨b,ob+k,none⟩))∧(i=4→v=.int .i64 z)∧(i=5→v=.bool t)
theorem Y6.next{CV:Value}{A:Option Addr}{m c k b ob:Nat}{z:Int}{t:Bool}(i:Nat)(v:Value)(W W':World)(h:Y6 CV A m c k b ob z t i v W)(_:Below W.heap.size W W'):Y6 CV A m c k b ob z t i v W':=h
theorem Y6.v0{CV v:Value}{A:Option Addr}{m c k b ob:Nat}{z:Int}{t:Bool}{W:World}(h:v=CV):Y6 CV A m c k b ob z t 0 v W:=⟨(fun _=>h),(by simp),(by simp),(by simp),(by simp),(by simp)⟩
theorem Y6.v1{CV v:Value}{A:Option Addr}{m c k b ob:Nat}{z:Int}{t:Bool}{W:World}(h:v=.slice A m c):Y6 CV A m c k b ob z t 1 v W:=⟨(by simp),(fun _=>h),(by simp),(by simp),(by simp),(by simp)⟩
theorem Y6.v2{CV v:Value}{A:Option Addr}{m c k b ob:Nat}{z:Int}{t:Bool}{W:World}(h:v=.int .i64 (k:Int)):Y6 CV A m c k b ob z t 2 v W:=⟨(by simp),(by simp),(fun _=>h),(by simp),(by simp),(by simp)⟩
theorem Y6.v3{CV v:Value}{A:Option Addr}{m c k b ob:Nat}{z:Int}{t:Bool}{W:World}(h:v=.pointer (some ⟨b,ob+k,none⟩)):Y6 CV A m c k b ob z t 3 v W:=⟨(by simp),(by simp),(by simp),(fun _=>h),(by simp),(by simp)⟩
theorem Y6.v4{CV v:Value}{A:Option Addr}{m c k b ob:Nat}{z:Int}{t:Bool}{W:World}(h:v=.int .i64 z):Y6 CV A m c k b ob z t 4 v W:=⟨(by simp),(by simp),(by simp),(by simp),(fun _=>h),(by simp)⟩
theorem Y6.v5{CV v:Value}{A:Option Addr}{m c k b ob:Nat}{z:Int}{t:Bool}{W:World}(h:v=.bool t):Y6 CV A m c k b ob z t 5 v W:=⟨(by simp),(by simp),(by simp),(by simp),(by simp),(fun _=>h)⟩
theorem app_bel{W0 w w':World}{v:Value}{l:List Int}(hb:BelW W0 w)(hs:Stk w W0.heap.size v l)(hg:w.grownBy w' v.ownBlock):BelW W0 w':=hb.grown hg (Below.size hb) fun q e=>(World.ownsRow.lt hs q e).1
theorem one_kept{w w':World}{g:Nat}{v:Value}{x:Int}(h:Fr w g 3 [.int .i64 x])(hne:v.ownBlock≠some g)(hg:w.grownBy w' v.ownBlock):Fr w' g 3 [.int .i64 x]:=h.kept hg fun e=>hne e.symm
theorem own_ne{g s:Nat}{v v':Value}(hg:g<s)(h:v.ownBlock≠some g)(h3:v'.ownBlock=v.ownBlock∨v'.ownBlock=some s):v'.ownBlock≠some g:=fun e=>by
 rcases h3 with h3|h3
 ·exact h (h3.symm.trans e)
 ·rw[e]at h3
  simp only[Option.some.injEq]at h3
  omega
theorem fr_oneP{w:World}{g:Nat}{x:Int}(h:Fr w g 3 [.int .i64 x]):Is w w.heap.size (.slice (some ⟨g,0,none⟩) 1 1) [x]:=(Fr.row (l:=[x]) h (by show 1≤maxLen;unfold maxLen;decide)).is (by show 1≤maxLen;unfold maxLen;decide)
set_option maxRecDepth 100000 in
set_option maxHeartbeats 8000000 in
theorem refpts_any(c:Ck)(A0 A1 A2 A3:Option Addr)(n n1 n2 n3 c0 c1 c2 c3:Nat)(w:World)(hc:Cir w w.heap.size (.agg #[.slice A0 n c0,.slice A1 n1 c1,.slice A2 n2 c2,.slice A3 n3 c3]) c)(hsz:n≤1000000)(hob:(obsN c).length≤1000000000):
 Calls Tryd.prog 18 #[.agg #[.slice A0 n c0,.slice A1 n1 c1,.slice A2 n2 c2,.slice A3 n3 c3]] w fun e w'=>∃g,e=.returned (.slice (some ⟨g,0,none⟩) n n)∧BRow w' g (ptB c)∧BelW w w':=by
 have hcc:=hc
 have HLN:=Lib.hid (cir_len hc)
 obtain⟨v0,v1,v2,v3,hv,hns,hss,hms,hos⟩:=hc
 simp only[Value.agg.injEq,Array.mk.injEq,List.cons.injEq,and_true]at hv
 obtain⟨rfl,rfl,rfl,rfl⟩:=hv
 obtain⟨A0',b,o,c0',e,hA,-,-,hcell⟩:=id hns
 simp only[Value.slice.injEq]at e
 obtain⟨rfl,hn0,rfl⟩:=e
 obtain⟨A2',b2,o2,c2',e,hA2,-,hm2,hcell2⟩:=id hms
 simp only[Value.slice.injEq]at e
 obtain⟨rfl,hn2,rfl⟩:=e
 obtain⟨A3',b3,o3,c3',e,hA3,-,hm3,hcell3⟩:=id hos
 simp only[Value.slice.injEq]at e
 obtain⟨rfl,hn3,rfl⟩:=e
 have hnd:∀k,k<n→∃A cc,A0=some ⟨b,o,none⟩∧b<w.heap.size∧w.cell? ⟨b,o+k*4,none⟩=some (.int .u8 (c.nodes.getD k default).kind)∧w.cell? ⟨b,o+k*4+1,none⟩=some (.slice A (c.nodes.getD k default).ins.length cc)∧Is w w.heap.size (.slice A (c.nodes.getD k default).ins.length cc) (c.nodes.getD k default).ins:=fun k hk=>by
  obtain⟨hb,s,h0,h1,h2,h3,h4,-⟩:=hcell k (by omega)
  obtain⟨A4,b4,o4,c4,rfl,-⟩:=id h4
  exact⟨A4,c4,hA (by omega),hb,h0,h1,h4⟩
 have hmm:∀k,k<n2→∃A cc B cd,A2=some ⟨b2,o2,none⟩∧b2<w.heap.size∧w.cell? ⟨b2,o2+k*3,none⟩=some (.slice A (c.mems.getD k default).addr.length cc)∧w.cell? ⟨b2,o2+k*3+1,none⟩=some (.slice B (c.mems.getD k default).data.length cd)∧w.cell? ⟨b2,o2+k*3+2,none⟩=some (.int .i64 (c.mems.getD k default).write)∧Is w w.heap.size (.slice A (c.mems.getD k default).addr.length cc) (c.mems.getD k default).addr∧Is w w.heap.size (.slice B (c.mems.getD k default).data.length cd) (c.mems.getD k default).data:=fun k hk=>by
  obtain⟨hb,s,t,h0,h1,h2,h4,h5⟩:=hcell2 k (by omega)
  obtain⟨A4,b4,o4,c4,rfl,-⟩:=id h4
  obtain⟨A5,b5,o5,c5,rfl,-⟩:=id h5
  exact⟨A4,c4,A5,c5,hA2 (by omega),hb,h0,h1,h2,h4,h5⟩
 obtain⟨W1,HW1⟩:=named (w.alloc (.cells #[.slice A0 n c0,.slice A1 n1 c1,.slice A2 n2 c2,.slice A3 n3 c3] 27))
 have hb1:BelW w W1:=by rw[HW1.out];exact below_new (Below.refl _ _) _
 have hfr:Fr W1 w.heap.size 27 [.slice A0 n c0,.slice A1 n1 c1,.slice A2 n2 c2,.slice A3 n3 c3]:=by rw[HW1.out];exact Fr.made _ _ _ rfl
 obtain⟨q,HQ⟩:=named w.heap.size
 rw[←HQ.out]at hfr
 have HQ2:=Lib.hid HQ.out
 have HCE:Hid (∀W,BelW W1 W→W.cell? ⟨q,0,none⟩=some (.slice A0 n c0)∧W.cell? ⟨q,1,none⟩=some (.slice A1 n1 c1)∧W.cell? ⟨q,2,none⟩=some (.slice A2 n2 c2)∧W.cell? ⟨q,3,none⟩=some (.slice A3 n3 c3)):=Lib.hid fun W h=>⟨(hfr.below h).cell 0,(hfr.below h).cell 1,(hfr.below h).cell 2,(hfr.below h).cell 3⟩
 have HCC:Hid (∀W,BelW W1 W→Cir W W.heap.size (.agg #[.slice A0 n c0,.slice A1 n1 c1,.slice A2 n2 c2,.slice A3 n3 c3]) c):=Lib.hid fun W h=>(hcc.below (joinB hb1 h)).more (Below.size (joinB hb1 h))
 have HBW:Hid (∀W,BelW W1 W→∀p:Addr,p.block<w.heap.size→W.cell? p=w.cell? p):=Lib.hid fun W h p hp=>Below.cell (joinB hb1 h) hp
 have HIW:Hid (∀W,BelW W1 W→∀s l,Is w w.heap.size s l→Is W W.heap.size s l):=Lib.hid fun W h s l hs=>(hs.below (joinB hb1 h)).more (Below.size (joinB hb1 h))
 have HOS:=Lib.hid hos
 have HND:=Lib.hid hnd
 have HMM:=Lib.hid hmm
 have HN3:=Lib.hid hn3
 have HL1:Hid (∀k,k≤n→c.outs.length+(dffL c.nodes k).length≤1000000000):=Lib.hid fun k hk=>by
  have h1:(obsN c).length=c.outs.length+(dffL c.nodes c.nodes.length).length+(mmsL c.mems c.mems.length).length:=by unfold obsN;simp only[List.length_append]
  have h2:(dffL c.nodes k).length≤(dffL c.nodes n).length:=by
   have:∀d,(dffL c.nodes k).length≤(dffL c.nodes (k+d)).length:=fun d=>by
    induction d with
    |zero=>exact Nat.le_refl _
    |succ d ih=>
     refine Nat.le_trans ih ?_
     rw[←Nat.add_assoc]
     unfold dffL
     rw[List.range_succ,List.flatMap_append,List.length_append]
     omega
   have h3:=this (n-k)
   rwa [show k+(n-k)=n by omega]at h3
  rw[HLN.out]at h1
  omega
 have HL2:Hid (∀k,k≤n2→c.outs.length+(dffL c.nodes n).length+(mmsL c.mems k).length≤1000000000):=Lib.hid fun k hk=>by
  have h1:(obsN c).length=c.outs.length+(dffL c.nodes c.nodes.length).length+(mmsL c.mems c.mems.length).length:=by unfold obsN;simp only[List.length_append]
  have h2:(mmsL c.mems k).length≤(mmsL c.mems n2).length:=by
   have:∀d,(mmsL c.mems k).length≤(mmsL c.mems (k+d)).length:=fun d=>by
    induction d with
    |zero=>exact Nat.le_refl _
    |succ d ih=>
     refine Nat.le_trans ih ?_
     rw[←Nat.add_assoc,mmsL_succ,List.length_append]
     omega
   have h3:=this (n2-k)
   rwa [show k+(n2-k)=n2 by omega]at h3
  rw[HLN.out,←hn2]at h1
  omega
 have HN2:Hid (n2≤maxLen):=Lib.hid (by omega)
 have hn2m:(n2:Int)≤9223372036854775807:=by unfold maxLen at hm2;omega
 have HOB:Hid (obsN c=c.outs++dffL c.nodes n++mmsL c.mems n2):=Lib.hid (by unfold obsN;rw[HLN.out,←hn2])
 have HPTB:Hid (ptB c=mkL n (List.replicate n false) (obsN c)):=Lib.hid (by unfold ptB;rw[HLN.out])
 have HRI:Hid (∀W z,BelW W1 W→Calls Tryd.prog 8 #[.agg #[.slice A0 n c0,.slice A1 n1 c1,.slice A2 n2 c2,.slice A3 n3 c3],.int .i64 z] W fun e w'=>e=.returned (.bool (isIdx n z))∧BelW W w'):=Lib.hid fun W z h=>by
  have:=refIs_any c z _ W W.heap.size (HCC.out W h)
  rwa [HLN.out]at this
 obtain⟨x0,x1,x2,x3⟩:=HCE.out W1 (Below.refl _ _)
 have HB1:=Lib.hid hb1
 obtain⟨i0,hi,hz0,hz1',hz2⟩:=info_parts info_bool
 have HI:=Lib.hid (And.intro hi (And.intro hz0 (And.intro hz1' hz2)))
 clear hi hz0 hz1' hz2 hcc hns hss hms hos hA hA2 hA3 hcell hcell2 hcell3 hm2 hm3 hn0 hn2 hn3 hnd hmm hb1 hfr hob
 go_enter Tryd.func18,Tryd.ntmps18
 go_upto_region 1 with (fail)
 rw[←HW1.out,←HQ2.out]
 have HO1:=Lib.hid (HIW.out W1 (Below.refl _ _) _ _ HOS.out)
 have hl0:=HL1.out 0 (Nat.zero_le _)
 have h3o:=HN3.out
 have hdbg:0+n3≤10000000000:=by omega
 clear h3o hl0
 go_upto_region 2 with (at_builtin;refine wpList_appI (by rfl) (.const (.slice none 0 0)) (.tmp 9) (by rfl) W1.heap.size (.slice none 0 0) [] c.outs A3 0 n3 c3 (by simp[Act.eval]) (by simp[Act.eval]) (Stk.nil _ _) rfl HO1.out hdbg (Nat.le_refl _) ?_;intro A4 c4 w4 h1 h2 h3;have HST4:Hid (Stk w4 W1.heap.size (.slice A4 n3 c4) c.outs):=Lib.hid (by simpa using h1);have HG4:Hid (BelW W1 w4):=Lib.hid (app_bel (Below.refl _ _) (Stk.nil _ _) h2);clear h1 h2 h3 x0 x1 x2 x3 hdbg)
 go_wp2
 go_loopw [3,4] (fun sv iv wr=>∃k:Nat,k≤n∧iv=.int .i64 k∧Hid (Stk wr W1.heap.size sv (c.outs++dffL c.nodes k))∧Hid (BelW W1 wr)) (fun _ iv _=>n-(intOf iv).toNat)
 case atStart=>exact⟨0,Nat.zero_le _,rfl,Lib.hid (by rw[show dffL c.nodes 0=[] from rfl,List.append_nil];exact HST4.out),HG4⟩
 case round=>
  clear HST4 HG4
  obtain⟨k,hk,rfl,HST,HB⟩:=hrel
  obtain⟨x0,x1,x2,x3⟩:=HCE.out wr HB.out
  obtain⟨A6,c6,rfl,-,-,-⟩:=HST.out.form
  by_cases hlt:k<n
  ·have hk2:(k:Int)<(n:Int):=by omega
   obtain⟨A,cc,rfl,hbb,d0,d1,his⟩:=HND.out k hlt
   have e0:=(HBW.out wr HB.out ⟨b,o+k*4,none⟩ hbb).trans d0
   have e1:=(HBW.out wr HB.out ⟨b,o+k*4+1,none⟩ hbb).trans d1
   have HIS:=Lib.hid (HIW.out wr HB.out _ _ his)
   have hl1:=HL1.out (k+1) hlt
   have hds:dffL c.nodes (k+1)=dffL c.nodes k++(if (c.nodes.getD k default).kind=14 then (c.nodes.getD k default).ins else []):=by
    unfold dffL;rw[List.range_succ,List.flatMap_append,List.flatMap_cons,List.flatMap_nil,List.append_nil]
   obtain⟨kd,HKD⟩:=named (c.nodes.getD k default).kind
   obtain⟨li,HLI⟩:=named (c.nodes.getD k default).ins
   rw[←HLI.out]at e1 HIS
   rw[←HKD.out]at e0
   rw[←HKD.out,←HLI.out]at hds
   have HDS:=Lib.hid hds
   clear d0 d1 his hds
   cases hkd:(kd==14)
   ·have hk1:¬kd=14:=by simpa using hkd
    have HNX:Hid (c.outs++dffL c.nodes k=c.outs++dffL c.nodes (k+1)):=Lib.hid (by rw[HDS.out,if_neg hk1,List.append_nil])
    obtain⟨LL,HLL⟩:=named (c.outs++dffL c.nodes k)
    rw[←HLL.out]at HST HNX
    rw[←HLL.out]
    clear hk1 hl1
    go_wp2
    go_roundw
    case rel=>exact⟨k+1,by omega,by go_num,by rw[←HNX.out];exact HST,HB⟩
    case measure=>simp[intOf];omega
   ·have hk1:kd=14:=by simpa using hkd
    have HNX:Hid ((c.outs++dffL c.nodes k)++li=c.outs++dffL c.nodes (k+1)):=Lib.hid (by rw[HDS.out,if_pos hk1,List.append_assoc])
    have hlz:(c.outs++dffL c.nodes k).length+li.length≤10000000000:=by
     rw[HDS.out,if_pos hk1,List.length_append]at hl1
     rw[List.length_append]
     omega
    obtain⟨LL,HLL⟩:=named (c.outs++dffL c.nodes k)
    rw[←HLL.out]at HST HNX hlz
    rw[←HLL.out]
    obtain⟨nL,HNL⟩:=named LL.length
    rw[←HNL.out]at HST hlz
    rw[←HNL.out]
    obtain⟨nI,HNI⟩:=named li.length
    rw[←HNI.out]at hlz e1 HIS
    have hbz:W1.heap.size≤wr.heap.size:=Below.size HB.out
    clear hk1 hl1
    go_wp2_with (at_builtin;refine wpList_appI (by rfl) (.tmp 25) (.tmp 31) (by rfl) W1.heap.size (.slice A6 nL c6) LL li A nL nI cc (by simp[Act.eval]) (by simp[Act.eval]) HST.out HNL.out.symm HIS.out hlz hbz ?_;intro A7 c7 w7 h1 h2 h3;have HST7:=Lib.hid h1;have HB7:Hid (BelW W1 w7):=Lib.hid (app_bel HB.out HST.out h2);clear h1 h2 h3 x0 x1 x2 x3)
    go_roundw
    case rel=>exact⟨k+1,by omega,by go_num,by rw[←HNX.out];exact HST7,HB7⟩
    case measure=>simp[intOf];omega
  ·obtain rfl:n=k:=by omega
   have HST5:Hid (Stk wr W1.heap.size (.slice A6 (c.outs++dffL c.nodes n).length c6) ((c.outs++dffL c.nodes n)++mmsL c.mems 0)):=Lib.hid (by rw[show mmsL c.mems 0=[] from rfl,List.append_nil];exact HST.out)
   obtain⟨D0,HD0⟩:=named (c.outs++dffL c.nodes n)
   have HD02:=Lib.hid HD0.out
   rw[←HD0.out]at HST5
   rw[←HD0.out]
   obtain⟨nD,HNDD⟩:=named D0.length
   rw[←HNDD.out]at HST5
   rw[←HNDD.out]
   have HL3:Hid (∀k,k≤n2→D0.length+(mmsL c.mems k).length≤1000000000):=Lib.hid fun k hk=>by
    rw[HD02.out,List.length_append];exact HL2.out k hk
   clear HST HD0 hlt HNDD
   obtain⟨W5,HW5⟩:=named wr
   rw[←HW5.out]at HST5 HB
   rw[←HW5.out]
   rw[←HW5.out]at x0 x1 x2 x3
   clear HW5
   go_wp2
   go_loopw [3,5] (fun sv iv wr=>∃k:Nat,k≤n2∧iv=.int .i64 k∧Hid (Stk wr W1.heap.size sv (D0++mmsL c.mems k))∧Hid (BelW W1 wr)) (fun _ iv _=>n2-(intOf iv).toNat)
   case atStart=>exact⟨0,Nat.zero_le _,rfl,HST5,HB⟩
   case round=>
    clear HST5 HB x0 x1 x2 x3
    obtain⟨k,hk,rfl,HST,HB⟩:=hrel
    obtain⟨x0,x1,x2,x3⟩:=HCE.out wr HB.out
    obtain⟨A6,c6,rfl,-,-,-⟩:=HST.out.form
    by_cases hlt:k<n2
    ·have hk2:(k:Int)<(n2:Int):=by omega
     obtain⟨A,cc,B,cd,rfl,hbb,d0,d1,d2,i0',i1'⟩:=HMM.out k hlt
     have HMS:Hid (mmsL c.mems (k+1)=mmsL c.mems k++((c.mems.getD k default).addr++(c.mems.getD k default).data++[(c.mems.getD k default).write])):=Lib.hid (mmsL_succ c.mems k)
     have hzl:=HL3.out (k+1) hlt
     rw[HMS.out]at hzl
     obtain⟨ad,HAD⟩:=named (c.mems.getD k default).addr
     obtain⟨dt,HDT⟩:=named (c.mems.getD k default).data
     obtain⟨wi,HWI⟩:=named (c.mems.getD k default).write
     rw[←HAD.out,←HDT.out,←HWI.out]at HMS hzl
     rw[←HAD.out]at d0 i0'
     rw[←HDT.out]at d1 i1'
     rw[←HWI.out]at d2
     have HIA0:=Lib.hid i0'
     have HID0:=Lib.hid i1'
     have HNX:Hid (D0++mmsL c.mems (k+1)=D0++mmsL c.mems k++ad++dt++[wi]):=Lib.hid (by rw[HMS.out];simp only[List.append_assoc])
     have hzz:(D0++mmsL c.mems k).length+ad.length+dt.length+1≤1000000000:=by
      simp only[List.length_append,List.length_cons,List.length_nil]at hzl ⊢
      omega
     obtain⟨LL,HLL⟩:=named (D0++mmsL c.mems k)
     rw[←HLL.out]at HST HNX hzz
     rw[←HLL.out]
     obtain⟨nL,HNL⟩:=named LL.length
     rw[←HNL.out]at HST hzz
     rw[←HNL.out]
     obtain⟨na,HNA⟩:=named ad.length
     rw[←HNA.out]at hzz d0 HIA0
     obtain⟨nd,HNDD2⟩:=named dt.length
     rw[←HNDD2.out]at hzz d1 HID0
     have HIA:Hid (∀W,BelW W1 W→Is W W.heap.size (.slice A na cc) ad):=Lib.hid fun W h=>HIW.out W h _ _ HIA0.out
     have HID:Hid (∀W,BelW W1 W→Is W W.heap.size (.slice B nd cd) dt):=Lib.hid fun W h=>HIW.out W h _ _ HID0.out
     have HSS:Hid (∀W,BelW W1 W→BelW W1 W∧W.cell? ⟨q,2,none⟩=some (.slice (some ⟨b2,o2,none⟩) n2 c2)∧W.cell? ⟨b2,o2+k*3,none⟩=some (.slice A na cc)∧W.cell? ⟨b2,o2+k*3+1,none⟩=some (.slice B nd cd)∧W.cell? ⟨b2,o2+k*3+2,none⟩=some (.int .i64 wi)):=Lib.hid fun W h=>⟨h,(HCE.out W h).2.2.1,(HBW.out W h _ hbb).trans d0,(HBW.out W h _ hbb).trans d1,(HBW.out W h _ hbb).trans d2⟩
     have hz1:nL+na≤10000000000:=by omega
     have hz2:nL+na+nd≤10000000000:=by omega
     have hz3:nL+na+nd+1≤10000000000:=by omega
     have HBD:Hid (BelW W1 wr.drew):=Lib.hid (Below.drew HB.out)
     have HSTD:Hid (Stk wr.drew W1.heap.size (.slice A6 nL c6) LL):=Lib.hid (HST.out.below (Below.drew (Below.refl _ _)))
     have HS0:Hid (BelW W1 wr.drew∧wr.drew.cell? ⟨q,2,none⟩=some (.slice (some ⟨b2,o2,none⟩) n2 c2)∧wr.drew.cell? ⟨b2,o2+k*3,none⟩=some (.slice A na cc)∧wr.drew.cell? ⟨b2,o2+k*3+1,none⟩=some (.slice B nd cd)∧wr.drew.cell? ⟨b2,o2+k*3+2,none⟩=some (.int .i64 wi)):=Lib.hid (HSS.out _ HBD.out)
     clear d0 d1 d2 i0' i1' hzl hzz hbb HMS HLL
     go_upto_region 10 with (fail)
     clear x0 x1 x2 x3
     refine AnyX.start (S:=fun w'=>BelW W1 w'∧w'.cell? ⟨q,2,none⟩=some (.slice (some ⟨b2,o2,none⟩) n2 c2)∧w'.cell? ⟨b2,o2+k*3,none⟩=some (.slice A na cc)∧w'.cell? ⟨b2,o2+k*3+1,none⟩=some (.slice B nd cd)∧w'.cell? ⟨b2,o2+k*3+2,none⟩=some (.int .i64 wi)) (t:=23) (by kernel_rfl) ?_
     refine AnyX.take (i:=0) (oi:=⟨some 40,_,_,_,_,_⟩) (v:=.slice A6 nL c6) rfl rfl (by kernel_rfl) (by kernel_rfl) (by kernel_rfl) (by kernel_rfl) (fun _ _ _ h=>h) (Or.inl ⟨by rfl,?_⟩) HS0.out ?_
     ·intro w' hSw
      obtain⟨-,k1,k2,k3,k4⟩:=hSw
      first|(go_simp;done)|(go_simp;with_reducible rfl)|(go_simp;intro hh;exfalso;omega)
     simp only[Act.put,List.setIfInBounds_toArray,List.set_cons_zero,List.set_cons_succ]
     refine AnyX.take (i:=1) (oi:=⟨some 41,_,_,_,_,_⟩) (v:=.pointer (some ⟨q,2,none⟩)) rfl rfl (by kernel_rfl) (by kernel_rfl) (by kernel_rfl) (by kernel_rfl) (fun _ _ _ h=>h) (Or.inl ⟨by rfl,?_⟩) HS0.out ?_
     ·intro w' hSw
      obtain⟨-,k1,k2,k3,k4⟩:=hSw
      first|(go_simp;done)|(go_simp;with_reducible rfl)|(go_simp;intro hh;exfalso;omega)
     simp only[Act.put,List.setIfInBounds_toArray,List.set_cons_zero,List.set_cons_succ]
     refine AnyX.take (i:=2) (oi:=⟨some 42,_,_,_,_,_⟩) (v:=.slice (some ⟨b2,o2,none⟩) n2 c2) rfl rfl (by kernel_rfl) (by kernel_rfl) (by kernel_rfl) (by kernel_rfl) (fun _ _ _ h=>h) (Or.inl ⟨by rfl,?_⟩) HS0.out ?_
     ·intro w' hSw
      obtain⟨-,k1,k2,k3,k4⟩:=hSw
      first|(go_simp;done)|(go_simp;with_reducible rfl)|(go_simp;intro hh;exfalso;omega)
     simp only[Act.put,List.setIfInBounds_toArray,List.set_cons_zero,List.set_cons_succ]
     refine AnyX.take (i:=3) (oi:=⟨some 43,_,_,_,_,_⟩) (v:=.int .i64 (k:Int)) rfl rfl (by kernel_rfl) (by kernel_rfl) (by kernel_rfl) (by kernel_rfl) (fun _ _ _ h=>h) (Or.inl ⟨by rfl,?_⟩) HS0.out ?_
     ·intro w' hSw
      obtain⟨-,k1,k2,k3,k4⟩:=hSw
      first|(go_simp;done)|(go_simp;with_reducible rfl)|(go_simp;intro hh;exfalso;omega)
     simp only[Act.put,List.setIfInBounds_toArray,List.set_cons_zero,List.set_cons_succ]
     refine AnyX.take (i:=4) (oi:=⟨some 44,_,_,_,_,_⟩) (v:=.pointer (some ⟨b2,o2+k*3,none⟩)) rfl rfl (by kernel_rfl) (by kernel_rfl) (by kernel_rfl) (by kernel_rfl) (fun _ _ _ h=>h) (Or.inl ⟨by rfl,?_⟩) HS0.out ?_
     ·intro w' hSw
      obtain⟨-,k1,k2,k3,k4⟩:=hSw
      first|(go_simp;done)|(go_simp;with_reducible rfl)|(go_simp;intro hh;exfalso;omega)
     simp only[Act.put,List.setIfInBounds_toArray,List.set_cons_zero,List.set_cons_succ]
     refine AnyX.take (i:=5) (oi:=⟨some 45,_,_,_,_,_⟩) (v:=.pointer (some ⟨b2,o2+k*3,none⟩)) rfl rfl (by kernel_rfl) (by kernel_rfl) (by kernel_rfl) (by kernel_rfl) (fun _ _ _ h=>h) (Or.inl ⟨by rfl,?_⟩) HS0.out ?_
     ·intro w' hSw
      obtain⟨-,k1,k2,k3,k4⟩:=hSw
      first|(go_simp;done)|(go_simp;with_reducible rfl)|(go_simp;intro hh;exfalso;omega)
     simp only[Act.put,List.setIfInBounds_toArray,List.set_cons_zero,List.set_cons_succ]
     refine AnyX.take (i:=6) (oi:=⟨some 46,_,_,_,_,_⟩) (v:=.slice A na cc) rfl rfl (by kernel_rfl) (by kernel_rfl) (by kernel_rfl) (by kernel_rfl) (fun _ _ _ h=>h) (Or.inl ⟨by rfl,?_⟩) HS0.out ?_
     ·intro w' hSw
      obtain⟨-,k1,k2,k3,k4⟩:=hSw
      first|(go_simp;done)|(go_simp;with_reducible rfl)|(go_simp;intro hh;exfalso;omega)
     simp only[Act.put,List.setIfInBounds_toArray,List.set_cons_zero,List.set_cons_succ]
     refine AnyX.take (i:=8) (oi:=⟨some 48,_,_,_,_,_⟩) (v:=.pointer (some ⟨q,2,none⟩)) rfl rfl (by kernel_rfl) (by kernel_rfl) (by kernel_rfl) (by kernel_rfl) (fun _ _ _ h=>h) (Or.inl ⟨by rfl,?_⟩) HS0.out ?_
     ·intro w' hSw
      obtain⟨-,k1,k2,k3,k4⟩:=hSw
      first|(go_simp;done)|(go_simp;with_reducible rfl)|(go_simp;intro hh;exfalso;omega)
     simp only[Act.put,List.setIfInBounds_toArray,List.set_cons_zero,List.set_cons_succ]
     refine AnyX.take (i:=9) (oi:=⟨some 49,_,_,_,_,_⟩) (v:=.slice (some ⟨b2,o2,none⟩) n2 c2) rfl rfl (by kernel_rfl) (by kernel_rfl) (by kernel_rfl) (by kernel_rfl) (fun _ _ _ h=>h) (Or.inl ⟨by rfl,?_⟩) HS0.out ?_
     ·intro w' hSw
      obtain⟨-,k1,k2,k3,k4⟩:=hSw
      first|(go_simp;done)|(go_simp;with_reducible rfl)|(go_simp;intro hh;exfalso;omega)
     simp only[Act.put,List.setIfInBounds_toArray,List.set_cons_zero,List.set_cons_succ]
     refine AnyX.take (i:=10) (oi:=⟨some 50,_,_,_,_,_⟩) (v:=.int .i64 (k:Int)) rfl rfl (by kernel_rfl) (by kernel_rfl) (by kernel_rfl) (by kernel_rfl) (fun _ _ _ h=>h) (Or.inl ⟨by rfl,?_⟩) HS0.out ?_
     ·intro w' hSw
      obtain⟨-,k1,k2,k3,k4⟩:=hSw
      first|(go_simp;done)|(go_simp;with_reducible rfl)|(go_simp;intro hh;exfalso;omega)
     simp only[Act.put,List.setIfInBounds_toArray,List.set_cons_zero,List.set_cons_succ]
     refine AnyX.take (i:=11) (oi:=⟨some 51,_,_,_,_,_⟩) (v:=.pointer (some ⟨b2,o2+k*3,none⟩)) rfl rfl (by kernel_rfl) (by kernel_rfl) (by kernel_rfl) (by kernel_rfl) (fun _ _ _ h=>h) (Or.inl ⟨by rfl,?_⟩) HS0.out ?_
     ·intro w' hSw
      obtain⟨-,k1,k2,k3,k4⟩:=hSw
      first|(go_simp;done)|(go_simp;with_reducible rfl)|(go_simp;intro hh;exfalso;omega)
     simp only[Act.put,List.setIfInBounds_toArray,List.set_cons_zero,List.set_cons_succ]
     refine AnyX.take (i:=12) (oi:=⟨some 52,_,_,_,_,_⟩) (v:=.pointer (some ⟨b2,o2+k*3+1,none⟩)) rfl rfl (by kernel_rfl) (by kernel_rfl) (by kernel_rfl) (by kernel_rfl) (fun _ _ _ h=>h) (Or.inl ⟨by rfl,?_⟩) HS0.out ?_
     ·intro w' hSw
      obtain⟨-,k1,k2,k3,k4⟩:=hSw
      first|(go_simp;done)|(go_simp;with_reducible rfl)|(go_simp;intro hh;exfalso;omega)
     simp only[Act.put,List.setIfInBounds_toArray,List.set_cons_zero,List.set_cons_succ]
     refine AnyX.take (i:=13) (oi:=⟨some 53,_,_,_,_,_⟩) (v:=.slice B nd cd) rfl rfl (by kernel_rfl) (by kernel_rfl) (by kernel_rfl) (by kernel_rfl) (fun _ _ _ h=>h) (Or.inl ⟨by rfl,?_⟩) HS0.out ?_
     ·intro w' hSw
      obtain⟨-,k1,k2,k3,k4⟩:=hSw
      first|(go_simp;done)|(go_simp;with_reducible rfl)|(go_simp;intro hh;exfalso;omega)
     simp only[Act.put,List.setIfInBounds_toArray,List.set_cons_zero,List.set_cons_succ]
     refine AnyX.take (i:=15) (oi:=⟨some 55,_,_,_,_,_⟩) (v:=.pointer (some ⟨q,2,none⟩)) rfl rfl (by kernel_rfl) (by kernel_rfl) (by kernel_rfl) (by kernel_rfl) (fun _ _ _ h=>h) (Or.inl ⟨by rfl,?_⟩) HS0.out ?_
     ·intro w' hSw
      obtain⟨-,k1,k2,k3,k4⟩:=hSw
      first|(go_simp;done)|(go_simp;with_reducible rfl)|(go_simp;intro hh;exfalso;omega)
     simp only[Act.put,List.setIfInBounds_toArray,List.set_cons_zero,List.set_cons_succ]
     refine AnyX.take (i:=16) (oi:=⟨some 56,_,_,_,_,_⟩) (v:=.slice (some ⟨b2,o2,none⟩) n2 c2) rfl rfl (by kernel_rfl) (by kernel_rfl) (by kernel_rfl) (by kernel_rfl) (fun _ _ _ h=>h) (Or.inl ⟨by rfl,?_⟩) HS0.out ?_
     ·intro w' hSw
      obtain⟨-,k1,k2,k3,k4⟩:=hSw
      first|(go_simp;done)|(go_simp;with_reducible rfl)|(go_simp;intro hh;exfalso;omega)
     simp only[Act.put,List.setIfInBounds_toArray,List.set_cons_zero,List.set_cons_succ]
     refine AnyX.take (i:=17) (oi:=⟨some 57,_,_,_,_,_⟩) (v:=.int .i64 (k:Int)) rfl rfl (by kernel_rfl) (by kernel_rfl) (by kernel_rfl) (by kernel_rfl) (fun _ _ _ h=>h) (Or.inl ⟨by rfl,?_⟩) HS0.out ?_
     ·intro w' hSw
      obtain⟨-,k1,k2,k3,k4⟩:=hSw
      first|(go_simp;done)|(go_simp;with_reducible rfl)|(go_simp;intro hh;exfalso;omega)
     simp only[Act.put,List.setIfInBounds_toArray,List.set_cons_zero,List.set_cons_succ]
     refine AnyX.take (i:=18) (oi:=⟨some 58,_,_,_,_,_⟩) (v:=.pointer (some ⟨b2,o2+k*3,none⟩)) rfl rfl (by kernel_rfl) (by kernel_rfl) (by kernel_rfl) (by kernel_rfl) (fun _ _ _ h=>h) (Or.inl ⟨by rfl,?_⟩) HS0.out ?_
     ·intro w' hSw
      obtain⟨-,k1,k2,k3,k4⟩:=hSw
      first|(go_simp;done)|(go_simp;with_reducible rfl)|(go_simp;intro hh;exfalso;omega)
     simp only[Act.put,List.setIfInBounds_toArray,List.set_cons_zero,List.set_cons_succ]
     refine AnyX.take (i:=19) (oi:=⟨some 59,_,_,_,_,_⟩) (v:=.pointer (some ⟨b2,o2+k*3+2,none⟩)) rfl rfl (by kernel_rfl) (by kernel_rfl) (by kernel_rfl) (by kernel_rfl) (fun _ _ _ h=>h) (Or.inl ⟨by rfl,?_⟩) HS0.out ?_
     ·intro w' hSw
      obtain⟨-,k1,k2,k3,k4⟩:=hSw
      first|(go_simp;done)|(go_simp;with_reducible rfl)|(go_simp;intro hh;exfalso;omega)
     simp only[Act.put,List.setIfInBounds_toArray,List.set_cons_zero,List.set_cons_succ]
     refine AnyX.take (i:=20) (oi:=⟨some 60,_,_,_,_,_⟩) (v:=.int .i64 wi) rfl rfl (by kernel_rfl) (by kernel_rfl) (by kernel_rfl) (by kernel_rfl) (fun _ _ _ h=>h) (Or.inl ⟨by rfl,?_⟩) HS0.out ?_
     ·intro w' hSw
      obtain⟨-,k1,k2,k3,k4⟩:=hSw
      first|(go_simp;done)|(go_simp;with_reducible rfl)|(go_simp;intro hh;exfalso;omega)
     simp only[Act.put,List.setIfInBounds_toArray,List.set_cons_zero,List.set_cons_succ]
     refine AnyX.fork (i:=7) (j:=21) (oi:=⟨some 47,_,_,_,_,_⟩) (oj:=⟨some 61,_,_,_,_,_⟩) (by kernel_rfl) rfl rfl (fun K' hK=>?_) (fun K' hK=>?_)
     ·have HK:=Lib.hid hK
      clear hK
      refine step_appI (by rfl) (.tmp 40) (.tmp 46) (by rfl) W1.heap.size (.slice A6 nL c6) (LL) ad A (nL) na cc (by simp[Act.eval]) (by simp[Act.eval]) HSTD.out HNL.out.symm (HIA.out _ HBD.out) hz1 (Below.size HBD.out) ?_
      intro A1x c1x w1x h1 h2 h3
      have HB1:Hid (BelW W1 w1x):=Lib.hid (app_bel HBD.out HSTD.out h2)
      have HST1:Hid (Stk w1x W1.heap.size (.slice A1x (nL+na) c1x) (LL++ad)):=Lib.hid h1
      clear h1 h2 h3
      refine HK.out _ _ (fun _=>HSS.out _ HB1.out) ?_
      clear HK
      (try simp only[Act.put,List.setIfInBounds_toArray,List.set_cons_zero,List.set_cons_succ])
      refine AnyX.fork (i:=14) (j:=21) (oi:=⟨some 54,_,_,_,_,_⟩) (oj:=⟨some 61,_,_,_,_,_⟩) (by kernel_rfl) rfl rfl (fun K' hK=>?_) (fun K' hK=>?_)
      ·have HK:=Lib.hid hK
       clear hK
       refine step_appI (by rfl) (.tmp 47) (.tmp 53) (by rfl) W1.heap.size (.slice A1x (nL+na) c1x) (LL++ad) dt B (nL+na) nd cd (by simp[Act.eval]) (by simp[Act.eval]) HST1.out (by rw[List.length_append,←HNL.out,←HNA.out]) (HID.out _ HB1.out) hz2 (Below.size HB1.out) ?_
       intro A2x c2x w2x h1 h2 h3
       have HB2:Hid (BelW W1 w2x):=Lib.hid (app_bel HB1.out HST1.out h2)
       have HST2:Hid (Stk w2x W1.heap.size (.slice A2x (nL+na+nd) c2x) (LL++ad++dt)):=Lib.hid h1
       clear h1 h2 h3
       refine HK.out _ _ (fun _=>HSS.out _ HB2.out) ?_
       clear HK
       (try simp only[Act.put,List.setIfInBounds_toArray,List.set_cons_zero,List.set_cons_succ])
       refine AnyX.one (i:=21) (o:=⟨some 61,_,_,_,_,_⟩) (by kernel_rfl) rfl (fun K' hK=>?_)
       have HK:=Lib.hid hK
       clear hK
       go_simp
       have hba3:BelW w2x ((w2x.alloc (.cells #[.int .i64 wi] 3))):=(by have h:BelW w2x (w2x.alloc (.cells #[.int .i64 wi] 3)):=below_new (Below.refl _ _) _;exact h)
       have HFG3:Hid (Fr ((w2x.alloc (.cells #[.int .i64 wi] 3))) w2x.heap.size 3 [.int .i64 wi]):=Lib.hid (by have h:Fr (w2x.alloc (.cells #[.int .i64 wi] 3)) w2x.heap.size 3 [.int .i64 wi]:=Fr.made _ _ _ rfl;exact h)
       have HB3:Hid (BelW W1 ((w2x.alloc (.cells #[.int .i64 wi] 3)))):=Lib.hid (joinB HB2.out hba3)
       have HST3:Hid (Stk ((w2x.alloc (.cells #[.int .i64 wi] 3))) W1.heap.size (.slice A2x (nL+na+nd) c2x) (LL++ad++dt)):=Lib.hid (HST2.out.below hba3)
       have HNE3:Hid ((Value.slice A2x (nL+na+nd) c2x).ownBlock≠some w2x.heap.size):=Lib.hid fun e=>absurd (World.ownsRow.lt HST2.out _ e).2 (Nat.lt_irrefl _)
       refine HK.out _ _ (fun _=>HSS.out _ HB3.out) ?_
       clear HK
       (try simp only[Act.put,List.setIfInBounds_toArray,List.set_cons_zero,List.set_cons_succ])
       obtain⟨g3,HG3⟩:=named w2x.heap.size
       obtain⟨v3w,HV3⟩:=named ((w2x.alloc (.cells #[.int .i64 wi] 3)))
       rw[←HG3.out,←HV3.out]at HFG3
       rw[←HV3.out]at HB3 HST3
       rw[←HG3.out]at HNE3
       rw[←HG3.out,←HV3.out]
       clear hba3 HV3 HG3
       refine AnyX.one (i:=22) (o:=⟨some 62,_,_,_,_,_⟩) (by kernel_rfl) rfl (fun K' hK=>?_)
       have HK:=Lib.hid hK
       clear hK
       refine step_appI (by rfl) (.tmp 54) (.tmp 61) (by rfl) W1.heap.size (.slice A2x (nL+na+nd) c2x) (LL++ad++dt) [wi] (some ⟨g3,0,none⟩) (nL+na+nd) 1 1 (by simp[Act.eval]) (by simp[Act.eval]) HST3.out (by rw[List.length_append,List.length_append,←HNL.out,←HNA.out,←HNDD2.out]) (fr_oneP HFG3.out) hz3 (Below.size HB3.out) ?_
       intro A4x c4x w4x h1 h2 h3
       have HB4:Hid (BelW W1 w4x):=Lib.hid (app_bel HB3.out HST3.out h2)
       have HST4:Hid (Stk w4x W1.heap.size (.slice A4x (nL+na+nd+1) c4x) (LL++ad++dt++[wi])):=Lib.hid h1
       have HFG4:Hid (Fr w4x g3 3 [.int .i64 wi]):=Lib.hid (one_kept HFG3.out HNE3.out h2)
       have HNE4:Hid ((Value.slice A4x (nL+na+nd+1) c4x).ownBlock≠some g3):=Lib.hid (own_ne HFG3.out.lt HNE3.out h3)
       clear h1 h2 h3
       refine HK.out _ _ (fun _=>HSS.out _ HB4.out) ?_
       clear HK
       (try simp only[Act.put,List.setIfInBounds_toArray,List.set_cons_zero,List.set_cons_succ])
       refine AnyX.one (i:=23) (o:=⟨some 3,_,_,_,_,_⟩) (by kernel_rfl) rfl (fun K' hK=>?_)
       have HK:=Lib.hid hK
       clear hK
       go_simp
       refine HK.out _ _ (fun h=>absurd rfl h) ?_
       clear HK
       (try simp only[Act.put,List.setIfInBounds_toArray,List.set_cons_zero,List.set_cons_succ])
       refine AnyX.done (by kernel_rfl) ?_ _
       have HFN:Hid (Stk w4x W1.heap.size (.slice A4x (nL+na+nd+1) c4x) (D0++mmsL c.mems (k+1))):=Lib.hid (by rw[HNX.out];exact HST4.out)
       go_wp2
       go_roundw
       case rel=>exact⟨k+1,by omega,by go_num,HFN,HB4⟩
       case measure=>simp[intOf];omega
      ·have HK:=Lib.hid hK
       clear hK
       go_simp
       have hba5:BelW w1x ((w1x.alloc (.cells #[.int .i64 wi] 3))):=(by have h:BelW w1x (w1x.alloc (.cells #[.int .i64 wi] 3)):=below_new (Below.refl _ _) _;exact h)
       have HFG5:Hid (Fr ((w1x.alloc (.cells #[.int .i64 wi] 3))) w1x.heap.size 3 [.int .i64 wi]):=Lib.hid (by have h:Fr (w1x.alloc (.cells #[.int .i64 wi] 3)) w1x.heap.size 3 [.int .i64 wi]:=Fr.made _ _ _ rfl;exact h)
       have HB5:Hid (BelW W1 ((w1x.alloc (.cells #[.int .i64 wi] 3)))):=Lib.hid (joinB HB1.out hba5)
       have HST5:Hid (Stk ((w1x.alloc (.cells #[.int .i64 wi] 3))) W1.heap.size (.slice A1x (nL+na) c1x) (LL++ad)):=Lib.hid (HST1.out.below hba5)
       have HNE5:Hid ((Value.slice A1x (nL+na) c1x).ownBlock≠some w1x.heap.size):=Lib.hid fun e=>absurd (World.ownsRow.lt HST1.out _ e).2 (Nat.lt_irrefl _)
       refine HK.out _ _ (fun _=>HSS.out _ HB5.out) ?_
       clear HK
       (try simp only[Act.put,List.setIfInBounds_toArray,List.set_cons_zero,List.set_cons_succ])
       obtain⟨g5,HG5⟩:=named w1x.heap.size
       obtain⟨v5w,HV5⟩:=named ((w1x.alloc (.cells #[.int .i64 wi] 3)))
       rw[←HG5.out,←HV5.out]at HFG5
       rw[←HV5.out]at HB5 HST5
       rw[←HG5.out]at HNE5
       rw[←HG5.out,←HV5.out]
       clear hba5 HV5 HG5
       refine AnyX.one (i:=14) (o:=⟨some 54,_,_,_,_,_⟩) (by kernel_rfl) rfl (fun K' hK=>?_)
       have HK:=Lib.hid hK
       clear hK
       refine step_appI (by rfl) (.tmp 47) (.tmp 53) (by rfl) W1.heap.size (.slice A1x (nL+na) c1x) (LL++ad) dt B (nL+na) nd cd (by simp[Act.eval]) (by simp[Act.eval]) HST5.out (by rw[List.length_append,←HNL.out,←HNA.out]) (HID.out _ HB5.out) hz2 (Below.size HB5.out) ?_
       intro A6x c6x w6x h1 h2 h3
       have HB6:Hid (BelW W1 w6x):=Lib.hid (app_bel HB5.out HST5.out h2)
       have HST6:Hid (Stk w6x W1.heap.size (.slice A6x (nL+na+nd) c6x) (LL++ad++dt)):=Lib.hid h1
       have HFG6:Hid (Fr w6x g5 3 [.int .i64 wi]):=Lib.hid (one_kept HFG5.out HNE5.out h2)
       have HNE6:Hid ((Value.slice A6x (nL+na+nd) c6x).ownBlock≠some g5):=Lib.hid (own_ne HFG5.out.lt HNE5.out h3)
       clear h1 h2 h3
       refine HK.out _ _ (fun _=>HSS.out _ HB6.out) ?_
       clear HK
       (try simp only[Act.put,List.setIfInBounds_toArray,List.set_cons_zero,List.set_cons_succ])
       refine AnyX.one (i:=22) (o:=⟨some 62,_,_,_,_,_⟩) (by kernel_rfl) rfl (fun K' hK=>?_)
       have HK:=Lib.hid hK
       clear hK
       refine step_appI (by rfl) (.tmp 54) (.tmp 61) (by rfl) W1.heap.size (.slice A6x (nL+na+nd) c6x) (LL++ad++dt) [wi] (some ⟨g5,0,none⟩) (nL+na+nd) 1 1 (by simp[Act.eval]) (by simp[Act.eval]) HST6.out (by rw[List.length_append,List.length_append,←HNL.out,←HNA.out,←HNDD2.out]) (fr_oneP HFG6.out) hz3 (Below.size HB6.out) ?_
       intro A7x c7x w7x h1 h2 h3
       have HB7:Hid (BelW W1 w7x):=Lib.hid (app_bel HB6.out HST6.out h2)
       have HST7:Hid (Stk w7x W1.heap.size (.slice A7x (nL+na+nd+1) c7x) (LL++ad++dt++[wi])):=Lib.hid h1
       have HFG7:Hid (Fr w7x g5 3 [.int .i64 wi]):=Lib.hid (one_kept HFG6.out HNE6.out h2)
       have HNE7:Hid ((Value.slice A7x (nL+na+nd+1) c7x).ownBlock≠some g5):=Lib.hid (own_ne HFG6.out.lt HNE6.out h3)
       clear h1 h2 h3
       refine HK.out _ _ (fun _=>HSS.out _ HB7.out) ?_
       clear HK
       (try simp only[Act.put,List.setIfInBounds_toArray,List.set_cons_zero,List.set_cons_succ])
       refine AnyX.one (i:=23) (o:=⟨some 3,_,_,_,_,_⟩) (by kernel_rfl) rfl (fun K' hK=>?_)
       have HK:=Lib.hid hK
       clear hK
       go_simp
       refine HK.out _ _ (fun h=>absurd rfl h) ?_
       clear HK
       (try simp only[Act.put,List.setIfInBounds_toArray,List.set_cons_zero,List.set_cons_succ])
       refine AnyX.done (by kernel_rfl) ?_ _
       have HFN:Hid (Stk w7x W1.heap.size (.slice A7x (nL+na+nd+1) c7x) (D0++mmsL c.mems (k+1))):=Lib.hid (by rw[HNX.out];exact HST7.out)
       go_wp2
       go_roundw
       case rel=>exact⟨k+1,by omega,by go_num,HFN,HB7⟩
       case measure=>simp[intOf];omega
     ·have HK:=Lib.hid hK
      clear hK
      go_simp
      have hba8:BelW wr.drew ((wr.alloc (.cells #[.int .i64 wi] 3)).drew):=(by have h:BelW wr.drew (wr.drew.alloc (.cells #[.int .i64 wi] 3)):=below_new (Below.refl _ _) _;exact h)
      have HFG8:Hid (Fr ((wr.alloc (.cells #[.int .i64 wi] 3)).drew) wr.heap.size 3 [.int .i64 wi]):=Lib.hid (by have h:Fr (wr.drew.alloc (.cells #[.int .i64 wi] 3)) wr.heap.size 3 [.int .i64 wi]:=Fr.made _ _ _ rfl;exact h)
      have HB8:Hid (BelW W1 ((wr.alloc (.cells #[.int .i64 wi] 3)).drew)):=Lib.hid (joinB HBD.out hba8)
      have HST8:Hid (Stk ((wr.alloc (.cells #[.int .i64 wi] 3)).drew) W1.heap.size (.slice A6 nL c6) (LL)):=Lib.hid (HSTD.out.below hba8)
      have HNE8:Hid ((Value.slice A6 nL c6).ownBlock≠some wr.heap.size):=Lib.hid fun e=>absurd (World.ownsRow.lt HSTD.out _ e).2 (Nat.lt_irrefl _)
      refine HK.out _ _ (fun _=>HSS.out _ HB8.out) ?_
      clear HK
      (try simp only[Act.put,List.setIfInBounds_toArray,List.set_cons_zero,List.set_cons_succ])
      obtain⟨g8,HG8⟩:=named wr.heap.size
      obtain⟨v8w,HV8⟩:=named ((wr.alloc (.cells #[.int .i64 wi] 3)).drew)
      rw[←HG8.out,←HV8.out]at HFG8
      rw[←HV8.out]at HB8 HST8
      rw[←HG8.out]at HNE8
      rw[←HG8.out,←HV8.out]
      clear hba8 HV8 HG8
      refine AnyX.one (i:=7) (o:=⟨some 47,_,_,_,_,_⟩) (by kernel_rfl) rfl (fun K' hK=>?_)
      have HK:=Lib.hid hK
      clear hK
      refine step_appI (by rfl) (.tmp 40) (.tmp 46) (by rfl) W1.heap.size (.slice A6 nL c6) (LL) ad A (nL) na cc (by simp[Act.eval]) (by simp[Act.eval]) HST8.out HNL.out.symm (HIA.out _ HB8.out) hz1 (Below.size HB8.out) ?_
      intro A9x c9x w9x h1 h2 h3
      have HB9:Hid (BelW W1 w9x):=Lib.hid (app_bel HB8.out HST8.out h2)
      have HST9:Hid (Stk w9x W1.heap.size (.slice A9x (nL+na) c9x) (LL++ad)):=Lib.hid h1
      have HFG9:Hid (Fr w9x g8 3 [.int .i64 wi]):=Lib.hid (one_kept HFG8.out HNE8.out h2)
      have HNE9:Hid ((Value.slice A9x (nL+na) c9x).ownBlock≠some g8):=Lib.hid (own_ne HFG8.out.lt HNE8.out h3)
      clear h1 h2 h3
      refine HK.out _ _ (fun _=>HSS.out _ HB9.out) ?_
      clear HK
      (try simp only[Act.put,List.setIfInBounds_toArray,List.set_cons_zero,List.set_cons_succ])
      refine AnyX.one (i:=14) (o:=⟨some 54,_,_,_,_,_⟩) (by kernel_rfl) rfl (fun K' hK=>?_)
      have HK:=Lib.hid hK
      clear hK
      refine step_appI (by rfl) (.tmp 47) (.tmp 53) (by rfl) W1.heap.size (.slice A9x (nL+na) c9x) (LL++ad) dt B (nL+na) nd cd (by simp[Act.eval]) (by simp[Act.eval]) HST9.out (by rw[List.length_append,←HNL.out,←HNA.out]) (HID.out _ HB9.out) hz2 (Below.size HB9.out) ?_
      intro A10x c10x w10x h1 h2 h3
      have HB10:Hid (BelW W1 w10x):=Lib.hid (app_bel HB9.out HST9.out h2)
      have HST10:Hid (Stk w10x W1.heap.size (.slice A10x (nL+na+nd) c10x) (LL++ad++dt)):=Lib.hid h1
      have HFG10:Hid (Fr w10x g8 3 [.int .i64 wi]):=Lib.hid (one_kept HFG9.out HNE9.out h2)
      have HNE10:Hid ((Value.slice A10x (nL+na+nd) c10x).ownBlock≠some g8):=Lib.hid (own_ne HFG9.out.lt HNE9.out h3)
      clear h1 h2 h3
      refine HK.out _ _ (fun _=>HSS.out _ HB10.out) ?_
      clear HK
      (try simp only[Act.put,List.setIfInBounds_toArray,List.set_cons_zero,List.set_cons_succ])
      refine AnyX.one (i:=22) (o:=⟨some 62,_,_,_,_,_⟩) (by kernel_rfl) rfl (fun K' hK=>?_)
      have HK:=Lib.hid hK
      clear hK
      refine step_appI (by rfl) (.tmp 54) (.tmp 61) (by rfl) W1.heap.size (.slice A10x (nL+na+nd) c10x) (LL++ad++dt) [wi] (some ⟨g8,0,none⟩) (nL+na+nd) 1 1 (by simp[Act.eval]) (by simp[Act.eval]) HST10.out (by rw[List.length_append,List.length_append,←HNL.out,←HNA.out,←HNDD2.out]) (fr_oneP HFG10.out) hz3 (Below.size HB10.out) ?_
      intro A11x c11x w11x h1 h2 h3
      have HB11:Hid (BelW W1 w11x):=Lib.hid (app_bel HB10.out HST10.out h2)
      have HST11:Hid (Stk w11x W1.heap.size (.slice A11x (nL+na+nd+1) c11x) (LL++ad++dt++[wi])):=Lib.hid h1
      have HFG11:Hid (Fr w11x g8 3 [.int .i64 wi]):=Lib.hid (one_kept HFG10.out HNE10.out h2)
      have HNE11:Hid ((Value.slice A11x (nL+na+nd+1) c11x).ownBlock≠some g8):=Lib.hid (own_ne HFG10.out.lt HNE10.out h3)
      clear h1 h2 h3
      refine HK.out _ _ (fun _=>HSS.out _ HB11.out) ?_
      clear HK
      (try simp only[Act.put,List.setIfInBounds_toArray,List.set_cons_zero,List.set_cons_succ])
      refine AnyX.one (i:=23) (o:=⟨some 3,_,_,_,_,_⟩) (by kernel_rfl) rfl (fun K' hK=>?_)
      have HK:=Lib.hid hK
      clear hK
      go_simp
      refine HK.out _ _ (fun h=>absurd rfl h) ?_
      clear HK
      (try simp only[Act.put,List.setIfInBounds_toArray,List.set_cons_zero,List.set_cons_succ])
      refine AnyX.done (by kernel_rfl) ?_ _
      have HFN:Hid (Stk w11x W1.heap.size (.slice A11x (nL+na+nd+1) c11x) (D0++mmsL c.mems (k+1))):=Lib.hid (by rw[HNX.out];exact HST11.out)
      go_wp2
      go_roundw
      case rel=>exact⟨k+1,by omega,by go_num,HFN,HB11⟩
      case measure=>simp[intOf];omega
    ·obtain rfl:n2=k:=by omega
     obtain⟨OB,HOBN⟩:=named (obsN c)
     have HOB2:Hid (D0++mmsL c.mems n2=OB):=Lib.hid (by rw[HOBN.out,HOB.out,HD02.out])
     have HOL:Hid (OB.length≤1000000000):=Lib.hid (by rw[←HOB2.out,List.length_append];exact HL3.out n2 (Nat.le_refl _))
     rw[HOB2.out]at HST
     rw[HOB2.out]
     have HPT2:Hid (ptB c=mkL n (List.replicate n false) OB):=Lib.hid (by rw[HPTB.out,HOBN.out])
     have HTK:Hid (∀k,k<OB.length→OB.take (k+1)=OB.take k++[OB.getD k 0]):=Lib.hid fun k hk=>by
      rw[List.take_succ_eq_append_getElem hk,List.getD_eq_getElem?_getD,List.getElem?_eq_getElem hk];rfl
     have HTF:Hid (OB.take OB.length=OB):=Lib.hid List.take_length
     have HSC:Hid (∀W,Stk W W1.heap.size (.slice A6 OB.length c6) OB→∀k,k<OB.length→∃qs,A6=some ⟨qs,0,none⟩∧W.cell? ⟨qs,k,none⟩=some (.int .i64 (OB.getD k 0))):=Lib.hid fun W h k hk=>by
      obtain⟨A9,c9,e,-,-,h9⟩:=h.form
      simp only[Value.slice.injEq]at e
      obtain⟨rfl,-,rfl⟩:=e
      obtain⟨q9,rfl,-,-⟩:=h9 (by omega)
      exact⟨q9,rfl,h.cell hk⟩
     have hol:=HOL.out
     obtain⟨nO,HNO⟩:=named OB.length
     rw[←HNO.out]at HST HTK HTF HSC hol
     rw[←HNO.out]
     obtain⟨W6,HW6⟩:=named wr
     rw[←HW6.out]at HST HB x0 x1 x2 x3
     rw[←HW6.out]
     clear HW6
     obtain⟨g,HGR⟩:=named W6.heap.size
     have HGR2:=Lib.hid HGR.out
     go_upto_region 12 with (at_make;refine wpList_make_full _ rfl _ _ 41 rfl W6.heap.size 4 i0 (.bool false) 1 Tryd.underlying41 HI.out.1 HI.out.2.1 HI.out.2.2.1 .i64 .i64 _ _ n rfl rfl rfl rfl ?b2 ?b3 ?b4 ?_)
     case b2=>rw[HI.out.2.2.2];omega
     case b3=>unfold maxLen;omega
     case b4=>exact Nat.le_refl _
     intro w7 hown hgr
     rw[made_false]at hown
     rw[←HGR2.out]at hown
     have HR7:Hid (BRow w7 g (mkL n (List.replicate n false) (OB.take 0))):=Lib.hid (by show BRow w7 g (List.replicate n false);unfold BRow;rw[List.length_replicate];exact hown)
     have hb7:BelW W6 w7:=(Below.refl _ _).grown hgr (Nat.le_refl _) (fun k h=>by cases h)
     have HB7:Hid (BelW W1 w7):=Lib.hid (joinB HB.out hb7)
     have HST7:Hid (Stk w7 W1.heap.size (.slice A6 nO c6) OB):=Lib.hid (HST.out.below hb7)
     have HNG:Hid ((Value.slice A6 nO c6).ownBlock≠some g):=Lib.hid fun e=>by have:=(World.ownsRow.lt HST.out _ e).2;have:=HGR2.out;omega
     have HLO:Hid (W1.heap.size≤g):=Lib.hid (by rw[HGR2.out];exact Below.size HB.out)
     rw[←HGR2.out]
     clear hown hgr hb7 HST HB x0 x1 x2 x3
     go_wp2
     go_loopw [7] (fun iv wr=>∃k:Nat,k≤nO∧iv=.int .i64 k∧Hid (BRow wr g (mkL n (List.replicate n false) (OB.take k)))∧Hid (Stk wr W1.heap.size (.slice A6 nO c6) OB)∧Hid (BelW W1 wr)) (fun iv _=>nO-(intOf iv).toNat)
     case atStart=>exact⟨0,Nat.zero_le _,rfl,HR7,HST7,HB7⟩
     case round=>
      clear HR7 HST7 HB7
      obtain⟨k,hk,rfl,HR,HST,HB⟩:=hrel
      by_cases hlt:k<nO
      ·have hk2:(k:Int)<(nO:Int):=by omega
       obtain⟨qs,rfl,hcs⟩:=HSC.out wr HST.out k hlt
       have hcs':wr.cell? ⟨qs,0+k,none⟩=some (.int .i64 (OB.getD k 0)):=by rw[Nat.zero_add];exact hcs
       obtain⟨z,HZ⟩:=named (OB.getD k 0)
       rw[←HZ.out]at hcs'
       have HSU:Hid (mkL n (List.replicate n false) (OB.take (k+1))=mk1 n (mkL n (List.replicate n false) (OB.take k)) z):=Lib.hid (by rw[HTK.out k hlt,mkL_snoc,HZ.out])
       obtain⟨x0,x1,x2,x3⟩:=HCE.out wr HB.out
       obtain⟨t,HTT⟩:=named (isIdx n z)
       have HRZ:Hid (∀W,BelW W1 W→Calls Tryd.prog 8 #[.agg #[.slice A0 n c0,.slice A1 n1 c1,.slice A2 n2 c2,.slice A3 n3 c3],.int .i64 z] W fun e w'=>∃v,e=.returned v∧Below W.heap.size W w'∧Y6 (.agg #[.slice A0 n c0,.slice A1 n1 c1,.slice A2 n2 c2,.slice A3 n3 c3]) (some ⟨qs,0,none⟩) nO c6 k qs 0 z t 5 v w'):=Lib.hid fun W h=>by
        refine (HRI.out W z h).mono fun e w' ⟨h1,h2⟩=>?_
        exact⟨_,h1,h2,Y6.v5 (by rw[HTT.out])⟩
       have HRLN:Hid ((mkL n (List.replicate n false) (OB.take k)).length=n):=Lib.hid (by rw[mkL_len,List.length_replicate])
       obtain⟨RR,HRR⟩:=named (mkL n (List.replicate n false) (OB.take k))
       rw[←HRR.out]at HR HSU HRLN
       have HCD:Hid (wr.drew.cell? ⟨qs,0+k,none⟩=some (.int .i64 z)):=Lib.hid hcs'
       have HBD:Hid (BelW W1 wr.drew):=Lib.hid (Below.drew HB.out)
       have HQL:Hid (qs<wr.heap.size):=Lib.hid (World.ownsRow.lt HST.out qs rfl).2
       clear hcs hcs' HZ HRR
       go_upto_region 15 with (fail)
       clear x0 x1 x2 x3
       refine AnyX.start (S:=fun _=>True) (t:=5) (by kernel_rfl) ?_
       refine AnyX.factsGo [73,74,75,76,77,78] (Y6 (.agg #[.slice A0 n c0,.slice A1 n1 c1,.slice A2 n2 c2,.slice A3 n3 c3]) (some ⟨qs,0,none⟩) nO c6 k qs 0 z t) _ _ (by decide) ?hts (by decide) Y6.next (by kernel_rfl) (by kernel_rfl) ?hst ?hdo
       case hts => intro t ht; simp only [List.mem_cons, List.not_mem_nil, or_false] at ht; rcases ht with rfl | rfl | rfl | rfl | rfl | rfl <;> (show _ < Array.size _; simp)
       case hst=>
        intro i t' a w' hD hF hB hdep
        have hBW:BelW W1 w':=joinB HBD.out hB
        have hi6:i<6:=(List.getElem?_eq_some_iff.1 hD).1
        obtain⟨y0,y1,y2,y3⟩:=HCE.out w' hBW
        rcases (by omega:i=0∨i=1∨i=2∨i=3∨i=4∨i=5) with rfl|rfl|rfl|rfl|rfl|rfl<;>obtain rfl:=Option.some.inj hD
        ·exact fop_loadC rfl rfl rfl rfl rfl (by rw[hF.eval (by decide)];rfl) y0 y1 y2 y3 (Y6.v0 rfl)
        ·exact fop_move rfl rfl rfl rfl (by rw[hF.eval (by decide)];rfl) (Y6.v1 rfl)
        ·exact fop_move rfl rfl rfl rfl (by rw[hF.eval (by decide)];rfl) (Y6.v2 rfl)
        ·exact fop_index rfl rfl rfl rfl rfl ((hdep _ 1 74 rfl rfl (by kernel_rfl)).2.1 rfl) ((hdep _ 2 75 rfl rfl (by kernel_rfl)).2.2.1 rfl) hlt (Y6.v3 rfl)
        ·exact fop_loadI rfl rfl rfl rfl rfl ((hdep _ 3 76 rfl rfl (by kernel_rfl)).2.2.2.1 rfl) ((Below.cell hB (p:=⟨qs,0+k,none⟩) HQL.out).trans HCD.out) (Y6.v4 rfl)
        ·exact fop_call2 rfl rfl rfl rfl (fun _ _=>rfl) ((hdep _ 0 73 rfl rfl (by kernel_rfl)).1 rfl) ((hdep _ 4 77 rfl rfl (by kernel_rfl)).2.2.2.2.1 rfl) (HRZ.out w' hBW)
       intro v w3 hb3 hF
       have HB3:Hid (BelW W1 w3):=Lib.hid (joinB HBD.out hb3)
       have hb3':BelW wr w3:=(Below.drew (Below.refl _ _)).trans hb3
       have HR3:Hid (BRow w3 g RR):=Lib.hid (HR.out.below hb3')
       have HST3:Hid (Stk w3 W1.heap.size (.slice (some ⟨qs,0,none⟩) nO c6) OB):=Lib.hid (HST.out.below hb3')
       have hcs3:w3.cell? ⟨qs,k,none⟩=some (.int .i64 z):=by
        have h1:=(Below.cell hb3 (p:=⟨qs,0+k,none⟩) HQL.out).trans HCD.out
        rwa [Nat.zero_add]at h1
       have e0:=(hF 0 (by decide)).1 rfl
       have e1:=(hF 1 (by decide)).2.1 rfl
       have e2:=(hF 2 (by decide)).2.2.1 rfl
       have e3:=(hF 3 (by decide)).2.2.2.1 rfl
       have e4:=(hF 4 (by decide)).2.2.2.2.1 rfl
       have e5:=(hF 5 (by decide)).2.2.2.2.2 rfl
       simp only[putsF,Nat.zero_add,Nat.reduceAdd,e0,e1,e2,e3,e4,e5,Act.put,List.setIfInBounds_toArray,List.set_cons_zero,List.set_cons_succ]
       clear e0 e1 e2 e3 e4 e5 hF hb3 hb3'
       refine AnyX.done (by kernel_rfl) ?_ _
       have hix:t=(decide (0≤z)&&decide (z<(n:Int))):=HTT.out
       have HTX:=Lib.hid hix
       clear hix
       cases t
       ·have HNX:Hid (mkL n (List.replicate n false) (OB.take (k+1))=RR):=Lib.hid (by
         rw[HSU.out]
         unfold mk1
         rw[if_neg]
         intro h
         have h2:=HTX.out
         rw[decide_eq_true h.1,decide_eq_true h.2]at h2
         cases h2)
        clear hcs3
        go_wp2
        go_roundw
        case rel=>exact⟨k+1,by omega,by go_num,by rw[HNX.out];exact HR3,HST3,HB3⟩
        case measure=>simp[intOf];omega
       ·have hzz:0≤z∧z<(n:Int):=by
         have h2:=HTX.out
         have h3:=h2.symm
         simpa using h3
        obtain⟨hz0,hz1⟩:=hzz
        have HNX:Hid (mkL n (List.replicate n false) (OB.take (k+1))=RR.set z.toNat true):=Lib.hid (by
         rw[HSU.out]
         unfold mk1
         rw[if_pos ⟨hz0,hz1⟩])
        obtain⟨zn,rfl⟩:∃zn:Nat,z=(zn:Int):=⟨z.toNat,by omega⟩
        rw[Int.toNat_natCast]at HNX
        have hrl:=HRLN.out
        have hcg:w3.cell? ⟨g,zn,none⟩=some (.bool (bat RR zn)):=HR3.out.cell (by unfold bat;rw[List.getD_eq_getElem?_getD,List.getElem?_eq_getElem (by omega)];rfl)
        have hfg:w3.frozen? ⟨g,zn,none⟩=false:=HR3.out.frozen zn
        have HR4:Hid (BRow (w3.setCell ⟨g,zn,none⟩ (.bool true)) g (RR.set zn true)):=Lib.hid (HR3.out.set zn true)
        have HST4:Hid (Stk (w3.setCell ⟨g,zn,none⟩ (.bool true)) W1.heap.size (.slice (some ⟨qs,0,none⟩) nO c6) OB):=Lib.hid (HST3.out.set_other HNG.out zn _)
        have HB4:Hid (BelW W1 (w3.setCell ⟨g,zn,none⟩ (.bool true))):=Lib.hid (HB3.out.setCell (p:=⟨g,zn,none⟩) HLO.out _)
        clear hz0 hrl
        go_wp2
        go_roundw
        case rel=>exact⟨k+1,by omega,by go_num,by rw[HNX.out];exact HR4,HST4,HB4⟩
        case measure=>simp[intOf];omega
      ·obtain rfl:nO=k:=by omega
       have HRF:Hid (BRow wr g (ptB c)):=Lib.hid (by rw[HPT2.out];have:=HR.out;rwa [HTF.out]at this)
       go_wp2
       go_ret
       exact⟨g,rfl,HRF.out,joinB HB1.out HB.out⟩
end Go.Proofs.YtjdjcaobkmpoeaaDoor
