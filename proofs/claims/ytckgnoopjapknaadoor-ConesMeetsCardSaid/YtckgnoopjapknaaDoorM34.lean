/- The texts Kco Kr5. -/
import Derived.Test.YtckgnoopjapknaaDoorM20
import Derived.Test.YtckgnoopjapknaaDoorM22
import Derived.LoopN
import Derived.Test.YtckgnoopjapknaaDoorM32
import Derived.Test.YtckgnoopjapknaaDoorM24
namespace Go.Proofs.YtckgnoopjapknaaDoor
open Go.RowKit
structure CoP(n:Nat)(NX:Int→List Int)(PP:Int→Prop)(N Pl:List Int)(b:Int)(l:List Int):Prop where
 ln:N.length=n
 lp:Pl.length=n+1
 hN:∀y,Nod n y→b<nrf Pl y→Near n NX PP (nrf N) (nrf Pl) y
 hl:∀s∈l,Nod n s∧b<nrf Pl s
 hp:nrf Pl (n:Int)=n
 hlt:∀y,Nod n y→0≤nrf Pl y∧nrf Pl y<(n:Int)
 inj:∀x y,Nod n x→Nod n y→nrf Pl x=nrf Pl y→x=y
 hnx:∀x,Nod n x→Inr n (NX x)
theorem belW_drewN{a w:World}(h:BelW a w)(n:Nat):BelW a (w.drewN n):=h.trans ⟨rfl,rfl,rfl,Nat.le_refl _,fun _ _=>rfl⟩
theorem nrf_nat(l:List Int)(x:Nat):nrf l (x:Int)=lat l x:=by unfold nrf lat;rfl
set_option maxRecDepth 100000 in
set_option maxHeartbeats 8000000 in
theorem common_any(n:Nat)(NX:Int→List Int)(PP:Int→Prop)(N Pl:List Int)(b:Int)(l:List Int)(A:Option Addr)(m c gN gP:Nat)(w:World)(H:CoP n NX PP N Pl b l)(hn:n≤1000000)(hs:Is w w.heap.size (.slice A m c) l)(hm:m≤1000000000)(rN:Row w gN N)(rP:Row w gP Pl):
 Calls Tryd.prog 70 #[.slice A m c,.slice (some ⟨gN,0,none⟩) n n,.slice (some ⟨gP,0,none⟩) (n+1) (n+1)] w fun e w'=>∃v:Int,e=.returned (.int .i64 v)∧Mt n NX PP (nrf N) (nrf Pl) b v l∧BelW w w':=by
 obtain⟨A',bl,ol,c',e,hA,-,-,hc⟩:=hs.opens
 simp only[Value.slice.injEq]at e
 obtain⟨rfl,hml,rfl⟩:=e
 have HML:=Lib.hid hml
 have HCL:Hid (∀W,BelW w W→∀k:Nat,k<m→W.cell? ⟨bl,ol+k,none⟩=some (.int .i64 (l.getD k 0))):=Lib.hid fun W h k hk=>(Below.cell h (p:=⟨bl,ol+k,none⟩) (hc k (by omega)).1).trans (hc k (by omega)).2
 have HCN:Hid (∀W,BelW w W→∀k:Nat,k<n→W.cell? ⟨gN,k,none⟩=some (.int .i64 (nrf N (k:Int)))):=Lib.hid fun W h k hk=>by rw[nrf_nat];exact (rN.below h).cell (by rw[H.ln];exact hk)
 have HCP:Hid (∀W,BelW w W→∀k:Nat,k≤n→W.cell? ⟨gP,k,none⟩=some (.int .i64 (nrf Pl (k:Int)))):=Lib.hid fun W h k hk=>by rw[nrf_nat];exact (rP.below h).cell (by rw[H.lp];omega)
 have HAL:=Lib.hid hA
 have HH:=Lib.hid H
 have HEL:Hid (∀k:Nat,k<m→l.getD k 0∈l∧l.take (k+1)=l.take k++[l.getD k 0]∧l=l.take k++[l.getD k 0]++l.drop (k+1)):=Lib.hid fun k hk=>by
  have hk2:k<l.length:=by omega
  have e:l.getD k 0=l[k]:=by rw[List.getD_eq_getElem?_getD,List.getElem?_eq_getElem hk2];rfl
  rw[e]
  refine⟨List.getElem_mem _,List.take_succ_eq_append_getElem hk2,?_⟩
  rw[←List.take_succ_eq_append_getElem hk2,List.take_append_drop]
 have HFL:Hid (l.take m=l):=Lib.hid (by rw[hml];exact List.take_length)
 have HT0:Hid (Mt n NX PP (nrf N) (nrf Pl) b (-1) (l.take 0)):=Lib.hid (Mt.start b)
 clear hA hc hs rN rP H hml
 go_enter Tryd.func70,Tryd.ntmps70
 go_wp2
 refine wp_scope_straight ?_
 go_wp2
 refine wp_label ?_
 go_wp2
 go_loopw [15,8] (fun i mv wr=>∃(k:Nat) (v:Int),k≤m∧i=.int .i64 k∧mv=.int .i64 v∧Hid (Mt n NX PP (nrf N) (nrf Pl) b v (l.take k))∧v≠(n:Int)∧Hid (BelW w wr)) (fun i _ _=>m-(intOf i).toNat)
 case atStart=>exact⟨0,-1,Nat.zero_le _,rfl,rfl,HT0,by omega,Lib.hid (Below.refl _ _)⟩
 case round=>
  clear HT0
  obtain⟨k,v,hk,rfl,rfl,HM,hvn,HB⟩:=hrel
  by_cases hlt:k<m
  ·have hk2:(k:Int)<(m:Int):=by omega
   obtain rfl:=HAL.out (by have:=HML.out;omega)
   have c0:=HCL.out wr HB.out k hlt
   have hel:=HEL.out k hlt
   have hin:=HH.out.hl _ hel.1
   have HEX:=Lib.hid hel.2
   obtain⟨sz,HSZ⟩:=named (l.getD k 0)
   rw[←HSZ.out]at c0 HEX hin
   clear hel
   obtain⟨⟨hs0,hs1⟩,hsb⟩:=hin
   obtain⟨s,rfl⟩:∃s:Nat,sz=(s:Int):=⟨sz.toNat,by omega⟩
   have c1:=HCN.out wr HB.out s (by omega)
   have HSN:Hid (Nod n (s:Int)∧b<nrf Pl (s:Int)):=Lib.hid ⟨⟨by omega,by omega⟩,hsb⟩
   have HNR:Hid (Near n NX PP (nrf N) (nrf Pl) (s:Int)):=Lib.hid (HH.out.hN _ HSN.out.1 hsb)
   obtain⟨u,HU⟩:=named (nrf N (s:Int))
   rw[←HU.out]at c1
   have HUU:=Lib.hid HU.out
   clear HU hsb HSZ
   cases hu:(u== -1)
   ·have hu1:u≠ -1:=by simpa using hu
    have HSS:Hid (Sn NX PP (-1) (s:Int)):=Lib.hid (Classical.byContradiction fun g=>hu1 (by rw[HUU.out];exact HNR.out.dead.2 g))
    cases hv:(v== -1)
    ·have hv1:v≠ -1:=by simpa using hv
     have HGV:Hid (Gp n NX PP (nrf N) (nrf Pl) b v):=Lib.hid (HM.out.some hv1).1
     have hvd:Nod n v:=by
      rcases HGV.out with e|e
      ·exact absurd e hvn
      ·exact e.1
     have HGS:Hid (Gp n NX PP (nrf N) (nrf Pl) b (s:Int)):=Lib.hid (.inr ⟨HSN.out.1,HSS.out,HSN.out.2,HNR.out⟩)
     have HVD:=Lib.hid hvd
     have HV1:=Lib.hid hv1
     clear hvd hv1 hu1
     go_wp2
     go_loopw [8,10] (fun mv iv wi=>∃v' s':Int,mv=.int .i64 v'∧iv=.int .i64 s'∧Hid (Two n NX PP (nrf N) (nrf Pl) b v (s:Int) v' s')∧Hid (Nod n v')∧Hid (BelW w wi)) (fun mv iv _=>(2*(n:Int)-nrf Pl (intOf mv)-nrf Pl (intOf iv)).toNat)
     case atStart=>exact⟨v,(s:Int),rfl,rfl,Lib.hid (Two.start HGV.out HGS.out),HVD,HB⟩
     case round=>
      clear c0 c1 HB
      obtain⟨v',s',rfl,rfl,HTW,HVN,HB⟩:=hrel
      obtain⟨v0,v1⟩:=HVN.out
      obtain⟨x,rfl⟩:∃x:Nat,v'=(x:Int):=⟨v'.toNat,by omega⟩
      have hsN:s'=(n:Int)∨Nod n s':=by
       rcases HTW.out.gs with e|e
       ·exact .inl e
       ·exact .inr e.1
      obtain⟨y,rfl⟩:∃y:Nat,s'=(y:Int):=⟨s'.toNat,by rcases hsN with e|e;omega;have:=e.1;omega⟩
      have hyn:y≤n:=by rcases hsN with e|e;omega;have:=e.2;omega
      have HSNN:=Lib.hid hsN
      cases he:((x:Int) != (y:Int))
      ·have hxy:x=y:=by have h:(x:Int)=(y:Int):=(by simpa using he);omega
       subst hxy
       have HMM:Hid (Mt n NX PP (nrf N) (nrf Pl) b (x:Int) (l.take (k+1))):=Lib.hid (by rw[HEX.out.1];exact HM.out.meet HV1.out HSS.out HNR.out HTW.out)
       have hxn:(x:Int)≠(n:Int):=by omega
       clear hsN
       go_wp2
       go_roundw
       case rel=>exact⟨k+1,(x:Int),by omega,by go_num,rfl,HMM,hxn,HB⟩
       case measure=>simp[intOf];omega
      ·have hxy:x≠y:=by have h:¬(x:Int)=(y:Int):=(by simpa using he);omega
       have p0:=HCP.out wr HB.out x (by omega)
       have p1:=HCP.out wr HB.out y hyn
       have n0:=HCN.out wr HB.out x (by omega)
       have hpx:=HH.out.hlt _ HVN.out
       have HPX:=Lib.hid hpx
       have HPY:Hid (0≤nrf Pl (y:Int)∧nrf Pl (y:Int)≤(n:Int)):=Lib.hid (by
        rcases hsN with e|e
        ·rw[e,HH.out.hp];omega
        ·have:=HH.out.hlt _ e;omega)
       have hpy:=HPY.out
       obtain⟨px,HPXN⟩:=named (nrf Pl (x:Int))
       obtain⟨py,HPYN⟩:=named (nrf Pl (y:Int))
       rw[←HPXN.out]at p0 hpx
       rw[←HPYN.out]at p1 hpy
       by_cases hl:px<py
       ·have HL:Hid (nrf Pl (x:Int)<nrf Pl (y:Int)):=Lib.hid (by rw[←HPXN.out,←HPYN.out];exact hl)
        obtain⟨ht,-⟩:=HTW.out.left HH.out.hN HH.out.hp (fun y hy=>(HH.out.hlt y hy).2) HL.out
        have HT:=Lib.hid ht
        obtain⟨nx,HNX⟩:=named (nrf N (x:Int))
        rw[←HNX.out]at n0 HT
        have HNUP:Hid (nx=(n:Int)∨(Nod n nx∧nrf Pl (x:Int)<nrf Pl nx)):=Lib.hid (by
         rcases HT.out.gm with e|e
         ·exact .inl e
         ·refine .inr ⟨e.1,?_⟩
          rcases HTW.out.gm with e2| ⟨a1,a2,a3,a4⟩
          ·omega
          ·have h1:nrf N (x:Int)≠ -1:=fun g=>a4.dead.1 g a2
           rcases a4.ex h1 with e3| ⟨_,_,e4⟩
           ·rw[←HNX.out]at e3;have:=e.1.2;omega
           ·rw[←HNX.out]at e4;exact e4)
        clear ht hsN
        cases hq:(nx==(n:Int))
        ·have hq1:nx≠(n:Int):=by simpa using hq
         have HND:Hid (Nod n nx∧nrf Pl (x:Int)<nrf Pl nx):=Lib.hid (by
          rcases HNUP.out with e|e
          ·exact absurd e hq1
          ·exact e)
         clear hq1
         go_upto_region 10 with (fail)
         go_quiet (fail)
         go_wp2
         go_roundw
         case rel=>exact⟨nx,(y:Int),rfl,rfl,HT,Lib.hid HND.out.1,Lib.hid (belW_drewN HB.out _)⟩
         case measure=>
          have h1:=HND.out.2
          have h2:=HH.out.hlt _ HND.out.1
          have h3:=HPY.out
          simp only[intOf]
          omega
        ·have hq1:nx=(n:Int):=by simpa using hq
         have HMM:Hid (Mt n NX PP (nrf N) (nrf Pl) b (n:Int) l):=Lib.hid (by
          have h1:=HM.out.leave (l':=l.drop (k+1)) HV1.out HSS.out HNR.out (by have:=HT.out;rw[hq1]at this;exact this)
          rw[←HEX.out.2]at h1
          exact h1)
         subst hq1
         clear hq
         go_upto_region 10 with (fail)
         go_quiet (fail)
         go_wp2
         refine bodyPost_ret (results_tmp rfl _ _ _) rfl ?_
         exact⟨(n:Int),rfl,HMM.out,belW_drewN HB.out _⟩
       ·have HL:Hid (nrf Pl (y:Int)<nrf Pl (x:Int)∧Nod n (y:Int)):=Lib.hid (by
         rw[HPXN.out,HPYN.out]at hl
         have h2:=HPX.out.2
         rcases HSNN.out with e|e
         ·rw[e,HH.out.hp]at hl;omega
         ·refine⟨?_,e⟩
          rcases Int.lt_or_le (nrf Pl (y:Int)) (nrf Pl (x:Int)) with g|g
          ·exact g
          ·have h3:=HH.out.inj _ _ HVN.out e (by omega)
           exact absurd (by omega) hxy)
        obtain⟨ht,-⟩:=HTW.out.right HH.out.hN HH.out.hp (fun y hy=>(HH.out.hlt y hy).2) HL.out.1
        have HT:=Lib.hid ht
        have hyl:(y:Int)<(n:Int):=HL.out.2.2
        have n1:=HCN.out wr HB.out y (by omega)
        obtain⟨nx,HNX⟩:=named (nrf N (y:Int))
        rw[←HNX.out]at n1 HT
        have HNUP:Hid (nrf Pl (y:Int)<nrf Pl nx∧nrf Pl nx≤(n:Int)):=Lib.hid (by
         have hyp:=HH.out.hlt _ HL.out.2
         rcases HT.out.gs with e|e
         ·rw[e,HH.out.hp];omega
         ·refine⟨?_,Int.le_of_lt (HH.out.hlt _ e.1).2⟩
          rcases HTW.out.gs with e2| ⟨a1,a2,a3,a4⟩
          ·omega
          ·have h1:nrf N (y:Int)≠ -1:=fun g=>a4.dead.1 g a2
           rcases a4.ex h1 with e3| ⟨_,_,e4⟩
           ·rw[←HNX.out]at e3;have:=e.1.2;omega
           ·rw[←HNX.out]at e4;exact e4)
        have hq:((x:Int)==(n:Int))=false:=by simp;omega
        clear ht hsN
        go_upto_region 10 with (fail)
        go_quiet (fail)
        go_wp2
        go_roundw
        case rel=>exact⟨(x:Int),nx,rfl,rfl,HT,HVN,Lib.hid (belW_drewN HB.out _)⟩
        case measure=>
         have h1:=HNUP.out
         have h2:=HPX.out
         simp only[intOf]
         omega
    ·have hv1:v= -1:=by simpa using hv
     subst hv1
     have HMM:Hid (Mt n NX PP (nrf N) (nrf Pl) b (s:Int) (l.take (k+1))):=Lib.hid (by rw[HEX.out.1];exact HM.out.first HH.out.hnx (fun z hz=>(HH.out.hl z (List.mem_of_mem_take hz)).1) HSN.out.1 HSS.out HSN.out.2 HNR.out)
     have hsn:(s:Int)≠(n:Int):=by omega
     go_wp2
     refine wp_loop_rounds 1 ?_
     simp only[Code.rounds]
     go_wp2
     go_roundw
     case rel=>exact⟨k+1,(s:Int),by omega,by go_num,rfl,HMM,hsn,HB⟩
     case measure=>simp[intOf];omega
   ·have hu1:u= -1:=by simpa using hu
    have HMM:Hid (Mt n NX PP (nrf N) (nrf Pl) b v (l.take (k+1))):=Lib.hid (by rw[HEX.out.1];exact HM.out.dead HH.out.hnx HSN.out.1 (HNR.out.dead.1 (by rw[←HUU.out];exact hu1)))
    subst hu1
    clear hu
    go_wp2
    go_roundw
    case rel=>exact⟨k+1,v,by omega,by go_num,rfl,HMM,hvn,HB⟩
    case measure=>simp[intOf];omega
  ·obtain rfl:m=k:=by omega
   go_wp2
   have HMF:Hid (Mt n NX PP (nrf N) (nrf Pl) b v l):=Lib.hid (by have:=HM.out;rwa [HFL.out]at this)
   simp only[Exit.noGoto]
   refine bodyPost_ret (results_tmp rfl _ _ _) rfl ?_
   exact⟨v,rfl,HMF.out,HB.out⟩
def rds(nodes:List Nd)(i:Nat)(y:Int):Nat:=(depsOf (nodes.getD i default)).count y
theorem cnt_le(l:List Int)(y:Int)(k:Nat):(l.take k).count y≤k:=Nat.le_trans List.count_le_length (by rw[List.length_take];exact Nat.min_le_left _ _)
theorem cnt_succ(l:List Int)(y:Int)(k:Nat)(hk:k<l.length):(l.take (k+1)).count y=(l.take k).count y+(if (l.getD k 0==y)=true then 1 else 0):=by
 rw[take_succ_getD l k hk,List.count_append,List.count_singleton]
set_option maxRecDepth 100000 in
set_option maxHeartbeats 4000000 in
theorem reads5_any(c:Ck)(A0 A1 A2 A3:Option Addr)(n n1 n2 n3 c0 c1 c2 c3:Nat)(w:World)(hc:Cir w w.heap.size (.agg #[.slice A0 n c0,.slice A1 n1 c1,.slice A2 n2 c2,.slice A3 n3 c3]) c)(i:Nat)(yv:Int)(hi:i<n):
 Calls Tryd.prog 53 #[.agg #[.slice A0 n c0,.slice A1 n1 c1,.slice A2 n2 c2,.slice A3 n3 c3],.int .i64 (i:Int),.int .i64 yv] w fun e w'=>e=.returned (.int .i64 (rds c.nodes i yv:Nat))∧BelW w w':=by
 have hn:=cir_len hc
 obtain⟨v0,v1,v2,v3,ev,hns,-,-,-⟩:=hc
 simp only[Value.agg.injEq,Array.mk.injEq,List.cons.injEq,and_true]at ev
 obtain⟨rfl,-,-,-⟩:=ev
 obtain⟨A,b,o,cc,e,hA,-,hm,hcell⟩:=id hns
 simp only[Value.slice.injEq]at e
 obtain⟨rfl,-,rfl⟩:=e
 obtain⟨hb,s,h0,h1,h2,h3,h4,-⟩:=hcell i (by omega)
 obtain⟨A5,b5,o5,c5,rfl,hA5,-,hml,hcp⟩:=h4.opens
 obtain rfl:=hA (by omega)
 rw[hn]at hm
 clear hcell hns hA h4 h2 h3
 obtain⟨li,HLI⟩:=named (c.nodes.getD i default).ins
 rw[←HLI.out]at h1 hA5 hml hcp
 obtain⟨ni,HNI⟩:=named li.length
 rw[←HNI.out]at h1 hA5 hml hcp
 obtain⟨kd,HKD⟩:=named (c.nodes.getD i default).kind
 rw[←HKD.out]at h0
 obtain⟨y,HY⟩:=named (cmb kd)
 have HRD:Hid (rds c.nodes i yv=if y=true then li.count yv else 0):=Lib.hid (by
  unfold rds depsOf
  rw[←HKD.out,←HY.out,←HLI.out]
  cases y<;>rfl)
 obtain⟨r,HR⟩:=named (rds c.nodes i yv)
 rw[←HR.out]at HRD
 rw[←HR.out]
 have hrc:=fun W=>refComb_any kd W
 rw[←HY.out]at hrc
 have HRC:=Lib.hid hrc
 have HA5:=Lib.hid hA5
 have HCP:Hid (∀k,k<ni→b5<w.heap.size∧w.cell? ⟨b5,o5+k,none⟩=some (.int .i64 (li.getD k 0))):=Lib.hid fun k hk=>⟨(hcp k hk).1,(hcp k hk).2⟩
 obtain⟨W1,HW1⟩:=named (w.alloc (.cells #[.slice (some ⟨b,o,none⟩) n c0,.slice A1 n1 c1,.slice A2 n2 c2,.slice A3 n3 c3] 27))
 have hb1:BelW w W1:=by rw[HW1.out];exact below_new (Below.refl _ _) _
 have hf:Fr W1 w.heap.size 27 [.slice (some ⟨b,o,none⟩) n c0,.slice A1 n1 c1,.slice A2 n2 c2,.slice A3 n3 c3]:=by rw[HW1.out];exact Fr.made _ _ _ rfl
 obtain⟨q,HQ⟩:=named w.heap.size
 rw[←HQ.out]at hf
 have HQ2:=Lib.hid HQ.out
 have HCE:Hid (∀W,BelW W1 W→W.cell? ⟨q,0,none⟩=some (.slice (some ⟨b,o,none⟩) n c0)∧W.cell? ⟨b,o+i*4,none⟩=some (.int .u8 kd)∧W.cell? ⟨b,o+i*4+1,none⟩=some (.slice A5 ni c5)):=Lib.hid fun W h=>⟨(hf.below h).cell 0,((joinB hb1 h).cell (p:=⟨b,o+i*4,none⟩) hb).trans h0,((joinB hb1 h).cell (p:=⟨b,o+i*4+1,none⟩) hb).trans h1⟩
 have HPC:Hid (∀W,BelW W1 W→∀k,k<ni→A5=some ⟨b5,o5,none⟩∧W.cell? ⟨b5,o5+k,none⟩=some (.int .i64 (li.getD k 0))):=Lib.hid fun W h k hk=>⟨HA5.out (by omega),((joinB hb1 h).cell (p:=⟨b5,o5+k,none⟩) (HCP.out k hk).1).trans (HCP.out k hk).2⟩
 have HCS:Hid (∀k,k<ni→(li.take (k+1)).count yv=(li.take k).count yv+(if (li.getD k 0==yv)=true then 1 else 0)):=Lib.hid fun k hk=>cnt_succ li yv k (by rw[←HNI.out];exact hk)
 have HFU:Hid ((li.take ni).count yv=li.count yv):=Lib.hid (by rw[HNI.out,List.take_length])
 have HB1:=Lib.hid hb1
 have hi2:(i:Int)<(n:Int):=by omega
 unfold maxLen at hm hml
 clear hb1 hf hA5 hcp h0 h1 hb hrc HLI HNI HKD HY HR
 go_enter Tryd.func53,Tryd.ntmps53
 go_upto_region 1 with (fail)
 rw[←HW1.out,←HQ2.out]
 go_upto_region 3 with (fail)
 go_loopw [7,8] (fun a j wx=>∃k:Nat,k≤ni∧j=.int .i64 k∧a=.int .i64 ((li.take k).count yv:Nat)∧(y=false→k=0)∧Hid (BelW W1 wx)) (fun _ j _=>ni-(intOf j).toNat)
 case atStart=>exact⟨0,Nat.zero_le _,rfl,rfl,fun _=>rfl,Lib.hid (Below.refl _ _)⟩
 case round=>
  obtain⟨k,hk,rfl,rfl,hk0,HBW⟩:=hrel
  obtain⟨x0,x1,x2⟩:=HCE.out wr HBW.out
  obtain⟨m,HM⟩:=named ((li.take k).count yv)
  have hmk:m≤k:=by rw[HM.out];exact cnt_le _ _ _
  rw[←HM.out]
  cases y
  ·obtain rfl:k=0:=hk0 rfl
   obtain rfl:m=0:=by omega
   obtain rfl:r=0:=by simpa using HRD.out
   clear hk0 hmk
   by_cases hn0:0<ni
   ·go_wp2_with (go_at_call 63;(with_reducible refine (HRC.out _).mono ?_);rintro e w3 ⟨rfl,rfl⟩)
    go_ret
    exact⟨rfl,joinB HB1.out HBW.out⟩
   ·go_wp2
    go_ret
    exact⟨rfl,joinB HB1.out HBW.out⟩
  ·clear hk0
   by_cases hlt:k<ni
   ·obtain⟨rfl,x3⟩:=HPC.out wr HBW.out k hlt
    have HS:=Lib.hid (HCS.out k hlt)
    obtain⟨x,HX⟩:=named (li.getD k 0)
    rw[←HX.out]at x3 HS
    rw[←HM.out]at HS
    have hk2:(k:Int)<(ni:Int):=by omega
    cases hv:(x==yv)
    ·rw[hv]at HS
     have HS2:Hid ((m:Nat)=(li.take (k+1)).count yv):=Lib.hid (by rw[HS.out];rfl)
     clear HS
     go_wp2_with (go_at_call 63;(with_reducible refine (HRC.out _).mono ?_);rintro e w3 ⟨rfl,rfl⟩)
     go_roundw
     case rel=>exact⟨k+1,by omega,by go_num,by rw[HS2.out],(fun h=>by cases h),HBW⟩
     case measure=>simp[intOf];omega
    ·rw[hv]at HS
     have HS2:Hid ((m+1:Nat)=(li.take (k+1)).count yv):=Lib.hid (by rw[HS.out];rfl)
     clear HS
     go_wp2_with (go_at_call 63;(with_reducible refine (HRC.out _).mono ?_);rintro e w3 ⟨rfl,rfl⟩)
     go_roundw
     case rel=>exact⟨k+1,by omega,by go_num,by rw[←HS2.out];go_num,(fun h=>by cases h),HBW⟩
     case measure=>simp[intOf];omega
   ·obtain rfl:ni=k:=by omega
    obtain rfl:r=m:=by rw[HRD.out,HM.out,if_pos rfl,HFU.out]
    go_wp2
    go_ret
    exact⟨rfl,joinB HB1.out HBW.out⟩
end Go.Proofs.YtckgnoopjapknaaDoor
