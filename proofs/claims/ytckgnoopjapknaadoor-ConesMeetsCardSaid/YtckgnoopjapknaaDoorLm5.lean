import Derived.Test.YtckgnoopjapknaaDoorM41
import Derived.Test.YtckgnoopjapknaaDoorM37
import Derived.Test.YtckgnoopjapknaaDoorCow
import Derived.Test.YtckgnoopjapknaaDoorFo2
import Derived.Test.YtckgnoopjapknaaDoorM22
import Derived.Test.YtckgnoopjapknaaDoorRup
namespace Go.Proofs.YtckgnoopjapknaaDoor
open Go.RowKit
def YM(vals:List Value)(lo:Nat)(i:Nat)(v:Value)(W:World):Prop:=(i=8→∃p,v=.pointer (some ⟨p,0,none⟩)∧lo≤p∧Fr W p 64 [.int .u8 0,.slice none 0 0,.int .i64 0,.int .i64 0])∧(i≠8→v=vals.getD i undef)
theorem YM.next{vals:List Value}{lo:Nat}(i:Nat)(v:Value)(W W':World)(h:YM vals lo i v W)(hb:Below W.heap.size W W'):YM vals lo i v W':=⟨fun e=>by
 obtain⟨p,h1,h2,h3⟩:=h.1 e
 exact⟨p,h1,h2,h3.below hb⟩,h.2⟩
theorem YM.v{vals:List Value}{lo:Nat}{i:Nat}{v:Value}{W:World}(hi:i≠8)(h:v=vals.getD i undef):YM vals lo i v W:=⟨fun e=>absurd e hi,fun _=>h⟩
def YV(vals:List Value)(i:Nat)(v:Value)(_:World):Prop:=v=vals.getD i undef
theorem YV.next{vals:List Value}(i:Nat)(v:Value)(W W':World)(h:YV vals i v W)(_:Below W.heap.size W W'):YV vals i v W':=h
set_option maxRecDepth 100000 in
set_option maxHeartbeats 8000000 in
theorem lawMt(x:Cx)(hx:Cok x)(sG sA:Value)(z:Int)(hz8:U8 z)(w:World)(hT:Tabs w)(hG:Gs w w.heap.size sG x.gates)(hA:Ks w w.heap.size sA x.outs):
 Calls Tryd.prog 8 #[.agg #[.int .u8 x.inN,.int .u8 x.dffs,.int .u8 x.d0,.int .u8 x.d1,.bool x.bus,.bool x.mem,.int .u8 x.p0,.int .u8 x.p1,.int .u8 x.p2,.int .u8 x.p3,sG,sA],.int .u8 z] w fun e w'=>e=.returned (.bool true)∧Below w.heap.size w w':=by
 obtain⟨L,V0⟩:=vld_c x hx
 have hz:=sizeN_le x
 have HOF:Hid (∀W,Below w.heap.size w W→∀n,n=sizeN x→Calls Tryd.prog 24 #[.agg #[.int .u8 x.inN,.int .u8 x.dffs,.int .u8 x.d0,.int .u8 x.d1,.bool x.bus,.bool x.mem,.int .u8 x.p0,.int .u8 x.p1,.int .u8 x.p2,.int .u8 x.p3,sG,sA]] W
  fun e w'=>∃A0 A1 A2 A3 n1 n2 n3 c0 c1 c2 c3,e=.returned (.agg #[.slice A0 n c0,.slice A1 n1 c1,.slice A2 n2 c2,.slice A3 n3 c3])∧Below w.heap.size w w'∧
   LC (ofC x) w w'.heap.size A0 A1 A2 A3 n n1 n2 n3 c0 c1 c2 c3 (w'.alloc (.cells #[.slice A0 n c0,.slice A1 n1 c1,.slice A2 n2 c2,.slice A3 n3 c3] 27))):=
  Lib.hid fun W hb n hn=>ofc_c x hx hT hG hA hb hn
 clear hT hG hA hx
 obtain⟨n,HN⟩:=named (sizeN x)
 rw[←HN.out]at V0 hz
 obtain⟨c,HC0⟩:=named (ofC x)
 rw[←HC0.out]at V0
 have HV:=Lib.hid V0
 have HG:Hid (G5 c n L):=Lib.hid ⟨V0.ok,V0.lvl,V0.len.symm,by have:=V0.few;omega⟩
 have HBX:Hid (Below w.heap.size w (w.alloc (.cells #[.int .u8 x.inN,.int .u8 x.dffs,.int .u8 x.d0,.int .u8 x.d1,.bool x.bus,.bool x.mem,.int .u8 x.p0,.int .u8 x.p1,.int .u8 x.p2,.int .u8 x.p3,sG,sA] 49))):=Lib.hid (below_new (Below.refl _ _) _)
 have hn1:0<n:=hz.1
 have hn20:n<20:=V0.few
 clear V0 hz
 have HOBL:Hid ((obsN c).length≤1000000000):=Lib.hid HG.out.obl
 have HP7:Hid (∀k,k<n→(c.nodes.getD k default).ins.length≤7):=Lib.hid fun k hk=>by
  have h:=HC0.out
  have hl:=HG.out.len
  subst h
  have:=ofC_pins x (k:=k) (by omega)
  omega
 have hzb:=hz8
 unfold U8 at hzb
 obtain⟨zn,rfl⟩:∃zn:Nat,z=(zn:Int):=⟨z.toNat,by omega⟩
 obtain⟨y,HY⟩:=named (zn%n)
 have hyn:y<n:=by rw[HY.out];exact Nat.mod_lt _ (by omega)
 have HYM:Hid ((zn:Int)%(n:Int)=(y:Int)):=Lib.hid (by rw[HY.out];rfl)
 clear hz8 HY
 go_enter Tryd.func8,Tryd.ntmps8
 go_upto_region 2 with (go_at_call 24;(with_reducible refine (HOF.out _ HBX.out n HN.out).mono ?_);rintro e w1 ⟨A0,A1,A2,A3,n1,n2,n3,c0,c1,c2,c3,rfl,hb,hl⟩;rw[←HC0.out]at hl;have HL0:=Lib.hid hl;clear hb hl)
 obtain⟨W1,HW1⟩:=named (w1.alloc (.cells #[.slice A0 n c0,.slice A1 n1 c1,.slice A2 n2 c2,.slice A3 n3 c3] 27))
 rw[←HW1.out]at HL0
 rw[←HW1.out]
 obtain⟨q,HQ⟩:=named w1.heap.size
 rw[←HQ.out]at HL0
 rw[←HQ.out]
 clear HW1 HQ HOF HBX
 have HCE:Hid (∀W,BelW W1 W→W.cell? ⟨q,0,none⟩=some (.slice A0 n c0)∧W.cell? ⟨q,1,none⟩=some (.slice A1 n1 c1)∧W.cell? ⟨q,2,none⟩=some (.slice A2 n2 c2)∧W.cell? ⟨q,3,none⟩=some (.slice A3 n3 c3)):=Lib.hid fun W h=>(HL0.out.next h).cells
 have HC:Hid (∀W,BelW W1 W→Tabs W∧Cir W W.heap.size (.agg #[.slice A0 n c0,.slice A1 n1 c1,.slice A2 n2 c2,.slice A3 n3 c3]) c):=Lib.hid fun W h=>⟨(HL0.out.next h).tabs,(HL0.out.next h).all⟩
 have HW0:Hid (Below w.heap.size w W1):=Lib.hid HL0.out.bel
 have HLV:Hid (∀W,BelW W1 W→Calls Tryd.prog 11 #[] W fun e w'=>e=.returned (.bool true)∧BelW W w'):=Lib.hid fun W h=>lives5_any W (HC.out W h).1
 have HPT:Hid (∀W,BelW W1 W→PtsC c (.agg #[.slice A0 n c0,.slice A1 n1 c1,.slice A2 n2 c2,.slice A3 n3 c3]) n W):=Lib.hid fun W h V hv=>refpts_any c A0 A1 A2 A3 n n1 n2 n3 c0 c1 c2 c3 V (HC.out V (joinB h hv)).2 (by omega) HOBL.out
 have hln:=HG.out.len
 have HDL7:Hid (∀x:Int,(dep c.nodes x).length≤7):=Lib.hid fun x=>by
  unfold dep depsOf
  split
  ·by_cases hk:x.toNat<n
   ·exact HP7.out _ hk
   ·rw[List.getD_eq_getElem?_getD,List.getElem?_eq_none (by omega)];decide
  ·simp
 have HGR:Hid (Gr c.nodes.length (dep c.nodes) L):=Lib.hid (by
  have hin:∀x:Int,Nod c.nodes.length x→Inr c.nodes.length (dep c.nodes x):=fun x hx y hy=>by
   have h1:=HG.out.depi x.toNat y (by have:=hx.1;rw[show ((x.toNat:Nat):Int)=x by omega];exact hy)
   rw[hln];exact h1
  refine⟨hin,fun x y hx hy=>?_,fun x hx=>HG.out.bot x (by rw[←hln];exact hx),fun x hx=>by rw[hln];exact HG.out.top x (by rw[←hln];exact hx)⟩
  have hy1:=hin x hx y hy
  exact HG.out.up y x (by rw[←hln];exact hy1) ((rd_dep hy1.1).2 ⟨hx.1,hx.2,hy⟩))
 have HORD:Hid (Ord5 L n (ordTo L n n)):=Lib.hid (ord5_to HG.out.bnd)
 have hyc:Nod c.nodes.length (y:Int):=by rw[hln];exact⟨by omega,by omega⟩
 obtain⟨Wf,HWF⟩:=named (wy (dep c.nodes) (y:Int) c.nodes.length)
 have HWB:Hid (∀x,Wf x≤1152921504606846976):=Lib.hid fun x=>by
  rw[HWF.out]
  refine Nat.le_trans (wy_le 7 HDL7.out _ x) ?_
  refine Nat.le_trans (Nat.pow_le_pow_right (by decide) (show c.nodes.length≤20 by omega)) ?_
  decide
 have HWE:Hid (∀x,Nod n x→Wf x=aw Wf (y:Int) x (dep c.nodes x) (dep c.nodes x).length):=Lib.hid fun x hx=>by
  unfold aw
  rw[List.take_length,HWF.out]
  exact wy_eq HGR.out (by rw[hln];exact hx)
 have HMT:Hid (∀R:List Bool,Vis (rdL c.nodes) n (List.replicate n false) [(y:Int)] R→∀T,T=nwL (fun i=>decide (1<pinB R (dep c.nodes (i:Int)))) n→(T.length==0)=(mxW (ordTo L n n) Wf n==1)):=Lib.hid fun R hv T hT=>by
  have hR:∀j:Nat,bat R j=true↔Rr (rdL c.nodes) [(y:Int)] (j:Int):=fun j=>hv.all j
  have h1:T.length=0↔∀i:Nat,i<n→¬1<pinB R (dep c.nodes (i:Int)):=by
   rw[List.length_eq_zero_iff,hT,List.eq_nil_iff_forall_not_mem]
   constructor
   ·intro h i hi h2
    refine h (i:Int) ?_
    unfold nwL
    exact List.mem_map.2 ⟨i,List.mem_filter.2 ⟨List.mem_range.2 hi,by simpa using h2⟩,rfl⟩
   ·intro h d hd
    unfold nwL at hd
    obtain⟨j,hj,rfl⟩:=List.mem_map.1 hd
    obtain⟨h2,h3⟩:=List.mem_filter.1 hj
    exact h j (List.mem_range.1 h2) (by simpa using h3)
  have h2:mxW (ordTo L n n) Wf n=1↔∀i:Nat,i<n→¬1<pinB R (dep c.nodes (i:Int)):=by
   rw[mxW_one]
   constructor
   ·intro h i hi h3
    obtain⟨k,hk,ek⟩:=HORD.out.all (i:Int) ⟨by omega,by omega⟩
    have h4:=h k hk
    have h5:=wy_two HGR.out hyc hR (x:=(i:Int)) (by rw[hln];exact⟨by omega,by omega⟩) h3
    rw[ek,HWF.out]at h4
    omega
   ·intro h j hj
    obtain⟨x,hx,ex⟩:=HORD.out.rg j hj
    rw[ex,HWF.out]
    exact wy_one HGR.out hyc hR (fun i hi=>h i (by rw[←hln];exact hi)) n (x:Int) (by rw[hln];exact⟨by omega,by omega⟩) (HG.out.top _ ⟨by omega,by omega⟩)
  exact Bool.eq_iff_iff.2 (by rw[beq_iff_eq,beq_iff_eq];exact h1.trans h2.symm)
 have HND:Hid (∃b o,A0=some ⟨b,o,none⟩∧∀k,k<n→∃A4 c4 b4 o4,(0<(c.nodes.getD k default).ins.length→A4=some ⟨b4,o4,none⟩)∧∀W,BelW W1 W→W.cell? ⟨b,o+k*4,none⟩=some (.int .u8 (c.nodes.getD k default).kind)∧W.cell? ⟨b,o+k*4+1,none⟩=some (.slice A4 (c.nodes.getD k default).ins.length c4)∧W.cell? ⟨b,o+k*4+2,none⟩=some (.int .i64 (c.nodes.getD k default).mem)∧W.cell? ⟨b,o+k*4+3,none⟩=some (.int .i64 (c.nodes.getD k default).bit)∧∀j,j<(c.nodes.getD k default).ins.length→W.cell? ⟨b4,o4+j,none⟩=some (.int .i64 ((c.nodes.getD k default).ins.getD j 0))):=Lib.hid (by
  obtain⟨v0,v1,v2,v3,ev,hns,-,-,-⟩:=(HC.out W1 (Below.refl _ _)).2
  simp only[Value.agg.injEq,Array.mk.injEq,List.cons.injEq,and_true]at ev
  obtain⟨rfl,-,-,-⟩:=ev
  obtain⟨A,b,o,cc,e,hA,-,hm,hcell⟩:=id hns
  simp only[Value.slice.injEq]at e
  obtain⟨rfl,-,rfl⟩:=e
  refine⟨b,o,hA (by omega),fun k hk=>?_⟩
  obtain⟨hb,s,h0,h1,h2,h3,h4,-⟩:=hcell k (by omega)
  obtain⟨A5,b5,o5,c5,rfl,hA5,-,hml,hcp⟩:=h4.opens
  exact⟨A5,c5,b5,o5,hA5,fun W h=>⟨(Below.cell h (p:=⟨b,o+k*4,none⟩) hb).trans h0,(Below.cell h (p:=⟨b,o+k*4+1,none⟩) hb).trans h1,(Below.cell h (p:=⟨b,o+k*4+2,none⟩) hb).trans h2,(Below.cell h (p:=⟨b,o+k*4+3,none⟩) hb).trans h3,fun j hj=>(Below.cell h (p:=⟨b5,o5+j,none⟩) (hcp j hj).1).trans (hcp j hj).2⟩⟩)
 obtain⟨b0,o0,hA0,hnd⟩:=HND.out
 subst hA0
 have HNC:=Lib.hid hnd
 clear hln hyc hnd HND
 obtain⟨x0,x1,x2,x3⟩:=HCE.out W1 (Below.refl _ _)
 go_upto_region 3 with (fail)
 rw[HYM.out]
 have HME:=Lib.hid (meets_ok c L (some ⟨b0,o0,none⟩) A1 A2 A3 n n1 n2 n3 c0 c1 c2 c3 W1 y hyn HG.out (HC.out W1 (Below.refl _ _)).1 (HC.out W1 (Below.refl _ _)).2)
 go_upto_region 4 with (go_at_call 17;(with_reducible refine HME.out.mono ?_);rintro e w2 ⟨Am,RM,T,rfl,h1,h2,h3,h4⟩;have HVM:=Lib.hid h1;have HTM:=Lib.hid h2;have HIM:=Lib.hid h3;have HB2:Hid (BelW W1 w2):=Lib.hid h4;clear h1 h2 h3 h4 x0 x1 x2 x3)
 obtain⟨x0,x1,x2,x3⟩:=HCE.out w2 HB2.out
 have HRO:Hid (Calls Tryd.prog 32 #[.agg #[.slice (some ⟨b0,o0,none⟩) n c0,.slice A1 n1 c1,.slice A2 n2 c2,.slice A3 n3 c3]] w2 fun e w'=>∃s,e=.returned s∧Is w' w'.heap.size s (ordTo L n n)∧BelW w2 w'):=Lib.hid (by
  refine (rord_v HV.out (HL0.out.next HB2.out) (Below.refl _ _)).mono fun e w' ⟨⟨s,h1,h2⟩,h3,_⟩=>?_
  exact⟨s,h1,h2,h3⟩)
 go_upto_region 5 with (go_at_call 32;(with_reducible refine HRO.out.mono ?_);rintro e w3 ⟨sO,rfl,h1,h2⟩;have HIO:=Lib.hid h1;have HB23:Hid (BelW w2 w3):=Lib.hid h2;clear h1 h2 x0 x1 x2 x3)
 have HB3:Hid (BelW W1 w3):=Lib.hid (joinB HB2.out HB23.out)
 have HOL:=HORD.out.len
 obtain⟨O,HO⟩:=named (ordTo L n n)
 rw[←HO.out]at HORD HMT HIO HOL
 obtain⟨AO,bo,oo,cO,rfl,hAO,-,-,hco⟩:=HIO.out.opens
 rw[HOL]at hAO hco
 rw[HOL]
 obtain rfl:=hAO hn1
 have HCO:=Lib.hid hco
 clear hAO hco HOL
 obtain⟨x0,x1,x2,x3⟩:=HCE.out w3 HB3.out
 obtain⟨gw,HGW⟩:=named w3.heap.size
 have HGW2:=Lib.hid HGW.out
 obtain⟨i0,hi,hz0,hz1',hz2⟩:=info_parts info_int
 have HI:=Lib.hid (And.intro hi (And.intro hz0 (And.intro hz1' hz2)))
 clear hi hz0 hz1' hz2
 go_upto_region 6 with (at_make;refine wpList_make_full _ rfl _ _ 25 rfl w3.heap.size 3 i0 (.int .i64 0) 1 Tryd.underlying25 HI.out.1 HI.out.2.1 HI.out.2.2.1 .i64 .i64 _ _ n rfl rfl rfl rfl ?b2 ?b3 ?b4 ?_)
 case b2=>rw[HI.out.2.2.2];omega
 case b3=>unfold maxLen;omega
 case b4=>exact Nat.le_refl _
 intro w4 hown hgr
 rw[made_zero]at hown
 rw[←HGW2.out]at hown
 have hR4:Row w4 gw (List.replicate n 0):=by unfold Row;rw[List.length_replicate];exact hown
 have hb4:BelW w3 w4:=(Below.refl _ _).grown hgr (Nat.le_refl _) (fun k h=>by cases h)
 rw[←HGW2.out]
 clear hown hgr
 have HR5:Hid (Row (w4.setCell ⟨gw,y,none⟩ (.int .i64 1)) gw ((List.replicate n 0).set y 1)):=Lib.hid (hR4.set y 1)
 have HB5:Hid (BelW w3 (w4.setCell ⟨gw,y,none⟩ (.int .i64 1))):=Lib.hid (hb4.setCell (p:=⟨gw,y,none⟩) (by rw[HGW2.out];exact Nat.le_refl _) _)
 have e4:=hR4.cell (j:=y) (by rw[List.length_replicate];exact hyn)
 have e3:=hR4.frozen y
 have hyn2:(y:Int)<(n:Int):=by omega
 obtain⟨x0,x1,x2,x3⟩:=HCE.out w4 (joinB HB3.out hb4)
 clear hR4 hb4
 go_upto_region 7 with (fail)
 obtain⟨w5,HW5⟩:=named (w4.setCell ⟨gw,y,none⟩ (.int .i64 1))
 rw[←HW5.out]at HR5 HB5
 rw[←HW5.out]
 clear e4 e3 HW5 x0 x1 x2 x3
 have HWI:Hid (WI O n 0 (y:Int) Wf ((List.replicate n 0).set y 1)):=Lib.hid (WI.start HORD.out hyn)
 go_wp2
 go_loopw [11,12] (fun mv iv wr=>∃(k:Nat) (Ws:List Int),k≤n∧iv=.int .i64 k∧mv=.int .i64 (mxW O Wf k:Nat)∧Hid (WI O n k (y:Int) Wf Ws)∧Hid (Row wr gw Ws)∧Hid (BelW w3 wr)) (fun _ iv _=>n-(intOf iv).toNat)
 case atStart=>exact⟨0,_,Nat.zero_le _,rfl,rfl,HWI,HR5,HB5⟩
 case round=>
  obtain⟨k,Ws,hk,rfl,rfl,HW,HR,HB⟩:=hrel
  by_cases hlt:k<n
  ·have hk2:(k:Int)<(n:Int):=by omega
   obtain⟨x,hx,ex⟩:=HORD.out.rg k hlt
   have HBW:Hid (BelW W1 wr):=Lib.hid (joinB HB3.out HB.out)
   obtain⟨A4,c4,b4,o4,hA4,hcl⟩:=HNC.out x hx
   have HA4:=Lib.hid hA4
   have HCL:=Lib.hid hcl
   have HDP:Hid (dep c.nodes (x:Int)=if cmb (c.nodes.getD x default).kind=true then (c.nodes.getD x default).ins else []):=Lib.hid (by unfold dep depsOf;rw[Int.toNat_natCast])
   clear hA4 hcl
   obtain⟨ins,HINS⟩:=named (c.nodes.getD x default).ins
   rw[←HINS.out]at HA4 HCL HDP
   obtain⟨ni,HNI⟩:=named ins.length
   rw[←HNI.out]at HA4 HCL
   obtain⟨mm,HMMM⟩:=named (c.nodes.getD x default).mem
   obtain⟨bt,HBT⟩:=named (c.nodes.getD x default).bit
   obtain⟨kd,HKD⟩:=named (c.nodes.getD x default).kind
   rw[←HMMM.out,←HBT.out,←HKD.out]at HCL
   rw[←HKD.out]at HDP
   clear HMMM HBT HKD
   have HOX:Hid (∀W,BelW w3 W→W.cell? ⟨bo,oo+k,none⟩=some (.int .i64 (x:Int))):=Lib.hid fun W h=>by
    have h1:=HCO.out k hlt
    rw[ex]at h1
    exact (Below.cell h (p:=⟨bo,oo+k,none⟩) h1.1).trans h1.2
   obtain⟨x0,x1,x2,x3⟩:=HCE.out wr HBW.out
   go_upto_region 11 with (fail)
   have HBD:Hid (BelW W1 wr.drew):=Lib.hid (Below.drew HBW.out)
   have HBD3:Hid (BelW w3 wr.drew):=Lib.hid (Below.drew HB.out)
   have hoc:(bo,oo)=(bo,oo):=rfl
   clear x0 x1 x2 x3 hoc
   refine AnyX.start (S:=fun _=>True) (t:=9) (by kernel_rfl) ?_
   refine AnyX.factsGo [44,45,46,47,48,49,50,51,13] (YM [.pointer (some ⟨q,0,none⟩),.slice (some ⟨b0,o0,none⟩) n c0,.slice (some ⟨bo,oo,none⟩) n cO,.int .i64 (k:Int),.pointer (some ⟨bo,oo+k,none⟩),.int .i64 (x:Int),.pointer (some ⟨b0,o0+x*4,none⟩),.agg #[.int .u8 kd,.slice A4 ni c4,.int .i64 mm,.int .i64 bt]] wr.heap.size) _ _ (by decide) ?hts (by decide) YM.next (by kernel_rfl) (by kernel_rfl) ?hst ?hdo
   case hts => intro t ht; simp only [List.mem_cons, List.not_mem_nil, or_false] at ht; rcases ht with rfl | rfl | rfl | rfl | rfl | rfl | rfl | rfl | rfl <;> (show _ < Array.size _; simp)
   case hst=>
    intro i t a w' hD hF hB hdep
    have hBW:BelW W1 w':=joinB HBD.out hB
    have hBW3:BelW w3 w':=joinB HBD3.out hB
    have hi6:i<9:=(List.getElem?_eq_some_iff.1 hD).1
    obtain⟨y0,-,-,-⟩:=HCE.out w' hBW
    obtain⟨m0,m1,m2,m3,-⟩:=HCL.out w' hBW
    rcases (by omega:i=0∨i=1∨i=2∨i=3∨i=4∨i=5∨i=6∨i=7∨i=8) with rfl|rfl|rfl|rfl|rfl|rfl|rfl|rfl|rfl<;>obtain rfl:=Option.some.inj hD
    ·exact fop_fieldC rfl rfl rfl rfl rfl (by rw[hF.eval (by decide)];rfl) (.v (by decide) rfl)
    ·exact fop_loadNs rfl rfl rfl rfl rfl ((hdep _ 0 44 rfl rfl (by kernel_rfl)).2 (by decide)) y0 (.v (by decide) rfl)
    ·exact fop_move rfl rfl rfl rfl (by rw[hF.eval (by decide)];rfl) (.v (by decide) rfl)
    ·exact fop_move rfl rfl rfl rfl (by rw[hF.eval (by decide)];rfl) (.v (by decide) rfl)
    ·exact fop_index rfl rfl rfl rfl rfl ((hdep _ 2 46 rfl rfl (by kernel_rfl)).2 (by decide)) ((hdep _ 3 47 rfl rfl (by kernel_rfl)).2 (by decide)) hlt (.v (by decide) rfl)
    ·exact fop_loadI rfl rfl rfl rfl rfl ((hdep _ 4 48 rfl rfl (by kernel_rfl)).2 (by decide)) (HOX.out w' hBW3) (.v (by decide) rfl)
    ·exact fop_indexN rfl rfl rfl rfl rfl ((hdep _ 1 45 rfl rfl (by kernel_rfl)).2 (by decide)) ((hdep _ 5 49 rfl rfl (by kernel_rfl)).2 (by decide)) hx (.v (by decide) rfl)
    ·exact fop_loadN rfl rfl rfl rfl rfl ((hdep _ 6 50 rfl rfl (by kernel_rfl)).2 (by decide)) m0 m1 m2 m3 (.v (by decide) rfl)
    ·exact fop_allocN rfl rfl rfl rfl rfl fun w' h=>⟨fun _=>⟨_,rfl,(by have:=Below.size hB;exact this),h⟩,fun h=>absurd rfl h⟩
   intro v w6 hb6 hF
   have e0:v 0=_:=(hF 0 (by decide)).2 (by decide)
   have e1:v 1=_:=(hF 1 (by decide)).2 (by decide)
   have e2:v 2=_:=(hF 2 (by decide)).2 (by decide)
   have e3:v 3=_:=(hF 3 (by decide)).2 (by decide)
   have e4:v 4=_:=(hF 4 (by decide)).2 (by decide)
   have e5:v 5=_:=(hF 5 (by decide)).2 (by decide)
   have e6:v 6=_:=(hF 6 (by decide)).2 (by decide)
   have e7:v 7=_:=(hF 7 (by decide)).2 (by decide)
   obtain⟨p,e8,hlp,hfp⟩:=(hF 8 (by decide)).1 rfl
   simp only[List.getD_cons_zero,List.getD_cons_succ]at e0 e1 e2 e3 e4 e5 e6 e7
   have HFP:=Lib.hid hfp
   have HB6:Hid (BelW wr w6):=Lib.hid (joinB (Below.drew (Below.refl _ _)) hb6)
   simp only[putsF,Nat.zero_add,Nat.reduceAdd,e0,e1,e2,e3,e4,e5,e6,e7,e8,Act.put,List.setIfInBounds_toArray,List.set_cons_zero,List.set_cons_succ]
   clear e0 e1 e2 e3 e4 e5 e6 e7 e8 hF hb6
   have z0:=hfp.cell 0
   have z1:=hfp.cell 1
   have z2:=hfp.cell 2
   have z3:=hfp.cell 3
   have z4:=hfp.frozen 0
   have z5:=hfp.frozen 1
   have z6:=hfp.frozen 2
   have z7:=hfp.frozen 3
   clear hfp
   show AnyX _ _ _ _ _ _ 1 #[true,true,true,true,true,true,true,true,true,false] _ _
   refine AnyX.one (i:=9) (o:=⟨none,_,_,_,_,_⟩) (by kernel_rfl) rfl (fun K' hK=>?_)
   have HK:=Lib.hid hK
   clear hK
   go_simp
   refine HK.out _ _ (fun h=>absurd rfl h) ?_
   clear HK z0 z1 z2 z3 z4 z5 z6 z7
   (try simp only[Act.put,List.setIfInBounds_toArray,List.set_cons_zero,List.set_cons_succ])
   refine AnyX.done (by kernel_rfl) ?_ _
   have HFN:Hid (Fr ((((w6.setCell ⟨p,0,none⟩ (.int .u8 kd)).setCell ⟨p,1,none⟩ (.slice A4 ni c4)).setCell ⟨p,2,none⟩ (.int .i64 mm)).setCell ⟨p,3,none⟩ (.int .i64 bt)) p 64 [.int .u8 kd,.slice A4 ni c4,.int .i64 mm,.int .i64 bt]):=Lib.hid (Fr.set4 HFP.out _ _ _ _)
   have HB7:Hid (BelW wr ((((w6.setCell ⟨p,0,none⟩ (.int .u8 kd)).setCell ⟨p,1,none⟩ (.slice A4 ni c4)).setCell ⟨p,2,none⟩ (.int .i64 mm)).setCell ⟨p,3,none⟩ (.int .i64 bt))):=Lib.hid ((((HB6.out.setCell (p:=⟨p,0,none⟩) hlp _).setCell (p:=⟨p,1,none⟩) hlp _).setCell (p:=⟨p,2,none⟩) hlp _).setCell (p:=⟨p,3,none⟩) hlp _)
   obtain⟨w7,HW7⟩:=named ((((w6.setCell ⟨p,0,none⟩ (.int .u8 kd)).setCell ⟨p,1,none⟩ (.slice A4 ni c4)).setCell ⟨p,2,none⟩ (.int .i64 mm)).setCell ⟨p,3,none⟩ (.int .i64 bt))
   rw[←HW7.out]at HFN HB7
   rw[←HW7.out]
   have hgp:gw≠p:=by have:=HR.out.lt;omega
   have HB37:Hid (BelW w3 w7):=Lib.hid (joinB HB.out HB7.out)
   have HR7:Hid (Row w7 gw Ws):=Lib.hid (HR.out.below HB7.out)
   clear HW7 HFP HB6 HBD HBD3 HR HBW HB hlp
   have hxn:Nod n (x:Int):=⟨by omega,by omega⟩
   have HWX:Hid (WI O n (k+1) (y:Int) Wf (Ws.set x (Wf (x:Int):Int))):=Lib.hid (by
    have h1:=HW.out.step hlt HORD.out (a:=(Wf (x:Int):Int)) (by rw[ex])
    rw[ex,Int.toNat_natCast]at h1
    exact h1)
   have HFI:Hid (Ws=Ws.set x (aw Wf (y:Int) (x:Int) (dep c.nodes (x:Int)) 0:Int)):=Lib.hid (by
    have h1:=HW.out.first hlt HORD.out (dep c.nodes (x:Int))
    rw[ex,Int.toNat_natCast]at h1
    exact h1)
   have HWX2:=Lib.hid (HWE.out (x:Int) hxn)
   have HMX:Hid (mxW O Wf (k+1)=max (mxW O Wf k) (Wf (x:Int))):=Lib.hid (by show max (mxW O Wf k) (Wf (O.getD k 0))=_;rw[ex])
   have hmxb:=mxW_le (O:=O) (W:=Wf) (B:=1152921504606846976) (by decide) HWB.out k
   have hwxb:=HWB.out (x:Int)
   have hlen:=HW.out.len
   obtain⟨mx,HMXN⟩:=named (mxW O Wf k)
   rw[←HMXN.out]at HMX hmxb
   rw[←HMXN.out]
   have hx2:(x:Int)<(n:Int):=by omega
   have hcm:=comb_any kd
   cases hv:cmb kd
   ·rw[hv]at hcm HDP
    rw[if_neg (by decide)]at HDP
    rw[HDP.out]at HFI HWX2
    have HWS:Hid (Ws=Ws.set x (Wf (x:Int):Int)):=Lib.hid (by rw[HWX2.out];exact HFI.out)
    have HCM:=Lib.hid hcm
    obtain⟨wx,HWXN⟩:=named (Wf (x:Int))
    rw[←HWXN.out]at HWS HMX HWX hwxb
    have HR8:Hid (Row w7 gw (Ws.set x (wx:Int))):=Lib.hid (by rw[←HWS.out];exact HR7.out)
    have y0:=HFN.out.cell 0
    have y1:=HFN.out.cell 1
    have y2:=HOX.out w7 HB37.out
    have y3:w7.cell? ⟨gw,x,none⟩=some (.int .i64 (wx:Int)):=by
     have h1:=HR8.out.cell (j:=x) (by rw[List.length_set];omega)
     rw[h1];unfold lat;rw[Int.toNat_natCast,getDI_set (by omega),if_pos rfl]
    have HY3:=Lib.hid y3
    have HGL:Hid (gw<w7.heap.size):=Lib.hid HR7.out.lt
    clear hcm hv y0 y1 y2 y3
    go_wp2
    go_loopw [14] (fun jv wr=>jv=.int .i64 0∧Hid (BelW w7 wr)) (fun _ _=>0)
    case atStart=>exact⟨rfl,Lib.hid (Below.refl _ _)⟩
    case round=>
     obtain⟨rfl,HBI⟩:=hrel
     have y0:=(HFN.out.below HBI.out).cell 0
     have y1:=(HFN.out.below HBI.out).cell 1
     have y2:=HOX.out wr (joinB HB37.out HBI.out)
     have y3:=(Below.cell HBI.out (p:=⟨gw,x,none⟩) HGL.out).trans HY3.out
     have HR9:=Lib.hid (HR8.out.below HBI.out)
     have HB39:Hid (BelW w3 wr):=Lib.hid (joinB HB37.out HBI.out)
     by_cases hn0:0<ni
     ·go_wp2_with (go_at_call 33;(with_reducible refine (HCM.out _).mono ?_);rintro e w' ⟨rfl,rfl⟩)
      go_roundw
      case rel=>exact⟨k+1,_,by omega,by go_num,by rw[HMX.out];congr 1;split<;>omega,HWX,HR9,HB39⟩
      case measure=>simp[intOf];omega
     ·go_wp2
      go_roundw
      case rel=>exact⟨k+1,_,by omega,by go_num,by rw[HMX.out];congr 1;split<;>omega,HWX,HR9,HB39⟩
      case measure=>simp[intOf];omega
   ·rw[hv]at hcm HDP
    rw[if_pos rfl]at HDP
    rw[HDP.out]at HFI HWX2
    rw[←HNI.out]at HWX2
    have HCM:=Lib.hid hcm
    clear hcm hv
    have hni7:ni≤7:=by rw[HNI.out,←HDP.out];exact HDL7.out _
    have HPIN:Hid (∀j,j<ni→∃zp:Nat,ins.getD j 0=(zp:Int)∧zp<n∧zp≠x∧(∀a:Int,(Ws.set x a).getD zp 0=(Wf (zp:Int):Int))∧aw Wf (y:Int) (x:Int) ins (j+1)=aw Wf (y:Int) (x:Int) ins j+Wf (zp:Int)):=Lib.hid fun j hj=>by
     have hmem:ins.getD j 0∈ins:=by
      rw[List.getD_eq_getElem?_getD,List.getElem?_eq_getElem (by rw[←HNI.out];exact hj)];exact List.getElem_mem _
     have hln:=HG.out.len
     have hxc:Nod c.nodes.length (x:Int):=by rw[hln];exact hxn
     have hzn:=HGR.out.inr (x:Int) hxc _ (by rw[HDP.out];exact hmem)
     have hzl:=HGR.out.lt (x:Int) _ hxc (by rw[HDP.out];exact hmem)
     have hzn2:Nod n (ins.getD j 0):=by rw[←hln];exact hzn
     have e1:(((ins.getD j 0).toNat:Nat):Int)=ins.getD j 0:=by have:=hzn.1;omega
     refine⟨(ins.getD j 0).toNat,e1.symm,by have:=hzn2.1;have:=hzn2.2;omega,fun e=>?_,fun a=>?_,?_⟩
     ·rw[←e,e1]at hzl;omega
     ·have h1:=HW.out.pin hlt HORD.out hzn2 (by rw[ex];exact hzl) a
      rw[ex,Int.toNat_natCast]at h1
      rw[h1,e1]
     ·rw[aw_succ (by rw[←HNI.out];exact hj),e1]
    have HAWB:Hid (∀j,aw Wf (y:Int) (x:Int) ins j≤1+7*1152921504606846976):=Lib.hid fun j=>by
     refine Nat.le_trans (aw_le (B:=1152921504606846976) (fun z _=>HWB.out z) j) ?_
     have:ins.length*1152921504606846976≤7*1152921504606846976:=Nat.mul_le_mul_right _ (by rw[←HNI.out];exact hni7)
     omega
    have HR8:Hid (Row w7 gw (Ws.set x (aw Wf (y:Int) (x:Int) ins 0:Int))):=Lib.hid (by rw[←HFI.out];exact HR7.out)
    obtain⟨aF,HAF⟩:=named (aw Wf (y:Int) (x:Int) ins)
    rw[←HAF.out]at HPIN HAWB HR8 HWX2
    go_wp2
    go_loopw [14] (fun jv wr=>∃j:Nat,j≤ni∧jv=.int .i64 j∧Hid (Row wr gw (Ws.set x (aF j:Int)))∧Hid (Fr wr p 64 [.int .u8 kd,.slice A4 ni c4,.int .i64 mm,.int .i64 bt])∧Hid (BelW w3 wr)) (fun jv _=>ni-(intOf jv).toNat)
    case atStart=>exact⟨0,Nat.zero_le _,rfl,HR8,HFN,HB37⟩
    case round=>
     obtain⟨j,hj,rfl,HRJ,HFJ,HBJ⟩:=hrel
     have y0:=HFJ.out.cell 0
     have y1:=HFJ.out.cell 1
     by_cases hjl:j<ni
     ·have hj2:(j:Int)<(ni:Int):=by omega
      go_upto_region 15 with (go_at_call 33;(with_reducible refine (HCM.out _).mono ?_);rintro e w' ⟨rfl,rfl⟩)
      obtain⟨zp,ez,hzn,hzx,hzw,haw⟩:=HPIN.out j hjl
      have hsb:=HAWB.out (j+1)
      have HRS:=Lib.hid (fun a:Int=>HRJ.out.set x a)
      obtain⟨a0,HA0⟩:=named (aF j)
      obtain⟨wz,HWZ⟩:=named (Wf (zp:Int))
      rw[←HA0.out,←HWZ.out]at haw
      rw[haw]at hsb
      have HSM:Hid (0≤(a0:Int)+(wz:Int)∧(a0:Int)+(wz:Int)<9223372036854775808):=Lib.hid (by omega)
      have HAN:Hid ((aF (j+1):Int)=(a0:Int)+(wz:Int)):=Lib.hid (by rw[haw];omega)
      obtain rfl:=HA4.out (by omega)
      have HY4:Hid (∀W,Below wr.drew.heap.size wr.drew W→W.cell? ⟨gw,0+x,none⟩=some (.int .i64 (a0:Int))):=Lib.hid fun W h=>by
       have h1:=(HRJ.out.below (Below.drew (Below.refl _ _))).below h
       rw[Nat.zero_add,h1.cell (j:=x) (by rw[List.length_set];omega)]
       unfold lat
       rw[Int.toNat_natCast,getDI_set (by omega),if_pos rfl,HA0.out]
      have HY5:Hid (∀W,Below wr.drew.heap.size wr.drew W→W.cell? ⟨p,1,none⟩=some (.slice (some ⟨b4,o4,none⟩) ni c4)):=Lib.hid fun W h=>((HFJ.out.below (Below.drew (Below.refl _ _))).below h).cell 1
      have HY6:Hid (∀W,Below wr.drew.heap.size wr.drew W→W.cell? ⟨b4,o4+j,none⟩=some (.int .i64 (zp:Int))):=Lib.hid fun W h=>by
       have h1:=(HCL.out W (joinB HB3.out (joinB (Below.drew HBJ.out) h))).2.2.2.2 j hjl
       rw[h1,ez]
      have HY7:Hid (∀W,Below wr.drew.heap.size wr.drew W→W.cell? ⟨gw,0+zp,none⟩=some (.int .i64 (wz:Int))):=Lib.hid fun W h=>by
       have h1:=(HRJ.out.below (Below.drew (Below.refl _ _))).below h
       rw[Nat.zero_add,h1.cell (j:=zp) (by rw[List.length_set];omega)]
       unfold lat
       rw[Int.toNat_natCast,hzw,HWZ.out]
      have HBD3:Hid (BelW w3 wr.drew):=Lib.hid (Below.drew HBJ.out)
      clear y0 y1 haw hzw hzx ez hsb
      refine AnyX.start (S:=fun _=>True) (t:=22) (by kernel_rfl) ?_
      refine AnyX.factsGo [64,65,66,67,68,69,70,71,72,73,74,75,76,77,78,79,80,81,82,83,84,85] (YV [.slice (some ⟨gw,0,none⟩) n n,.slice (some ⟨bo,oo,none⟩) n cO,.int .i64 (k:Int),.pointer (some ⟨bo,oo+k,none⟩),.int .i64 (x:Int),.slice (some ⟨gw,0,none⟩) n n,.slice (some ⟨bo,oo,none⟩) n cO,.int .i64 (k:Int),.pointer (some ⟨bo,oo+k,none⟩),.int .i64 (x:Int),.pointer (some ⟨gw,0+x,none⟩),.int .i64 (a0:Int),.slice (some ⟨gw,0,none⟩) n n,.pointer (some ⟨p,1,none⟩),.slice (some ⟨b4,o4,none⟩) ni c4,.int .i64 (j:Int),.pointer (some ⟨b4,o4+j,none⟩),.int .i64 (zp:Int),.pointer (some ⟨gw,0+zp,none⟩),.int .i64 (wz:Int),.int .i64 ((a0:Int)+(wz:Int)),.pointer (some ⟨gw,0+x,none⟩)]) _ _ (by decide) ?hts2 (by decide) YV.next (by kernel_rfl) (by kernel_rfl) ?hst2 ?hdo2
      case hts2 => intro t ht; simp only [List.mem_cons, List.not_mem_nil, or_false] at ht; rcases ht with rfl | rfl | rfl | rfl | rfl | rfl | rfl | rfl | rfl | rfl | rfl | rfl | rfl | rfl | rfl | rfl | rfl | rfl | rfl | rfl | rfl | rfl <;> (show _ < Array.size _; simp)
      case hst2=>
       intro i t a w' hD hF hB hdep
       have hBW3:BelW w3 w':=joinB HBD3.out hB
       have hi6:i<22:=(List.getElem?_eq_some_iff.1 hD).1
       rcases (by omega:i=0∨i=1∨i=2∨i=3∨i=4∨i=5∨i=6∨i=7∨i=8∨i=9∨i=10∨i=11∨i=12∨i=13∨i=14∨i=15∨i=16∨i=17∨i=18∨i=19∨i=20∨i=21) with rfl|rfl|rfl|rfl|rfl|rfl|rfl|rfl|rfl|rfl|rfl|rfl|rfl|rfl|rfl|rfl|rfl|rfl|rfl|rfl|rfl|rfl<;>obtain rfl:=Option.some.inj hD
       ·exact fop_move rfl rfl rfl rfl (by rw[hF.eval (by decide)];rfl) rfl
       ·exact fop_move rfl rfl rfl rfl (by rw[hF.eval (by decide)];rfl) rfl
       ·exact fop_move rfl rfl rfl rfl (by rw[hF.eval (by decide)];rfl) rfl
       ·exact fop_index rfl rfl rfl rfl rfl (hdep _ 1 65 rfl rfl (by kernel_rfl)) (hdep _ 2 66 rfl rfl (by kernel_rfl)) hlt rfl
       ·exact fop_loadI rfl rfl rfl rfl rfl (hdep _ 3 67 rfl rfl (by kernel_rfl)) (HOX.out w' hBW3) rfl
       ·exact fop_move rfl rfl rfl rfl (by rw[hF.eval (by decide)];rfl) rfl
       ·exact fop_move rfl rfl rfl rfl (by rw[hF.eval (by decide)];rfl) rfl
       ·exact fop_move rfl rfl rfl rfl (by rw[hF.eval (by decide)];rfl) rfl
       ·exact fop_index rfl rfl rfl rfl rfl (hdep _ 6 70 rfl rfl (by kernel_rfl)) (hdep _ 7 71 rfl rfl (by kernel_rfl)) hlt rfl
       ·exact fop_loadI rfl rfl rfl rfl rfl (hdep _ 8 72 rfl rfl (by kernel_rfl)) (HOX.out w' hBW3) rfl
       ·exact fop_index rfl rfl rfl rfl rfl (hdep _ 5 69 rfl rfl (by kernel_rfl)) (hdep _ 9 73 rfl rfl (by kernel_rfl)) hx rfl
       ·exact fop_loadI rfl rfl rfl rfl rfl (hdep _ 10 74 rfl rfl (by kernel_rfl)) (HY4.out w' hB) rfl
       ·exact fop_move rfl rfl rfl rfl (by rw[hF.eval (by decide)];rfl) rfl
       ·exact fop_fieldN rfl rfl rfl rfl rfl (by rw[hF.eval (by decide)];rfl) rfl
       ·exact fop_loadIs rfl rfl rfl rfl rfl (hdep _ 13 77 rfl rfl (by kernel_rfl)) (HY5.out w' hB) rfl
       ·exact fop_move rfl rfl rfl rfl (by rw[hF.eval (by decide)];rfl) rfl
       ·exact fop_index rfl rfl rfl rfl rfl (hdep _ 14 78 rfl rfl (by kernel_rfl)) (hdep _ 15 79 rfl rfl (by kernel_rfl)) hjl rfl
       ·exact fop_loadI rfl rfl rfl rfl rfl (hdep _ 16 80 rfl rfl (by kernel_rfl)) (HY6.out w' hB) rfl
       ·exact fop_index rfl rfl rfl rfl rfl (hdep _ 12 76 rfl rfl (by kernel_rfl)) (hdep _ 17 81 rfl rfl (by kernel_rfl)) hzn rfl
       ·exact fop_loadI rfl rfl rfl rfl rfl (hdep _ 18 82 rfl rfl (by kernel_rfl)) (HY7.out w' hB) rfl
       ·exact fop_addI rfl rfl rfl rfl rfl (hdep _ 11 75 rfl rfl (by kernel_rfl)) (hdep _ 19 83 rfl rfl (by kernel_rfl)) HSM.out rfl
       ·exact fop_index rfl rfl rfl rfl rfl (hdep _ 0 64 rfl rfl (by kernel_rfl)) (hdep _ 4 68 rfl rfl (by kernel_rfl)) hx rfl
      intro v w8 hb8 hF
      have e0:v 0=_:=hF 0 (by decide)
      have e1:v 1=_:=hF 1 (by decide)
      have e2:v 2=_:=hF 2 (by decide)
      have e3:v 3=_:=hF 3 (by decide)
      have e4:v 4=_:=hF 4 (by decide)
      have e5:v 5=_:=hF 5 (by decide)
      have e6:v 6=_:=hF 6 (by decide)
      have e7:v 7=_:=hF 7 (by decide)
      have e8:v 8=_:=hF 8 (by decide)
      have e9:v 9=_:=hF 9 (by decide)
      have e10:v 10=_:=hF 10 (by decide)
      have e11:v 11=_:=hF 11 (by decide)
      have e12:v 12=_:=hF 12 (by decide)
      have e13:v 13=_:=hF 13 (by decide)
      have e14:v 14=_:=hF 14 (by decide)
      have e15:v 15=_:=hF 15 (by decide)
      have e16:v 16=_:=hF 16 (by decide)
      have e17:v 17=_:=hF 17 (by decide)
      have e18:v 18=_:=hF 18 (by decide)
      have e19:v 19=_:=hF 19 (by decide)
      have e20:v 20=_:=hF 20 (by decide)
      have e21:v 21=_:=hF 21 (by decide)
      simp only[List.getD_cons_zero,List.getD_cons_succ]at e0 e1 e2 e3 e4 e5 e6 e7 e8 e9 e10 e11 e12 e13 e14 e15 e16 e17 e18 e19 e20 e21
      simp only[putsF,Nat.zero_add,Nat.reduceAdd,e0,e1,e2,e3,e4,e5,e6,e7,e8,e9,e10,e11,e12,e13,e14,e15,e16,e17,e18,e19,e20,e21,Act.put,List.setIfInBounds_toArray,List.set_cons_zero,List.set_cons_succ]
      have HB8:Hid (BelW wr w8):=Lib.hid (joinB (Below.drew (Below.refl _ _)) hb8)
      have HR8:=Lib.hid (HRJ.out.below HB8.out)
      have HF8:=Lib.hid (HFJ.out.below HB8.out)
      have z0:=HY4.out w8 hb8
      rw[Nat.zero_add]at z0
      have z1:=HR8.out.frozen x
      clear e0 e1 e2 e3 e4 e5 e6 e7 e8 e9 e10 e11 e12 e13 e14 e15 e16 e17 e18 e19 e20 e21 hF hb8
      show AnyX _ _ _ _ _ _ 1 #[true,true,true,true,true,true,true,true,true,true,true,true,true,true,true,true,true,true,true,true,true,true,false] _ _
      refine AnyX.one (i:=22) (o:=⟨none,_,_,_,_,_⟩) (by kernel_rfl) rfl (fun K' hK=>?_)
      have HK:=Lib.hid hK
      clear hK
      go_simp
      refine HK.out _ _ (fun h=>absurd rfl h) ?_
      clear HK z0 z1
      (try simp only[Act.put,List.setIfInBounds_toArray,List.set_cons_zero,List.set_cons_succ])
      refine AnyX.done (by kernel_rfl) ?_ _
      have HR9:Hid (Row (w8.setCell ⟨gw,x,none⟩ (.int .i64 ((a0:Int)+(wz:Int)))) gw (Ws.set x (aF (j+1):Int))):=Lib.hid (by
       have h1:=HR8.out.set x ((a0:Int)+(wz:Int))
       rw[List.set_set]at h1
       rw[HAN.out];exact h1)
      have HF9:Hid (Fr (w8.setCell ⟨gw,x,none⟩ (.int .i64 ((a0:Int)+(wz:Int)))) p 64 [.int .u8 kd,.slice (some ⟨b4,o4,none⟩) ni c4,.int .i64 mm,.int .i64 bt]):=Lib.hid (HF8.out.other hgp _)
      have HB9:Hid (BelW w3 (w8.setCell ⟨gw,x,none⟩ (.int .i64 ((a0:Int)+(wz:Int))))):=Lib.hid ((joinB HBJ.out HB8.out).setCell (p:=⟨gw,x,none⟩) (by rw[HGW2.out];exact Nat.le_refl _) _)
      go_wp2
      go_roundw
      case rel=>exact⟨j+1,by omega,by go_num,HR9,HF9,HB9⟩
      case measure=>simp[intOf];omega
     ·obtain rfl:ni=j:=by omega
      have hwx2:=HWX2.out
      have y2:=HOX.out wr HBJ.out
      have y3:wr.cell? ⟨gw,x,none⟩=some (.int .i64 (Wf (x:Int):Int)):=by
       rw[HRJ.out.cell (j:=x) (by rw[List.length_set];omega)]
       unfold lat
       rw[Int.toNat_natCast,getDI_set (by omega),if_pos rfl,hwx2]
      have HR9:Hid (Row wr gw (Ws.set x (Wf (x:Int):Int))):=Lib.hid (by rw[hwx2];exact HRJ.out)
      clear hwx2
      obtain⟨wx,HWXN⟩:=named (Wf (x:Int))
      rw[←HWXN.out]at HR9 HMX HWX hwxb y3
      go_wp2
      go_roundw
      case rel=>exact⟨k+1,_,by omega,by go_num,by rw[HMX.out];congr 1;split<;>omega,HWX,HR9,HBJ⟩
      case measure=>simp[intOf];omega
  ·obtain rfl:n=k:=by omega
   have HB10:Hid (BelW W1 wr):=Lib.hid (joinB HB3.out HB.out)
   obtain⟨x0,x1,x2,x3⟩:=HCE.out wr HB10.out
   have hmt:=HMT.out RM HVM.out T HTM.out
   have HIM9:=Lib.hid (HIM.out.on (joinB HB23.out HB.out))
   have hln:=HG.out.len
   have HRM:Hid (Calls Tryd.prog 34 #[.agg #[.slice (some ⟨b0,o0,none⟩) n c0,.slice A1 n1 c1,.slice A2 n2 c2,.slice A3 n3 c3],.int .i64 (y:Int)] wr fun e w'=>∃g R,e=.returned (.slice (some ⟨g,0,none⟩) n n)∧BRow w' g R∧R.length=n∧memB R n=T∧BelW wr w'):=Lib.hid (by
    refine (meets5_any c L (some ⟨b0,o0,none⟩) A1 A2 A3 n n1 n2 n3 c0 c1 c2 c3 wr (HC.out wr HB10.out).2 y hyn (fun i hi=>Nat.le_trans (HG.out.depl i hi) (by decide)) (by omega) HG.out.hl0 HG.out.hl1 HG.out.hl2).mono fun e w' ⟨g,R0,R,h1,h2,h3,h4,h5,h6,h7⟩=>?_
    refine⟨g,R,h1,h2,h3,?_,h7⟩
    rw[HTM.out]
    unfold memB nwL
    refine congrArg _ (List.filter_congr fun i hi=>?_)
    have hi':=List.mem_range.1 hi
    refine Bool.eq_iff_iff.2 ?_
    rw[h6 i hi',decide_eq_true_iff]
    have hd:depsOf (c.nodes.getD i default)=dep c.nodes (i:Int):=by unfold dep;rw[Int.toNat_natCast]
    have hin:Inr n (dep c.nodes (i:Int)):=HG.out.depi i
    rw[hd,pin_net R0 n _ hin]
    have hpp:pinB R0 (dep c.nodes (i:Int))=pinB RM (dep c.nodes (i:Int)):=by
     unfold pinB
     refine List.countP_congr fun z hz=>?_
     have hz2:=hin z hz
     rw[h4 z.toNat,HVM.out.all z.toNat]
     exact rv_rr ⟨by omega,by omega⟩ HG.out.inr'
    rw[hpp])
   have HSET:Hid (∀W g R,BRow W g R→R.length=n→memB R n=T→Calls Tryd.prog 22 #[.slice (some ⟨g,0,none⟩) n n] W fun e w'=>∃A d,e=.returned (.slice A T.length d)∧Is w' w'.heap.size (.slice A T.length d) T∧BelW W w'):=Lib.hid fun W g R h1 h2 h3=>by
    refine (set5_any g n R W h1 h2 (by omega)).mono fun e w' ⟨A,d,h4,h5,h6⟩=>?_
    rw[h3]at h4 h5
    exact⟨A,d,h4,h5,h6⟩
   have HINT:Hid (∀W,BelW wr W→∀A d,Is W W.heap.size (.slice A T.length d) T→Calls Tryd.prog 20 #[.slice Am T.length T.length,.slice A T.length d] W fun e w'=>e=.returned (.int .i64 0)∧BelW W w'):=Lib.hid fun W h A d hA=>by
    have h1:=HIM9.out.on h
    exact (ints_any T T Am T.length _ W _ _ h1 hA).mono fun e w' ⟨h3,k,h4⟩=>⟨by rw[h3];simp[intsR],by rw[h4];exact belW_drewN (Below.refl _ _) k⟩
   obtain⟨tl,HTL⟩:=named T.length
   rw[←HTL.out]at hmt HSET HINT
   rw[←HTL.out]
   obtain⟨mx,HMXN⟩:=named (mxW O Wf n)
   rw[←HMXN.out]at hmt
   rw[←HMXN.out]
   clear hln HMXN
   have hbb:∀t:Bool,(t==t)=true:=fun t=>by simp
   obtain⟨t,HT⟩:=named (decide (tl=0))
   have q1:((tl:Int)==0)=t:=by
    rw[HT.out]
    refine Bool.eq_iff_iff.2 ?_
    rw[beq_iff_eq,decide_eq_true_iff];omega
   have q2:((mx:Int)==1)=t:=by
    have h1:(mx==1)=t:=by
     rw[←hmt,HT.out]
     refine Bool.eq_iff_iff.2 ?_
     rw[beq_iff_eq,decide_eq_true_iff]
    rw[←h1]
    refine Bool.eq_iff_iff.2 ?_
    rw[beq_iff_eq,beq_iff_eq];omega
   clear hmt HT hbb
   cases t
   ·go_wp2_with (first
     |(go_at_call 34;(with_reducible refine HRM.out.mono ?_);rintro e w12 ⟨g,R,rfl,h1,h2,h3,h4⟩;have HBR:=Lib.hid (HSET.out w12 g R h1 h2 h3);have HB12:Hid (BelW wr w12):=Lib.hid h4;clear h1 h2 h3 h4 x0 x1 x2 x3)
     |(go_at_call 22;(with_reducible refine HBR.out.mono ?_);rintro e w13 ⟨As,ds,rfl,h1,h2⟩;have HB13:Hid (BelW wr w13):=Lib.hid (joinB HB12.out h2);have HIT:=Lib.hid (HINT.out w13 HB13.out As ds h1);clear h1 h2)
     |(go_at_call 20;(with_reducible refine HIT.out.mono ?_);rintro e w14 ⟨rfl,h1⟩;have HB14:Hid (BelW W1 w14):=Lib.hid (joinB HB10.out (joinB HB13.out h1));clear h1)
     |(go_at_call 11;(with_reducible refine (HLV.out w14 HB14.out).mono ?_);rintro e w15 ⟨rfl,h1⟩;have HB15:=Lib.hid h1;clear h1))
    go_ret
    exact⟨rfl,joinB HW0.out (joinB HB14.out HB15.out)⟩
   ·go_wp2_with (first
     |(go_at_call 34;(with_reducible refine HRM.out.mono ?_);rintro e w12 ⟨g,R,rfl,h1,h2,h3,h4⟩;have HBR:=Lib.hid (HSET.out w12 g R h1 h2 h3);have HB12:Hid (BelW wr w12):=Lib.hid h4;clear h1 h2 h3 h4 x0 x1 x2 x3)
     |(go_at_call 22;(with_reducible refine HBR.out.mono ?_);rintro e w13 ⟨As,ds,rfl,h1,h2⟩;have HB13:Hid (BelW wr w13):=Lib.hid (joinB HB12.out h2);have HIT:=Lib.hid (HINT.out w13 HB13.out As ds h1);clear h1 h2)
     |(go_at_call 20;(with_reducible refine HIT.out.mono ?_);rintro e w14 ⟨rfl,h1⟩;have HB14:Hid (BelW W1 w14):=Lib.hid (joinB HB10.out (joinB HB13.out h1));clear h1)
     |(go_at_call 11;(with_reducible refine (HLV.out w14 HB14.out).mono ?_);rintro e w15 ⟨rfl,h1⟩;have HB15:=Lib.hid h1;clear h1))
    go_ret
    exact⟨rfl,joinB HW0.out (joinB HB14.out HB15.out)⟩
end Go.Proofs.YtckgnoopjapknaaDoor
