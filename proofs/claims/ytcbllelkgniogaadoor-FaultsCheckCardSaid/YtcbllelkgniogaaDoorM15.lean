/- The texts Fq5 Fq6 Co1 Co2 Brw. -/
import Derived.Test.YtcbllelkgniogaaDoorM14
import Derived.Test.YtcbllelkgniogaaDoorM01
import Derived.Test.YtcbllelkgniogaaDoorM10
namespace Go.Proofs.YtcbllelkgniogaaDoor
open Go.RowKit
attribute [local go_sem] Oper.semAt_some
theorem info_fault:(Tryd.prog.info? 33).map (fun i=>(i.zero,i.size,i.bytes))=some (some (.agg #[.int .u8 0,.int .i64 0,.int .i64 0,.int .u8 0,.int .i64 0]),5,40):=by kernel_rfl
def ftC(l:List Ft):List Value:=l.flatMap fun f=>[.int .u8 f.md,.int .i64 f.nd,.int .i64 f.pn,.int .u8 f.vl,.int .i64 f.ot]
theorem five_new(w:World)(x y z u v:Value)(t:TypeId):∀(j:Nat) (r:Value),[x,y,z,u,v][j]? =some r→(w.alloc (.cells #[x,y,z,u,v] t)).cell? ((⟨w.heap.size,0,none⟩:Addr).add j)=some r:=by
 intro j r h
 rw[Go.WideShapes.add_plain,Nat.zero_add]
 have:=(Fr.made w [x,y,z,u,v] t rfl).cell j
 exact this.trans h
theorem clipF_any(A:Option Addr)(n c:Nat)(w:World)(hA:(A=none∧n=0∧c=0)∨∃a:Addr,A=some a)(hn:n≤c)(hc:c≤maxLen):
 Calls Tryd.prog 26 #[.slice A n c] w fun e w'=>e=.returned (.slice A n n)∧w=w':=by
 unfold maxLen at hc
 rcases hA with⟨rfl,rfl,rfl⟩| ⟨a,rfl⟩
 ·go_enter Tryd.func26,Tryd.ntmps26
  go_wp2
  go_ret
  exact⟨rfl,rfl⟩
 ·go_enter Tryd.func26,Tryd.ntmps26
  go_wp2
  go_ret
  exact⟨rfl,rfl⟩
theorem ownf_len{w:World}{base n:Nat}{v:Value}{xs:List Value}(h:w.ownsRow base 33 5 v n xs):∃A c,v=.slice A n c∧((A=none∧n=0∧c=0)∨∃a:Addr,A=some a)∧n≤c∧c≤maxLen:=by
 rcases h.2 with⟨rfl,hn⟩| ⟨g,cap,cur,rfl,hb,hg,hle,hm,-⟩
 ·exact⟨none,0,by rw[hn],.inl ⟨rfl,hn,rfl⟩,by omega,by simp⟩
 ·exact⟨_,cap,rfl,.inr ⟨_,rfl⟩,hle,hm⟩
def CF(w:World)(bs base r0 r1:Nat)(zs:List Ft)(k:Nat)(V:World):Prop:=(∃v,Fr V bs 48 [v]∧V.ownsRow base 33 5 v (zs.take k).length (ftC (zs.take k)))∧Fr V r0 48 [.slice none 0 0]∧Fr V r1 41 [.int .i64 0]∧BelW w V
theorem CF.own{w:World}{bs base r0 r1 B:Nat}{zs:List Ft}(hB:w.heap.size≤B):OwnFrom B (CF w bs base r0 r1 zs):=fun k W W' row ⟨⟨v,h1,h2⟩,h3,h4,h5⟩ hg hr=>
 ⟨⟨v,fr_turn h1 hg fun r e=>(hr r e).2,own_turn h2 hg fun r e=>(hr r e).2⟩,fr_turn h3 hg fun r e=>(hr r e).2,fr_turn h4 hg fun r e=>(hr r e).2,h5.grown hg (Below.size h5) fun q e=>Nat.le_trans hB (hr q e).1⟩
set_option maxRecDepth 100000 in
set_option maxHeartbeats 8000000 in
theorem all_gen(c:Ck)(A0 A1 A2 A3:Option Addr)(n n1 n2 n3 c0 c1 c2 c3:Nat)(m:Int)(zs:List Ft)(w:World)(hT:Tabs w)(hc:Cir w w.heap.size (.agg #[.slice A0 n c0,.slice A1 n1 c1,.slice A2 n2 c2,.slice A3 n3 c3]) c)(hk:ckF c=0)(hm:m≤3)(hz:zs.length≤65536)
 (hFO:∀W,BelW w W→Calls Tryd.prog 25 #[.agg #[.slice A0 n c0,.slice A1 n1 c1,.slice A2 n2 c2,.slice A3 n3 c3],.int .u8 m] W fun e w'=>∃gf lb,e=.returned (.func (.func gf) #[] lb)∧BelW W w'∧(∀args V,(callFunc gf args).run Tryd.prog V=.ok (.enter gf args) V)∧∀V,BelW w' V→SeqT w.heap.size (Kr w.heap.size [33,48]) Fence.wide 8 5 Tryd.prog gf lb encF zs V):
 Calls Tryd.prog 12 #[.agg #[.slice A0 n c0,.slice A1 n1 c1,.slice A2 n2 c2,.slice A3 n3 c3],.int .u8 m] w fun e w'=>∃A base,e=.returned (.tuple #[.slice A zs.length zs.length,.int .i64 0])∧w.heap.size≤base∧(∃cv,w'.ownsRow base 33 5 (.slice A zs.length cv) zs.length (ftC zs))∧BelW w w':=by
 obtain⟨W1,HW1⟩:=named (((w.alloc (.cells #[.slice A0 n c0,.slice A1 n1 c1,.slice A2 n2 c2,.slice A3 n3 c3] 39)).alloc (.cells #[.slice none 0 0] 48)).alloc (.cells #[.int .i64 0] 41))
 have hb1:BelW w W1:=by rw[HW1.out];exact joinB (below_new (Below.refl _ _) _) (joinB (below_new (Below.refl _ _) _) (below_new (Below.refl _ _) _))
 have hfc:Fr W1 w.heap.size 39 [.slice A0 n c0,.slice A1 n1 c1,.slice A2 n2 c2,.slice A3 n3 c3]:=by rw[HW1.out];exact ((Fr.made _ _ _ rfl).alloc _).alloc _
 have hf0:Fr W1 (w.heap.size+1) 48 [.slice none 0 0]:=by rw[HW1.out];exact (Fr.made _ _ _ (by simp)).alloc _
 have hf1:Fr W1 (w.heap.size+2) 41 [.int .i64 0]:=by rw[HW1.out];exact Fr.made _ _ _ (by simp)
 have hz1:W1.heap.size=w.heap.size+3:=by rw[HW1.out];simp
 have HCE:Hid (∀W,BelW W1 W→W.cell? ⟨w.heap.size,0,none⟩=some (.slice A0 n c0)∧W.cell? ⟨w.heap.size,1,none⟩=some (.slice A1 n1 c1)∧W.cell? ⟨w.heap.size,2,none⟩=some (.slice A2 n2 c2)∧W.cell? ⟨w.heap.size,3,none⟩=some (.slice A3 n3 c3)):=Lib.hid fun W h=>⟨(hfc.below h).cell 0,(hfc.below h).cell 1,(hfc.below h).cell 2,(hfc.below h).cell 3⟩
 have HCK:=Lib.hid (fck_any c A0 A1 A2 A3 n n1 n2 n3 c0 c1 c2 c3 W1 (hT.below hb1) ((hc.below hb1).more (Below.size hb1)))
 rw[hk]at HCK
 have HB1:=Lib.hid hb1
 have HF0:=Lib.hid hf0
 have HF1:=Lib.hid hf1
 have HZ1:=Lib.hid hz1
 have HFO:=Lib.hid hFO
 have HMX:=Lib.hid hm
 obtain⟨i1,hi1,hz0,hz1',hz2⟩:=info_parts info_fault
 have HI1:=Lib.hid (And.intro hi1 (And.intro hz0 (And.intro hz1' hz2)))
 obtain⟨x0,x1,x2,x3⟩:=HCE.out W1 (Below.refl _ _)
 clear hi1 hz0 hz1' hz2 hb1 hfc hf0 hf1 hz1 hT hc hk hFO
 refine (callsIn_wide (n:=9)).1 ?_
 refine callsIn_of_wp_marks Tryd.func12 rfl trivial ?_ rfl
 simp only[Tryd.ntmps12,List.size_toArray,List.length_cons,List.length_nil,Nat.reduceAdd,Nat.reduceSub,Array.replicate_succ,Array.replicate_zero,List.push_toArray,List.append_toArray,List.nil_append,List.cons_append]
 refine wpIn_wide.2 ?_
 go_upto_region 1 with (fail)
 rw[←HW1.out]
 go_upto_region 4 with (go_at_call 15;(with_reducible refine HCK.out.mono ?_);rintro e w2 ⟨rfl,h1⟩;have HB2:Hid (BelW W1 w2):=Lib.hid h1;clear h1 x0 x1 x2 x3)
 obtain⟨r0,HR0⟩:=named (w.heap.size+1)
 obtain⟨r1,HR1⟩:=named (w.heap.size+1+1)
 rw[←HR0.out]at HF0
 rw[show w.heap.size+2=r1 from HR1.out.symm]at HF1
 rw[←HR1.out,←HR0.out]
 obtain⟨W3,HW3⟩:=named (w2.alloc (.cells #[.slice none 0 0] 48))
 have hb3:BelW w2 W3:=by rw[HW3.out];exact below_new (Below.refl _ _) _
 have hfl:Fr W3 w2.heap.size 48 [.slice none 0 0]:=by rw[HW3.out];exact Fr.made _ _ _ rfl
 obtain⟨bs,HBS⟩:=named w2.heap.size
 rw[←HBS.out]at hfl
 have HFL:=Lib.hid hfl
 have HB3:Hid (BelW W1 W3):=Lib.hid (joinB HB2.out hb3)
 have HZ3:Hid (W3.heap.size=bs+1∧w.heap.size+3≤bs):=Lib.hid ⟨by rw[HW3.out,HBS.out];simp,by rw[HBS.out];have:=Below.size HB2.out;have:=HZ1.out;omega⟩
 have hm2:¬(3:Int)<m:=by have:=HMX.out;omega
 have HBS2:=Lib.hid HBS.out
 clear hb3 hfl HBS
 go_upto_region 7 with (fail)
 rw[←HW3.out,←HBS2.out]
 obtain⟨x0,x1,x2,x3⟩:=HCE.out W3 HB3.out
 have HFW:=Lib.hid (HFO.out W3 (joinB HB1.out HB3.out))
 go_wp2_with (go_at_call 25;(with_reducible refine HFW.out.mono ?_);rintro e w4 ⟨gf,lb,rfl,h1,h2,h3⟩;have HB4:Hid (BelW W3 w4):=Lib.hid h1;have HEN:=Lib.hid h2;have HSQ:=Lib.hid h3;clear h1 h2 h3 x0 x1 x2 x3)
 have hsz:bs+1≤w4.heap.size∧w.heap.size+3≤bs:=⟨by have:=Below.size HB4.out;have:=HZ3.out.1;omega,HZ3.out.2⟩
 have HSZ:=Lib.hid hsz
 clear hsz
 refine (wpIn_wide (n:=9)).1 ?_
 refine range_t (F:=Fence.wide) (n:=9) (m:=5) (B0:=w.heap.size) (K:=Kr w.heap.size [33,48]) (encs:=encF) (zs:=zs) (Kr.rel _ _) (by have:=HSZ.out;omega) rfl (by decide) rfl trivial HEN.out (HSQ.out w4 (Below.refl _ _)) (fun _=>rfl)
  (CF w bs (bs+1) r0 r1 zs) (CF.own (by have:=HSZ.out;omega)) ⟨⟨_,HFL.out.below HB4.out,World.ownsRow_nil _ _ _ _⟩,(HF0.out.below HB3.out).below HB4.out,(HF1.out.below HB3.out).below HB4.out,joinB HB1.out (joinB HB3.out HB4.out)⟩
  (fun x a' V=>∃p tm,Fr V p 33 [.int .u8 x.md,.int .i64 x.nd,.int .i64 x.pn,.int .u8 x.vl,.int .i64 x.ot]∧a'= { tmps:=#[.agg #[.slice A0 n c0,.slice A1 n1 c1,.slice A2 n2 c2,.slice A3 n3 c3],.int .u8 m,.pointer (some ⟨w.heap.size,0,none⟩),undef,.pointer (some ⟨r0,0,none⟩),.pointer (some ⟨r1,0,none⟩),.int .i64 0,.pointer (some ⟨bs,0,none⟩),.pointer (some ⟨p,0,none⟩),.agg #[.slice A0 n c0,.slice A1 n1 c1,.slice A2 n2 c2,.slice A3 n3 c3],.int .i64 0,.int .i64 0,.bool false,undef,.int .u8 m,.bool false,.agg #[.slice A0 n c0,.slice A1 n1 c1,.slice A2 n2 c2,.slice A3 n3 c3],.int .u8 m,.func (.func gf) #[] lb,tm,undef,undef,undef,undef,undef,undef,undef,undef,undef],defers:=[] }) ?hAx ?hassign ?hbody ?hdone
 case hAx=>exact fun x a' _ V V' row ⟨p,tm,h2,h3⟩ hg hr=>⟨p,tm,fr_turn h2 hg fun r e=>(hr r e).2,h3⟩
 case hassign=>
  intro l' k x V K' hx hI hK
  have HK:=Lib.hid hK
  clear hK hI hx
  obtain⟨xa,xb,xc,xd,xe⟩:=x
  simp[encF]
  gi_wp2
  refine HK.out _ _ ?_ ⟨V.heap.size,.agg #[.int .u8 xa,.int .i64 xb,.int .i64 xc,.int .u8 xd,.int .i64 xe],?_,rfl⟩
  ·exact below_new (Below.refl _ _) _
  ·exact Fr.made _ _ _ rfl
 case hbody=>
  rintro l' k x a' V hl hx ⟨⟨v,hfs,hrow⟩,hf0,hf1,hbel⟩ ⟨p,tm,hfp,rfl⟩
  have hkl:k<zs.length:=(List.getElem?_eq_some_iff.1 hx).1
  obtain⟨Av,cv,rfl⟩:=own_form hrow
  have hlen:(zs.take k).length=k:=by rw[List.length_take];omega
  have HTK:Hid ((zs.take (k+1)).length=k+1∧ftC (zs.take (k+1))=ftC (zs.take k)++[.int .u8 x.md,.int .i64 x.nd,.int .i64 x.pn,.int .u8 x.vl,.int .i64 x.ot]):=Lib.hid ⟨by rw[List.length_take];omega,by rw[List.take_add_one,hx];simp[ftC]⟩
  rw[hlen]at hfs hrow
  obtain⟨xs,HXS⟩:=named (ftC (zs.take k))
  rw[←HXS.out]at hrow HTK
  obtain⟨xa,xb,xc,xd,xe⟩:=x
  have HFS:=Lib.hid hfs
  have HRW:=Lib.hid hrow
  have HBE:=Lib.hid (And.intro hbel (And.intro hf0 hf1))
  have y0:=hfs.cell 0
  have y1:=hfp.cell 0
  have y2:=hfp.cell 1
  have y3:=hfp.cell 2
  have y4:=hfp.cell 3
  have y5:=hfp.cell 4
  simp only[List.getElem?_cons_zero,List.getElem?_cons_succ]at y0 y1 y2 y3 y4 y5
  have hvs:bs+1≤V.heap.size:=hfs.lt
  have HNE:Hid ((Value.slice Av k cv).ownBlock≠some bs):=Lib.hid fun e=>by
   obtain⟨cs,-,h2⟩:=own_cells HRW.out e
   omega
  have hk6:k<65536:=by omega
  have q1:((k:Int)==65536)=false:=by rw[beq_eq_false_iff_ne];omega
  clear hx hfs hrow hbel hfp hlen HXS hf0 hf1
  gi_wp2_with (gi_at_builtin;refine wpListIn_append_own _ rfl _ _ 48 rfl (bs+1) 33 i1 (.agg #[.int .u8 0,.int .i64 0,.int .i64 0,.int .u8 0,.int .i64 0]) 5 40 Tryd.underlying48 HI1.out.1 HI1.out.2.1 HI1.out.2.2.1 HI1.out.2.2.2 rfl (by decide) _ _ _ rfl (World.ownsRow.alloc HRW.out _) ⟨V.heap.size,0,none⟩ 1 1 [.int .u8 xa,.int .i64 xb,.int .i64 xc,.int .u8 xd,.int .i64 xe] rfl rfl (five_new _ _ _ _ _ _ _) (by simp[Value.oneCell']) (by unfold maxLen;omega) (by omega) (by simp;omega) ?_;intro v' w3 hown' hgrow hnil;obtain⟨Av2,cv2,rfl⟩:=own_form hown';have HOW:=Lib.hid hown';have HGR:=Lib.hid hgrow;have e4:=(Fr.kept (Fr.alloc HFS.out _) hgrow (fun e=>HNE.out e.symm)).cell 0;have e3:=(Fr.kept (Fr.alloc HFS.out _) hgrow (fun e=>HNE.out e.symm)).frozen 0;simp only[List.getElem?_cons_zero]at e4;clear hown' hgrow hnil)
  obtain⟨hsz,hkp⟩:=push_keeps (bs:=bs) (.slice Av2 (k+1) cv2) HGR.out
  have hown:∀q,(Value.slice Av k cv).ownBlock=some q→∃cs,V.heap[q]? =some (.cells cs 33 (0,0))∧bs+1≤q:=fun q hq=>own_cells HRW.out hq
  have hfs:=HFS.out
  have hlo:=HSZ.out.2
  have hr0:r0<bs∧r1<bs:=by have:=HR0.out;have:=HR1.out;omega
  unfold Fr at hfs
  refine⟨⟨hsz,fun b o hb hbo hoc=>(hkp b (lt_of_some hbo) (fun e=>?_) (fun e=>?_)).trans hbo⟩,⟨hsz,fun b hb hv=>hkp b hv (fun e=>?_) (fun e=>?_),fun b cs t hbo ht=>(hkp b (lt_of_some hbo) (fun e=>?_) (fun e=>?_)).trans hbo⟩,?_⟩
  ·obtain⟨cs,h1,-⟩:=hown b e
   rw[hbo]at h1;cases h1;cases hoc
  ·subst e
   rw[hbo]at hfs;cases hfs;cases hoc
  ·obtain⟨cs,-,h2⟩:=hown b e
   omega
  ·omega
  ·obtain⟨cs,h1,-⟩:=hown b e
   rw[hbo]at h1;cases h1;simp at ht
  ·subst e
   rw[hbo]at hfs;cases hfs;simp at ht
  ·have hal:Below V.heap.size V (V.alloc (.cells #[.int .u8 xa,.int .i64 xb,.int .i64 xc,.int .u8 xd,.int .i64 xe] 33)):=below_new (Below.refl _ _) _
   have hfr3:=Fr.kept (Fr.alloc HFS.out (.cells #[.int .u8 xa,.int .i64 xb,.int .i64 xc,.int .u8 xd,.int .i64 xe] 33)) HGR.out (fun e=>HNE.out e.symm)
   have hkeep:∀(r:Nat) (t:TypeId) (u:Value),r<bs→Fr V r t [u]→Fr (w3.setCell ⟨bs,0,none⟩ (.slice Av2 (k+1) cv2)) r t [u]:=fun r t u hr h=>(hkp r h.lt (fun e=>by obtain⟨cs,-,h2⟩:=hown r e;omega) (by omega)).trans h
   refine⟨⟨.slice Av2 (k+1) cv2,?_,?_⟩,hkeep _ _ _ hr0.1 HBE.out.2.1,hkeep _ _ _ hr0.2 HBE.out.2.2,?_⟩
   ·have h1:=hfr3.set 0 (.slice Av2 (k+1) cv2)
    simpa using h1
   ·rw[HTK.out.1,HTK.out.2]
    refine World.ownsRow.kept HOW.out (grownBy_setCell' w3 bs _) (.inr fun e=>?_)
    obtain⟨cs,-,h2⟩:=own_cells HOW.out e
    omega
   ·have hb2:=joinB HBE.out.1 hal
    have hb3:BelW w w3:=hb2.grown HGR.out (Below.size hb2) fun q e=>by
     obtain⟨cs,-,h2⟩:=hown q e
     omega
    exact hb3.setCell (p:=⟨bs,0,none⟩) (by show w.heap.size≤bs;omega) _
 case hdone=>
  rintro D V hD ⟨⟨v,hfs,hrow⟩,hf0,hf1,hbel⟩ hK
  rw[List.take_length]at hrow
  have y0:=hfs.cell 0
  simp only[List.getElem?_cons_zero]at y0
  obtain⟨A,cv,rfl,h4,h5,h6⟩:=ownf_len hrow
  have HCLI:=Lib.hid (clipF_any A zs.length cv V h4 h5 h6)
  have HFS:=Lib.hid hfs
  have HRW:=Lib.hid hrow
  have HBE:=Lib.hid (And.intro hbel (And.intro hf0 hf1))
  have HD:=Lib.hid hD
  have HK2:=Lib.hid hK
  have z0:=hf0.cell 0
  have z1:=hf0.frozen 0
  have z2:=hf1.cell 0
  have z3:=hf1.frozen 0
  have hne:r0≠r1:=by have:=HR0.out;have:=HR1.out;omega
  simp only[List.getElem?_cons_zero]at z0 z2
  clear hfs hrow hbel hK hf0 hf1 h4 h5 h6
  go_upto_region 12 with (fail)
  go_wp2_with (go_at_call 26;(with_reducible refine HCLI.out.mono ?_);rintro e w6 ⟨rfl,rfl⟩)
  have hlo:=HSZ.out
  have hrr:r0<bs∧r1<bs∧w.heap.size≤r0∧w.heap.size≤r1∧bs+1≤D:=by have:=HR0.out;have:=HR1.out;have:=HD.out;omega
  obtain⟨V2,HV2⟩:=named ((V.setCell ⟨r0,0,none⟩ (.slice A zs.length zs.length)).setCell ⟨r1,0,none⟩ (.int .i64 0))
  rw[←HV2.out]
  have hD2:V2.heap[D]? =some (.deferred (some [])):=by rw[HV2.out,heap_set_ne5 _ _ _ (by show D≠r1;omega),heap_set_ne5 _ _ _ (by show D≠r0;omega)];exact HK2.out
  have hg:=grownBy_putObj' V2 D (.deferred none)
  have hnc:∀r,(some D:Option Nat)=some r→∃o:Obj,V2.heap[r]? =some o∧o.isCells=false:=fun r e=>by cases e;exact⟨_,hD2,rfl⟩
  have hq0:Fr V2 r0 48 [.slice A zs.length zs.length]:=by
   have h1:=(HBE.out.2.1.set 0 (.slice A zs.length zs.length)).other (a:=⟨r1,0,none⟩) (by show r1≠r0;omega) (.int .i64 0)
   rw[HV2.out];simpa using h1
  have hq1:Fr V2 r1 41 [.int .i64 0]:=by
   have h1:=(HBE.out.2.2.other (a:=⟨r0,0,none⟩) (by show r0≠r1;omega) (.slice A zs.length zs.length)).set 0 (.int .i64 0)
   rw[HV2.out];simpa using h1
  have hown2:V2.ownsRow (bs+1) 33 5 (.slice A zs.length cv) zs.length (ftC zs):=by
   have hn:∀q,(Value.slice A zs.length cv).ownBlock=some q→bs+1≤q:=fun q hq=>by obtain⟨cs,-,h2⟩:=own_cells HRW.out hq;exact h2
   rw[HV2.out]
   refine World.ownsRow.kept (World.ownsRow.kept HRW.out (grownBy_setCell' V r0 _) (.inr fun e=>?_)) (grownBy_setCell' _ r1 _) (.inr fun e=>?_)
   ·have:=hn _ e;omega
   ·have:=hn _ e;omega
  have hbel2:BelW w V2:=by
   rw[HV2.out]
   exact (HBE.out.1.setCell (p:=⟨r0,0,none⟩) (by show w.heap.size≤r0;omega) _).setCell (p:=⟨r1,0,none⟩) (by show w.heap.size≤r1;omega) _
  have c0:=(fr_turn hq0 hg hnc).cell 0
  have c1:=(fr_turn hq1 hg hnc).cell 0
  simp only[List.getElem?_cons_zero]at c0 c1
  refine⟨by simp,.inl ⟨_,_,rfl,run_takeDeferred hD2,?_⟩⟩
  refine⟨.tuple #[.slice A zs.length zs.length,.int .i64 0],by simp[results,asAddr,go_sem,c0,c1],A,bs+1,rfl,by omega,⟨cv,own_turn hown2 hg hnc⟩,hbel2.grown hg (Below.size hbel2) fun q e=>by cases e;omega⟩
theorem reads_any(kd mm bt:Int)(A:Option Addr)(m c:Nat)(w:World):
 Calls Tryd.prog 61 #[.agg #[.int .u8 kd,.slice A m c,.int .i64 mm,.int .i64 bt]] w fun e w'=>e=.returned (if kd=14 then .slice none 0 0 else .slice A m c)∧BelW w w':=by
 by_cases h:kd=14
 ·have t0:(kd==14)=true:=by simpa using h
  have H:=Lib.hid h
  clear h
  go_enter Tryd.func61,Tryd.ntmps61
  go_wp2
  go_ret
  exact⟨by first|rfl|(rw[if_pos H.out];rfl),below_new (Below.refl _ _) _⟩
 ·have t0:(kd==14)=false:=by simpa using h
  have H:=Lib.hid h
  clear h
  go_enter Tryd.func61,Tryd.ntmps61
  go_wp2
  go_ret
  exact⟨by first|rfl|(rw[if_neg H.out];rfl),below_new (Below.refl _ _) _⟩
theorem highest_any(m:Int)(w:World):Calls Tryd.prog 35 #[.int .u8 m] w fun e w'=>e=.returned (.int .u8 (if m=3 then 0 else 1))∧w=w':=by
 by_cases h:m=3
 ·subst h
  go_enter Tryd.func35,Tryd.ntmps35
  go_wp2
  go_ret
  exact⟨rfl,rfl⟩
 ·have t0:(m==3)=false:=by simpa using h
  have H:=Lib.hid h
  clear h
  go_enter Tryd.func35,Tryd.ntmps35
  go_wp2
  go_ret
  exact⟨by first|rfl|(rw[if_neg H.out];rfl),rfl⟩
theorem isBridge_any(m:Int)(w:World):Calls Tryd.prog 17 #[.int .u8 m] w fun e w'=>e=.returned (.bool (decide (2≤m)))∧w=w':=by
 obtain⟨t,HT⟩:=named (decide (2≤m))
 have t0:decide (2≤m)=t:=HT.out.symm
 rw[←HT.out]
 go_enter Tryd.func17,Tryd.ntmps17
 go_wp2
 go_ret
 exact⟨rfl,rfl⟩
set_option maxHeartbeats 2000000 in
theorem isTri_any(c:Ck)(A0 A1 A2 A3:Option Addr)(n n1 n2 n3 c0 c1 c2 c3 k:Nat)(w:World)(hc:Cir w w.heap.size (.agg #[.slice A0 n c0,.slice A1 n1 c1,.slice A2 n2 c2,.slice A3 n3 c3]) c)(hk:k<n):
 Calls Tryd.prog 36 #[.agg #[.slice A0 n c0,.slice A1 n1 c1,.slice A2 n2 c2,.slice A3 n3 c3],.int .i64 (k:Int)] w fun e w'=>e=.returned (.bool ((c.nodes.getD k default).kind==12))∧BelW w w':=by
 obtain⟨-,-,b,o,hA0,hbB,hcc⟩:=cir_nodes hc
 obtain rfl:=hA0 (by omega)
 have hb:=hbB (by omega)
 obtain⟨A4,c4,g0,-⟩:=hcc k hk
 obtain⟨kd,HK⟩:=named (c.nodes.getD k default).kind
 rw[←HK.out]at g0
 rw[←HK.out]
 have hk2:(k:Int)<(n:Int):=by omega
 have HB:=Lib.hid hb
 have y0:(w.alloc (.cells #[.slice (some ⟨b,o,none⟩) n c0,.slice A1 n1 c1,.slice A2 n2 c2,.slice A3 n3 c3] 39)).cell? ⟨b,o+k*4,none⟩=some (.int .u8 kd):=(Below.cell (below_new (Below.refl w.heap.size w) _) (p:=⟨b,o+k*4,none⟩) hb).trans g0
 clear hc hA0 hbB hcc g0 hb HK
 go_enter Tryd.func36,Tryd.ntmps36
 go_wp2
 go_ret
 exact⟨rfl,below_new (Below.refl _ _) _⟩
set_option maxRecDepth 100000 in
set_option maxHeartbeats 4000000 in
theorem faultsOf_stk(c:Ck)(A0 A1 A2 A3:Option Addr)(n n1 n2 n3 c0 c1 c2 c3 B:Nat)(m:Int)(w:World)(hB:B≤w.heap.size)(hc:Cir w B (.agg #[.slice A0 n c0,.slice A1 n1 c1,.slice A2 n2 c2,.slice A3 n3 c3]) c)(hm:m<2)(hnm:n≤1000000)(hp:∀k,k<n→(c.nodes.getD k default).ins.length≤1000000):
 Calls Tryd.prog 25 #[.agg #[.slice A0 n c0,.slice A1 n1 c1,.slice A2 n2 c2,.slice A3 n3 c3],.int .u8 m] w fun e w'=>∃gf lb,e=.returned (.func (.func gf) #[] lb)∧BelW w w'∧(∀args V,(callFunc gf args).run Tryd.prog V=.ok (.enter gf args) V)∧∀V,BelW w' V→SeqT B (Kr B [33,48]) Fence.wide 8 5 Tryd.prog gf lb encF (stkL c m) V:=by
 obtain⟨W1,HW1⟩:=named ((w.alloc (.cells #[.slice A0 n c0,.slice A1 n1 c1,.slice A2 n2 c2,.slice A3 n3 c3] 39)).alloc (.cells #[.int .u8 m] 28))
 have hb1:BelW w W1:=by rw[HW1.out];exact joinB (below_new (Below.refl _ _) _) (below_new (Below.refl _ _) _)
 have hfc:Fr W1 w.heap.size 39 [.slice A0 n c0,.slice A1 n1 c1,.slice A2 n2 c2,.slice A3 n3 c3]:=by rw[HW1.out];exact (Fr.made _ _ _ rfl).alloc _
 have hfm:Fr W1 (w.heap.size+1) 28 [.int .u8 m]:=by rw[HW1.out];exact Fr.made _ _ _ (by simp)
 have HSQ:Hid (∀V,BelW W1 V→SeqT B (Kr B [33,48]) Fence.wide 8 5 Tryd.prog 44 #[.pointer (some ⟨w.heap.size,0,none⟩),.pointer (some ⟨w.heap.size+1,0,none⟩)] encF (stkL c m) V):=Lib.hid fun V hV l J W' hVW hst hY h0=>by
  have hb:BelW w W':=joinB hb1 (joinB hV hVW)
  have hBW:B≤W'.heap.size:=Nat.le_trans hB (Below.size hb)
  exact stk_in c Fence.wide 8 B w.heap.size (w.heap.size+1) n n1 n2 n3 c0 c1 c2 c3 l m A0 A1 A2 A3 [33,48] trivial trivial trivial rfl (by decide) (by decide) (by decide) (by decide) (by decide) (by decide) hnm hp J W' hst hBW hY (hfc.below (joinB hV hVW)) (hfm.below (joinB hV hVW)) (hc.below (hb.mono hB)) h0
 have HB1:=Lib.hid hb1
 have x0:W1.cell? ⟨w.heap.size+1,0,none⟩=some (.int .u8 m):=hfm.cell 0
 have t0:decide (2≤m)=false:=by simp;omega
 have hm2:¬(2:Int)≤m:=by omega
 clear hb1 hfc hfm hc hm hp
 go_enter Tryd.func25,Tryd.ntmps25
 go_upto_region 1 with (fail)
 rw[←HW1.out]
 go_wp2_with (go_at_call 17;(with_reducible refine (isBridge_any _ _).mono ?_);rintro e w1 ⟨rfl,rfl⟩;rw[t0])
 go_ret
 exact⟨_,_,rfl,HB1.out,fun _ _=>rfl,HSQ.out⟩
def bat(R:List Bool)(j:Nat):Bool:=R.getD j false
inductive Rr (nx:Nat→List Int) (l:List Int):Int→Prop
 |base {x:Int} (h:x∈l):Rr nx l x
 |step {x y:Int} (h:Rr nx l x) (hy:y∈nx x.toNat):Rr nx l y
theorem Rr.trans{nx:Nat→List Int}{l k:List Int}{y:Int}(h:Rr nx k y)(hk:∀x∈k,Rr nx l x):Rr nx l y:=by
 induction h with
 |base h=>exact hk _ h
 |step _ hy ih=>exact .step ih hy
theorem Rr.mono{nx:Nat→List Int}{l k:List Int}{y:Int}(h:Rr nx l y)(hk:∀x∈l,x∈k):Rr nx k y:=h.trans fun x hx=>.base (hk x hx)
def Inr(n:Nat)(l:List Int):Prop:=∀x∈l,0≤x∧x<(n:Int)
theorem Rr.inr{n:Nat}{nx:Nat→List Int}{l:List Int}{y:Int}(h:Rr nx l y)(hl:Inr n l)(hn:∀j,Inr n (nx j)):0≤y∧y<(n:Int):=by
 cases h with
 |base h=>exact hl _ h
 |step _ hy=>exact hn _ _ hy
structure Vis(nx:Nat→List Int)(n:Nat)(R:List Bool)(l:List Int)(R':List Bool):Prop where
 len:R'.length=n
 mono:∀j,bat R j=true→bat R' j=true
 has:∀x∈l,bat R' x.toNat=true
 shut:∀j,bat R' j=true→bat R j=false→∀y∈nx j,bat R' y.toNat=true
 sound:∀j:Nat,bat R' j=true→bat R j=true∨Rr nx l (j:Int)
theorem Vis.nil{nx:Nat→List Int}{n:Nat}{R:List Bool}(h:R.length=n):Vis nx n R [] R:=
 ⟨h,fun _ h=>h,fun x hx=>(by cases hx),fun j h1 h2=>(by rw[h1]at h2;cases h2),fun j h=>.inl h⟩
theorem bat_set{R:List Bool}{i j:Nat}{b:Bool}(hi:i<R.length):bat (R.set i b) j=if j=i then b else bat R j:=by
 unfold bat
 rw[List.getD_eq_getElem?_getD,List.getD_eq_getElem?_getD,List.getElem?_set]
 by_cases h:i=j
 ·subst h;rw[if_pos rfl,if_pos hi,if_pos rfl];rfl
 ·rw[if_neg h,if_neg (fun e=>h e.symm)]
theorem bat_lt{R:List Bool}{j:Nat}(h:bat R j=true):j<R.length:=by
 rcases Nat.lt_or_ge j R.length with h1|h1
 ·exact h1
 ·unfold bat at h;rw[List.getD_eq_getElem?_getD,List.getElem?_eq_none h1]at h;cases h
theorem Vis.skip{nx:Nat→List Int}{n:Nat}{R R1:List Bool}{l:List Int}{x:Int}(h:Vis nx n R l R1)(hx:bat R1 x.toNat=true):Vis nx n R (l++[x]) R1:=
 ⟨h.len,h.mono,fun y hy=>by
  rcases List.mem_append.1 hy with hy|hy
  ·exact h.has y hy
  ·obtain rfl:y=x:=by simpa using hy
   exact hx,h.shut,fun j hj=>(h.sound j hj).imp id fun h=>h.mono fun y hy=>List.mem_append_left _ hy⟩
theorem Vis.go{nx:Nat→List Int}{n:Nat}{R R1 R2:List Bool}{l:List Int}{x:Int}(h:Vis nx n R l R1)(h0:0≤x)(hx1:x<(n:Int))(hx:bat R1 x.toNat=false)(h2:Vis nx n (R1.set x.toNat true) (nx x.toNat) R2):Vis nx n R (l++[x]) R2:=by
 have hlt:x.toNat<R1.length:=by rw[h.len];omega
 have hs:∀j,bat (R1.set x.toNat true) j=if j=x.toNat then true else bat R1 j:=fun j=>bat_set hlt
 have hm1:∀j,bat R1 j=true→bat R2 j=true:=fun j hj=>h2.mono j (by rw[hs];split<;>simp[hj])
 have hxx:bat R2 x.toNat=true:=h2.mono _ (by rw[hs,if_pos rfl])
 have e:((x.toNat:Nat):Int)=x:=Int.toNat_of_nonneg h0
 refine⟨h2.len,fun j hj=>hm1 j (h.mono j hj),fun y hy=>?_,fun j hj hn y hy=>?_,fun j hj=>?_⟩
 ·rcases List.mem_append.1 hy with hy|hy
  ·exact hm1 _ (h.has y hy)
  ·obtain rfl:y=x:=by simpa using hy
   exact hxx
 ·by_cases hj1:bat R1 j=true
  ·exact hm1 _ (h.shut j hj1 hn y hy)
  ·by_cases hjx:j=x.toNat
   ·subst hjx;exact h2.has y hy
   ·exact h2.shut j hj (by rw[hs,if_neg hjx];simpa using hj1) y hy
 ·rcases h2.sound j hj with hj|hj
  ·rw[hs]at hj
   split at hj
   ·rename_i hjx
    exact .inr (.base (by rw[hjx,e];simp))
   ·exact (h.sound j hj).imp id fun h=>h.mono fun y hy=>List.mem_append_left _ hy
  ·exact .inr (hj.trans fun y hy=>.step (.base (by simp)) hy)
theorem bat_rep(n j:Nat):bat (List.replicate n false) j=false:=by
 unfold bat
 rw[List.getD_eq_getElem?_getD,List.getElem?_replicate]
 split<;>rfl
theorem Vis.all{nx:Nat→List Int}{n:Nat}{l:List Int}{R':List Bool}(h:Vis nx n (List.replicate n false) l R')(j:Nat):bat R' j=true↔Rr nx l (j:Int):=by
 constructor
 ·intro hj
  rcases h.sound j hj with h1|h1
  ·rw[bat_rep]at h1;cases h1
  ·exact h1
 ·intro hj
  have key:∀y:Int,Rr nx l y→bat R' y.toNat=true:=fun y hy=>by
   induction hy with
   |base hx=>exact h.has _ hx
   |step _ hy ih=>exact h.shut _ ih (bat_rep _ _) _ hy
  simpa using key _ hj
theorem ext_bat{R R':List Bool}(hl:R.length=R'.length)(h:∀j,j<R.length→(bat R j=true↔bat R' j=true)):R=R':=by
 apply List.ext_getElem hl
 intro i h1 h2
 have:=h i h1
 unfold bat at this
 rw[List.getD_eq_getElem?_getD,List.getD_eq_getElem?_getD,List.getElem?_eq_getElem h1,List.getElem?_eq_getElem h2]at this
 exact Bool.eq_iff_iff.2 this
def cloS(nx:Nat→List Int)(n:Nat)(R:List Bool):List Bool:=(List.range n).map fun(j:Nat)=>bat R j||(List.range n).any fun k=>bat R k&&(nx k).contains (j:Int)
def cloN(nx:Nat→List Int)(n:Nat)(l:List Int):Nat→List Bool
 |0=>(List.range n).map fun(j:Nat)=>l.contains (j:Int)
 |r+1=>cloS nx n (cloN nx n l r)
theorem bat_range{n j:Nat}(f:Nat→Bool)(h:j<n):bat ((List.range n).map f) j=f j:=by
 unfold bat
 rw[List.getD_eq_getElem?_getD,List.getElem?_map,List.getElem?_range h]
 rfl
theorem cloN_len(nx:Nat→List Int)(n:Nat)(l:List Int):∀r,(cloN nx n l r).length=n
 |0=>by simp[cloN]
 |r+1=>by simp[cloN,cloS]
theorem cloN_sound(nx:Nat→List Int)(n:Nat)(l:List Int):∀(r j:Nat),bat (cloN nx n l r) j=true→Rr nx l (j:Int)
 |0,j,h=>by
  have hj:=bat_lt h
  rw[cloN_len]at hj
  unfold cloN at h
  rw[bat_range _ hj,List.contains_iff_mem]at h
  exact .base h
 |r+1,j,h=>by
  have hj:=bat_lt h
  rw[cloN_len]at hj
  unfold cloN cloS at h
  rw[bat_range _ hj,Bool.or_eq_true,List.any_eq_true]at h
  rcases h with h| ⟨k,hk,h⟩
  ·exact cloN_sound nx n l r j h
  ·rw[Bool.and_eq_true,List.contains_iff_mem]at h
   exact .step (x:=(k:Int)) (cloN_sound nx n l r k h.1) (by simpa using h.2)
theorem cloN_all{nx:Nat→List Int}{n:Nat}{l:List Int}{r:Nat}(hl:Inr n l)(hn:∀j,Inr n (nx j))(h:cloS nx n (cloN nx n l r)=cloN nx n l r)(h0:∀x∈l,bat (cloN nx n l r) x.toNat=true)(j:Nat)(hj:j<n):bat (cloN nx n l r) j=true↔Rr nx l (j:Int):=by
 refine⟨cloN_sound nx n l r j,fun hr=>?_⟩
 have key:∀y:Int,Rr nx l y→bat (cloN nx n l r) y.toNat=true:=fun y hy=>by
  induction hy with
  |base hx=>exact h0 _ hx
  | @step x y hx hy ih=>
    have h1:=hx.inr hl hn
    have h2:=hn _ _ hy
    rw[←h]
    unfold cloS
    rw[bat_range _ (by omega),Bool.or_eq_true,List.any_eq_true]
    refine .inr ⟨x.toNat,List.mem_range.2 (by omega),?_⟩
    rw[Bool.and_eq_true,List.contains_iff_mem,Int.toNat_of_nonneg h2.1]
    exact⟨ih,hy⟩
 simpa using key _ hr
theorem Vis.lit{nx:Nat→List Int}{n:Nat}{l:List Int}{R':List Bool}(h:Vis nx n (List.replicate n false) l R')(hl:Inr n l)(hn:∀j,Inr n (nx j)){r:Nat}{S:List Bool}(hS:cloN nx n l r=S)(h1:cloS nx n S=S)(h0:∀x∈l,bat S x.toNat=true):R'=S:=by
 subst hS
 refine ext_bat (h.len.trans (cloN_len _ _ _ _).symm) fun j hj=>?_
 rw[h.len]at hj
 rw[h.all,cloN_all hl hn h1 h0 j hj]
def memB(R:List Bool)(k:Nat):List Int:=((List.range k).filter (bat R)).map fun(j:Nat)=>(j:Int)
theorem mem_memB{R:List Bool}{k:Nat}{x:Int} :x∈memB R k↔∃j:Nat,j<k∧x=(j:Int)∧bat R j=true:=by
 unfold memB
 constructor
 ·intro h
  obtain⟨j,hj,rfl⟩:=List.mem_map.1 h
  obtain⟨h1,h2⟩:=List.mem_filter.1 hj
  exact⟨j,List.mem_range.1 h1,rfl,h2⟩
 ·rintro⟨j,h1,rfl,h2⟩
  exact List.mem_map.2 ⟨j,List.mem_filter.2 ⟨List.mem_range.2 h1,h2⟩,rfl⟩
def rdT(nodes:List Nd)(k j:Nat):List Int:=(List.range k).flatMap fun(i:Nat)=>List.replicate ((dep nodes (i:Int)).count (j:Int)) (i:Int)
def rdL(nodes:List Nd)(j:Nat):List Int:=rdT nodes nodes.length j
theorem mem_rdL{nodes:List Nd}{j:Nat}{y:Int} :y∈rdL nodes j↔0≤y∧y<(nodes.length:Int)∧(j:Int)∈dep nodes y:=by
 unfold rdL rdT
 constructor
 ·intro h
  obtain⟨i,hi,h⟩:=List.mem_flatMap.1 h
  obtain⟨h1,rfl⟩:=List.mem_replicate.1 h
  have:=List.mem_range.1 hi
  exact⟨by omega,by omega,List.count_pos_iff.1 (by omega)⟩
 ·rintro⟨h0,h1,h2⟩
  refine List.mem_flatMap.2 ⟨y.toNat,List.mem_range.2 (by omega),?_⟩
  rw[Int.toNat_of_nonneg h0]
  exact List.mem_replicate.2 ⟨by have:=List.count_pos_iff.2 h2;omega,rfl⟩
theorem rdL_inr(nodes:List Nd)(j:Nat):Inr nodes.length (rdL nodes j):=fun _ h=>⟨(mem_rdL.1 h).1,(mem_rdL.1 h).2.1⟩
def BRow(w:World)(g:Nat)(l:List Bool):Prop:=w.ownsRow g 4 1 (.slice (some ⟨g,0,none⟩) l.length l.length) l.length (l.map Value.bool)
section
variable {w w':World} {g:Nat} {l:List Bool}
theorem BRow.cell(h:BRow w g l){j:Nat}{b:Bool}(hj:l[j]? =some b):w.cell? ⟨g,j,none⟩=some (.bool b):=by
 have hl:j<l.length:=(List.getElem?_eq_some_iff.1 hj).1
 rw[World.ownsRow.cellAt h j (by omega),List.getElem?_map,hj];rfl
theorem BRow.frozen(h:BRow w g l)(j:Nat):w.frozen? ⟨g,j,none⟩=false:=World.ownsRow.frozenAt h j
theorem BRow.set(h:BRow w g l)(j:Nat)(x:Bool):BRow (w.setCell ⟨g,j,none⟩ (.bool x)) g (l.set j x):=by
 have:=(World.ownsRow.stored h j (.bool x)).1
 unfold BRow
 rw[List.length_set,List.map_set]
 exact this
theorem BRow.lt(h:BRow w g l):g<w.heap.size:=(World.ownsRow.lt h g rfl).2
theorem BRow.kept{row:Option Nat}(h:BRow w g l)(hg:w.grownBy w' row)(hne:some g≠row):BRow w' g l:=World.ownsRow.kept h hg (.inr hne)
theorem BRow.below(h:BRow w g l)(hb:Below w.heap.size w w'):BRow w' g l:=
 h.kept (row:=none) ⟨hb.os,hb.tape,hb.output,hb.size,fun i hi _=>hb.block i hi⟩ (by simp)
end
end Go.Proofs.YtcbllelkgniogaaDoor
