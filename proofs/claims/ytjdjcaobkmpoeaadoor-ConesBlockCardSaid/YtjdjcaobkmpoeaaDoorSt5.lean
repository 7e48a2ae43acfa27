import Derived.Test.YtjdjcaobkmpoeaaDoorPb5
import Derived.Test.YtjdjcaobkmpoeaaDoorVr5
import Derived.Test.YtjdjcaobkmpoeaaDoorM10
import Derived.Test.YtjdjcaobkmpoeaaDoorM02
namespace Go.Proofs.YtjdjcaobkmpoeaaDoor
open Go.RowKit
theorem getD_mem5{l:List Int}{j:Nat}(h:j<l.length):l.getD j 0∈l:=by
 rw[List.getD_eq_getElem?_getD,List.getElem?_eq_getElem h];exact List.getElem_mem h
theorem lg_tabs{w:World}(h:Tabs w):Lg.Tabs w:=⟨h.1,h.2,trivial⟩
set_option maxRecDepth 100000 in
set_option maxHeartbeats 8000000 in
theorem settled_any(c:Ck)(L O gv:List Int)(A0 A1 A2 A3 Ag:Option Addr)(n n1 n2 n3 c0 c1 c2 c3 ng cg bo oo cO:Nat)(fz tv:Int)(w:World)(hn1:0<n)(G:G5 c n L)(hO:Ord5 L n O)(hT:Tabs w)(hc:Cir w w.heap.size (.agg #[.slice A0 n c0,.slice A1 n1 c1,.slice A2 n2 c2,.slice A3 n3 c3]) c)(hg:Ks w w.heap.size (.slice Ag ng cg) gv)(hgl:gv.length=ng)(hgb:∀x∈gv,0≤x∧x<256)(hi:Is w w.heap.size (.slice (some ⟨bo,oo,none⟩) n cO) O):
 Calls Tryd.prog 21 #[.agg #[.slice A0 n c0,.slice A1 n1 c1,.slice A2 n2 c2,.slice A3 n3 c3],.slice Ag ng cg,.slice (some ⟨bo,oo,none⟩) n cO,.int .i64 fz,.int .u8 tv] w fun e w'=>∃g out,e=.returned (.slice (some ⟨g,0,none⟩) n n)∧SB c.nodes gv O fz tv n out∧VRow w' g out∧BelW w w':=by
 have hln:=G.len
 have hfew:=G.few
 have HSTART:Hid (SB c.nodes gv O fz tv 0 (List.replicate n 0)):=Lib.hid (SB.start n hln.symm hO)
 have HSTEP:Hid (∀k out (x:Nat),k<n→O.getD k 0=(x:Int)→SB c.nodes gv O fz tv k out→SB c.nodes gv O fz tv (k+1) (out.set x (nvB c.nodes gv fz tv out (x:Int)))):=Lib.hid fun k out x hk hx h=>h.step hln.symm hO G.wf G.lvl hk hx
 have HKEEP:Hid (∀k out (x:Nat),k<n→O.getD k 0=(x:Int)→cmb (c.nodes.getD x default).kind=false→gv.length=0→(x:Int)≠fz→SB c.nodes gv O fz tv k out→SB c.nodes gv O fz tv (k+1) out):=Lib.hid fun k out x hk hx h1 h2 h3 h=>h.keep hln.symm hO G.wf G.lvl hk hx h1 h2 h3
 have HRG:Hid (∀k,k<n→∃x:Nat,x<n∧O.getD k 0=(x:Int)):=Lib.hid hO.rg
 have HSL:Hid (∀k out,SB c.nodes gv O fz tv k out→out.length=n):=Lib.hid fun k out h=>h.len.trans hln
 have HPL:Hid (∀k,k<n→(c.nodes.getD k default).ins.length≤16):=Lib.hid G.pins
 have HPI:Hid (∀k,k<n→∀j,j<(c.nodes.getD k default).ins.length→0≤(c.nodes.getD k default).ins.getD j 0∧(c.nodes.getD k default).ins.getD j 0<(n:Int)):=Lib.hid fun k hk j hj=>by
  have h:=(nodeErr_zero ((shape_zero (chk_shape G.ok)).2.2.2.2.1 _ (getD_mem_nd (by rw[G.len];exact hk)))).2.2.2.1
  unfold areIdx at h
  have hz:anyP (fun x=> !isIdx c.nodes.length x) (c.nodes.getD k default).ins=false:=by
   cases hh:anyP (fun x=> !isIdx c.nodes.length x) (c.nodes.getD k default).ins
   ·rfl
   ·rw[hh]at h;cases h
  have hb:=List.any_eq_false.1 hz ((c.nodes.getD k default).ins.getD j 0) (getD_mem5 hj)
  cases hx:isIdx c.nodes.length ((c.nodes.getD k default).ins.getD j 0)
  ·rw[hx]at hb;exact absurd rfl hb
  ·unfold isIdx at hx
   rw[Bool.and_eq_true,decide_eq_true_iff,decide_eq_true_iff,hln]at hx
   exact hx
 have HLEN:=Lib.hid hgl
 have HGB:Hid (∀k,k<ng→0≤gv.getD k 0∧gv.getD k 0<256):=Lib.hid fun k hk=>by
  refine hgb _ ?_
  exact getD_mem5 (by omega)
 obtain⟨W1,HW1⟩:=named (w.alloc (.cells #[.slice A0 n c0,.slice A1 n1 c1,.slice A2 n2 c2,.slice A3 n3 c3] 27))
 have hb1:BelW w W1:=by rw[HW1.out];exact below_new (Below.refl _ _) _
 have hf:Fr W1 w.heap.size 27 [.slice A0 n c0,.slice A1 n1 c1,.slice A2 n2 c2,.slice A3 n3 c3]:=by rw[HW1.out];exact Fr.made _ _ _ rfl
 obtain⟨q,HQ⟩:=named w.heap.size
 rw[←HQ.out]at hf
 have HQ2:=Lib.hid HQ.out
 have HCE:Hid (∀W,BelW W1 W→W.cell? ⟨q,0,none⟩=some (.slice A0 n c0)):=Lib.hid fun W h=>(hf.below h).cell 0
 have HTB:Hid (∀W,BelW W1 W→Lg.Tabs W):=Lib.hid fun W h=>lg_tabs (hT.below (joinB hb1 h))
 have HND:Hid (∃b o,A0=some ⟨b,o,none⟩∧∀k,k<n→∃A4 c4 b4 o4,0≤(c.nodes.getD k default).kind∧(0<(c.nodes.getD k default).ins.length→A4=some ⟨b4,o4,none⟩)∧∀W,BelW W1 W→W.cell? ⟨b,o+k*4,none⟩=some (.int .u8 (c.nodes.getD k default).kind)∧W.cell? ⟨b,o+k*4+1,none⟩=some (.slice A4 (c.nodes.getD k default).ins.length c4)∧W.cell? ⟨b,o+k*4+2,none⟩=some (.int .i64 (c.nodes.getD k default).mem)∧W.cell? ⟨b,o+k*4+3,none⟩=some (.int .i64 (c.nodes.getD k default).bit)∧∀j,j<(c.nodes.getD k default).ins.length→W.cell? ⟨b4,o4+j,none⟩=some (.int .i64 ((c.nodes.getD k default).ins.getD j 0))):=Lib.hid (by
  obtain⟨v0,v1,v2,v3,ev,hns,-,-,-⟩:=hc
  simp only[Value.agg.injEq,Array.mk.injEq,List.cons.injEq,and_true]at ev
  obtain⟨rfl,-,-,-⟩:=ev
  obtain⟨A,b,o,cc,e,hA,-,hm,hcell⟩:=id hns
  simp only[Value.slice.injEq]at e
  obtain⟨rfl,-,rfl⟩:=e
  refine⟨b,o,hA (by omega),fun k hk=>?_⟩
  obtain⟨hb,s,h0,h1,h2,h3,h4,h5,-⟩:=hcell k (by omega)
  obtain⟨A5,b5,o5,c5,rfl,hA5,-,hml,hcp⟩:=h4.opens
  exact⟨A5,c5,b5,o5,h5,hA5,fun W h=>⟨(Below.cell (joinB hb1 h) (p:=⟨b,o+k*4,none⟩) hb).trans h0,(Below.cell (joinB hb1 h) (p:=⟨b,o+k*4+1,none⟩) hb).trans h1,(Below.cell (joinB hb1 h) (p:=⟨b,o+k*4+2,none⟩) hb).trans h2,(Below.cell (joinB hb1 h) (p:=⟨b,o+k*4+3,none⟩) hb).trans h3,fun j hj=>(Below.cell (joinB hb1 h) (p:=⟨b5,o5+j,none⟩) (hcp j hj).1).trans (hcp j hj).2⟩⟩)
 obtain⟨b0,o0,hA0,hnd⟩:=HND.out
 subst hA0
 have HNC:=Lib.hid hnd
 have HCO:Hid (∀W,BelW W1 W→∀k,k<n→W.cell? ⟨bo,oo+k,none⟩=some (.int .i64 (O.getD k 0))):=Lib.hid fun W h k hk=>by
  obtain⟨A,b,o,cc,e,hA,-,-,hcc⟩:=hi.opens
  rw[hO.len]at e hA hcc
  simp only[Value.slice.injEq]at e
  obtain⟨rfl,-,rfl⟩:=e
  obtain hAA:=hA hn1
  simp only[Option.some.injEq,Addr.mk.injEq,and_true]at hAA
  obtain⟨rfl,rfl⟩:=hAA
  exact (Below.cell (joinB hb1 h) (p:=⟨bo,oo+k,none⟩) (hcc k hk).1).trans (hcc k hk).2
 have HGV:Hid (0<ng→∃bg og,Ag=some ⟨bg,og,none⟩∧∀W,BelW W1 W→∀k,k<ng→W.cell? ⟨bg,og+k,none⟩=some (.int .u8 (gv.getD k 0))):=Lib.hid fun h0=>by
  obtain⟨A,b,o,cc,e,hA,-,-,hcc⟩:=hg.opens
  rw[hgl]at e hA hcc
  simp only[Value.slice.injEq]at e
  obtain⟨rfl,-,rfl⟩:=e
  exact⟨b,o,hA h0,fun W h k hk=>(Below.cell (joinB hb1 h) (p:=⟨b,o+k,none⟩) (hcc k hk).1).trans (hcc k hk).2⟩
 have hngm:ng≤9223372036854775807:=by
  obtain⟨A,b,o,cc,e,hA,-,hmx,-⟩:=hg.opens
  rw[hgl]at hmx
  unfold maxLen at hmx
  omega
 have HB1:=Lib.hid hb1
 have HQZ:Hid (w.heap.size<W1.heap.size):=Lib.hid (by rw[HW1.out];simp)
 obtain⟨i1,hi1,hz0,hz1,hz2⟩:=info_parts info_val
 have HI:=Lib.hid (And.intro hi1 (And.intro hz0 (And.intro hz1 hz2)))
 have x0:=HCE.out W1 (Below.refl _ _)
 clear hi1 hz0 hz1 hz2 hnd HND hb1 hf hT hc hg hgl hgb hi hO G hln
 go_enter Tryd.func21,Tryd.ntmps21
 go_upto_region 1 with (fail)
 rw[←HW1.out,←HQ2.out]
 go_upto_region 2 with (at_make;refine wpList_make_full _ rfl _ _ 51 rfl W1.heap.size 53 i1 (.int .u8 0) 1 Tryd.underlying51 HI.out.1 HI.out.2.1 HI.out.2.2.1 .i64 .i64 _ _ n rfl rfl rfl rfl ?b2 ?b3 ?b4 ?_)
 case b2=>rw[HI.out.2.2.2];omega
 case b3=>unfold maxLen;omega
 case b4=>exact Nat.le_refl _
 intro w2 hown hgr
 rw[made_vals]at hown
 have hR2:VRow w2 W1.heap.size (List.replicate n 0):=VRow.of hown (by simp)
 have hb2:BelW W1 w2:=(Below.refl _ _).grown hgr (Nat.le_refl _) (fun k h=>by cases h)
 obtain⟨gw,HGW⟩:=named W1.heap.size
 rw[←HGW.out]at hR2
 rw[←HGW.out]
 have HGW2:=Lib.hid HGW.out
 have HR2:=Lib.hid hR2
 have HB2:Hid (BelW W1 w2):=Lib.hid hb2
 clear hown hgr hR2 hb2 x0 HGW
 go_wp2
 go_loopw [12] (fun iv wr=>∃(k:Nat) (out:List Int),k≤n∧iv=.int .i64 k∧Hid (SB c.nodes gv O fz tv k out)∧Hid (VRow wr gw out)∧Hid (BelW W1 wr)) (fun iv _=>n-(intOf iv).toNat)
 case atStart=>exact⟨0,_,Nat.zero_le _,rfl,HSTART,HR2,HB2⟩
 case round=>
  clear HR2 HB2 HSTART
  obtain⟨k,out,hk,rfl,HS,HR,HB⟩:=hrel
  by_cases hlt:k<n
  ·have hk2:(k:Int)<(n:Int):=by omega
   obtain⟨x,hx,ex⟩:=HRG.out k hlt
   obtain⟨A4,c4,b4,o4,hkd,hA4,hcl⟩:=HNC.out x hx
   have HCL:=Lib.hid hcl
   clear hcl
   have hol:=HSL.out k out HS.out
   have HSX:Hid (SB c.nodes gv O fz tv (k+1) (out.set x (nvB c.nodes gv fz tv out (x:Int)))):=Lib.hid (HSTEP.out k out x hlt ex HS.out)
   have HSK:Hid (cmb (c.nodes.getD x default).kind=false→ng=0→(x:Int)≠fz→SB c.nodes gv O fz tv (k+1) out):=Lib.hid fun h1 h2 h3=>HKEEP.out k out x hlt ex h1 (HLEN.out.trans h2) h3 HS.out
   have HNV:Hid (nvB c.nodes gv fz tv out (x:Int)=if (x:Int)=fz then tv else if cmb (c.nodes.getD x default).kind=true then evalL (c.nodes.getD x default).kind ((c.nodes.getD x default).ins.map (lat out)) else srcB gv (x:Int)):=Lib.hid (by unfold nvB fvB;rw[Int.toNat_natCast])
   have y0:=HCO.out wr HB.out k hlt
   rw[ex]at y0
   have z0:=HCE.out wr HB.out
   obtain⟨m0,m1,m2,m3,-⟩:=HCL.out wr HB.out
   have hpl:=HPL.out x hx
   have HPX:Hid (∀j,j<(c.nodes.getD x default).ins.length→0≤(c.nodes.getD x default).ins.getD j 0∧(c.nodes.getD x default).ins.getD j 0<(n:Int)):=Lib.hid (HPI.out x hx)
   have HA4:=Lib.hid hA4
   clear hA4 ex
   obtain⟨ins,HINS⟩:=named (c.nodes.getD x default).ins
   rw[←HINS.out]at HA4 HCL HNV HPX m1 hpl
   obtain⟨ni,HNI⟩:=named ins.length
   rw[←HNI.out]at HA4 HCL HPX m1 hpl
   obtain⟨mm,HMMM⟩:=named (c.nodes.getD x default).mem
   obtain⟨bt,HBT⟩:=named (c.nodes.getD x default).bit
   obtain⟨kd,HKD⟩:=named (c.nodes.getD x default).kind
   rw[←HMMM.out]at m2
   rw[←HBT.out]at m3
   rw[←HKD.out]at HSK HNV m0 hkd
   have HC5:Hid (∀W,BelW W1 W→∀j,j<ni→W.cell? ⟨b4,o4+j,none⟩=some (.int .i64 (ins.getD j 0))):=Lib.hid fun W h j hj=>(HCL.out W h).2.2.2.2 j hj
   clear HMMM HBT HKD HCL
   obtain⟨W2,HW2⟩:=named (wr.alloc (.cells #[.int .u8 kd,.slice A4 ni c4,.int .i64 mm,.int .i64 bt] 57))
   have hnew:Below wr.heap.size wr W2:=by rw[HW2.out];exact below_new (Below.refl _ _) _
   have hfv:Fr W2 wr.heap.size 57 [.int .u8 kd,.slice A4 ni c4,.int .i64 mm,.int .i64 bt]:=by rw[HW2.out];exact Fr.made _ _ _ rfl
   obtain⟨v,HV⟩:=named wr.heap.size
   rw[←HV.out]at hfv
   have HV2:=Lib.hid HV.out
   have HB2:Hid (BelW W1 W2):=Lib.hid (joinB HB.out hnew)
   have HR2:Hid (VRow W2 gw out):=Lib.hid (HR.out.below hnew)
   have HFV:Hid (∀W,BelW W2 W→W.cell? ⟨v,0,none⟩=some (.int .u8 kd)∧W.cell? ⟨v,1,none⟩=some (.slice A4 ni c4)):=Lib.hid fun W h=>⟨(hfv.below h).cell 0,(hfv.below h).cell 1⟩
   clear hnew hfv
   go_upto_region 7 with (fail)
   rw[←HW2.out,←HV2.out]
   clear y0 z0 m0 m1 m2 m3
   have y1:=(HFV.out W2 (Below.refl _ _)).2
   go_wp2
   clear y1 HR HB HS HV HV2 HW2
   go_loopw [15,16] (fun lv mi wi=>∃m:Nat,m≤ni∧mi=.int .i64 m∧BelW W2 wi∧VStk wi W2.heap.size lv ((ins.take m).map (lat out))) (fun _ mi _=>ni-(intOf mi).toNat)
   case atStart=>exact⟨0,Nat.zero_le _,rfl,Below.refl _ _,VStk.nil _ _⟩
   case round=>
    obtain⟨m,hm,rfl,hbi,hst⟩:=hrel
    have hbw:BelW W1 wr:=joinB HB2.out hbi
    obtain⟨A6,c6,rfl,hle6,hc6,-⟩:=hst.form
    have hll:((ins.take m).map (lat out)).length=m:=by rw[List.length_map,List.length_take,←HNI.out];omega
    rw[hll]at hle6
    have HST:=Lib.hid hst
    have HBI:=Lib.hid hbi
    have y1:=(HFV.out wr hbi).2
    have HRW:Hid (VRow wr gw out):=Lib.hid (HR2.out.below hbi)
    by_cases hltm:m<ni
    ·obtain rfl:=HA4.out (by omega)
     have f5:=HC5.out wr hbw m hltm
     obtain⟨p0,p1⟩:=HPX.out m hltm
     have HTK:Hid ((ins.take (m+1)).map (lat out)=(ins.take m).map (lat out)++[lat out (ins.getD m 0)]):=Lib.hid (by rw[take_succ_getD _ _ (by rw[←HNI.out];exact hltm),List.map_append];rfl)
     obtain⟨xp,HX⟩:=named (ins.getD m 0)
     rw[←HX.out]at f5 p0 p1 HTK
     obtain⟨xn,hxn⟩:=Int.eq_ofNat_of_zero_le p0
     subst hxn
     have hxn:xn<n:=by omega
     have f6:=HRW.out.cell (j:=xn) (by omega)
     obtain⟨y,HY⟩:=named (lat out (xn:Int))
     rw[←HY.out]at f6 HTK
     obtain⟨st,HL⟩:=named ((ins.take m).map (lat out))
     rw[←HL.out]at HST hll HTK
     rw[←HL.out,hll]
     have HST2:Hid (VStk wr W2.heap.size (.slice A6 m c6) st):=Lib.hid (by have:=HST.out;rw[hll]at this;exact this)
     have HOL:=Lib.hid hll
     have HSTR:Hid (wr.ownsRow W2.heap.size 53 1 (.slice A6 m c6) m (st.map (Value.int .u8))):=Lib.hid (by have:=HST2.out;unfold VStk at this;rw[HOL.out]at this;exact this)
     have hwz:W2.heap.size≤wr.heap.size:=Below.size hbi
     clear hst hbi hll hbw
     go_wp2_with (at_builtin;refine wpList_append_own_at _ rfl _ _ 51 rfl W2.heap.size 53 i1 (.int .u8 0) 1 1 Tryd.underlying51 HI.out.1 HI.out.2.1 HI.out.2.2.1 HI.out.2.2.2 rfl (by decide) _ _ _ rfl (World.ownsRow.alloc HSTR.out _) ⟨wr.heap.size,0,none⟩ 1 1 [.int .u8 y] rfl rfl (by have:=one_new wr (.int .u8 y) 53;simpa using this) (ints_oneCell .u8 [y]) (by unfold maxLen;omega) (by omega) (by first|omega|(simp;omega)) ?_;intro v' w5 hown' hgrow hnil hloc;have HF5:=Lib.hid (vpush (x:=y) (by first|omega|(simp;omega)) HBI.out HST2.out (by rw[HOL.out];exact hown') hgrow);clear hown' hgrow hnil hloc)
     go_roundw
     case rel=>exact⟨m+1,by omega,by go_num,HF5.out.1,by rw[HTK.out];exact HF5.out.2⟩
     case measure=>simp[intOf];omega
    ·obtain rfl:ni=m:=by omega
     have hta:(ins.take ni).map (lat out)=ins.map (lat out):=by rw[List.take_of_length_le (by rw[←HNI.out];exact Nat.le_refl _)]
     rw[hta]at HST hll
     rw[hta,hll]
     obtain⟨st,HL⟩:=named (ins.map (lat out))
     rw[←HL.out]at HST hll HNV
     have hst2:VStk wr W2.heap.size (.slice A6 ni c6) st:=by have:=HST.out;rw[hll]at this;exact this
     have HEV:=Lib.hid (Lg.eval_any kd hkd (Nat.le_refl _) hst2.ks.vs (HTB.out wr hbw))
     obtain⟨ev,HEVV⟩:=named (evalL kd st)
     rw[←HEVV.out]at HEV HNV
     have HBW:=Lib.hid hbw
     have y0:=(HFV.out wr hbi).1
     clear hst hst2 hbw hbi
     obtain⟨cb,HCB⟩:=named (cmb kd)
     have HCM:Hid (Calls Tryd.prog 44 #[.int .u8 kd] wr fun e w'=>e=.returned (.bool cb)∧wr=w'):=Lib.hid ((comb_any kd wr).mono fun e w' ⟨h1,h2⟩=>⟨by rw[h1,HCB.out],h2⟩)
     rw[←HCB.out]at HNV HSK
     clear HCB
     cases cb
     ·by_cases hng:0<ng
      ·obtain⟨bg,og,rfl,hgc⟩:=HGV.out hng
       have hrn:x%ng<ng:=Nat.mod_lt _ hng
       have e7:=hgc wr HBW.out _ hrn
       have hgx:=HGB.out _ hrn
       have HSRC:Hid (srcB gv (x:Int)=gv.getD (x%ng) 0%4):=Lib.hid (by unfold srcB;rw[HLEN.out,if_neg (by omega),Int.toNat_natCast])
       obtain⟨gx,HGX⟩:=named (gv.getD (x%ng) 0)
       rw[←HGX.out]at e7 hgx HSRC
       rw[HSRC.out]at HNV
       have hm4:0≤gx%4∧gx%4<4:=by omega
       have e4:=HRW.out.cell (j:=x) (by omega)
       have e3:=HRW.out.frozen x
       clear hgc HGX
       go_upto_region 15 with (go_at_call 44;(with_reducible refine HCM.out.mono ?_);rintro e w9 ⟨rfl,rfl⟩)
       go_upto_region 16 with (fail)
       obtain⟨V,HVV⟩:=named (wr.setCell ⟨gw,x,none⟩ (.int .u8 (gx%4)))
       rw[←HVV.out]
       have HRV:Hid (VRow V gw (out.set x (gx%4))):=Lib.hid (by rw[HVV.out];exact HRW.out.set x (gx%4))
       have HBV:Hid (BelW W1 V):=Lib.hid (by rw[HVV.out];exact HBW.out.setCell (p:=⟨gw,x,none⟩) (by rw[HGW2.out];exact Nat.le_refl _) _)
       clear HVV e3 e4
       by_cases hxf:(x:Int)=fz
       ·have tf:((x:Int)==fz)=true:=by simpa using hxf
        have e5:=HRV.out.cell (j:=x) (by first|omega|(simp;omega))
        have e6:=HRV.out.frozen x
        have HSN:Hid (SB c.nodes gv O fz tv (k+1) (out.set x tv)):=Lib.hid (by have h1:=HSX.out;rw[HNV.out,if_pos hxf]at h1;exact h1)
        have HRN:Hid (VRow (V.setCell ⟨gw,x,none⟩ (.int .u8 tv)) gw (out.set x tv)):=Lib.hid (by have h1:=HRV.out.set x tv;(try rw[List.set_set]at h1);exact h1)
        have HBN:Hid (BelW W1 (V.setCell ⟨gw,x,none⟩ (.int .u8 tv))):=Lib.hid (HBV.out.setCell (p:=⟨gw,x,none⟩) (by rw[HGW2.out];exact Nat.le_refl _) _)
        clear hxf
        go_wp2
        clear e5 e6
        go_roundw
        case rel=>exact⟨k+1,_,by omega,by go_num,HSN,HRN,HBN⟩
        case measure=>simp[intOf];omega
       ·have tf:((x:Int)==fz)=false:=by simpa using hxf
        have HSN:Hid (SB c.nodes gv O fz tv (k+1) (out.set x (gx%4))):=Lib.hid (by have h1:=HSX.out;rw[HNV.out,if_neg hxf]at h1;simpa using h1)
        clear hxf
        go_wp2
        go_roundw
        case rel=>exact⟨k+1,_,by omega,by go_num,HSN,HRV,HBV⟩
        case measure=>simp[intOf];omega
      ·obtain rfl:ng=0:=by omega
       have HSN:Hid ((x:Int)≠fz→SB c.nodes gv O fz tv (k+1) out):=Lib.hid (HSK.out rfl rfl)
       go_upto_region 16 with (go_at_call 44;(with_reducible refine HCM.out.mono ?_);rintro e w9 ⟨rfl,rfl⟩)
       obtain⟨V,HVV⟩:=named wr
       rw[←HVV.out]
       have HRV:Hid (VRow V gw out):=Lib.hid (by rw[HVV.out];exact HRW.out)
       have HBV:Hid (BelW W1 V):=Lib.hid (by rw[HVV.out];exact HBW.out)
       clear HVV
       by_cases hxf:(x:Int)=fz
       ·have tf:((x:Int)==fz)=true:=by simpa using hxf
        have e5:=HRV.out.cell (j:=x) (by first|omega|(simp;omega))
        have e6:=HRV.out.frozen x
        have HSN:Hid (SB c.nodes gv O fz tv (k+1) (out.set x tv)):=Lib.hid (by have h1:=HSX.out;rw[HNV.out,if_pos hxf]at h1;exact h1)
        have HRN:Hid (VRow (V.setCell ⟨gw,x,none⟩ (.int .u8 tv)) gw (out.set x tv)):=Lib.hid (by have h1:=HRV.out.set x tv;(try rw[List.set_set]at h1);exact h1)
        have HBN:Hid (BelW W1 (V.setCell ⟨gw,x,none⟩ (.int .u8 tv))):=Lib.hid (HBV.out.setCell (p:=⟨gw,x,none⟩) (by rw[HGW2.out];exact Nat.le_refl _) _)
        clear hxf
        go_wp2
        clear e5 e6
        go_roundw
        case rel=>exact⟨k+1,_,by omega,by go_num,HSN,HRN,HBN⟩
        case measure=>simp[intOf];omega
       ·have tf:((x:Int)==fz)=false:=by simpa using hxf
        have HSN:=Lib.hid (HSN.out hxf)
        clear hxf
        go_wp2
        go_roundw
        case rel=>exact⟨k+1,_,by omega,by go_num,HSN,HRV,HBV⟩
        case measure=>simp[intOf];omega
     ·go_upto_region 13 with (go_at_call 44;(with_reducible refine HCM.out.mono ?_);rintro e w9 ⟨rfl,rfl⟩)
      go_upto_region 16 with (go_at_call 45;(with_reducible refine HEV.out.mono ?_);rintro e w6 ⟨rfl,hb6⟩;have HB6:=Lib.hid (joinB HBW.out hb6);have HR6:Hid (VRow w6 gw out):=Lib.hid (HRW.out.below hb6);have e4:=HR6.out.cell (j:=x) (by omega);have e3:=HR6.out.frozen x;clear hb6 y0 y1)
      obtain⟨V,HVV⟩:=named (w6.setCell ⟨gw,x,none⟩ (.int .u8 ev))
      rw[←HVV.out]
      have HRV:Hid (VRow V gw (out.set x ev)):=Lib.hid (by rw[HVV.out];exact HR6.out.set x ev)
      have HBV:Hid (BelW W1 V):=Lib.hid (by rw[HVV.out];exact HB6.out.setCell (p:=⟨gw,x,none⟩) (by rw[HGW2.out];exact Nat.le_refl _) _)
      clear HVV e3 e4
      by_cases hxf:(x:Int)=fz
      ·have tf:((x:Int)==fz)=true:=by simpa using hxf
       have e5:=HRV.out.cell (j:=x) (by first|omega|(simp;omega))
       have e6:=HRV.out.frozen x
       have HSN:Hid (SB c.nodes gv O fz tv (k+1) (out.set x tv)):=Lib.hid (by have h1:=HSX.out;rw[HNV.out,if_pos hxf]at h1;exact h1)
       have HRN:Hid (VRow (V.setCell ⟨gw,x,none⟩ (.int .u8 tv)) gw (out.set x tv)):=Lib.hid (by have h1:=HRV.out.set x tv;(try rw[List.set_set]at h1);exact h1)
       have HBN:Hid (BelW W1 (V.setCell ⟨gw,x,none⟩ (.int .u8 tv))):=Lib.hid (HBV.out.setCell (p:=⟨gw,x,none⟩) (by rw[HGW2.out];exact Nat.le_refl _) _)
       clear hxf
       go_wp2
       clear e5 e6
       go_roundw
       case rel=>exact⟨k+1,_,by omega,by go_num,HSN,HRN,HBN⟩
       case measure=>simp[intOf];omega
      ·have tf:((x:Int)==fz)=false:=by simpa using hxf
       have HSN:Hid (SB c.nodes gv O fz tv (k+1) (out.set x ev)):=Lib.hid (by have h1:=HSX.out;rw[HNV.out,if_neg hxf]at h1;simpa using h1)
       clear hxf
       go_wp2
       go_roundw
       case rel=>exact⟨k+1,_,by omega,by go_num,HSN,HRV,HBV⟩
       case measure=>simp[intOf];omega
  ·obtain rfl:n=k:=by omega
   go_wp2
   go_ret
   exact⟨gw,out,rfl,HS.out,HR.out,joinB HB1.out HB.out⟩
end Go.Proofs.YtjdjcaobkmpoeaaDoor
