/- The texts Kop. -/
import Derived.Test.YtjdjcaobkmpoeaaDoorM15
namespace Go.Proofs.YtjdjcaobkmpoeaaDoor
open Go.RowKit
def stI(nodes:List Nd)(S:List Int)(k:Nat):List Int:=(S.take k).flatMap fun x=>(nodes.getD x.toNat default).ins
theorem stI_succ(nodes:List Nd)(S:List Int)(k:Nat)(hk:k<S.length):stI nodes S (k+1)=stI nodes S k++(nodes.getD (S.getD k 0).toNat default).ins:=by
 unfold stI
 rw[List.take_succ_eq_append_getElem hk,List.flatMap_append,List.flatMap_cons,List.flatMap_nil,List.append_nil,List.getD_eq_getElem?_getD (l:=S),List.getElem?_eq_getElem hk];rfl
theorem isK_14(x:Int):isK [14] x=true↔x=14:=by
 unfold isK anyP
 simp
theorem st_dff(nodes:List Nd):∀k,(ofTo nodes [14] k).flatMap (fun x=>(nodes.getD x.toNat default).ins)=dffL nodes k
 |0=>rfl
 |k+1=>by
  have ih:=st_dff nodes k
  rw[ofTo_succ,List.flatMap_append,ih]
  unfold dffL
  rw[List.range_succ,List.flatMap_append]
  congr 1
  by_cases h:(nodes.getD k default).kind=14
  ·rw[if_pos ((isK_14 _).2 h)]
   simp only[List.flatMap_cons,List.flatMap_nil,List.append_nil,Int.toNat_natCast,h,if_true]
  ·rw[if_neg fun e=>h ((isK_14 _).1 e)]
   simp only[List.flatMap_cons,List.flatMap_nil,List.append_nil,h,if_false]
theorem mmsL_succ(ms:List Mm)(k:Nat):mmsL ms (k+1)=mmsL ms k++mmL (ms.getD k default):=by
 unfold mmsL;rw[List.range_succ,List.flatMap_append,List.flatMap_cons,List.flatMap_nil,List.append_nil]
set_option maxRecDepth 100000 in
set_option maxHeartbeats 8000000 in
theorem observed_any(c:Ck)(v:Value)(w:World)(hc:Cir w w.heap.size v c)(hsz:c.nodes.length≤1000000):
 Calls Tryd.prog 35 #[v] w fun e w'=>∃g,e=.returned (.slice (some ⟨g,0,none⟩) c.nodes.length c.nodes.length)∧BRow w' g (ptB c)∧BelW w w':=by
 have hcc:=hc
 obtain⟨v0,v1,v2,v3,rfl,hns,hss,hms,hos⟩:=hc
 obtain⟨A0,b,o,c0,rfl,hA,-,-,hcell⟩:=id hns
 obtain⟨A1,b1,o1,c1,rfl,-⟩:=id hss
 obtain⟨A2,b2,o2,c2,rfl,hA2,-,hm2,hcell2⟩:=id hms
 obtain⟨A3,b3,o3,c3,rfl,-⟩:=id hos
 unfold maxLen at hm2
 have hnd:∀k,k<c.nodes.length→∃A cc,A0=some ⟨b,o,none⟩∧b<w.heap.size∧w.cell? ⟨b,o+k*4+1,none⟩=some (.slice A (c.nodes.getD k default).ins.length cc)∧Is w w.heap.size (.slice A (c.nodes.getD k default).ins.length cc) (c.nodes.getD k default).ins:=fun k hk=>by
  obtain⟨hb,s,h0,h1,h2,h3,h4,-⟩:=hcell k hk
  obtain⟨A4,b4,o4,c4,rfl,-⟩:=id h4
  exact⟨A4,c4,hA (by omega),hb,h1,h4⟩
 have hmm:∀k,k<c.mems.length→∃A cc B cd,A2=some ⟨b2,o2,none⟩∧b2<w.heap.size∧w.cell? ⟨b2,o2+k*3,none⟩=some (.slice A (c.mems.getD k default).addr.length cc)∧w.cell? ⟨b2,o2+k*3+1,none⟩=some (.slice B (c.mems.getD k default).data.length cd)∧w.cell? ⟨b2,o2+k*3+2,none⟩=some (.int .i64 (c.mems.getD k default).write)∧Is w w.heap.size (.slice A (c.mems.getD k default).addr.length cc) (c.mems.getD k default).addr∧Is w w.heap.size (.slice B (c.mems.getD k default).data.length cd) (c.mems.getD k default).data:=fun k hk=>by
  obtain⟨hb,s,t,h0,h1,h2,h4,h5⟩:=hcell2 k hk
  obtain⟨A4,b4,o4,c4,rfl,-⟩:=id h4
  obtain⟨A5,b5,o5,c5,rfl,-⟩:=id h5
  exact⟨A4,c4,A5,c5,hA2 (by omega),hb,h0,h1,h2,h4,h5⟩
 clear hns hss hms hcell hA hA2 hcell2
 obtain⟨n,HN⟩:=named c.nodes.length
 rw[←HN.out]at hsz hnd hcc
 rw[←HN.out]
 obtain⟨n2,HM2⟩:=named c.mems.length
 rw[←HM2.out]at hm2 hmm hcc
 rw[←HM2.out]
 generalize c.names.length=n1 at hcc ⊢
 obtain⟨n3,HN3⟩:=named c.outs.length
 rw[←HN3.out]at hos hcc
 rw[←HN3.out]
 obtain⟨W1,HW1⟩:=named (w.alloc (.cells #[.slice A0 n c0,.slice A1 n1 c1,.slice A2 n2 c2,.slice A3 n3 c3] 27))
 have hb1:BelW w W1:=by rw[HW1.out];exact below_new (Below.refl _ _) _
 have hf:Fr W1 w.heap.size 27 [.slice A0 n c0,.slice A1 n1 c1,.slice A2 n2 c2,.slice A3 n3 c3]:=by rw[HW1.out];exact Fr.made _ _ _ rfl
 obtain⟨q1,HQ⟩:=named w.heap.size
 have hqg:q1<W1.heap.size:=by rw[HQ.out,HW1.out];simp
 have hfq:Fr W1 q1 27 [.slice A0 n c0,.slice A1 n1 c1,.slice A2 n2 c2,.slice A3 n3 c3]:=by rw[HQ.out];exact hf
 obtain⟨g,HG⟩:=named W1.heap.size
 rw[←HG.out]at hqg
 have HF:=Lib.hid hfq
 have HB1:=Lib.hid hb1
 have HQ2:=Lib.hid HQ.out
 have HG2:=Lib.hid HG.out
 have HQG:=Lib.hid hqg
 have HOS:=Lib.hid hos
 have HND:=Lib.hid hnd
 have HMM:=Lib.hid hmm
 have HCC:=Lib.hid hcc
 obtain⟨x0,x1,x2,x3⟩:_∧_∧_∧_:=⟨hfq.cell 0,hfq.cell 1,hfq.cell 2,hfq.cell 3⟩
 obtain⟨i0,hi,hz0,hz1',hz2⟩:=info_parts info_bool
 have HI:=Lib.hid (And.intro hi (And.intro hz0 (And.intro hz1' hz2)))
 clear hi hz0 hz1' hz2 hb1 hf hfq hqg hos hnd hmm hcc
 go_enter Tryd.func35,Tryd.ntmps35
 go_upto_region 1 with (fail)
 rw[←HW1.out,←HQ2.out]
 go_upto_region 2 with (at_make;refine wpList_make_full _ rfl _ _ 41 rfl W1.heap.size 4 i0 (.bool false) 1 Tryd.underlying41 HI.out.1 HI.out.2.1 HI.out.2.2.1 .i64 .i64 _ _ n rfl rfl rfl rfl ?b2 ?b3 ?b4 ?_)
 case b2=>rw[HI.out.2.2.2];omega
 case b3=>unfold maxLen;omega
 case b4=>exact Nat.le_refl _
 intro w2 hown hgr
 rw[made_false]at hown
 rw[←HG2.out]at hown
 have hR:BRow w2 g (List.replicate n false):=by unfold BRow;rw[List.length_replicate];exact hown
 have hb2:BelW W1 w2:=(Below.refl _ _).grown hgr (Nat.le_refl _) (fun k h=>by cases h)
 have hgl:g<w2.heap.size:=hR.lt
 rw[←HG2.out]
 clear hown hgr
 obtain⟨q3,HQ3⟩:=named w2.heap.size
 obtain⟨W3,HW3⟩:=named (w2.alloc (.cells #[.slice (some ⟨g,0,none⟩) n n] 41))
 have hb3:BelW w2 W3:=by rw[HW3.out];exact below_new (Below.refl _ _) _
 have hf3:Fr W3 q3 41 [.slice (some ⟨g,0,none⟩) n n]:=by rw[HW3.out];exact Fr.made _ _ _ HQ3.out
 have hR3:BRow W3 g (List.replicate n false):=hR.below hb3
 have hfc:=(HF.out.below hb2).below hb3
 have HW13:Hid (BelW W1 W3):=Lib.hid (joinB hb2 hb3)
 have HR3:=Lib.hid hR3
 have HQ13:Hid (q1≠g∧q3≠g):=Lib.hid ⟨by have:=HQG.out;omega,by rw[HQ3.out];omega⟩
 have HC3:Hid (W3.cell? ⟨q1,0,none⟩=some (.slice A0 n c0)∧W3.cell? ⟨q1,1,none⟩=some (.slice A1 n1 c1)∧W3.cell? ⟨q1,2,none⟩=some (.slice A2 n2 c2)∧W3.cell? ⟨q1,3,none⟩=some (.slice A3 n3 c3)):=Lib.hid ⟨hfc.cell 0,hfc.cell 1,hfc.cell 2,hfc.cell 3⟩
 have HP3:Hid (W3.cell? ⟨q3,0,none⟩=some (.slice (some ⟨g,0,none⟩) n n)):=Lib.hid (hf3.cell 0)
 have HCE:Hid (∀W,W3.grownBy W (some g)→W.cell? ⟨q1,0,none⟩=some (.slice A0 n c0)∧W.cell? ⟨q1,1,none⟩=some (.slice A1 n1 c1)∧W.cell? ⟨q1,2,none⟩=some (.slice A2 n2 c2)∧W.cell? ⟨q1,3,none⟩=some (.slice A3 n3 c3)):=Lib.hid fun W h=>⟨h.cell HC3.out.1 (by simpa using HQ13.out.1),h.cell HC3.out.2.1 (by simpa using HQ13.out.1),h.cell HC3.out.2.2.1 (by simpa using HQ13.out.1),h.cell HC3.out.2.2.2 (by simpa using HQ13.out.1)⟩
 have HPE:Hid (∀W,W3.grownBy W (some g)→W.cell? ⟨q3,0,none⟩=some (.slice (some ⟨g,0,none⟩) n n)):=Lib.hid fun W h=>h.cell HP3.out (by simpa using HQ13.out.2)
 have hw3:∀ {s l},Is w w.heap.size s l→Is W3 W3.heap.size s l:=fun h=>(h.below (joinB HB1.out HW13.out)).more (Below.size (joinB HB1.out HW13.out))
 have HIS:Hid (∀W s l,W3.grownBy W (some g)→Is w w.heap.size s l→Is W W.heap.size s l):=Lib.hid fun W s l h hs=>(hw3 hs).apart HR3.out h
 have HMK:Hid (∀W R s l,BRow W g R→R.length=n→W3.grownBy W (some g)→Is W W.heap.size s l→Calls Tryd.prog 57 #[s,.pointer (some ⟨q1,0,none⟩),.pointer (some ⟨q3,0,none⟩)] W fun e w'=>e=.returned (.tuple #[])∧BRow w' g (mkL n R l)∧W.grownBy w' (some g)):=Lib.hid fun W R s l hR hl hg hs=>mark_any A0 A1 A2 A3 n n1 n2 n3 c0 c1 c2 c3 g q1 q3 R l s W (by unfold maxLen;omega) hR hl hs HQ13.out.1 HQ13.out.2 (HCE.out W hg) (HPE.out W hg)
 have HWC:Hid (∀p:Addr,p.block<w.heap.size→∀W,W3.grownBy W (some g)→W.cell? p=w.cell? p):=Lib.hid fun p hp W h=>(h.cell_far p (Nat.lt_of_lt_of_le hp (Below.size (joinB HB1.out HW13.out))) (by have:=HQG.out;have:=HQ2.out;simp only[ne_eq,Option.some.injEq];omega)).trans (Below.cell (joinB HB1.out HW13.out) hp)
 have HST:Hid (∀W,W3.grownBy W (some g)→Calls Tryd.prog 58 #[.agg #[.slice A0 n c0,.slice A1 n1 c1,.slice A2 n2 c2,.slice A3 n3 c3]] W (OfPost (ofTo c.nodes [14] n) W)):=Lib.hid fun W h=>by
  have:=states_any c _ W w.heap.size (Nat.le_trans (Below.size (joinB HB1.out HW13.out)) h.size) (HCC.out.keep (Nat.le_refl _) fun p hp=>HWC.out p hp W h) (by rw[←HN.out];exact hsz)
  rw[←HN.out]at this;exact this
 have HEND:Hid (∀W,W3.grownBy W (some g)→BelW w W):=Lib.hid fun W h=>(joinB HB1.out HW13.out).grown h (by have:=Below.size (joinB HB1.out HW13.out);omega) fun k e=>by
  have:=HQG.out;have:=HQ2.out;simp only[Option.some.injEq]at e;omega
 obtain⟨R0,HR0⟩:=named (List.replicate n false)
 have HL0:Hid (R0.length=n):=Lib.hid (by rw[HR0.out];exact List.length_replicate)
 rw[←HR0.out]at HR3
 have HR00:=Lib.hid HR0.out
 have hG33:W3.grownBy W3 (some g):=grown_of (Below.refl _ _) _
 have HMO:=Lib.hid (HMK.out W3 R0 _ _ HR3.out HL0.out hG33 (HIS.out W3 _ _ hG33 HOS.out))
 clear hR hb2 hgl hb3 hf3 hR3 hfc hw3 hG33 HR0
 go_upto_region 3 with (fail)
 rw[←HW3.out,←HQ3.out]
 replace x0:=HC3.out.1
 replace x1:=HC3.out.2.1
 replace x2:=HC3.out.2.2.1
 replace x3:=HC3.out.2.2.2
 clear HW3 HQ3
 go_upto_region 4 with (go_at_call 57;(with_reducible refine HMO.out.mono ?_);rintro e w4 ⟨rfl,hB,hG⟩;have HBw4:=Lib.hid hB;have HGw4:=Lib.hid hG;clear hB hG x0 x1 x2 x3 )
 obtain⟨x0,x1,x2,x3⟩:=HCE.out w4 HGw4.out
 obtain⟨R1,HR1⟩:=named (mkL n R0 c.outs)
 rw[←HR1.out]at HBw4
 have HL1:Hid (R1.length=n):=Lib.hid (by rw[HR1.out,mkL_len];exact HL0.out)
 have HST4:=Lib.hid (HST.out w4 HGw4.out)
 go_upto_region 5 with (go_at_call 58;(with_reducible refine HST4.out.mono ?_);rintro e w5 ⟨As,rfl,h1,h2⟩;have HSL:=Lib.hid h1;have HB45:=Lib.hid h2;clear h1 h2 x0 x1 x2 x3)
 obtain⟨S,HSN⟩:=named (ofTo c.nodes [14] n)
 rw[←HSN.out]at HSL
 rw[←HSN.out]
 have HSX:Hid (∀k,k<S.length→∃x:Nat,x<n∧S.getD k 0=(x:Int)):=Lib.hid fun k hk=>by
  have h1:S.getD k 0∈S:=by rw[List.getD_eq_getElem?_getD,List.getElem?_eq_getElem hk];exact List.getElem_mem _
  have h2:∀z∈S,∃x:Nat,x<n∧z=(x:Int):=fun z hz=>by
   rw[HSN.out]at hz
   unfold ofTo at hz
   obtain⟨x,hx,rfl⟩:=List.mem_map.1 hz
   exact⟨x,List.mem_range.1 (List.mem_filter.1 hx).1,rfl⟩
  exact h2 _ h1
 have HDF:Hid (stI c.nodes S S.length=dffL c.nodes n):=Lib.hid (by unfold stI;rw[List.take_length,HSN.out];exact st_dff c.nodes n)
 obtain⟨ns,HNS⟩:=named S.length
 have HSI:Hid (∀k,k<ns→stI c.nodes S (k+1)=stI c.nodes S k++(c.nodes.getD (S.getD k 0).toNat default).ins):=Lib.hid fun k hk=>stI_succ _ _ _ (by rw[←HNS.out];exact hk)
 rw[←HNS.out]at HSL HSX HDF
 rw[←HNS.out]
 have hns:ns≤n:=by rw[HNS.out,HSN.out];exact ofTo_len _ _ _
 have HG5:Hid (W3.grownBy w5 (some g)):=Lib.hid (HGw4.out.trans (grown_of HB45.out _))
 have HB5:Hid (BRow w5 g R1):=Lib.hid (HBw4.out.below HB45.out)
 have HNSL:=Lib.hid HNS.out
 clear HSN HNS HST4 HMO HBw4 HGw4 HB45
 go_loopw [21] (fun i wr=>∃k:Nat,k≤ns∧i=.int .i64 k∧Hid (BRow wr g (mkL n R1 (stI c.nodes S k)))∧Hid (w5.grownBy wr (some g))) (fun i _=>ns-(intOf i).toNat)
 case atStart=>exact⟨0,Nat.zero_le _,rfl,Lib.hid HB5.out,Lib.hid (grown_of (Below.refl _ _) _)⟩
 case round=>
  obtain⟨k,hk,rfl,HB,HG⟩:=hrel
  have hG3:=HG5.out.trans HG.out
  by_cases hlt:k<ns
  ·have hk2:(k:Int)<(ns:Int):=by omega
   have hS:=HSL.out.apart HB5.out HG.out
   obtain⟨A9,b9,o9,c9,e9,hA9,-,-,hc9⟩:=hS.opens
   simp only[Value.slice.injEq]at e9
   obtain⟨rfl,-,rfl⟩:=e9
   obtain rfl:=hA9 (by rw[←HNSL.out];omega)
   have e0:=(hc9 k (by rw[←HNSL.out];exact hlt)).2
   obtain⟨x,hx,hxe⟩:=HSX.out k hlt
   rw[hxe]at e0
   have hx2:(x:Int)<(n:Int):=by omega
   obtain⟨A,cc,rfl,hbb,hcl,hin⟩:=HND.out x hx
   have e1:=(HWC.out ⟨b,o+x*4+1,none⟩ hbb wr hG3).trans hcl
   obtain⟨x0,x1,x2,x3⟩:=HCE.out wr hG3
   have HM:=Lib.hid (HMK.out wr _ _ _ HB.out (by rw[mkL_len];exact HL1.out) hG3 (HIS.out wr _ _ hG3 hin))
   have HNX:Hid (mkL n (mkL n R1 (stI c.nodes S k)) (c.nodes.getD x default).ins=mkL n R1 (stI c.nodes S (k+1))):=Lib.hid (by rw[HSI.out k hlt,hxe,Int.toNat_natCast,mkL_app])
   obtain⟨ix,HIX⟩:=named (c.nodes.getD x default).ins
   rw[←HIX.out]at e1 HM HNX
   obtain⟨mx,HMX⟩:=named ix.length
   rw[←HMX.out]at e1 HM
   clear hS hA9 hc9 hcl hin hxe hbb hG3 HIX HMX
   go_wp2_with (go_at_call 57;(with_reducible refine HM.out.mono ?_);rintro e w6 ⟨rfl,hB,hG⟩;have HBw6:=Lib.hid hB;have HGw6:=Lib.hid hG;clear hB hG x0 x1 x2 x3 e0 e1)
   go_roundw
   case rel=>exact⟨k+1,by omega,by go_num,Lib.hid (by rw[←HNX.out];exact HBw6.out),Lib.hid (HG.out.trans HGw6.out)⟩
   case measure=>simp[intOf];omega
  ·obtain rfl:ns=k:=by omega
   obtain⟨R2,HR2⟩:=named (mkL n R1 (dffL c.nodes n))
   have HB2:Hid (BRow wr g R2):=Lib.hid (by have:=HB.out;rw[HDF.out,←HR2.out]at this;exact this)
   have HL2:Hid (R2.length=n):=Lib.hid (by rw[HR2.out,mkL_len];exact HL1.out)
   have HR22:=Lib.hid HR2.out
   have HG6:Hid (W3.grownBy wr (some g)):=Lib.hid hG3
   obtain⟨x0,x1,x2,x3⟩:=HCE.out wr hG3
   obtain⟨W6,rfl⟩:∃z:World,z=wr:=⟨_,rfl⟩
   clear HB HG hG3 HR2 HSI HSX HDF HSL HB5 HG5
   go_wp2
   go_loopw [37] (fun i wr=>∃k:Nat,k≤n2∧i=.int .i64 k∧Hid (BRow wr g (mkL n R2 (mmsL c.mems k)))∧Hid (W3.grownBy wr (some g))) (fun i _=>n2-(intOf i).toNat)
   case atStart=>exact⟨0,Nat.zero_le _,rfl,Lib.hid HB2.out,Lib.hid HG6.out⟩
   case round=>
    clear x0 x1 x2 x3
    obtain⟨k,hk,rfl,HB,HG⟩:=hrel
    by_cases hlt:k<n2
    ·have hk2:(k:Int)<(n2:Int):=by omega
     obtain⟨A,cc,B,cd,rfl,hbb,d0,d1,d2,i0',i1'⟩:=HMM.out k hlt
     have e0:=(HWC.out ⟨b2,o2+k*3,none⟩ hbb wr HG.out).trans d0
     have e1:=(HWC.out ⟨b2,o2+k*3+1,none⟩ hbb wr HG.out).trans d1
     have e2:=(HWC.out ⟨b2,o2+k*3+2,none⟩ hbb wr HG.out).trans d2
     have HMS:Hid (mmsL c.mems (k+1)=mmsL c.mems k++((c.mems.getD k default).addr++(c.mems.getD k default).data++[(c.mems.getD k default).write])):=Lib.hid (mmsL_succ c.mems k)
     obtain⟨ad,HAD⟩:=named (c.mems.getD k default).addr
     obtain⟨dt,HDT⟩:=named (c.mems.getD k default).data
     obtain⟨wi,HWI⟩:=named (c.mems.getD k default).write
     rw[←HAD.out,←HDT.out,←HWI.out]at HMS
     rw[←HAD.out]at e0 i0'
     rw[←HDT.out]at e1 i1'
     rw[←HWI.out]at e2
     obtain⟨na,HNA⟩:=named ad.length
     obtain⟨nd,HNDD⟩:=named dt.length
     rw[←HNA.out]at e0 i0'
     rw[←HNDD.out]at e1 i1'
     obtain⟨x0,x1,x2,x3⟩:=HCE.out wr HG.out
     obtain⟨V,HV⟩:=named (wr.alloc (.cells #[.slice A na cc,.slice B nd cd,.int .i64 wi] 72))
     have hbV:BelW wr V:=by rw[HV.out];exact below_new (Below.refl _ _) _
     have hfV:Fr V wr.heap.size 72 [.slice A na cc,.slice B nd cd,.int .i64 wi]:=by rw[HV.out];exact Fr.made _ _ _ rfl
     have HGV:Hid (W3.grownBy V (some g)):=Lib.hid (HG.out.trans (grown_of hbV _))
     have HBV:Hid (BRow V g (mkL n R2 (mmsL c.mems k))):=Lib.hid (HB.out.below hbV)
     have hpg:wr.heap.size≠g:=by have:=HB.out.lt;omega
     obtain⟨p,HP⟩:=named wr.heap.size
     rw[←HP.out]at hfV hpg
     have HPC:Hid (∀W,V.grownBy W (some g)→W.cell? ⟨p,0,none⟩=some (.slice A na cc)∧W.cell? ⟨p,1,none⟩=some (.slice B nd cd)∧W.cell? ⟨p,2,none⟩=some (.int .i64 wi)):=Lib.hid fun W h=>⟨h.cell (hfV.cell 0) (by simpa using hpg),h.cell (hfV.cell 1) (by simpa using hpg),h.cell (hfV.cell 2) (by simpa using hpg)⟩
     have hlk:(mkL n R2 (mmsL c.mems k)).length=n:=by rw[mkL_len];exact HL2.out
     have HLK:=Lib.hid hlk
     have HM1:=Lib.hid (HMK.out V _ _ _ HBV.out hlk HGV.out (HIS.out V _ _ HGV.out i0'))
     have HI1:=Lib.hid i1'
     obtain⟨y0,y1,y2⟩:=HPC.out V (grown_of (Below.refl _ _) _)
     clear hbV hfV hpg hlk i0' i1' d0 d1 d2 hbb HAD HDT HWI HNA HNDD
     go_upto_region 12 with (fail)
     rw[←HV.out,←HP.out]
     clear e0 e1 e2 x0 x1 x2 x3 HV HP
     obtain⟨x0,x1,x2,x3⟩:=HCE.out V HGV.out
     go_upto_region 13 with (go_at_call 57;(with_reducible refine HM1.out.mono ?_);rintro e w6 ⟨rfl,hB,hG⟩;have HBw6:=Lib.hid hB;have HGw6:=Lib.hid hG;clear hB hG x0 x1 x2 x3 y0 y1 y2)
     have hg6:=HGV.out.trans HGw6.out
     have HM2:=Lib.hid (HMK.out w6 _ _ _ HBw6.out (by rw[mkL_len];exact HLK.out) hg6 (HIS.out w6 _ _ hg6 HI1.out))
     have HG36:=Lib.hid hg6
     obtain⟨y0,y1,y2⟩:=HPC.out w6 HGw6.out
     obtain⟨x0,x1,x2,x3⟩:=HCE.out w6 hg6
     clear hg6
     go_upto_region 14 with (go_at_call 57;(with_reducible refine HM2.out.mono ?_);rintro e w7 ⟨rfl,hB,hG⟩;have HBw7:=Lib.hid hB;have HGw7:=Lib.hid hG;clear hB hG x0 x1 x2 x3 y0 y1 y2)
     obtain⟨V7,HV7⟩:=named (w7.alloc (.cells #[.int .i64 wi] 3))
     have hb7:BelW w7 V7:=by rw[HV7.out];exact below_new (Below.refl _ _) _
     have hg7:=(HG36.out.trans HGw7.out).trans (grown_of hb7 (some g))
     have hi7:Is V7 V7.heap.size (.slice (some ⟨w7.heap.size,0,none⟩) 1 1) [wi]:=by rw[HV7.out];exact Is.one w7 wi _ rfl
     have hm7:=HMK.out V7 _ _ _ (HBw7.out.below hb7) (by rw[mkL_len,mkL_len];exact HLK.out) hg7 hi7
     rw[HV7.out]at hm7
     have HM3:=Lib.hid hm7
     have HG37:=Lib.hid hg7
     have HV77:=Lib.hid HV7.out
     obtain⟨y0,y1,y2⟩:=HPC.out w7 (HGw6.out.trans HGw7.out)
     obtain⟨x0,x1,x2,x3⟩:=HCE.out w7 (HG36.out.trans HGw7.out)
     clear hb7 hg7 hi7 hm7 HV7
     go_upto_region 15 with (go_at_call 57;(with_reducible refine HM3.out.mono ?_);rintro e w8 ⟨rfl,hB,hG⟩;have HBw8:=Lib.hid hB;have HGw8:=Lib.hid hG;clear hB hG x0 x1 x2 x3 y0 y1 y2)
     go_wp2
     go_roundw
     case rel=>exact⟨k+1,by omega,by go_num,Lib.hid (by rw[HMS.out,mkL_app,mkL_app,mkL_app];exact HBw8.out),Lib.hid (HG37.out.trans (by rw[HV77.out];exact HGw8.out))⟩
     case measure=>simp[intOf];omega
    ·obtain rfl:n2=k:=by omega
     have y3:=HPE.out wr HG.out
     have HPT:Hid (mkL n R2 (mmsL c.mems n2)=ptB c):=Lib.hid (by
      unfold ptB obsN
      rw[←HN.out,←HR00.out,←HM2.out,mkL_app,mkL_app,←HR1.out,←HR22.out])
     go_wp2
     go_ret
     exact⟨g,rfl,by rw[←HPT.out];exact HB.out,HEND.out wr HG.out⟩
theorem points_any(c:Ck)(A0 A1 A2 A3:Option Addr)(n n1 n2 n3 c0 c1 c2 c3:Nat)(w:World)(hc:Cir w w.heap.size (.agg #[.slice A0 n c0,.slice A1 n1 c1,.slice A2 n2 c2,.slice A3 n3 c3]) c)(hn:c.nodes.length=n)(hsz:n≤1000000):
 Calls Tryd.prog 16 #[.agg #[.slice A0 n c0,.slice A1 n1 c1,.slice A2 n2 c2,.slice A3 n3 c3]] w (OfPost (memB (ptB c) n) w):=by
 obtain⟨W1,HW1⟩:=named (w.alloc (.cells #[.slice A0 n c0,.slice A1 n1 c1,.slice A2 n2 c2,.slice A3 n3 c3] 27))
 have hb1:BelW w W1:=by rw[HW1.out];exact below_new (Below.refl _ _) _
 have hf:Fr W1 w.heap.size 27 [.slice A0 n c0,.slice A1 n1 c1,.slice A2 n2 c2,.slice A3 n3 c3]:=by rw[HW1.out];exact Fr.made _ _ _ rfl
 have HOB:=Lib.hid (observed_any c _ W1 ((hc.below hb1).more (Below.size hb1)) (by rw[hn];exact hsz))
 rw[hn]at HOB
 have HMB:=Lib.hid (fun W g (h:BRow W g (ptB c))=>members_any g n (ptB c) W h (by rw[ptB_len,hn]) hsz)
 obtain⟨x0,x1,x2,x3⟩:_∧_∧_∧_:=⟨hf.cell 0,hf.cell 1,hf.cell 2,hf.cell 3⟩
 have HB1:=Lib.hid hb1
 clear hb1 hf hc
 go_enter Tryd.func16,Tryd.ntmps16
 go_upto_region 1 with (fail)
 rw[←HW1.out]
 go_wp2_with (first
  |(go_at_call 35;(with_reducible refine HOB.out.mono ?_);rintro e w2 ⟨g,rfl,h1,h2⟩;have HM:=Lib.hid (HMB.out w2 g h1);have HB2:=Lib.hid h2;clear h1 h2)
  |(go_at_call 26;(with_reducible refine HM.out.mono ?_);rintro e w3 ⟨A,rfl,h1,h2⟩;have H1:=Lib.hid h1;have HB3:=Lib.hid h2;clear h1 h2))
 go_ret
 exact⟨A,rfl,H1.out,joinB HB1.out (joinB HB2.out HB3.out)⟩
end Go.Proofs.YtjdjcaobkmpoeaaDoor
