/- The texts Lvl Fq3. -/
import Derived.Test.YtcbllelkgniogaaDoorM12
import Derived.Test.YtcbllelkgniogaaDoorM11
namespace Go.Proofs.YtcbllelkgniogaaDoor
open Go.RowKit
open Classical in
noncomputable def chkErr (c:Ck):Int:=if shapeErr c≠0 then shapeErr c else if (∃L,Lvl c.nodes L) then 0 else 6
theorem firstE_zero{α:Type}{f:α→Int} :∀ {l:List α},firstE f l=0→∀x∈l,f x=0
 |[],_,_,hx=>by cases hx
 |y::l,h,x,hx=>by
  unfold firstE at h
  by_cases hy:f y=0
  ·rw[if_pos hy]at h
   rcases List.mem_cons.1 hx with rfl|hx
   ·exact hy
   ·exact firstE_zero h x hx
  ·rw[if_neg hy]at h
   exact absurd h hy
theorem nodeErr_zero{c:Ck}{x:Nd}(h:nodeErr c x=0):¬15<x.kind∧lo x.kind≤x.ins.length∧(x.ins.length:Int)≤hi x.kind∧areIdx c.nodes.length x.ins=true∧¬(x.kind=13∧anyP (notTri c) x.ins=true)∧placeOk c x=true:=by
 unfold nodeErr at h
 split at h
 ·cases h
 split at h
 ·cases h
 split at h
 ·cases h
 split at h
 ·cases h
 split at h
 ·cases h
 split at h
 ·cases h
 ·refine⟨by assumption,by omega,by omega,by simpa using ‹¬areIdx c.nodes.length x.ins=false›,by assumption,by simpa using ‹¬placeOk c x=false›⟩
theorem shape_zero{c:Ck}(h:shapeErr c=0):c.nodes.length≤16384∧c.mems.length≤16∧c.outs.length≤16384∧c.names.length=c.nodes.length∧(∀x∈c.nodes,nodeErr c x=0)∧namesOk c.names=true∧(∀x∈c.mems,memErr c x=0)∧areIdx c.nodes.length c.outs=true:=by
 unfold shapeErr at h
 split at h
 ·cases h
 split at h
 ·cases h
 split at h
 ·exact absurd h (by assumption)
 split at h
 ·cases h
 split at h
 ·exact absurd h (by assumption)
 split at h
 ·cases h
 ·rename_i h1 h2 h3 h4 h5 h6
  exact⟨by omega,by omega,by omega,by omega,firstE_zero (by omega),by simpa using h4,firstE_zero (by omega),by simpa using h6⟩
theorem getD_mem_nd{l:List Nd}{i:Nat}(h:i<l.length):l.getD i default∈l:=by
 rw[List.getD_eq_getElem?_getD,List.getElem?_eq_getElem h];exact List.getElem_mem h
theorem wf_of_shape{c:Ck}(h:shapeErr c=0):Wf c.nodes:=by
 intro i hi x hx
 have h1:=(shape_zero h).2.2.2.2.1 _ (getD_mem_nd hi)
 exact areIdx_iff.1 (nodeErr_zero h1).2.2.2.1 x hx
def LevPost(c:Ck)(w:World)(e:Ending)(w':World):Prop:=
 Below w.heap.size w w'∧((chkErr c=0∧shapeErr c=0∧∃L g,Lvl c.nodes L∧(∀i:Nat,i<c.nodes.length→lat L i<(c.nodes.length:Int))∧w.heap.size≤g∧e=.returned (.tuple #[.slice (some ⟨g,0,none⟩) c.nodes.length c.nodes.length,.int .i64 0])∧Row w' g L)
  ∨(chkErr c≠0∧e=.returned (.tuple #[.slice none 0 0,.int .i64 (chkErr c)])))
set_option maxHeartbeats 2000000 in
theorem levels_any(c:Ck)(v:Value)(w:World)(B:Nat)(hB:B≤w.heap.size)(hT:Tabs w)(hc:Cir w B v c):
 Calls Tryd.prog 48 #[v] w (LevPost c w):=by
 obtain⟨v0,v1,v2,v3,rfl,hns,hss,hms,hos⟩:=hc
 obtain⟨A0,b0,o0,c0,rfl,-⟩:=id hns
 obtain⟨A1,b1,o1,c1,rfl,-⟩:=id hss
 obtain⟨A2,b2,o2,c2,rfl,-⟩:=id hms
 obtain⟨A3,b3,o3,c3,rfl,-⟩:=id hos
 obtain⟨W,HW⟩:=named (w.alloc (.cells #[.slice A0 c.nodes.length c0,.slice A1 c.names.length c1,.slice A2 c.mems.length c2,.slice A3 c.outs.length c3] 39))
 have hbW:Below w.heap.size w W:=by rw[HW.out];exact (Below.refl _ _).alloc (Nat.le_refl _) _
 have hBW:B≤W.heap.size:=Nat.le_trans hB hbW.size
 have hP:=parts_any c A0 A1 A2 A3 c0 c1 c2 c3 W B hBW (hT.below hbW) (hns.below (hbW.mono hB)) (hss.below (hbW.mono hB)) (hms.below (hbW.mono hB)) (hos.below (hbW.mono hB))
 have hL:shapeErr c=0→∀w1,Below W.heap.size W w1→Calls Tryd.prog 58 #[.slice A0 c.nodes.length c0] w1 (LvPost c.nodes w1):=fun hs w1 h1=>
  levelsOf_any c.nodes A0 c0 w1 B (Nat.le_trans hBW h1.size) ((hns.below (hbW.mono hB)).below (h1.mono hBW)) (wf_of_shape hs) (shape_zero hs).1
 have hsz:W.heap.size=w.heap.size+1:=by rw[HW.out];simp
 clear hns hss hms hos hT hBW
 obtain⟨n1,HN1⟩:=named c.names.length
 obtain⟨n2,HN2⟩:=named c.mems.length
 obtain⟨n3,HN3⟩:=named c.outs.length
 rw[←HN1.out,←HN2.out,←HN3.out]at hP HW
 rw[←HN1.out,←HN2.out,←HN3.out]
 obtain⟨n0,HN0⟩:=named c.nodes.length
 rw[←HN0.out]at hP HW hL
 rw[←HN0.out]
 obtain⟨W',HW'⟩:=named W
 obtain rfl:=HW.out
 clear HW HW' W'
 have HBW:=Lib.hid hbW
 have HP:=Lib.hid hP
 have HL:=Lib.hid hL
 have HSZ:=Lib.hid hsz
 clear hbW hP hL hsz
 by_cases hs:shapeErr c=0
 ·have hP:=HP.out
  rw[hs]at hP
  have HP:=Lib.hid hP
  have HL:=Lib.hid (HL.out hs)
  have HS:=Lib.hid hs
  clear hP hs
  by_cases hex:∃L,Lvl c.nodes L
  ·have hck:chkErr c=0:=by rw[chkErr,if_neg (fun h=>h HS.out),if_pos hex]
   have hl2:∀w1,Below _ _ w1→Calls Tryd.prog 58 #[.slice A0 n0 c0] w1 fun e w'=>e=.returned (.tuple #[.slice (some ⟨w1.heap.size,0,none⟩) n0 n0,.bool true])∧Below w1.heap.size w1 w'∧∃L,Lvl c.nodes L∧(∀i:Nat,i<n0→lat L i<(n0:Int))∧Row w' w1.heap.size L:=fun w1 h1=>(HL.out w1 h1).mono fun e w' ⟨hb,h⟩=>by
    rcases h with⟨L,hl,hbd,he,hr⟩| ⟨hno,-⟩
    ·rw[←HN0.out]at he hbd
     exact⟨he,hb,L,hl,hbd,hr⟩
    ·exact absurd hex hno
   have HL2:=Lib.hid hl2
   have HCK:=Lib.hid hck
   clear hck hex hl2 HL
   go_enter Tryd.func48,Tryd.ntmps48
   go_wp2_with (first
    |(go_at_call 57;(with_reducible refine HP.out.mono ?_);rintro e w1 ⟨rfl,hb⟩;have HB1:=Lib.hid hb;obtain⟨hc,hf⟩:=bcell hb;clear hb)
    |(go_at_call 58;(with_reducible refine (HL2.out _ HB1.out).mono ?_);rintro e w2 ⟨rfl,hb,hx⟩;have HB2:=Lib.hid hb;have HX:=Lib.hid hx;clear hb hx))
   go_ret2
   obtain⟨L,h1,h2,h3⟩:=HX.out
   have hb1:=joinB HBW.out HB1.out
   rw[HN0.out]at h2
   exact⟨joinB hb1 HB2.out,.inl ⟨HCK.out,HS.out,L,_,h1,h2,hb1.size,by rw[←HN0.out];rfl,h3⟩⟩
  ·have hck:chkErr c=6:=by rw[chkErr,if_neg (fun h=>h HS.out),if_neg hex]
   have hl2:∀w1,Below _ _ w1→Calls Tryd.prog 58 #[.slice A0 n0 c0] w1 fun e w'=>e=.returned (.tuple #[.slice none 0 0,.bool false])∧Below w1.heap.size w1 w':=fun w1 h1=>(HL.out w1 h1).mono fun e w' ⟨hb,h⟩=>by
    rcases h with⟨L,hl,-⟩| ⟨-,he⟩
    ·exact absurd ⟨L,hl⟩ hex
    ·exact⟨he,hb⟩
   have HL2:=Lib.hid hl2
   have HCK:=Lib.hid hck
   clear hck hex hl2 HL
   go_enter Tryd.func48,Tryd.ntmps48
   go_wp2_with (first
    |(go_at_call 57;(with_reducible refine HP.out.mono ?_);rintro e w1 ⟨rfl,hb⟩;have HB1:=Lib.hid hb;obtain⟨hc,hf⟩:=bcell hb;clear hb)
    |(go_at_call 58;(with_reducible refine (HL2.out _ HB1.out).mono ?_);rintro e w2 ⟨rfl,hb⟩;have HB2:=Lib.hid hb;clear hb))
   go_ret2
   exact⟨joinB (joinB HBW.out HB1.out) HB2.out,.inr ⟨by rw[HCK.out];decide,by rw[HCK.out];rfl⟩⟩
 ·have hck:chkErr c=shapeErr c:=by rw[chkErr,if_pos hs]
  have HP0:=HP.out
  clear HP HL
  obtain⟨z,HZ⟩:=named (shapeErr c)
  rw[←HZ.out]at HP0 hs hck
  have hz:(z==0)=false:=by simpa using hs
  have HP:=Lib.hid HP0
  have HCK:=Lib.hid hck
  have HS:=Lib.hid hs
  clear HP0 hck hs
  go_enter Tryd.func48,Tryd.ntmps48
  go_wp2_with (go_at_call 57;(with_reducible refine HP.out.mono ?_);rintro e w1 ⟨rfl,hb⟩;have HB1:=Lib.hid hb;obtain⟨hc,hf⟩:=bcell hb;clear hb)
  go_ret2
  exact⟨joinB HBW.out HB1.out,.inr ⟨by rw[HCK.out];exact HS.out,by rw[HCK.out];rfl⟩⟩
set_option maxHeartbeats 1000000 in
theorem check_any(c:Ck)(v:Value)(w:World)(B:Nat)(hB:B≤w.heap.size)(hT:Tabs w)(hc:Cir w B v c):
 Calls Tryd.prog 33 #[v] w fun e w'=>e=.returned (.int .i64 (chkErr c))∧Below w.heap.size w w':=by
 have hb0:=hc
 obtain⟨v0,v1,v2,v3,rfl,hns,hss,hms,hos⟩:=hc
 obtain⟨A0,b0,o0,c0,rfl,-⟩:=id hns
 obtain⟨A1,b1,o1,c1,rfl,-⟩:=id hss
 obtain⟨A2,b2,o2,c2,rfl,-⟩:=id hms
 obtain⟨A3,b3,o3,c3,rfl,-⟩:=id hos
 have hbW:Below w.heap.size w (w.alloc (.cells #[.slice A0 c.nodes.length c0,.slice A1 c.names.length c1,.slice A2 c.mems.length c2,.slice A3 c.outs.length c3] 39)):=(Below.refl _ _).alloc (Nat.le_refl _) _
 have hL:=levels_any c _ _ B (Nat.le_trans hB hbW.size) (hT.below hbW) (hb0.below (hbW.mono hB))
 have hL2:=hL.mono (R':=fun e w'=>Below (w.alloc (.cells #[.slice A0 c.nodes.length c0,.slice A1 c.names.length c1,.slice A2 c.mems.length c2,.slice A3 c.outs.length c3] 39)).heap.size (w.alloc (.cells #[.slice A0 c.nodes.length c0,.slice A1 c.names.length c1,.slice A2 c.mems.length c2,.slice A3 c.outs.length c3] 39)) w'∧∃A n cp,e=.returned (.tuple #[.slice A n cp,.int .i64 (chkErr c)])) fun e w' ⟨h1,h2⟩=>by
  refine⟨h1,?_⟩
  rcases h2 with⟨h0,-,L,g,-,-,-,he,-⟩| ⟨-,he⟩
  ·rw[h0];exact⟨_,_,_,he⟩
  ·exact⟨_,_,_,he⟩
 clear hL hns hss hms hos hb0 hT
 generalize chkErr c=z at hL2 ⊢
 generalize c.nodes.length=n0 at hL2 hbW ⊢
 generalize c.names.length=n1 at hL2 hbW ⊢
 generalize c.mems.length=n2 at hL2 hbW ⊢
 generalize c.outs.length=n3 at hL2 hbW ⊢
 have HL:=Lib.hid hL2
 have HBW:=Lib.hid hbW
 clear hL2 hbW
 go_enter Tryd.func33,Tryd.ntmps33
 go_wp2_with (go_at_call 48;(with_reducible refine HL.out.mono ?_);rintro e w1 ⟨hb,A,n,cp,rfl⟩;have HB1:=Lib.hid hb;clear hb)
 go_ret
 exact⟨rfl,joinB HBW.out HB1.out⟩
theorem cir_nodes{w:World}{B n n1 n2 n3 c0 c1 c2 c3:Nat}{A0 A1 A2 A3:Option Addr}{c:Ck}(hc:Cir w B (.agg #[.slice A0 n c0,.slice A1 n1 c1,.slice A2 n2 c2,.slice A3 n3 c3]) c):c.nodes.length=n∧c.mems.length=n2∧∃b o,(0<n→A0=some ⟨b,o,none⟩)∧(0<n→b<B)∧∀k,k<n→∃A4 c4,w.cell? ⟨b,o+k*4,none⟩=some (.int .u8 (c.nodes.getD k default).kind)∧w.cell? ⟨b,o+k*4+1,none⟩=some (.slice A4 (c.nodes.getD k default).ins.length c4)∧w.cell? ⟨b,o+k*4+2,none⟩=some (.int .i64 (c.nodes.getD k default).mem)∧w.cell? ⟨b,o+k*4+3,none⟩=some (.int .i64 (c.nodes.getD k default).bit):=by
 obtain⟨v0,v1,v2,v3,ev,hns,-,hms,-⟩:=hc
 simp only[Value.agg.injEq,Array.mk.injEq,List.cons.injEq,and_true]at ev
 obtain⟨rfl,-,rfl,-⟩:=ev
 obtain⟨A,b,o,cc,e,hA,-,-,hcell⟩:=hns
 obtain⟨Am,bm,om,cm,em,-⟩:=hms
 simp only[Value.slice.injEq]at e em
 obtain⟨rfl,rfl,rfl⟩:=e
 refine⟨rfl,em.2.1.symm,b,o,hA,fun h=>(hcell 0 h).1,fun k hk=>?_⟩
 obtain⟨hb,s,h0,h1,h2,h3,h4,-⟩:=hcell k hk
 obtain⟨A5,b5,o5,c5,rfl,-⟩:=h4.opens
 exact⟨A5,c5,h0,h1,h2,h3⟩
noncomputable def ckF (c:Ck):Int:=if chkErr c=0 then (if 0<c.mems.length then 7 else 0) else chkErr c
set_option maxRecDepth 100000 in
set_option maxHeartbeats 4000000 in
theorem fck_any(c:Ck)(A0 A1 A2 A3:Option Addr)(n n1 n2 n3 c0 c1 c2 c3:Nat)(w:World)(hT:Tabs w)(hc:Cir w w.heap.size (.agg #[.slice A0 n c0,.slice A1 n1 c1,.slice A2 n2 c2,.slice A3 n3 c3]) c):
 Calls Tryd.prog 15 #[.agg #[.slice A0 n c0,.slice A1 n1 c1,.slice A2 n2 c2,.slice A3 n3 c3]] w fun e w'=>e=.returned (.int .i64 (ckF c))∧BelW w w':=by
 obtain⟨W1,HW1⟩:=named (w.alloc (.cells #[.slice A0 n c0,.slice A1 n1 c1,.slice A2 n2 c2,.slice A3 n3 c3] 39))
 have hb1:BelW w W1:=by rw[HW1.out];exact below_new (Below.refl _ _) _
 have hfr:Fr W1 w.heap.size 39 [.slice A0 n c0,.slice A1 n1 c1,.slice A2 n2 c2,.slice A3 n3 c3]:=by rw[HW1.out];exact Fr.made _ _ _ rfl
 obtain⟨q,HQ⟩:=named w.heap.size
 rw[←HQ.out]at hfr
 have HQ2:=Lib.hid HQ.out
 have HCE:Hid (∀W,BelW W1 W→W.cell? ⟨q,0,none⟩=some (.slice A0 n c0)∧W.cell? ⟨q,1,none⟩=some (.slice A1 n1 c1)∧W.cell? ⟨q,2,none⟩=some (.slice A2 n2 c2)∧W.cell? ⟨q,3,none⟩=some (.slice A3 n3 c3)):=Lib.hid fun W h=>⟨(hfr.below h).cell 0,(hfr.below h).cell 1,(hfr.below h).cell 2,(hfr.below h).cell 3⟩
 have HC1:Hid (∀W,BelW W1 W→Tabs W∧Cir W W.heap.size (.agg #[.slice A0 n c0,.slice A1 n1 c1,.slice A2 n2 c2,.slice A3 n3 c3]) c):=Lib.hid fun W h=>⟨hT.below (joinB hb1 h),(hc.below (joinB hb1 h)).more (Below.size (joinB hb1 h))⟩
 have HB1:=Lib.hid hb1
 obtain⟨x0,x1,x2,x3⟩:=HCE.out W1 (Below.refl _ _)
 have HCK:Hid (Calls Tryd.prog 33 #[.agg #[.slice A0 n c0,.slice A1 n1 c1,.slice A2 n2 c2,.slice A3 n3 c3]] W1 fun e w'=>e=.returned (.int .i64 (chkErr c))∧BelW W1 w'):=Lib.hid ((check_any c _ W1 W1.heap.size (Nat.le_refl _) (HC1.out W1 (Below.refl _ _)).1 (HC1.out W1 (Below.refl _ _)).2).mono fun e w' h=>⟨h.1,h.2⟩)
 have hml:=(cir_nodes hc).2.1
 have HCF:Hid ((chkErr c≠0→ckF c=chkErr c)∧(chkErr c=0→ckF c=if 0<n2 then 7 else 0)):=Lib.hid (by unfold ckF;rw[hml];exact⟨fun h=>if_neg h,fun h=>if_pos h⟩)
 obtain⟨ce,HCEE⟩:=named (chkErr c)
 rw[←HCEE.out]at HCK HCF
 obtain⟨cf,HCFF⟩:=named (ckF c)
 rw[←HCFF.out]at HCF
 rw[←HCFF.out]
 clear hb1 hfr hT hc hml HCEE HCFF HC1
 go_enter Tryd.func15,Tryd.ntmps15
 go_upto_region 1 with (fail)
 rw[←HW1.out,←HQ2.out]
 go_upto_region 2 with (go_at_call 33;(with_reducible refine HCK.out.mono ?_);rintro e w2 ⟨rfl,h1⟩;have HB2:Hid (BelW W1 w2):=Lib.hid h1;clear h1 x0 x1 x2 x3)
 by_cases h0:ce=0
 ·have t0:(ce != 0)=false:=by simpa using h0
  have h2:=HCF.out.2 h0
  have H2:=Lib.hid h2
  obtain⟨x0,x1,x2,x3⟩:=HCE.out w2 HB2.out
  clear h0 h2
  by_cases hm:0<n2
  ·have hm2:(0:Int)<(n2:Int):=by omega
   go_wp2
   go_ret
   exact⟨by(rw[H2.out,if_pos hm];rfl),joinB HB1.out HB2.out⟩
  ·have hm2:¬(0:Int)<(n2:Int):=by omega
   go_wp2
   go_ret
   exact⟨by(rw[H2.out,if_neg hm];rfl),joinB HB1.out HB2.out⟩
 ·have t0:(ce != 0)=true:=by simpa using h0
  have H2:=Lib.hid (HCF.out.1 h0)
  clear h0
  go_wp2
  go_ret
  exact⟨by(rw[H2.out];rfl),joinB HB1.out HB2.out⟩
theorem ownl_len{w:World}{base n:Nat}{v:Value}{xs:List Value}(h:w.ownsRow base 30 2 v n xs):∃A c,v=.slice A n c∧((A=none∧n=0∧c=0)∨∃a:Addr,A=some a)∧n≤c∧c≤maxLen:=by
 rcases h.2 with⟨rfl,hn⟩| ⟨g,cap,cur,rfl,hb,hg,hle,hm,-⟩
 ·exact⟨none,0,by rw[hn],.inl ⟨rfl,hn,rfl⟩,by omega,by simp⟩
 ·exact⟨_,cap,rfl,.inr ⟨_,rfl⟩,hle,hm⟩
set_option maxRecDepth 100000 in
set_option maxHeartbeats 4000000 in
theorem flines_ok(c:Ck)(A0 A1 A2 A3:Option Addr)(n n1 n2 n3 c0 c1 c2 c3:Nat)(w:World)(hT:Tabs w)(hc:Cir w w.heap.size (.agg #[.slice A0 n c0,.slice A1 n1 c1,.slice A2 n2 c2,.slice A3 n3 c3]) c)(hk:ckF c=0)(hnm:n≤1000000)(hp:∀k,k<n→(c.nodes.getD k default).ins.length≤1000000)(hm:(lnsL c).length≤1000000):
 Calls Tryd.prog 11 #[.agg #[.slice A0 n c0,.slice A1 n1 c1,.slice A2 n2 c2,.slice A3 n3 c3]] w fun e w'=>∃A,e=.returned (.tuple #[.slice A (lnsL c).length (lnsL c).length,.int .i64 0])∧Lns w' w'.heap.size (.slice A (lnsL c).length (lnsL c).length) (lnsL c)∧BelW w w':=by
 obtain⟨W1,HW1⟩:=named (w.alloc (.cells #[.slice A0 n c0,.slice A1 n1 c1,.slice A2 n2 c2,.slice A3 n3 c3] 39))
 have hb1:BelW w W1:=by rw[HW1.out];exact below_new (Below.refl _ _) _
 have hfr:Fr W1 w.heap.size 39 [.slice A0 n c0,.slice A1 n1 c1,.slice A2 n2 c2,.slice A3 n3 c3]:=by rw[HW1.out];exact Fr.made _ _ _ rfl
 obtain⟨q,HQ⟩:=named w.heap.size
 rw[←HQ.out]at hfr
 have HQ2:=Lib.hid HQ.out
 have HCE:Hid (∀W,BelW W1 W→W.cell? ⟨q,0,none⟩=some (.slice A0 n c0)∧W.cell? ⟨q,1,none⟩=some (.slice A1 n1 c1)∧W.cell? ⟨q,2,none⟩=some (.slice A2 n2 c2)∧W.cell? ⟨q,3,none⟩=some (.slice A3 n3 c3)):=Lib.hid fun W h=>⟨(hfr.below h).cell 0,(hfr.below h).cell 1,(hfr.below h).cell 2,(hfr.below h).cell 3⟩
 have HC1:Hid (∀W,BelW W1 W→Tabs W∧Cir W W.heap.size (.agg #[.slice A0 n c0,.slice A1 n1 c1,.slice A2 n2 c2,.slice A3 n3 c3]) c):=Lib.hid fun W h=>⟨hT.below (joinB hb1 h),(hc.below (joinB hb1 h)).more (Below.size (joinB hb1 h))⟩
 have HB1:=Lib.hid hb1
 obtain⟨x0,x1,x2,x3⟩:=HCE.out W1 (Below.refl _ _)
 have HCK:=Lib.hid (fck_any c A0 A1 A2 A3 n n1 n2 n3 c0 c1 c2 c3 W1 (HC1.out W1 (Below.refl _ _)).1 (HC1.out W1 (Below.refl _ _)).2)
 rw[hk]at HCK
 have HSQ:Hid (∀V3 w4,BelW W1 V3→BelW V3 w4→Fr w4 V3.heap.size 39 [.slice A0 n c0,.slice A1 n1 c1,.slice A2 n2 c2,.slice A3 n3 c3]→∀W,BelW w4 W→SeqT V3.heap.size (Kr V3.heap.size [30,45]) Fence.wide 8 7 Tryd.prog 42 #[.pointer (some ⟨V3.heap.size,0,none⟩)] encL (lnsL c) W):=Lib.hid fun V3 w4 h3 h4 hf W hW l J W' hWW hst hY h0=>by
  obtain⟨hn,-,b,o,hA0,hbB,hcc⟩:=cir_nodes (HC1.out V3 h3).2
  have hb4:BelW V3 W':=joinB h4 (joinB hW hWW)
  have e:lnsL c=lnsN c.nodes n:=by unfold lnsL;rw[hn]
  rw[e]at hY ⊢
  exact lines_in Fence.wide 8 V3.heap.size V3.heap.size b o n n1 n2 n3 c0 c1 c2 c3 l A0 A1 A2 A3 [30,45] c.nodes trivial rfl (by decide) (by decide) (by decide) hn hA0 hnm J (fun k V V' h hb=>own_below hst h hb) hY W' (hf.below (joinB hW hWW)) hbB (fun k hk=>by
   obtain⟨A4,c4,g0,g1,g2,g3⟩:=hcc k hk
   have hb:=hbB (by omega)
   exact⟨hp k hk,A4,c4,(Below.cell hb4 (p:=⟨b,o+k*4,none⟩) hb).trans g0,(Below.cell hb4 (p:=⟨b,o+k*4+1,none⟩) hb).trans g1,(Below.cell hb4 (p:=⟨b,o+k*4+2,none⟩) hb).trans g2,(Below.cell hb4 (p:=⟨b,o+k*4+3,none⟩) hb).trans g3⟩) h0
 obtain⟨zs,HZS⟩:=named (lnsL c)
 rw[←HZS.out]at HSQ hm
 rw[←HZS.out]
 have HM:=Lib.hid hm
 clear hb1 hfr hT hc HC1 hk hp hm
 go_enter Tryd.func11,Tryd.ntmps11
 go_upto_region 1 with (fail)
 rw[←HW1.out,←HQ2.out]
 go_upto_region 4 with (go_at_call 15;(with_reducible refine HCK.out.mono ?_);rintro e w2 ⟨rfl,h1⟩;have HB2:Hid (BelW W1 w2):=Lib.hid h1;clear h1 x0 x1 x2 x3)
 obtain⟨x0,x1,x2,x3⟩:=HCE.out w2 HB2.out
 go_wp2_with (first
  |(go_at_call 24;(with_reducible refine (lines_any A0 A1 A2 A3 n n1 n2 n3 c0 c1 c2 c3 w2).mono ?_);rintro e w4 ⟨rfl,h1,h2⟩;have HF4:=Lib.hid h1;have HB4:Hid (BelW w2 w4):=Lib.hid h2;clear h1 h2;have HCO:=Lib.hid (collect_lines 42 w2.heap.size #[.pointer (some ⟨w2.heap.size,0,none⟩)] zs w4 (Below.size HB4.out) HM.out (HSQ.out w2 w4 HB2.out HB4.out HF4.out) (fun _ _=>rfl)))
  |(go_at_call 23;(with_reducible refine HCO.out.mono ?_);rintro e w5 ⟨v,base,rfl,h1,h2,h3⟩;obtain⟨A,cv,rfl,h4,h5,h6⟩:=ownl_len h2;have HR5:=Lib.hid h2;have HB5:Hid (BelW w4 w5):=Lib.hid h3;have HCLI:=Lib.hid (clipL_any A zs.length cv w5 h4 h5 h6);clear h1 h2 h3 h4 h5 h6)
  |(go_at_call 22;(with_reducible refine HCLI.out.mono ?_);rintro e w6 ⟨rfl,rfl⟩))
 go_ret2
 exact⟨A,rfl,clip_reads HR5.out,joinB HB1.out (joinB HB2.out (joinB HB4.out HB5.out))⟩
end Go.Proofs.YtcbllelkgniogaaDoor
