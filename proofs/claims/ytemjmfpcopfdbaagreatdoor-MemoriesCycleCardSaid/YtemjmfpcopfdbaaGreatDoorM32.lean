/- The texts Rob. -/
import Derived.Test.YtemjmfpcopfdbaaGreatDoorM09
import Derived.Test.YtemjmfpcopfdbaaGreatDoorM10
import Derived.Test.YtemjmfpcopfdbaaGreatDoorM08
import Derived.Test.YtemjmfpcopfdbaaGreatDoorM20
import Derived.Deep.AppendLies
import Derived.Deep.RegionHeld3
import Derived.Deep.DeepCutAuto
import Derived.Deep.CutBlock
namespace Go.Proofs.YtemjmfpcopfdbaaGreatDoor
open Go.RowKit
set_option maxHeartbeats 4000000 in
theorem refOf_stk(c:Ck)(kd0:Int)(v:Value)(w:World)(B:Nat)(hB:B≤w.heap.size)(hc:Cir w B v c)(hsz:c.nodes.length≤1000000):
 Calls Tryz.prog 43 #[v,.int .u8 kd0] w fun e w'=>(∃s,e=.returned s∧Stk w' (w.heap.size+1) s (ofTo c.nodes [kd0] c.nodes.length))∧Below w.heap.size w w':=by
 obtain⟨v0,v1,v2,v3,rfl,hns,hss,hms,hos⟩:=hc
 obtain⟨A0,b,o,c0,rfl,hA,-,-,hcell⟩:=id hns
 obtain⟨A1,b1,o1,c1,rfl,-⟩:=id hss
 obtain⟨A2,b2,o2,c2,rfl,-⟩:=id hms
 obtain⟨A3,b3,o3,c3,rfl,-⟩:=id hos
 have hbW:Below w.heap.size w (w.alloc (.cells #[.slice A0 c.nodes.length c0,.slice A1 c.names.length c1,.slice A2 c.mems.length c2,.slice A3 c.outs.length c3] 39)):=(Below.refl _ _).alloc (Nat.le_refl _) _
 have hbx:(w.alloc (.cells #[.slice A0 c.nodes.length c0,.slice A1 c.names.length c1,.slice A2 c.mems.length c2,.slice A3 c.outs.length c3] 39)).cell? ⟨w.heap.size,0,none⟩=some (.slice A0 c.nodes.length c0):=by
  rw[World.cell?_alloc_at _ _ _ _ rfl];rfl
 have HCE:=Lib.hid hcell
 have HAA:=Lib.hid hA
 clear hns hss hms hos hcell hA
 generalize c.names.length=n1 at hbW hbx ⊢
 generalize c.mems.length=n2 at hbW hbx ⊢
 generalize c.outs.length=n3 at hbW hbx ⊢
 obtain⟨n,HN⟩:=named c.nodes.length
 rw[←HN.out]at hbW hsz hbx
 rw[←HN.out]
 obtain⟨W,HW⟩:=named (w.alloc (.cells #[.slice A0 n c0,.slice A1 n1 c1,.slice A2 n2 c2,.slice A3 n3 c3] 39))
 have hzW:W.heap.size=w.heap.size+1:=by rw[HW.out];simp
 rw[←HW.out]at hbW hbx
 have HBW:=Lib.hid hbW
 have HZW:=Lib.hid hzW
 have HBX:=Lib.hid hbx
 clear hbW hzW hbx
 go_enter Tryz.func43,Tryz.ntmps43
 go_wp2
 go_loopw [6,5] (fun i sv wr=>∃k:Nat,k≤n∧i=.int .i64 k∧Below (w.heap.size+1) W wr∧Stk wr (w.heap.size+1) sv (ofTo c.nodes [kd0] k)) (fun i _ _=>n-(intOf i).toNat)
 case atStart=>exact⟨0,Nat.zero_le _,rfl,by rw[←HW.out];exact Below.refl _ _,Stk.nil _ _⟩
 case round=>
  obtain⟨k,hk,rfl,hb,hst⟩:=hrel
  have hgz:w.heap.size+1≤wr.heap.size:=by have:=hb.size;have:=HZW.out;omega
  obtain⟨A6,c6,rfl,hle6,hc6,hsh⟩:=hst.shape
  have hbox:wr.cell? ⟨w.heap.size,0,none⟩=some (.slice A0 n c0):=(hb.cell (p:=⟨w.heap.size,0,none⟩) (by show w.heap.size<w.heap.size+1;omega)).trans HBX.out
  have hol:=ofTo_len c.nodes [kd0] k
  by_cases hlt:k<n
  ·obtain rfl:=HAA.out (by rw[←HN.out];omega)
   obtain⟨hlb,s,h0,-⟩:=HCE.out k (by rw[←HN.out];exact hlt)
   have hsu:=ofTo_succ c.nodes [kd0] k
   have hlb':b<w.heap.size:=by omega
   have e0:wr.cell? ⟨b,o+k*4,none⟩=_:=(hb.cell (p:=⟨b,o+k*4,none⟩) (by show b<w.heap.size+1;omega)).trans ((HBW.out.cell (p:=⟨b,o+k*4,none⟩) hlb').trans h0)
   obtain⟨kd,HKD⟩:=named (c.nodes.getD k default).kind
   rw[←HKD.out]at e0 hsu
   rw[isK_one]at hsu
   have HST:=Lib.hid hst
   have HB:=Lib.hid hb
   have HOL:=Lib.hid hol
   clear hst hb h0 hol
   obtain⟨L,HL⟩:=named (ofTo c.nodes [kd0] k)
   rw[←HL.out]at hsu HST HOL hle6 hsh
   rw[←HL.out]
   cases hv:kd==kd0
   ·rw[hv]at hsu
    rw[if_neg (by decide),List.append_nil]at hsu
    have HSU:=Lib.hid hsu
    clear hsu hsh
    go_wp2
    go_roundw
    case rel=>
     refine⟨k+1,by omega,by go_num,HB.out,?_⟩
     rw[HSU.out];exact HST.out
    case measure=>simp[intOf];omega
   ·rw[hv]at hsu
    rw[if_pos rfl]at hsu
    have HSU:=Lib.hid hsu
    clear hsu hsh
    obtain⟨i1,hi1,hz0,hz1,hz2⟩:=info_parts info_int
    have HI:=Lib.hid (And.intro hi1 (And.intro hz0 (And.intro hz1 hz2)))
    clear hi1 hz0 hz1 hz2
    go_wp2_with (at_builtin;refine wpList_append_own_at _ rfl _ _ 37 rfl (w.heap.size+1) 3 i1 (.int .i64 0) 1 8 Tryz.underlying37 HI.out.1 HI.out.2.1 HI.out.2.2.1 HI.out.2.2.2 rfl (by decide) _ _ _ rfl (World.ownsRow.alloc HST.out _) ⟨wr.heap.size,0,none⟩ 1 1 [.int .i64 (k:Int)] rfl rfl (one_new _ _ _) (ints_oneCell .i64 [(k:Int)]) (by unfold maxLen;have:=HOL.out;omega) (by have:=HOL.out;omega) (by simp;omega) ?_;intro v' w2 hown' hgrow hnil hloc;have HF:=Lib.hid (push_own hgz HB.out HST.out hown' hgrow);clear hown' hgrow hnil hloc)
    go_roundw
    case rel=>
     refine⟨k+1,by omega,by go_num,HF.out.1,?_⟩
     rw[HSU.out];exact HF.out.2
    case measure=>simp[intOf];omega
  ·obtain rfl:n=k:=by omega
   have hr:=hst
   have HR:=Lib.hid hr
   have HB:=Lib.hid (HBW.out.trans (hb.mono (Nat.le_succ _)))
   clear hr hb hst hsh hle6
   generalize (ofTo c.nodes [kd0] n).length=m at HR ⊢
   go_wp2
   go_ret
   exact⟨⟨_,rfl,HR.out⟩,HB.out⟩
set_option maxHeartbeats 1000000 in
theorem refval_any(l:List Int)(x:Int)(A:Option Addr)(m cl:Nat)(w:World)(B:Nat)(hs:Ks w B (.slice A m cl) l):
 Calls Tryz.prog 42 #[.slice A m cl,.int .i64 x] w fun e w'=>e=.returned (.int .u8 (valA l x))∧w=w':=by
 obtain⟨A',b,o,c',e,hA,hle,hm,hc⟩:=hs.opens
 simp only[Value.slice.injEq]at e
 obtain⟨rfl,hml,rfl⟩:=e
 obtain⟨y,HY⟩:=named (valA l x)
 rw[←HY.out]
 rw[←hml]at hA hm
 unfold maxLen at hm
 have HC:=Lib.hid hc
 have HA:=Lib.hid hA
 have hy:y=valA l x:=HY.out
 unfold valA at hy
 rw[←hml]at hy
 have HYY:=Lib.hid hy
 have HML:=Lib.hid hml
 clear hc hA hs hml hle hy
 by_cases h0:x<0
 ·have hy:y=2:=by rw[HYY.out,if_pos (.inl h0)]
  subst hy
  go_enter Tryz.func42,Tryz.ntmps42
  go_wp2
  go_ret
  exact⟨rfl,rfl⟩
 ·by_cases h1:(m:Int)≤x
  ·have hy:y=2:=by rw[HYY.out,if_pos (.inr h1)]
   subst hy
   go_enter Tryz.func42,Tryz.ntmps42
   go_wp2
   go_ret
   exact⟨rfl,rfl⟩
  ·obtain⟨k,rfl⟩:∃k:Nat,x=(k:Int):=⟨x.toNat,by omega⟩
   have hk:k<m:=by omega
   obtain rfl:=HA.out (by omega)
   have hcell:=(HC.out k (by rw[←HML.out];exact hk)).2
   have hy:y=cln (l.getD k 0):=by rw[HYY.out,if_neg (by omega)];simp[lat]
   obtain⟨z,HZ⟩:=named (l.getD k 0)
   rw[←HZ.out]at hcell hy
   unfold cln at hy
   by_cases h3:3<z
   ·rw[if_pos h3]at hy
    subst hy
    clear HYY HY HC HA HML HZ
    go_enter Tryz.func42,Tryz.ntmps42
    go_wp2
    go_ret
    exact⟨rfl,rfl⟩
   ·rw[if_neg h3]at hy
    subst hy
    clear HYY HY HC HA HML HZ
    go_enter Tryz.func42,Tryz.ntmps42
    go_wp2
    go_ret
    exact⟨rfl,rfl⟩
structure RB(w:World)(xs:List Value)(q q1 q2 T:Nat)(sO sN:Value)(wr:World):Prop where
 b:Below w.heap.size w wr
 x:Fr wr q 39 xs
 z:Fr wr q1 49 [.slice none 0 0,.slice none 0 0]
 y:Fr wr q2 49 [sO,sN]
 e1:w.heap.size≤q
 e2:q<q1
 e3:q1<q2
 e4:q2<T
 low:T≤wr.heap.size
section
variable {w wr w1:World} {xs:List Value} {q q1 q2 T:Nat} {sO sN:Value}
theorem RB.next(h:RB w xs q q1 q2 T sO sN wr)(hb:Below wr.heap.size wr w1):RB w xs q q1 q2 T sO sN w1:=
 ⟨joinB h.b hb,h.x.below hb,h.z.below hb,h.y.below hb,h.e1,h.e2,h.e3,h.e4,Nat.le_trans h.low hb.size⟩
theorem RB.drew(h:RB w xs q q1 q2 T sO sN wr):RB w xs q q1 q2 T sO sN wr.drew:=h.next (Below.drew (Below.refl _ _))
theorem RB.al(h:RB w xs q q1 q2 T sO sN wr)(o:Obj):RB w xs q q1 q2 T sO sN (wr.alloc o):=h.next (below_new (Below.refl _ _) o)
theorem RB.grown{R:Option Nat}(h:RB w xs q q1 q2 T sO sN wr)(hg:wr.grownBy w1 R)(hR:∀g,R=some g→T≤g):RB w xs q q1 q2 T sO sN w1:=by
 have a1:=h.e1;have a2:=h.e2;have a3:=h.e3;have a4:=h.e4
 have nb:∀g,g<T→some g≠R:=fun g hl e=>by have:=hR g e.symm;omega
 exact⟨h.b.grown hg (by have:=h.low;omega) (fun g e=>by have:=hR g e;omega),h.x.kept hg (nb _ (by omega)),h.z.kept hg (nb _ (by omega)),h.y.kept hg (nb _ h.e4),h.e1,h.e2,h.e3,h.e4,Nat.le_trans h.low hg.size⟩
theorem RB.set0(h:RB w xs q q1 q2 T sO sN wr)(v:Value):RB w xs q q1 q2 T v sN (wr.setCell ⟨q2,0,none⟩ v):=by
 have a1:=h.e1;have a2:=h.e2;have a3:=h.e3;have a4:=h.e4
 exact⟨h.b.setCell (by show w.heap.size≤q2;omega) _,h.x.other (by show q2≠q;omega) _,h.z.other (by show q2≠q1;omega) _,h.y.set 0 v,h.e1,h.e2,h.e3,h.e4,by simpa using h.low⟩
theorem RB.set1(h:RB w xs q q1 q2 T sO sN wr)(v:Value):RB w xs q q1 q2 T sO v (wr.setCell ⟨q2,1,none⟩ v):=by
 have a1:=h.e1;have a2:=h.e2;have a3:=h.e3;have a4:=h.e4
 exact⟨h.b.setCell (by show w.heap.size≤q2;omega) _,h.x.other (by show q2≠q;omega) _,h.z.other (by show q2≠q1;omega) _,h.y.set 1 v,h.e1,h.e2,h.e3,h.e4,by simpa using h.low⟩
end
theorem map_take_succ(f:Int→Int){l:List Int}{k:Nat}(hk:k<l.length):(l.take (k+1)).map f=(l.take k).map f++[f (l.getD k 0)]:=by
 rw[take_snoc l k hk,List.map_append];rfl
theorem Ks.shut{w:World}{B:Nat}{A:Option Addr}{m c:Nat}{l:List Int}(h:Ks w B (.slice A m c) l)(hl:m=l.length):Ks w B (.slice A l.length c) l:=hl▸h
set_option maxRecDepth 100000 in
set_option maxHeartbeats 8000000 in
theorem rob_any(c:Ck)(nets:List Int)(hn0:∀x∈nets,0≤x)(A0 A1 A2 A3 An:Option Addr)(c0 c1 c2 c3 nn cn:Nat)(w:World)(B:Nat)(hB:B≤w.heap.size)
 (hc:Cir w B (.agg #[.slice A0 c.nodes.length c0,.slice A1 c.names.length c1,.slice A2 c.mems.length c2,.slice A3 c.outs.length c3]) c) (hs:Ks w B (.slice An nn cn) nets) (hsz:c.nodes.length≤1000000) (hos:c.outs.length≤1000000):
 Calls Tryz.prog 11 #[.agg #[.slice A0 c.nodes.length c0,.slice A1 c.names.length c1,.slice A2 c.mems.length c2,.slice A3 c.outs.length c3],.slice An nn cn] w
  fun e w'=>(∃D E d f,e=.returned (.agg #[.slice D (outV c nets).length d,.slice E (nextV c nets).length f])∧Ks w' w'.heap.size (.slice D (outV c nets).length d) (outV c nets)∧Ks w' w'.heap.size (.slice E (nextV c nets).length f) (nextV c nets))∧Below w.heap.size w w':=by
 obtain⟨v0,v1,v2,v3,e,hns,-,-,hou⟩:=id hc
 simp only[Value.agg.injEq,Array.mk.injEq,List.cons.injEq,and_true]at e
 obtain⟨rfl,rfl,rfl,rfl⟩:=e
 obtain⟨A',b0,o0,c',e,hA,-,-,hcell⟩:=id hns
 simp only[Value.slice.injEq,true_and]at e
 obtain⟨rfl,rfl⟩:=e
 obtain⟨A',b3,o3,c',e,hA3,-,-,hcell3⟩:=hou.opens
 simp only[Value.slice.injEq,true_and]at e
 obtain⟨rfl,rfl⟩:=e
 have HCE:=Lib.hid hcell
 have HAA:=Lib.hid hA
 have HC3:=Lib.hid hcell3
 have HA3:=Lib.hid hA3
 clear hns hou hcell hA hcell3 hA3
 have HOV:Hid (outV c nets=(c.outs.take c.outs.length).map (valA nets)):=Lib.hid (by rw[List.take_length];rfl)
 obtain⟨D,HD⟩:=named (ofTo c.nodes [14] c.nodes.length)
 have hDm:∀j,j<D.length→0≤D.getD j 0∧D.getD j 0<(c.nodes.length:Int):=fun j hj=>by
  rw[HD.out]at hj ⊢
  exact ofTo_in (by rw[List.getD_eq_getElem?_getD,List.getElem?_eq_getElem hj];exact List.getElem_mem hj)
 have hDl:D.length≤c.nodes.length:=by rw[HD.out];exact ofTo_len _ _ _
 obtain⟨dv,HDV⟩:=named (fun i:Int=>dataV nets (c.nodes.getD i.toNat default).ins)
 have HNV:Hid (nextV c nets=(D.take D.length).map dv):=Lib.hid (by rw[List.take_length,HD.out,HDV.out];rfl)
 obtain⟨W1,HW1⟩:=named (((w.alloc (.cells #[.slice A0 c.nodes.length c0,.slice A1 c.names.length c1,.slice A2 c.mems.length c2,.slice A3 c.outs.length c3] 39)).alloc (.cells #[.slice none 0 0,.slice none 0 0] 49)).alloc (.cells #[.slice none 0 0,.slice none 0 0] 49))
 have hrb:RB w [.slice A0 c.nodes.length c0,.slice A1 c.names.length c1,.slice A2 c.mems.length c2,.slice A3 c.outs.length c3] w.heap.size (w.heap.size+1) (w.heap.size+1+1) (w.heap.size+1+1+1) (.slice none 0 0) (.slice none 0 0) W1:=by
  rw[HW1.out]
  exact⟨below_new (below_new (below_new (Below.refl _ _) _) _) _,(Fr.alloc (Fr.alloc (Fr.made _ _ _ rfl) _) _),Fr.alloc (Fr.made _ _ _ (by simp)) _,Fr.made _ _ _ (by simp),Nat.le_refl _,by omega,by omega,by omega,by simp⟩
 have HRV:Hid (∀W x,Below w.heap.size w W→Calls Tryz.prog 42 #[.slice An nn cn,.int .i64 x] W fun e w'=>e=.returned (.int .u8 (valA nets x))∧W=w'):=
  Lib.hid fun W x hb=>refval_any nets x An nn cn W B (hs.below (hb.mono hB))
 have HOF:Hid (∀W,Below w.heap.size w W→Calls Tryz.prog 43 #[.agg #[.slice A0 c.nodes.length c0,.slice A1 c.names.length c1,.slice A2 c.mems.length c2,.slice A3 c.outs.length c3],.int .u8 14] W fun e w'=>(∃s,e=.returned s∧Stk w' (W.heap.size+1) s D)∧Below W.heap.size W w'):=
  Lib.hid fun W hb=>by rw[HD.out];exact refOf_stk c 14 _ W B (Nat.le_trans hB hb.size) (hc.below (hb.mono hB)) hsz
 have HDM:=Lib.hid hDm
 have hout:∀k,k<c.outs.length→b3<w.heap.size:=fun k hk=>Nat.lt_of_lt_of_le (HC3.out k hk).1 hB
 have HBO:=Lib.hid hout
 have HN0:=Lib.hid hn0
 clear hc hs hout hDm hn0
 obtain⟨lo,HLO⟩:=named (outV c nets)
 obtain⟨ln,HLN⟩:=named (nextV c nets)
 rw[←HLO.out]at HOV
 rw[←HLN.out]at HNV
 rw[←HLO.out,←HLN.out]
 obtain⟨n3,H3⟩:=named c.outs.length
 rw[←H3.out]at HA3 HC3 HOV hos HW1 hrb HOF HBO
 rw[←H3.out]
 obtain⟨n,HN⟩:=named c.nodes.length
 rw[←HN.out]at HAA HCE hsz HW1 hrb HOF HDM hDl
 rw[←HN.out]
 generalize c.names.length=n1 at HW1 hrb HOF ⊢
 generalize c.mems.length=n2 at HW1 hrb HOF ⊢
 obtain⟨T,HT⟩:=named (w.heap.size+1+1+1)
 rw[←HT.out]at hrb
 obtain⟨q2,H2⟩:=named (w.heap.size+1+1)
 rw[←H2.out]at hrb
 obtain⟨q1,H1⟩:=named (w.heap.size+1)
 rw[←H1.out]at hrb
 have HRB:=Lib.hid hrb
 clear hrb
 obtain⟨i1,hi1,hz0,hz1,hz2⟩:=info_parts info_val
 have HI:=Lib.hid (And.intro hi1 (And.intro hz0 (And.intro hz1 hz2)))
 clear hi1 hz0 hz1 hz2
 go_enter Tryz.func11,Tryz.ntmps11
 go_upto_region 2 with (fail)
 rw[←HW1.out]
 (try rw[←H2.out])
 (try rw[←H1.out])
 obtain⟨q,HQ⟩:=named w.heap.size
 rw[←HQ.out]at HRB
 (try rw[←HQ.out])
 go_wp2
 go_loopw [6] (fun i wr=>∃k:Nat,k≤n3∧i=.int .i64 k∧∃sO,RB w [.slice A0 n c0,.slice A1 n1 c1,.slice A2 n2 c2,.slice A3 n3 c3] q q1 q2 T sO (.slice none 0 0) wr∧VStk wr T sO ((c.outs.take k).map (valA nets))) (fun i _=>n3-(intOf i).toNat)
 case atStart=>exact⟨0,Nat.zero_le _,rfl,_,HRB.out,VStk.nil _ _⟩
 case round=>
  clear HRB
  obtain⟨k,hk,rfl,sO,hr,hst⟩:=hrel
  have x0:=hr.x.cell 0
  have x1:=hr.x.cell 1
  have x2:=hr.x.cell 2
  have x3:=hr.x.cell 3
  obtain⟨AO,cO,rfl,hleO,hmO,-⟩:=hst.form
  have hlen:((c.outs.take k).map (valA nets)).length=k:=by rw[List.length_map,List.length_take,←H3.out];omega
  rw[hlen]at hleO hr hst
  (try rw[hlen])
  have HR:=Lib.hid hr
  have HST:=Lib.hid hst
  have y0:=hr.y.cell 0
  by_cases hlt:k<n3
  ·obtain rfl:=HA3.out (by omega)
   have hx:=(HC3.out k hlt).2
   have hb3:=HBO.out k hlt
   have HX3:Hid (∀W,Below w.heap.size w W→W.cell? ⟨b3,o3+k,none⟩=some (.int .i64 (c.outs.getD k 0))):=Lib.hid fun W hb=>(hb.cell (p:=⟨b3,o3+k,none⟩) hb3).trans hx
   have HSU:Hid ((c.outs.take (k+1)).map (valA nets)=(c.outs.take k).map (valA nets)++[valA nets (c.outs.getD k 0)]):=Lib.hid (map_take_succ _ (by rw[←H3.out];exact hlt))
   have HSR:Hid (wr.ownsRow T 77 1 (.slice AO k cO) k (((c.outs.take k).map (valA nets)).map (Value.int .u8))):=Lib.hid (by have:=hst;unfold VStk at this;rw[hlen]at this;exact this)
   obtain⟨x,HX⟩:=named (c.outs.getD k 0)
   rw[←HX.out]at HX3 HSU
   obtain⟨u,HU⟩:=named (valA nets x)
   rw[←HU.out]at HSU
   generalize (c.outs.take k).map (valA nets)=st at HSU HST HSR hlen
   have HLEN:=Lib.hid hlen
   have hce0:∀w',RB w [.slice A0 n c0,.slice A1 n1 c1,.slice A2 n2 c2,.slice (some ⟨b3,o3,none⟩) n3 c3] q q1 q2 T (.slice AO k cO) (.slice none 0 0) w'→RB w [.slice A0 n c0,.slice A1 n1 c1,.slice A2 n2 c2,.slice (some ⟨b3,o3,none⟩) n3 c3] q q1 q2 T (.slice AO k cO) (.slice none 0 0) w'∧w'.cell? ⟨q2,0,none⟩=some (.slice AO k cO)∧w'.cell? ⟨q,3,none⟩=some (.slice (some ⟨b3,o3,none⟩) n3 c3)∧w'.cell? ⟨b3,o3+k,none⟩=some (.int .i64 x):=fun w' h=>
    ⟨h,h.y.cell 0,h.x.cell 3,HX3.out w' h.b⟩
   have HCE0:=Lib.hid hce0
   have hs0:=hr
   have hTl:=hr.low
   clear hr hst hx hce0 hlen
   go_wp2
   clear x0 x1 x2 x3 y0
   have HS0:=Lib.hid (HCE0.out _ (RB.drew hs0))
   refine AnyX.start (S:=fun w'=>RB w [.slice A0 n c0,.slice A1 n1 c1,.slice A2 n2 c2,.slice (some ⟨b3,o3,none⟩) n3 c3] q q1 q2 T (.slice AO k cO) (.slice none 0 0) w'∧w'.cell? ⟨q2,0,none⟩=some (.slice AO k cO)∧w'.cell? ⟨q,3,none⟩=some (.slice (some ⟨b3,o3,none⟩) n3 c3)∧w'.cell? ⟨b3,o3+k,none⟩=some (.int .i64 x)) (t:=12) (by kernel_rfl) ?_
   refine AnyX.take (i:=0) (oi:=⟨some 17,_,_,_,_,_⟩) (v:=.pointer (some ⟨q2,0,none⟩)) rfl rfl (by kernel_rfl) (by kernel_rfl) (by kernel_rfl) (by kernel_rfl) (fun _ _ _ h=>h) (Or.inl ⟨by rfl,?_⟩) HS0.out ?_
   ·intro w' hSw
    obtain⟨-,c0',c1',c2'⟩:=hSw
    first|(go_simp;done)|(go_simp;with_reducible rfl)|(go_simp;intro hh;exfalso;omega)
   simp only[Act.put,List.setIfInBounds_toArray,List.set_cons_zero,List.set_cons_succ]
   refine AnyX.take (i:=1) (oi:=⟨some 18,_,_,_,_,_⟩) (v:=.slice AO k cO) rfl rfl (by kernel_rfl) (by kernel_rfl) (by kernel_rfl) (by kernel_rfl) (fun _ _ _ h=>h) (Or.inl ⟨by rfl,?_⟩) HS0.out ?_
   ·intro w' hSw
    obtain⟨-,c0',c1',c2'⟩:=hSw
    first|(go_simp;done)|(go_simp;with_reducible rfl)|(go_simp;intro hh;exfalso;omega)
   simp only[Act.put,List.setIfInBounds_toArray,List.set_cons_zero,List.set_cons_succ]
   refine AnyX.take (i:=2) (oi:=⟨some 19,_,_,_,_,_⟩) (v:=.slice An nn cn) rfl rfl (by kernel_rfl) (by kernel_rfl) (by kernel_rfl) (by kernel_rfl) (fun _ _ _ h=>h) (Or.inl ⟨by rfl,?_⟩) HS0.out ?_
   ·intro w' hSw
    obtain⟨-,c0',c1',c2'⟩:=hSw
    first|(go_simp;done)|(go_simp;with_reducible rfl)|(go_simp;intro hh;exfalso;omega)
   simp only[Act.put,List.setIfInBounds_toArray,List.set_cons_zero,List.set_cons_succ]
   refine AnyX.take (i:=3) (oi:=⟨some 20,_,_,_,_,_⟩) (v:=.pointer (some ⟨q,3,none⟩)) rfl rfl (by kernel_rfl) (by kernel_rfl) (by kernel_rfl) (by kernel_rfl) (fun _ _ _ h=>h) (Or.inl ⟨by rfl,?_⟩) HS0.out ?_
   ·intro w' hSw
    obtain⟨-,c0',c1',c2'⟩:=hSw
    first|(go_simp;done)|(go_simp;with_reducible rfl)|(go_simp;intro hh;exfalso;omega)
   simp only[Act.put,List.setIfInBounds_toArray,List.set_cons_zero,List.set_cons_succ]
   refine AnyX.take (i:=4) (oi:=⟨some 21,_,_,_,_,_⟩) (v:=.slice (some ⟨b3,o3,none⟩) n3 c3) rfl rfl (by kernel_rfl) (by kernel_rfl) (by kernel_rfl) (by kernel_rfl) (fun _ _ _ h=>h) (Or.inl ⟨by rfl,?_⟩) HS0.out ?_
   ·intro w' hSw
    obtain⟨-,c0',c1',c2'⟩:=hSw
    first|(go_simp;done)|(go_simp;with_reducible rfl)|(go_simp;intro hh;exfalso;omega)
   simp only[Act.put,List.setIfInBounds_toArray,List.set_cons_zero,List.set_cons_succ]
   refine AnyX.take (i:=5) (oi:=⟨some 22,_,_,_,_,_⟩) (v:=.int .i64 (k:Int)) rfl rfl (by kernel_rfl) (by kernel_rfl) (by kernel_rfl) (by kernel_rfl) (fun _ _ _ h=>h) (Or.inl ⟨by rfl,?_⟩) HS0.out ?_
   ·intro w' hSw
    obtain⟨-,c0',c1',c2'⟩:=hSw
    first|(go_simp;done)|(go_simp;with_reducible rfl)|(go_simp;intro hh;exfalso;omega)
   simp only[Act.put,List.setIfInBounds_toArray,List.set_cons_zero,List.set_cons_succ]
   refine AnyX.take (i:=6) (oi:=⟨some 23,_,_,_,_,_⟩) (v:=.pointer (some ⟨b3,o3+k,none⟩)) rfl rfl (by kernel_rfl) (by kernel_rfl) (by kernel_rfl) (by kernel_rfl) (fun _ _ _ h=>h) (Or.inl ⟨by rfl,?_⟩) HS0.out ?_
   ·intro w' hSw
    obtain⟨-,c0',c1',c2'⟩:=hSw
    first|(go_simp;done)|(go_simp;with_reducible rfl)|(go_simp;intro hh;exfalso;omega)
   simp only[Act.put,List.setIfInBounds_toArray,List.set_cons_zero,List.set_cons_succ]
   refine AnyX.take (i:=7) (oi:=⟨some 24,_,_,_,_,_⟩) (v:=.int .i64 x) rfl rfl (by kernel_rfl) (by kernel_rfl) (by kernel_rfl) (by kernel_rfl) (fun _ _ _ h=>h) (Or.inl ⟨by rfl,?_⟩) HS0.out ?_
   ·intro w' hSw
    obtain⟨-,c0',c1',c2'⟩:=hSw
    first|(go_simp;done)|(go_simp;with_reducible rfl)|(go_simp;intro hh;exfalso;omega)
   simp only[Act.put,List.setIfInBounds_toArray,List.set_cons_zero,List.set_cons_succ]
   clear HS0
   refine AnyX.one (i:=8) (o:=⟨some 25,_,_,_,_,_⟩) (by kernel_rfl) rfl (fun K' hK=>?_)
   have HK:=Lib.hid hK
   clear hK
   go_simp
   go_at_call 42
   (with_reducible refine (HRV.out _ x (RB.drew hs0).b).mono ?_)
   rintro e w1 ⟨rfl,rfl⟩
   rw[←HU.out]
   refine HK.out _ _ (fun _=>HCE0.out _ (RB.drew hs0)) ?_
   clear HK
   (try simp only[Act.put,List.setIfInBounds_toArray,List.set_cons_zero,List.set_cons_succ])
   refine AnyX.one (i:=9) (o:=⟨some 26,_,_,_,_,_⟩) (by kernel_rfl) rfl (fun K' hK=>?_)
   have HK:=Lib.hid hK
   clear hK
   go_simp
   refine HK.out _ _ (fun _=>HCE0.out _ (RB.al (RB.drew hs0) _)) ?_
   clear HK
   (try simp only[Act.put,List.setIfInBounds_toArray,List.set_cons_zero,List.set_cons_succ])
   refine AnyX.one (i:=10) (o:=⟨some 27,_,_,_,_,_⟩) (by kernel_rfl) rfl (fun K' hK=>?_)
   have HK:=Lib.hid hK
   clear hK
   refine step_append_lies _ (by rfl) (.tmp 18) (.tmp 26) 41 (by rfl) T 77 i1 (.int .u8 0) 1 1 Tryz.underlying41 HI.out.1 HI.out.2.1 HI.out.2.2.1 HI.out.2.2.2 rfl (by decide) (.slice AO k cO) k (st.map (Value.int .u8)) (by simp[Act.eval,Act.put]) (World.ownsRow.alloc (World.ownsRow.drew HSR.out) _) ⟨wr.heap.size,0,none⟩ 1 1 [.int .u8 u] (by simp[Act.eval,Act.put]) rfl (one_new wr.drew _ _) (by simp[Value.oneCell']) (by decide) (by unfold maxLen;omega) (by omega) (by simp;omega) _ rfl ?_
   intro g9 c9 w2 hown' hgrow hat hlt
   have hRq:∀g,(Value.slice AO k cO).ownBlock=some g→T≤g:=fun g h=>(World.ownsRow.lt HSR.out g h).1
   have hs2:=(RB.al (RB.drew hs0) (.cells #[.int .u8 u] 77)).grown hgrow hRq
   have HR2:=Lib.hid hown'
   have zf:=hs2.y.frozen 0
   have zc:=hs2.y.cell 0
   clear hown' hgrow hat hlt hRq
   refine HK.out _ _ (fun _=>HCE0.out _ hs2) ?_
   clear HK
   (try simp only[Act.put,List.setIfInBounds_toArray,List.set_cons_zero,List.set_cons_succ])
   refine AnyX.one (i:=11) (o:=⟨some 28,_,_,_,_,_⟩) (by kernel_rfl) rfl (fun K' hK=>?_)
   have HK:=Lib.hid hK
   clear hK
   go_simp
   refine HK.out _ _ (fun _=>HCE0.out _ hs2) ?_
   clear HK
   (try simp only[Act.put,List.setIfInBounds_toArray,List.set_cons_zero,List.set_cons_succ])
   refine AnyX.one (i:=12) (o:=⟨none,_,_,_,_,_⟩) (by kernel_rfl) rfl (fun K' hK=>?_)
   have HK:=Lib.hid hK
   clear hK
   go_simp
   refine HK.out _ _ (fun h=>absurd rfl h) ?_
   clear HK
   (try simp only[Act.put,List.setIfInBounds_toArray,List.set_cons_zero,List.set_cons_succ])
   refine AnyX.done (by kernel_rfl) ?_ _
   go_wp2
   go_roundw
   case rel=>
    refine⟨k+1,by omega,by go_num,_,RB.set0 hs2 _,?_⟩
    rw[HSU.out]
    unfold VStk
    rw[List.length_append,List.map_append,HLEN.out]
    exact own_kp HR2.out (T':=T) (R:=none) (Nat.le_refl _) (Kp.set _ (by exact hs2.e4) _) (Classical.em _)
   case measure=>simp[intOf];omega
  ·obtain rfl:n3=k:=by omega
   obtain⟨V1,rfl⟩:∃V1:World,V1=wr:=⟨_,rfl⟩
   rw[←HOV.out]at HST hlen
   have HLO3:=Lib.hid hlen
   clear hst hr
   go_wp2_with (go_at_call 43;(with_reducible refine (HOF.out _ HR.out.b).mono ?_);rintro e V2 ⟨⟨sD,rfl,hsD⟩,hb2⟩;have HR2:=Lib.hid (HR.out.next hb2);have HST2:=Lib.hid (HST.out.below hb2);have HSD:=Lib.hid hsD;have hz2:=hb2.size;have hTl:=HR.out.low;clear hsD hb2 x0 x1 x2 x3 y0)
   obtain⟨AD,cD,hsd,hleD,hmD,hqD⟩:=HSD.out.form
   subst hsd
   have HCD:Hid (∀gD k,AD=some ⟨gD,0,none⟩→k<D.length→V2.cell? ⟨gD,k,none⟩=some (.int .i64 (D.getD k 0))):=Lib.hid fun gD k e hk=>by subst e;exact HSD.out.cell hk
   obtain⟨m,HM⟩:=named D.length
   rw[←HM.out]at HCD hleD hqD HNV hDl HDM
   clear HSD
   rw[←HM.out]
   have HQD:=Lib.hid hqD
   clear hqD
   go_loopw [9,8] (fun _ i wr=>∃k:Nat,k≤m∧i=.int .i64 k∧∃sN,RB w [.slice A0 n c0,.slice A1 n1 c1,.slice A2 n2 c2,.slice A3 n3 c3] q q1 q2 T (.slice AO n3 cO) sN wr∧VStk wr V2.heap.size sN ((D.take k).map dv)∧Kp T none V2 wr) (fun _ i _=>m-(intOf i).toNat)
   case atStart=>exact⟨0,Nat.zero_le _,rfl,_,HR2.out,VStk.nil _ _,Kp.refl _ _ _⟩
   case round=>
    clear HR2
    obtain⟨k,hk,rfl,sN,hr,hst,hkp⟩:=hrel
    have x0:=hr.x.cell 0
    obtain⟨AN,cN,rfl,hleN,hmN,-⟩:=hst.form
    have hlen:((D.take k).map dv).length=k:=by rw[List.length_map,List.length_take,←HM.out];omega
    rw[hlen]at hleN hr hst
    (try rw[hlen])
    have y1:=hr.y.cell 1
    have hfz:=hr.y.frozen 1
    by_cases hlt:k<m
    ·have HR:=Lib.hid hr
     have HST3:=Lib.hid hst
     have HKP:=Lib.hid hkp
     obtain⟨gD,rfl,hgT,hgz⟩:=HQD.out (by omega)
     have hcd:wr.cell? ⟨gD,k,none⟩=some (.int .i64 (D.getD k 0)):=by
      have h:=HCD.out gD k rfl hlt
      have e:=hkp.2 gD (by omega) hgz (by simp)
      unfold World.cell? at h ⊢
      rw[e];exact h
     obtain⟨hd0,hd1⟩:=HDM.out k hlt
     have HSU:Hid ((D.take (k+1)).map dv=(D.take k).map dv++[dv (D.getD k 0)]):=Lib.hid (map_take_succ _ (by rw[←HM.out];exact hlt))
     obtain⟨t,ht⟩:∃t:Nat,D.getD k 0=(t:Int):=⟨(D.getD k 0).toNat,by omega⟩
     rw[ht]at hcd HSU hd1
     have htn:t<n:=by omega
     obtain rfl:=HAA.out (by omega)
     obtain⟨hlb,s,e0,e1,-,-,e4,-⟩:=HCE.out t htn
     obtain⟨A4,b4,o4,c4,rfl,hA4,-,hm4,hc4⟩:=e4.opens
     have hlbw:b0<w.heap.size:=Nat.lt_of_lt_of_le hlb hB
     have f1:=(hr.b.cell (p:=⟨b0,o0+t*4+1,none⟩) hlbw).trans e1
     have HUD:Hid (dv (t:Int)=dataV nets (c.nodes.getD t default).ins):=Lib.hid (by rw[HDV.out];show dataV nets (c.nodes.getD ((t:Int)).toNat default).ins=_;rw[Int.toNat_natCast])
     obtain⟨ins,HIN⟩:=named (c.nodes.getD t default).ins
     rw[←HIN.out]at f1 HUD hA4 hm4 hc4
     unfold maxLen at hm4
     have HSR:Hid (∀W,Below wr.heap.size wr W→W.ownsRow V2.heap.size 77 1 (.slice AN k cN) k (((D.take k).map dv).map (Value.int .u8))):=Lib.hid fun W hb=>by have:=VStk.below hst hb;unfold VStk at this;rw[hlen]at this;exact this
     obtain⟨u,HU⟩:=named (dv (t:Int))
     rw[←HU.out]at HUD HSU
     have HA4:=Lib.hid hA4
     have HC4:=Lib.hid hc4
     generalize (D.take k).map dv=st at HSU HST3 HSR hlen
     have HLEN:=Lib.hid hlen
     have hwz:=hr.low
     have hkz:=hkp.1
     have HAP:Hid (∀W v' w',Below wr.heap.size wr W→w'.ownsRow V2.heap.size 77 1 v' (k+1) (st.map (Value.int .u8)++[.int .u8 u])→(W.alloc (.cells #[.int .u8 u] 77)).grownBy w' (Value.slice AN k cN).ownBlock→RB w [.slice (some ⟨b0,o0,none⟩) n c0,.slice A1 n1 c1,.slice A2 n2 c2,.slice A3 n3 c3] q q1 q2 T (.slice AO n3 cO) (.slice AN k cN) w'∧w'.ownsRow V2.heap.size 77 1 v' (k+1) (st.map (Value.int .u8)++[.int .u8 u])∧Kp T none V2 w'):=Lib.hid fun W v' w' hb ho hg=>by
      have hRq:∀g,(Value.slice AN k cN).ownBlock=some g→V2.heap.size≤g:=fun g h=>(World.ownsRow.lt (HSR.out wr (Below.refl _ _)) g h).1
      exact⟨(RB.al (HR.out.next hb) _).grown hg (fun g h=>by have:=hRq g h;omega),ho,Kp.grow (Kp.trans (Kp.trans HKP.out (Kp.below hb)) (Kp.alloc T none W _)) hg hRq⟩
     have HEND:Hid (∀v' w',RB w [.slice (some ⟨b0,o0,none⟩) n c0,.slice A1 n1 c1,.slice A2 n2 c2,.slice A3 n3 c3] q q1 q2 T (.slice AO n3 cO) (.slice AN k cN) w'∧w'.ownsRow V2.heap.size 77 1 v' (k+1) (st.map (Value.int .u8)++[.int .u8 u])∧Kp T none V2 w'→RB w [.slice (some ⟨b0,o0,none⟩) n c0,.slice A1 n1 c1,.slice A2 n2 c2,.slice A3 n3 c3] q q1 q2 T (.slice AO n3 cO) v' (w'.setCell ⟨q2,1,none⟩ v')∧VStk (w'.setCell ⟨q2,1,none⟩ v') V2.heap.size v' ((D.take (k+1)).map dv)∧Kp T none V2 (w'.setCell ⟨q2,1,none⟩ v')):=Lib.hid fun v' w' ⟨h1,h2,h3⟩=>by
      refine⟨RB.set1 h1 _,?_,h3.trans (Kp.set _ (by exact h1.e4) _)⟩
      rw[HSU.out]
      unfold VStk
      rw[List.length_append,List.map_append,HLEN.out]
      exact own_kp h2 (T':=T) (R:=none) (by omega) (Kp.set _ (by exact h1.e4) _) (Classical.em _)
     clear hr hst hkp e0 e1 e4 ht hlen
     by_cases h1:ins.length=1
     ·have hz:0≤valA nets (ins.getD 0 0)∧valA nets (ins.getD 0 0)≤3:=by
       unfold valA
       split
       ·decide
       ·rename_i hh
        have hm:lat nets (ins.getD 0 0)∈nets:=by
         unfold lat
         rw[List.getD_eq_getElem?_getD,List.getElem?_eq_getElem (by omega)]
         exact List.getElem_mem _
        have:=HN0.out _ hm
        unfold cln
        split<;>omega
      have hu:u=rd (valA nets (ins.getD 0 0)):=by rw[HUD.out];unfold dataV;rw[if_pos h1]
      obtain rfl:=HA4.out (by omega)
      obtain⟨hb4,hx4⟩:=HC4.out 0 (by omega)
      rw[Nat.add_zero]at hx4
      have f4:=((HR.out.b).cell (p:=⟨b4,o4,none⟩) (by show b4<w.heap.size;omega)).trans hx4
      obtain⟨y,HYI⟩:=named (ins.getD 0 0)
      rw[←HYI.out]at hz hu f4
      have HCV:Hid (∀xx:Beh wr,Calls Tryz.prog 42 #[.slice An nn cn,.int .i64 y] xx.x fun e w'=>e=.returned (.int .u8 (valA nets y))∧xx.x=w'):=Lib.hid (fun xx=>HRV.out xx.x y (HR.out.next xx.below).b)
      obtain⟨z,HZ⟩:=named (valA nets y)
      rw[←HZ.out]at hz hu HCV
      rw[h1]at f1
      have HCD0:=Lib.hid hcd
      clear hx4 HUD HYI HA4 HC4 HIN
      generalize ins.length=li at h1 hm4
      by_cases h3:z=3
      ·subst h3
       have hu2:u=2:=by rw[hu];decide
       subst hu2
       clear hu
       go_wp2
       go_quiet (fail)
       go_wp2
       have g0:∀xx:Beh wr,xx.x.cell? ⟨q,0,none⟩=some (.slice (some ⟨b0,o0,none⟩) n c0):=fun xx=>(HR.out.next xx.below).x.cell 0
       have g1:∀xx:Beh wr,xx.x.cell? ⟨gD,k,none⟩=some (.int .i64 (t:Int)):=fun xx=>(xx.below.cell (p:=⟨gD,k,none⟩) (cell_lt hcd)).trans hcd
       have g2:∀xx:Beh wr,xx.x.cell? ⟨b0,o0+t*4+1,none⟩=some (.slice (some ⟨b4,o4,none⟩) 1 c4):=fun xx=>(xx.below.cell (p:=⟨b0,o0+t*4+1,none⟩) (cell_lt f1)).trans f1
       have g3:∀xx:Beh wr,xx.x.cell? ⟨b4,o4,none⟩=some (.int .i64 y):=fun xx=>(xx.below.cell (p:=⟨b4,o4,none⟩) (cell_lt f4)).trans f4
       refine region_class (w0:=wr) (below_drewN (Below.refl _ _) _) (by kernel_rfl) (by kernel_rfl) ?_
       repeat (first
        |go_big_quiet_skip
        |(go_big_quiet_want;go_big_quiet_op;first
         |go_big_quiet_on
         |(apply Exists.intro
           refine⟨fun xx=>?_,?_⟩
           focus first
            |(go_at_call 42;with_reducible exact beh_same (HCV.out xx))
           go_big_quiet_on)))
       refine wpQuiet_nil ?_
       rintro w9 ⟨⟨wz,hz⟩,rfl⟩
       have y1:=(HR.out.next hz).y.cell 1
       have hfz:=(HR.out.next hz).y.frozen 1
       have hzz:=hz.size
       go_wp2_with (at_builtin;refine wpList_append_own_at _ rfl _ _ 41 rfl V2.heap.size 77 i1 (.int .u8 0) 1 1 Tryz.underlying41 HI.out.1 HI.out.2.1 HI.out.2.2.1 HI.out.2.2.2 rfl (by decide) _ k _ rfl (World.ownsRow.alloc (HSR.out _ hz) _) ⟨_,0,none⟩ 1 1 [.int .u8 2] rfl rfl (one_new _ _ _) (ints_oneCell .u8 [2]) (by unfold maxLen;omega) (by omega) (by first|omega|(simp;omega)) ?_;intro v' w5 hown' hgrow hnil hloc;obtain⟨A9,c9,hv9⟩:=own_form hown';subst hv9;have HF:=Lib.hid (HEND.out _ _ (HAP.out _ _ _ hz hown' hgrow));have hyx:=(HAP.out _ _ _ hz hown' hgrow).1.y;have yf:=hyx.frozen 1;have yc:=hyx.cell 1;clear hyx hown' hgrow hnil hloc)
       go_roundw
       case rel=>exact⟨k+1,by omega,by go_num,_,HF.out.1,HF.out.2.1,HF.out.2.2⟩
       case measure=>simp[intOf];omega
      ·have hu2:u=z:=by rw[hu];unfold rd knw;rcases (by omega:z=0∨z=1∨z=2) with h|h|h<;>subst h<;>rfl
       subst hu2
       clear hu
       go_wp2
       go_quiet (fail)
       go_wp2
       have g0:∀xx:Beh wr,xx.x.cell? ⟨q,0,none⟩=some (.slice (some ⟨b0,o0,none⟩) n c0):=fun xx=>(HR.out.next xx.below).x.cell 0
       have g1:∀xx:Beh wr,xx.x.cell? ⟨gD,k,none⟩=some (.int .i64 (t:Int)):=fun xx=>(xx.below.cell (p:=⟨gD,k,none⟩) (cell_lt hcd)).trans hcd
       have g2:∀xx:Beh wr,xx.x.cell? ⟨b0,o0+t*4+1,none⟩=some (.slice (some ⟨b4,o4,none⟩) 1 c4):=fun xx=>(xx.below.cell (p:=⟨b0,o0+t*4+1,none⟩) (cell_lt f1)).trans f1
       have g3:∀xx:Beh wr,xx.x.cell? ⟨b4,o4,none⟩=some (.int .i64 y):=fun xx=>(xx.below.cell (p:=⟨b4,o4,none⟩) (cell_lt f4)).trans f4
       refine region_class (w0:=wr) (below_drewN (Below.refl _ _) _) (by kernel_rfl) (by kernel_rfl) ?_
       repeat (first
        |go_big_quiet_skip
        |(go_big_quiet_want;go_big_quiet_op;first
         |go_big_quiet_on
         |(apply Exists.intro
           refine⟨fun xx=>?_,?_⟩
           focus first
            |(go_at_call 42;with_reducible exact beh_same (HCV.out xx))
           go_big_quiet_on)))
       refine wpQuiet_nil ?_
       rintro w9 ⟨⟨wz,hz⟩,rfl⟩
       have y1:=(HR.out.next hz).y.cell 1
       have hfz:=(HR.out.next hz).y.frozen 1
       have hzz:=hz.size
       go_wp2_with (at_builtin;refine wpList_append_own_at _ rfl _ _ 41 rfl V2.heap.size 77 i1 (.int .u8 0) 1 1 Tryz.underlying41 HI.out.1 HI.out.2.1 HI.out.2.2.1 HI.out.2.2.2 rfl (by decide) _ k _ rfl (World.ownsRow.alloc (HSR.out _ hz) _) ⟨_,0,none⟩ 1 1 [.int .u8 u] rfl rfl (one_new _ _ _) (ints_oneCell .u8 [u]) (by unfold maxLen;omega) (by omega) (by first|omega|(simp;omega)) ?_;intro v' w5 hown' hgrow hnil hloc;obtain⟨A9,c9,hv9⟩:=own_form hown';subst hv9;have HF:=Lib.hid (HEND.out _ _ (HAP.out _ _ _ hz hown' hgrow));have hyx:=(HAP.out _ _ _ hz hown' hgrow).1.y;have yf:=hyx.frozen 1;have yc:=hyx.cell 1;clear hyx hown' hgrow hnil hloc)
       go_roundw
       case rel=>exact⟨k+1,by omega,by go_num,_,HF.out.1,HF.out.2.1,HF.out.2.2⟩
       case measure=>simp[intOf];omega
     ·have hu:u=2:=by rw[HUD.out];unfold dataV;rw[if_neg h1]
      subst hu
      generalize ins.length=li at h1 f1 hm4
      clear HUD HIN HA4 HC4
      go_wp2
      go_quiet (fail)
      go_wp2_with (at_builtin;refine wpList_append_own_at _ rfl _ _ 41 rfl V2.heap.size 77 i1 (.int .u8 0) 1 1 Tryz.underlying41 HI.out.1 HI.out.2.1 HI.out.2.2.1 HI.out.2.2.2 rfl (by decide) _ k _ rfl (World.ownsRow.alloc (HSR.out _ (by first|exact Below.refl _ _|exact below_drewN (Below.refl _ _) _|exact below_drewN (below_drewN (Below.refl _ _) _) _)) _) ⟨_,0,none⟩ 1 1 [.int .u8 2] rfl rfl (one_new _ _ _) (ints_oneCell .u8 [2]) (by unfold maxLen;omega) (by omega) (by first|omega|(simp;omega)) ?_;intro v' w5 hown' hgrow hnil hloc;obtain⟨A9,c9,hv9⟩:=own_form hown';subst hv9;have HF:=Lib.hid (HEND.out _ _ (HAP.out _ _ _ (by first|exact Below.refl _ _|exact below_drewN (Below.refl _ _) _|exact below_drewN (below_drewN (Below.refl _ _) _) _) hown' hgrow));have hyx:=(HAP.out _ _ _ (by first|exact Below.refl _ _|exact below_drewN (Below.refl _ _) _|exact below_drewN (below_drewN (Below.refl _ _) _) _) hown' hgrow).1.y;have yf:=hyx.frozen 1;have yc:=hyx.cell 1;clear hyx hown' hgrow hnil hloc)
      go_roundw
      case rel=>exact⟨k+1,by omega,by go_num,_,HF.out.1,HF.out.2.1,HF.out.2.2⟩
      case measure=>simp[intOf];omega
    ·obtain rfl:m=k:=by omega
     have HR:=Lib.hid hr
     have HST3:=Lib.hid hst
     have HO3:=Lib.hid (own_kp HST2.out (T':=T) (R:=none) (Nat.le_refl _) hkp (Classical.em _))
     have y0:=hr.y.cell 0
     have z0:=hr.z.cell 0
     have z1:=hr.z.cell 1
     have zf0:=hr.z.frozen 0
     have zf1:=hr.z.frozen 1
     rw[←HNV.out]at HST3 hlen
     clear hr hst hkp
     go_wp2
     have hq:=(HR.out.z.set 0 (.slice AO n3 cO)).set 1 (.slice AN m cN)
     (try simp only[Exit.inBlock,Exit.then])
     refine bodyPost_ret (results_cell_row rfl _ _ _ _ _ _ _ rfl hq Tryz.underlying49 rfl (by kernel_rfl)) rfl ?_
     have a1:=HR.out.e1
     have a2:=HR.out.e2
     have a3:=HR.out.e3
     have a4:=HR.out.e4
     have hk2:Kp T none wr ((wr.setCell ⟨q1,0,none⟩ (.slice AO n3 cO)).setCell ⟨q1,1,none⟩ (.slice AN m cN)):=(Kp.set _ (by show q1<T;omega) _).trans (Kp.set _ (by show q1<T;omega) _)
     have k1:VStk ((wr.setCell ⟨q1,0,none⟩ (.slice AO n3 cO)).setCell ⟨q1,1,none⟩ (.slice AN m cN)) T (.slice AO n3 cO) lo:=own_kp HO3.out (T':=T) (R:=none) (Nat.le_refl _) hk2 (Classical.em _)
     have k2:VStk ((wr.setCell ⟨q1,0,none⟩ (.slice AO n3 cO)).setCell ⟨q1,1,none⟩ (.slice AN m cN)) V2.heap.size (.slice AN m cN) ln:=own_kp HST3.out (T':=T) (R:=none) (by omega) hk2 (Classical.em _)
     exact⟨⟨AO,AN,cO,cN,by rw[HLO3.out,hlen];rfl,k1.ks.shut HLO3.out.symm,k2.ks.shut hlen.symm⟩,(HR.out.b.setCell (by show w.heap.size≤q1;omega) _).setCell (by show w.heap.size≤q1;omega) _⟩
end Go.Proofs.YtemjmfpcopfdbaaGreatDoor
