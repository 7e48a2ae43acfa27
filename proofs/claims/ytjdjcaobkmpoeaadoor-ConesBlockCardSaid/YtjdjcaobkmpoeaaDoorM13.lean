/- The texts Own Kck. -/
import Derived.Test.YtjdjcaobkmpoeaaDoorM12
import Derived.Test.YtjdjcaobkmpoeaaDoorM09
import Derived.Test.YtjdjcaobkmpoeaaDoorM10
namespace Go.Proofs.YtjdjcaobkmpoeaaDoor
open Go.RowKit
structure Fit(x:Ck):Prop where
 n:x.nodes.length≤maxLen
 s:x.names.length≤maxLen
 m:x.mems.length≤maxLen
 o:x.outs.length≤maxLen
 k:∀i,i<x.nodes.length→0≤(x.nodes.getD i default).kind∧(x.nodes.getD i default).kind≤255∧(x.nodes.getD i default).ins.length≤maxLen
 t:∀i,i<x.names.length→(x.names.getD i ByteArray.empty).size≤maxLen
 a:∀i,i<x.mems.length→(x.mems.getD i default).addr.length≤maxLen∧(x.mems.getD i default).data.length≤maxLen
theorem Arr.len{α:Type}{d:α}{sz:Nat}{R:World→Nat→Nat→Nat→α→Prop}{w:World}{B:Nat}{v:Value}{l:List α}(h:Arr d sz R w B v l):l.length≤maxLen:=by
 obtain⟨_,_,_,_,-,-,-,h4,-⟩:=h
 exact h4
theorem Cir.fit{w:World}{B:Nat}{v:Value}{x:Ck}(h:Cir w B v x):Fit x:=by
 obtain⟨v0,v1,v2,v3,-,h1,h2,h3,h4⟩:=h
 refine⟨Arr.len h1,Arr.len h2,Arr.len h3,Arr.len h4,fun i hi=>?_,fun i hi=>?_,fun i hi=>?_⟩
 ·obtain⟨A,b,o,c,-,-,-,-,hc⟩:=h1
  obtain⟨-,s,-,-,-,-,hi',hk⟩:=hc i hi
  exact⟨hk.1,hk.2,Arr.len hi'⟩
 ·obtain⟨A,b,o,c,-,-,-,-,hc⟩:=h2
  exact (hc i hi).2.2
 ·obtain⟨A,b,o,c,-,-,-,-,hc⟩:=h3
  obtain⟨-,s,t,-,-,-,ha,hd⟩:=hc i hi
  exact⟨Arr.len ha,Arr.len hd⟩
theorem Row.is{w:World}{g:Nat}{l:List Int}(h:Row w g l)(hm:l.length≤maxLen):Is w w.heap.size (.slice (some ⟨g,0,none⟩) l.length l.length) l:=
 ⟨_,g,0,_,rfl,fun _=>rfl,Nat.le_refl _,hm,fun k hk=>⟨h.lt,by
  show World.cell? _ _=_
  rw[Nat.zero_add,Nat.mul_one,h.cell hk]
  rfl⟩⟩
def ownV(x:Ck)(g0 g1 g2 g3:Nat):Value:=
 .agg #[.slice (some ⟨g0,0,none⟩) x.nodes.length x.nodes.length,.slice (some ⟨g1,0,none⟩) x.names.length x.names.length,.slice (some ⟨g2,0,none⟩) x.mems.length x.mems.length,.slice (some ⟨g3,0,none⟩) x.outs.length x.outs.length]
section
variable {x:Ck} {G g0 g1 g2 g3:Nat} {h ha hd:Nat→Nat} {w w':World}
theorem OwnC.cir(H:OwnC x G g0 g1 g2 g3 h ha hd w)(F:Fit x):Cir w w.heap.size (ownV x g0 g1 g2 g3) x:=by
 refine⟨_,_,_,_,rfl,?_,?_,?_,H.f3.is F.o⟩
 ·refine⟨_,g0,0,_,rfl,fun _=>rfl,Nat.le_refl _,F.n,fun k hk=>⟨H.f0.lt,?_⟩⟩
  obtain⟨k1,k2,k3⟩:=F.k k hk
  refine⟨_,?_,?_,?_,?_,(H.rn k hk).2.is k3,k1,k2⟩
  ·rw[Nat.zero_add,H.f0.cell,ndC_get (by omega),ndF_0]
  ·rw[Nat.zero_add,H.f0.cell,ndC_get (by omega),ndF_1,if_pos hk]
  ·rw[Nat.zero_add,H.f0.cell,ndC_get (by omega),ndF_2]
  ·rw[Nat.zero_add,H.f0.cell,ndC_get (by omega),ndF_3]
 ·refine⟨_,g1,0,_,rfl,fun _=>rfl,Nat.le_refl _,F.s,fun k hk=>⟨H.f1.lt,?_,F.t k hk⟩⟩
  rw[Nat.zero_add,Nat.mul_one,H.f1.cell]
  simp[hk,List.getD_eq_getElem?_getD]
 ·refine⟨_,g2,0,_,rfl,fun _=>rfl,Nat.le_refl _,F.m,fun k hk=>⟨H.f2.lt,?_⟩⟩
  obtain⟨k1,k2⟩:=F.a k hk
  obtain⟨-,r1,-,r2⟩:=H.rm k hk
  refine⟨_,_,?_,?_,?_,r1.is k1,r2.is k2⟩
  ·rw[Nat.zero_add,H.f2.cell,mmC_get (by omega),mmF_0,if_pos hk]
  ·rw[Nat.zero_add,H.f2.cell,mmC_get (by omega),mmF_1,if_pos hk]
  ·rw[Nat.zero_add,H.f2.cell,mmC_get (by omega),mmF_2]
theorem OwnC.below(H:OwnC x G g0 g1 g2 g3 h ha hd w)(hb:Below w.heap.size w w'):OwnC x G g0 g1 g2 g3 h ha hd w':=
 ⟨H.low,H.f0.below hb,H.f1.below hb,H.f2.below hb,H.f3.below hb,fun k hk=>⟨(H.rn k hk).1,(H.rn k hk).2.below hb⟩,
  fun k hk=>⟨(H.rm k hk).1,(H.rm k hk).2.1.below hb,(H.rm k hk).2.2.1,(H.rm k hk).2.2.2.below hb⟩,H.nn,H.nm,H.mm,H.ml⟩
theorem getD_set{α:Type}(l:List α)(k i:Nat)(a d:α)(hk:k<l.length):(l.set k a).getD i d=if i=k then a else l.getD i d:=by
 rw[List.getD_eq_getElem?_getD,List.getD_eq_getElem?_getD,List.getElem?_set]
 by_cases e:k=i
 ·subst e;simp[hk]
 ·rw[if_neg e,if_neg (fun q=>e q.symm)]
theorem ndC_ins(l:List Nd)(k:Nat)(hk:k<l.length)(li:List Int)(hl:li.length=(l.getD k default).ins.length)(o:Nat→Value):
 ndC (l.set k { l.getD k default with ins:=li }) h o (l.set k { l.getD k default with ins:=li }).length=ndC l h o l.length:=by
 apply List.ext_getElem?
 intro j
 by_cases hj:j<l.length*4
 ·rw[ndC_get (by rw[List.length_set];exact hj),ndC_get hj,List.length_set]
  unfold ndF
  rw[getD_set _ _ _ _ _ hk]
  by_cases e:j/4=k
  ·rw[if_pos e,e]
   simp only[hl]
  ·rw[if_neg e]
 ·rw[List.getElem?_eq_none (by simp[ndC_len];omega),List.getElem?_eq_none (by simp[ndC_len];omega)]
theorem ndC_kind(l:List Nd)(k:Nat)(hk:k<l.length)(v:Int)(o:Nat→Value):
 ndC (l.set k { l.getD k default with kind:=v }) h o (l.set k { l.getD k default with kind:=v }).length=(ndC l h o l.length).set (k*4) (.int .u8 v):=by
 apply List.ext_getElem?
 intro j
 rw[List.getElem?_set]
 by_cases hj:j<l.length*4
 ·rw[ndC_get (by rw[List.length_set];exact hj),ndC_get hj,List.length_set]
  by_cases e0:k*4=j
  ·subst e0
   rw[if_pos rfl,if_pos (by simp[ndC_len];omega),ndF_0,getD_set _ _ _ _ _ hk,if_pos rfl]
  ·rw[if_neg e0]
   unfold ndF
   rw[getD_set _ _ _ _ _ hk]
   by_cases e:j/4=k
   ·have h00:¬j%4=0:=by omega
    rw[if_pos e,e,if_neg h00,if_neg h00]
   ·rw[if_neg e]
 ·rw[List.getElem?_eq_none (by simp[ndC_len];omega),List.getElem?_eq_none (by simp[ndC_len];omega),if_neg (by omega)]
theorem OwnC.ins(H:OwnC x G g0 g1 g2 g3 h ha hd w){k:Nat}(hk:k<x.nodes.length)(j:Nat)(v:Int):
 OwnC { x with nodes:=x.nodes.set k { x.nodes.getD k default with ins:=(x.nodes.getD k default).ins.set j v } } G g0 g1 g2 g3 h ha hd (w.setCell ⟨h k,j,none⟩ (.int .i64 v)):=by
 have hg:=grown_set w (h k) j (.int .i64 v)
 have hgk:=(H.rn k hk).1
 have hl:=H.low
 refine⟨H.low,?_,H.f1.kept hg (by simp;omega),H.f2.kept hg (by simp;omega),H.f3.kept hg (by simp;omega),?_,?_,?_,?_,H.mm,H.ml⟩
 ·show Fr _ _ _ (ndC _ _ _ _)
  rw[ndC_ins _ _ hk _ (by simp)]
  exact H.f0.kept hg (by simp;omega)
 ·intro i hi
  have hi':i<x.nodes.length:=by simpa using hi
  refine⟨(H.rn i hi').1,?_⟩
  show Row _ _ ((x.nodes.set k _).getD i default).ins
  rw[getD_set _ _ _ _ _ hk]
  by_cases e:i=k
  ·subst e
   rw[if_pos rfl]
   exact (H.rn i hi').2.set j v
  ·rw[if_neg e]
   refine (H.rn i hi').2.kept hg ?_
   have:h i≠h k:=by
    rcases Nat.lt_or_gt_of_ne e with q|q
    ·have:=H.nn i k q hk;omega
    ·have:=H.nn k i q hi';omega
   simpa using this
 ·intro i hi
  obtain⟨r1,r2,r3,r4⟩:=H.rm i hi
  have n1:=H.nm k i hk hi
  have n2:=H.mm i hi
  exact⟨r1,r2.kept hg (by simp;omega),r3,r4.kept hg (by simp;omega)⟩
 ·intro i j' hij hj'
  exact H.nn i j' hij (by simpa using hj')
 ·intro i j' hi hj'
  exact H.nm i j' (by simpa using hi) hj'
theorem OwnC.kind(H:OwnC x G g0 g1 g2 g3 h ha hd w){k:Nat}(hk:k<x.nodes.length)(v:Int):
 OwnC { x with nodes:=x.nodes.set k { x.nodes.getD k default with kind:=v } } G g0 g1 g2 g3 h ha hd (w.setCell ⟨g0,k*4,none⟩ (.int .u8 v)):=by
 have hg:=grown_set w g0 (k*4) (.int .u8 v)
 have hl:=H.low
 refine⟨H.low,?_,H.f1.kept hg (by simp;omega),H.f2.kept hg (by simp;omega),H.f3.kept hg (by simp;omega),?_,?_,?_,?_,H.mm,H.ml⟩
 ·show Fr _ _ _ (ndC _ _ _ _)
  rw[ndC_kind _ _ hk]
  exact H.f0.set _ _
 ·intro i hi
  have hi':i<x.nodes.length:=by simpa using hi
  have hh:=(H.rn i hi').1
  refine⟨hh,?_⟩
  show Row _ _ ((x.nodes.set k _).getD i default).ins
  have e2:((x.nodes.set k { x.nodes.getD k default with kind:=v }).getD i default).ins=(x.nodes.getD i default).ins:=by
   rw[getD_set _ _ _ _ _ hk]
   by_cases e:i=k
   ·rw[if_pos e,e]
   ·rw[if_neg e]
  rw[e2]
  exact (H.rn i hi').2.kept hg (by simp;omega)
 ·intro i hi
  obtain⟨r1,r2,r3,r4⟩:=H.rm i hi
  exact⟨r1,r2.kept hg (by simp;omega),r3,r4.kept hg (by simp;omega)⟩
 ·intro i j' hij hj'
  exact H.nn i j' hij (by simpa using hj')
 ·intro i j' hi hj'
  exact H.nm i j' (by simpa using hi) hj'
theorem OwnC.name(H:OwnC x G g0 g1 g2 g3 h ha hd w)(k:Nat)(s:ByteArray):
 OwnC { x with names:=x.names.set k s } G g0 g1 g2 g3 h ha hd (w.setCell ⟨g1,k,none⟩ (.string s)):=by
 have hg:=grown_set w g1 k (.string s)
 have hl:=H.low
 refine⟨H.low,H.f0.kept hg (by simp;omega),?_,H.f2.kept hg (by simp;omega),H.f3.kept hg (by simp;omega),?_,?_,H.nn,H.nm,H.mm,H.ml⟩
 ·show Fr _ _ _ ((x.names.set k s).map Value.string)
  rw[List.map_set]
  exact H.f1.set _ _
 ·intro i hi
  have hh:=(H.rn i hi).1
  exact⟨hh,(H.rn i hi).2.kept hg (by simp;omega)⟩
 ·intro i hi
  obtain⟨r1,r2,r3,r4⟩:=H.rm i hi
  exact⟨r1,r2.kept hg (by simp;omega),r3,r4.kept hg (by simp;omega)⟩
end
section
variable (A0 A1 A2 A3:Option Addr) (n n1 m n3 c0 c1 c2 c3:Nat)
theorem isnode_any(i:Int)(w:World)(hn:n≤maxLen):Calls Tryd.prog 30 #[.agg #[.slice A0 n c0,.slice A1 n1 c1,.slice A2 m c2,.slice A3 n3 c3],.int .i64 i] w fun e w'=>e=.returned (.bool (isIdx n i))∧BelW w w':=by
 obtain⟨W1,HW1⟩:=named (w.alloc (.cells #[.slice A0 n c0,.slice A1 n1 c1,.slice A2 m c2,.slice A3 n3 c3] 27))
 have hb1:BelW w W1:=by rw[HW1.out];exact below_new (Below.refl _ _) _
 have hf:Fr W1 w.heap.size 27 [.slice A0 n c0,.slice A1 n1 c1,.slice A2 m c2,.slice A3 n3 c3]:=by rw[HW1.out];exact Fr.made _ _ _ rfl
 obtain⟨r,HR⟩:=named (isIdx n i)
 rw[←HR.out]
 have hr:r=(decide (0≤i)&&decide (i<(n:Int))):=HR.out
 have x0:=hf.cell 0
 have HB1:=Lib.hid hb1
 unfold maxLen at hn
 clear hb1 hf HR
 go_enter Tryd.func30,Tryd.ntmps30
 go_upto_region 1 with (fail)
 rw[←HW1.out]
 by_cases h0:0≤i
 ·have q0:decide (0≤i)=true:=by simpa using h0
  by_cases h1:i<(n:Int)
  ·have q1:decide (i<(n:Int))=true:=by simpa using h1
   obtain rfl:r=true:=by rw[hr,q0,q1];rfl
   clear hr
   go_wp2
   go_ret
   exact⟨rfl,HB1.out⟩
  ·have q1:decide (i<(n:Int))=false:=by simpa using h1
   obtain rfl:r=false:=by rw[hr,q0,q1];rfl
   clear hr
   go_wp2
   go_ret
   exact⟨rfl,HB1.out⟩
 ·have q0:decide (0≤i)=false:=by simpa using h0
  obtain rfl:r=false:=by rw[hr,q0];rfl
  clear hr
  go_wp2
  go_ret
  exact⟨rfl,HB1.out⟩
theorem check1_any(i:Int)(q:Nat)(W:World)(hn:n≤maxLen)(hq:W.cell? ⟨q,0,none⟩=some (.slice A0 n c0)∧W.cell? ⟨q,1,none⟩=some (.slice A1 n1 c1)∧W.cell? ⟨q,2,none⟩=some (.slice A2 m c2)∧W.cell? ⟨q,3,none⟩=some (.slice A3 n3 c3)):
 Calls Tryd.prog 52 #[.int .i64 i,.pointer (some ⟨q,0,none⟩)] W fun e w'=>e=.returned (.bool (!isIdx n i))∧BelW W w':=by
 obtain⟨x0,x1,x2,x3⟩:=hq
 obtain⟨r,HR⟩:=named (isIdx n i)
 have HN:=Lib.hid (isnode_any A0 A1 A2 A3 n n1 m n3 c0 c1 c2 c3 i W hn)
 rw[←HR.out]at HN
 rw[←HR.out]
 clear HR
 go_enter Tryd.func52,Tryd.ntmps52
 go_wp2_with (go_at_call 30;(with_reducible refine HN.out.mono ?_);rintro e w2 ⟨rfl,hb⟩;have HB:=Lib.hid hb;clear hb)
 go_ret
 exact⟨by cases r<;>rfl,HB.out⟩
def badI(n:Nat)(x:Int):Bool:= !isIdx n x
set_option maxHeartbeats 2000000 in
theorem indexC_any(l:List Int)(s:Value)(q:Nat)(w:World)(B:Nat)(hB:B≤w.heap.size)(hs:Is w B s l)(hn:n≤maxLen)(hq:∀W,BelW w W→W.cell? ⟨q,0,none⟩=some (.slice A0 n c0)∧W.cell? ⟨q,1,none⟩=some (.slice A1 n1 c1)∧W.cell? ⟨q,2,none⟩=some (.slice A2 m c2)∧W.cell? ⟨q,3,none⟩=some (.slice A3 n3 c3)):
 Calls Tryd.prog 74 #[s,.func (.func 52) #[] #[.pointer (some ⟨q,0,none⟩)]] w fun e w'=>∃i:Int,e=.returned (.int .i64 i)∧(0≤i↔anyP (badI n) l=true)∧BelW w w':=by
 obtain⟨A,b,o,c,rfl,hA,-,hm,hc⟩:=hs.opens
 unfold maxLen at hm
 have HC:=Lib.hid hc
 have HAA:=Lib.hid hA
 have HAB:=Lib.hid (fun(x:Int) W (h:BelW w W)=>check1_any A0 A1 A2 A3 n n1 m n3 c0 c1 c2 c3 x q W hn (hq W h))
 clear hc hA hs hq
 obtain⟨k0,hk0⟩:∃n,n=l.length:=⟨_,rfl⟩
 rw[←hk0]at hm
 rw[←hk0]
 have HN:=Lib.hid hk0
 clear hk0
 go_enter Tryd.func74,Tryd.ntmps74
 go_wp2
 go_loopw [8] (fun i wr=>BelW w wr∧∃k:Nat,k≤k0∧i=.int .i64 k∧Hid (∀j,j<k→badI n (l.getD j 0)=false)) (fun i _=>k0-(intOf i).toNat)
 case atStart=>exact⟨Below.refl _ _,0,Nat.zero_le _,rfl,Lib.hid fun j hj=>absurd hj (by omega)⟩
 case round=>
  obtain⟨hb,k,hk,rfl,HNO⟩:=hrel
  by_cases hlt:k<k0
  ·obtain rfl:=HAA.out (by rw[←HN.out];omega)
   have hcc:=HC.out k (by rw[←HN.out];omega)
   have hcell:=(hb.cell (p:=⟨b,o+k,none⟩) (by have:=hcc.1;show b<w.heap.size;omega)).trans hcc.2
   clear hcc
   obtain⟨y,HX⟩:=named (l.getD k 0)
   rw[←HX.out]at hcell
   have HA1:=Lib.hid (HAB.out y wr hb)
   have HB:=Lib.hid hb
   clear hb
   cases hv:isIdx n y
   ·have HV:=Lib.hid hv
    rw[hv]at HA1
    go_wp2_with (go_at_call 52;(with_reducible refine HA1.out.mono ?_);rintro e w' ⟨rfl,hb2⟩;have HB2:=Lib.hid hb2;clear hb2)
    go_ret
    exact⟨k,rfl,⟨fun _=>anyP_yes k (by rw[←HN.out];omega) (by rw[←HX.out];unfold badI;rw[HV.out];rfl),fun _=>by omega⟩,joinB HB.out HB2.out⟩
   ·have HV:=Lib.hid hv
    rw[hv]at HA1
    go_wp2_with (go_at_call 52;(with_reducible refine HA1.out.mono ?_);rintro e w' ⟨rfl,hb2⟩;have HB2:=Lib.hid hb2;clear hb2)
    go_roundw
    case rel=>
     refine⟨joinB HB.out HB2.out,k+1,by omega,by go_num,Lib.hid fun j hj=>?_⟩
     by_cases hjk:j=k
     ·rw[hjk,←HX.out];unfold badI;rw[HV.out];rfl
     ·exact HNO.out j (by omega)
    case measure=>simp[intOf];omega
  ·have HB:=Lib.hid hb
   clear hb
   go_wp2
   go_ret
   exact⟨-1,rfl,⟨fun h=>absurd h (by omega),fun h=>by rw[anyP_no (fun j hj=>HNO.out j (by rw[←HN.out]at hj;omega))]at h;cases h⟩,HB.out⟩
theorem containsC_any(l:List Int)(s:Value)(q:Nat)(w:World)(B:Nat)(hB:B≤w.heap.size)(hs:Is w B s l)(hn:n≤maxLen)(hq:∀W,BelW w W→W.cell? ⟨q,0,none⟩=some (.slice A0 n c0)∧W.cell? ⟨q,1,none⟩=some (.slice A1 n1 c1)∧W.cell? ⟨q,2,none⟩=some (.slice A2 m c2)∧W.cell? ⟨q,3,none⟩=some (.slice A3 n3 c3)):
 Calls Tryd.prog 51 #[s,.func (.func 52) #[] #[.pointer (some ⟨q,0,none⟩)]] w fun e w'=>e=.returned (.bool (anyP (badI n) l))∧BelW w w':=by
 obtain⟨y,HY⟩:=named (anyP (badI n) l)
 rw[←HY.out]
 have HI:=Lib.hid (indexC_any A0 A1 A2 A3 n n1 m n3 c0 c1 c2 c3 l s q w B hB hs hn hq)
 clear hs hq
 rw[←HY.out]at HI
 go_enter Tryd.func51,Tryd.ntmps51
 go_wp2_with (go_at_call 74;(with_reducible refine HI.out.mono ?_);rintro e w' ⟨i,rfl,hi,hb⟩;have HI2:=Lib.hid (And.intro hi hb);clear hi hb)
 go_ret
 exact⟨ret_bool (Bool.eq_iff_iff.2 (by simpa using HI2.out.1)),HI2.out.2⟩
end
noncomputable def ckI (c:Ck) (l:List Int):Int:=if chkErr c=0 then (if anyP (badI c.nodes.length) l=true then 1 else 0) else chkErr c
set_option maxHeartbeats 2000000 in
theorem check5_any(c:Ck)(l:List Int)(s:Value)(A0 A1 A2 A3:Option Addr)(n n1 m n3 c0 c1 c2 c3:Nat)(w:World)(hT:Tabs w)(hC:Cir w w.heap.size (.agg #[.slice A0 n c0,.slice A1 n1 c1,.slice A2 m c2,.slice A3 n3 c3]) c)(hs:Is w w.heap.size s l):
 Calls Tryd.prog 25 #[.agg #[.slice A0 n c0,.slice A1 n1 c1,.slice A2 m c2,.slice A3 n3 c3],s] w fun e w'=>e=.returned (.int .i64 (ckI c l))∧BelW w w':=by
 have hl:c.nodes.length=n∧n≤maxLen:=by
  obtain⟨v0,v1,v2,v3,e,h0,-⟩:=id hC
  simp only[Value.agg.injEq,Array.mk.injEq,List.cons.injEq,and_true]at e
  obtain⟨rfl,-⟩:=e
  have h2:=Arr.len h0
  obtain⟨_,_,_,_,g0,-⟩:=h0
  simp only[Value.slice.injEq]at g0
  exact⟨g0.2.1.symm,by rw[g0.2.1];exact h2⟩
 obtain⟨W1,HW1⟩:=named (w.alloc (.cells #[.slice A0 n c0,.slice A1 n1 c1,.slice A2 m c2,.slice A3 n3 c3] 27))
 have hb1:BelW w W1:=by rw[HW1.out];exact below_new (Below.refl _ _) _
 have hf:Fr W1 w.heap.size 27 [.slice A0 n c0,.slice A1 n1 c1,.slice A2 m c2,.slice A3 n3 c3]:=by rw[HW1.out];exact Fr.made _ _ _ rfl
 obtain⟨q,HQ⟩:=named w.heap.size
 rw[←HQ.out]at hf
 have hce:∀W,BelW W1 W→W.cell? ⟨q,0,none⟩=some (.slice A0 n c0)∧W.cell? ⟨q,1,none⟩=some (.slice A1 n1 c1)∧W.cell? ⟨q,2,none⟩=some (.slice A2 m c2)∧W.cell? ⟨q,3,none⟩=some (.slice A3 n3 c3):=fun W h=>⟨(hf.below h).cell 0,(hf.below h).cell 1,(hf.below h).cell 2,(hf.below h).cell 3⟩
 have HCE:=Lib.hid hce
 have HCH:Hid (Calls Tryd.prog 50 #[.agg #[.slice A0 n c0,.slice A1 n1 c1,.slice A2 m c2,.slice A3 n3 c3]] W1 fun e w'=>e=.returned (.int .i64 (chkErr c))∧BelW W1 w'):=Lib.hid ((check_any c _ W1 W1.heap.size (Nat.le_refl _) (hT.below hb1) ((hC.below hb1).more (Below.size hb1))).mono fun e w' h=>⟨h.1,h.2⟩)
 have HCO:Hid (∀W,BelW W1 W→Calls Tryd.prog 51 #[s,.func (.func 52) #[] #[.pointer (some ⟨q,0,none⟩)]] W fun e w'=>e=.returned (.bool (anyP (badI c.nodes.length) l))∧BelW W w'):=Lib.hid fun W h=>by
  rw[hl.1]
  exact containsC_any A0 A1 A2 A3 n n1 m n3 c0 c1 c2 c3 l s q W W.heap.size (Nat.le_refl _) ((hs.below (joinB hb1 h)).more (Below.size (joinB hb1 h))) hl.2 fun W' h'=>hce W' (joinB h h')
 obtain⟨r,HR⟩:=named (ckI c l)
 rw[←HR.out]
 have HR2:Hid (r=if chkErr c=0 then (if anyP (badI c.nodes.length) l=true then 1 else 0) else chkErr c):=Lib.hid HR.out
 obtain⟨z,HZ⟩:=named (chkErr c)
 rw[←HZ.out]at HR2 HCH
 obtain⟨y,HY⟩:=named (anyP (badI c.nodes.length) l)
 rw[←HY.out]at HR2 HCO
 have HB1:=Lib.hid hb1
 have HQ2:=Lib.hid HQ.out
 clear hT hC hs hl hf hb1 hce HR HZ HY
 go_enter Tryd.func25,Tryd.ntmps25
 go_upto_region 1 with (fail)
 rw[←HW1.out,←HQ2.out]
 obtain⟨x0,x1,x2,x3⟩:=HCE.out W1 (Below.refl _ _)
 go_upto_region 2 with (go_at_call 50;(with_reducible refine HCH.out.mono ?_);rintro e w2 ⟨rfl,hb⟩;have HB2:=Lib.hid hb;clear hb x0 x1 x2 x3)
 by_cases hz:z=0
 ·subst hz
  have HRY:Hid (r=if y=true then 1 else 0):=Lib.hid (by have:=HR2.out;simpa using this)
  clear HR2
  cases y
  ·obtain rfl:r=0:=by simpa using HRY.out
   go_wp2_with (go_at_call 51;(with_reducible refine (HCO.out _ HB2.out).mono ?_);rintro e w3 ⟨rfl,hb⟩;have HB3:=Lib.hid hb;clear hb)
   go_ret
   exact⟨rfl,joinB HB1.out (joinB HB2.out HB3.out)⟩
  ·obtain rfl:r=1:=by simpa using HRY.out
   go_wp2_with (go_at_call 51;(with_reducible refine (HCO.out _ HB2.out).mono ?_);rintro e w3 ⟨rfl,hb⟩;have HB3:=Lib.hid hb;clear hb)
   go_ret
   exact⟨rfl,joinB HB1.out (joinB HB2.out HB3.out)⟩
 ·obtain rfl:r=z:=by rw[HR2.out,if_neg hz]
  have q0:(r != 0)=true:=by simpa using hz
  have q1:(r==0)=false:=by simpa using hz
  clear HR2 hz
  go_wp2
  go_ret
  exact⟨rfl,joinB HB1.out HB2.out⟩
end Go.Proofs.YtjdjcaobkmpoeaaDoor
