/- The texts Cpy Own Kck. -/
import Derived.Test.YtckgnoopjapknaaDoorM14
import Derived.Deep.DeepCutAuto
import Derived.Deep.CutBlock
import Derived.Deep.RegionHeld3
import Derived.Deep.OwnRows
import Derived.Test.YtckgnoopjapknaaDoorM09
import Derived.Test.YtckgnoopjapknaaDoorM10
namespace Go.Proofs.YtckgnoopjapknaaDoor
open Go.RowKit
theorem Fr.alloc{w:World}{g:Nat}{t:TypeId}{cs:List Value}(h:Fr w g t cs)(o:Obj):Fr (w.alloc o) g t cs:=h.below ((Below.refl _ _).alloc (Nat.le_refl _) o)
theorem Fr.drew{w:World}{g:Nat}{t:TypeId}{cs:List Value}(h:Fr w g t cs):Fr w.drew g t cs:=h
theorem Fr.other{w:World}{g:Nat}{t:TypeId}{cs:List Value}(h:Fr w g t cs){a:Addr}(ha:a.block≠g)(v:Value):Fr (w.setCell a v) g t cs:=
 h.kept (row:=some a.block) ⟨rfl,rfl,rfl,by simp[World.setCell],fun i _ hne=>Below.heap_setCell _ _ _ _ (fun e=>hne (by rw[e]))⟩ (fun e=>ha (by injection e with e;exact e.symm))
def BelW(w w':World):Prop:=Below w.heap.size w w'
theorem BelW.next{w w1 w2:World}(h:BelW w w1)(hb:Below w1.heap.size w1 w2):BelW w w2:=joinB h hb
theorem BelW.trans{w w1 w2:World}(h:BelW w w1)(hb:BelW w1 w2):BelW w w2:=joinB h hb
theorem BelW.alloc{w w1:World}(h:BelW w w1)(o:Obj):BelW w (w1.alloc o):=below_new h o
theorem BelW.drew{w w1:World}(h:BelW w w1):BelW w w1.drew:=Below.drew h
theorem BelW.set{w w1:World}(h:BelW w w1){a:Addr}(ha:w.heap.size≤a.block)(v:Value):BelW w (w1.setCell a v):=Below.setCell h ha v
structure Cp1(n0 n1 n2 n3:Nat)(w:World)(b0 o0 b1 o1 b2 o2 b3 o3:Nat)(D g0 g1 g2 g3:Nat)(wx:World):Prop where
 bel:BelW w wx
 low:w.heap.size+1<g0∧g0<g1∧g1<g2∧g2<g3∧w.heap.size+1<D∧D≠g0∧D≠g1∧D≠g2∧D≠g3
 f0:Fr wx g0 64 (rdC w b0 o0 (n0*4))
 f1:Fr wx g1 9 (rdC w b1 o1 (n1*1))
 f2:Fr wx g2 80 (rdC w b2 o2 (n2*3))
 f3:Fr wx g3 3 (rdC w b3 o3 (n3*1))
 fd:Fr wx D 27 [.slice (some ⟨g0,0,none⟩) n0 n0,.slice (some ⟨g1,0,none⟩) n1 n1,.slice (some ⟨g2,0,none⟩) n2 n2,.slice (some ⟨g3,0,none⟩) n3 n3]
 fr:Fr wx (w.heap.size+1) 27 [.slice none 0 0,.slice none 0 0,.slice none 0 0,.slice none 0 0]
theorem BelW.set4{w w1:World}{D:Nat}(h:BelW w w1)(hD:w.heap.size≤D)(a b c d:Value):
 BelW w ((((w1.setCell ⟨D,0,none⟩ a).setCell ⟨D,1,none⟩ b).setCell ⟨D,2,none⟩ c).setCell ⟨D,3,none⟩ d):=(((h.set hD a).set hD b).set hD c).set hD d
theorem Fr.set4{w:World}{D:Nat}{t:TypeId}{x y z u:Value}(h:Fr w D t [x,y,z,u])(a b c d:Value):
 Fr ((((w.setCell ⟨D,0,none⟩ a).setCell ⟨D,1,none⟩ b).setCell ⟨D,2,none⟩ c).setCell ⟨D,3,none⟩ d) D t [a,b,c,d]:=(((h.set 0 a).set 1 b).set 2 c).set 3 d
theorem Fr.made(w:World)(cs:List Value)(t:TypeId){g:Nat}(hg:g=w.heap.size):Fr (w.alloc (.cells cs.toArray t)) g t cs:=by
 subst hg;unfold Fr;exact heap_alloc_new _ _
structure SzOk(c:Ck):Prop where
 n:c.nodes.length≤1000000
 s:c.names.length≤1000000
 m:c.mems.length≤1000000
 o:c.outs.length≤1000000
 i:∀k,k<c.nodes.length→(c.nodes.getD k default).ins.length≤17592186044416
 a:∀k,k<c.mems.length→(c.mems.getD k default).addr.length≤17592186044416
 d:∀k,k<c.mems.length→(c.mems.getD k default).data.length≤17592186044416
structure Nd1(c:Ck)(w:World)(D g0 g1 g2 g3 n0 n1 n2 n3 T:Nat)(sN sA sD:Nat→Value)(k:Nat)(h:Nat→Nat)(wr:World):Prop where
 bel:BelW w wr
 top:T≤wr.heap.size
 f0:Fr wr g0 64 (ndC c.nodes h sN k)
 f1:Fr wr g1 9 (c.names.map Value.string)
 f2:Fr wr g2 80 (mmC c.mems (fun _=>0) (fun _=>0) sA sD 0)
 f3:Fr wr g3 3 (c.outs.map (Value.int .i64))
 fd:Fr wr D 27 [.slice (some ⟨g0,0,none⟩) n0 n0,.slice (some ⟨g1,0,none⟩) n1 n1,.slice (some ⟨g2,0,none⟩) n2 n2,.slice (some ⟨g3,0,none⟩) n3 n3]
 fr:Fr wr (w.heap.size+1) 27 [.slice none 0 0,.slice none 0 0,.slice none 0 0,.slice none 0 0]
 rows:∀j,j<k→T≤h j∧Row wr (h j) (c.nodes.getD j default).ins
 inc:∀i j,i<j→j<k→h i<h j
theorem Row.other{w:World}{g:Nat}{l:List Int}(h:Row w g l){a:Addr}(ha:a.block≠g)(v:Value):Row (w.setCell a v) g l:=
 h.kept (row:=some a.block) ⟨rfl,rfl,rfl,by simp[World.setCell],fun i _ hne=>Below.heap_setCell _ _ _ _ (fun e=>hne (by rw[e]))⟩ (fun e=>ha (by injection e with e;exact e.symm))
theorem Nd1.step{c:Ck}{w:World}{D g0 g1 g2 g3 n0 n1 n2 n3 T:Nat}{sN sA sD:Nat→Value}{k:Nat}{h:Nat→Nat}{wr w1:World}(hnd:Nd1 c w D g0 g1 g2 g3 n0 n1 n2 n3 T sN sA sD k h wr)
 (hk:k<c.nodes.length) (hb:BelW wr w1) {y:Nat} (hy:wr.heap.size≤y) (hr:Row w1 y (c.nodes.getD k default).ins)
 (h0:w.heap.size+1<g0) (h1:g0<g1) (h2:g1<g2) (h3:g2<g3) (h4:g3<T) (hD:D≠g0):
 Nd1 c w D g0 g1 g2 g3 n0 n1 n2 n3 T sN sA sD (k+1) (fun i=>if i=k then y else h i) (w1.setCell ⟨g0,k*4+1,none⟩ (.slice (some ⟨y,0,none⟩) (c.nodes.getD k default).ins.length (c.nodes.getD k default).ins.length)):=by
 have ht:=hnd.top
 have hlt:∀j,j<k→h j<wr.heap.size:=fun j hj=>(hnd.rows j hj).2.lt
 refine⟨(hnd.bel.trans hb).set (by show w.heap.size≤g0;omega) _,?_,?_,Fr.other (Fr.below hnd.f1 hb) (by show g0≠g1;omega) _,Fr.other (Fr.below hnd.f2 hb) (by show g0≠g2;omega) _,Fr.other (Fr.below hnd.f3 hb) (by show g0≠g3;omega) _,Fr.other (Fr.below hnd.fd hb) (by show g0≠D;omega) _,Fr.other (Fr.below hnd.fr hb) (by show g0≠w.heap.size+1;omega) _,fun j hj=>?_,fun i j hij hj=>?_⟩
 ·have:=hb.size
  simp only[World.size_setCell];omega
 ·rw[←ndC_set hk]
  exact (Fr.below hnd.f0 hb).set _ _
 ·by_cases e:j=k
  ·subst e
   rw[if_pos rfl]
   exact⟨by omega,hr.other (by show g0≠y;omega) _⟩
  ·rw[if_neg e]
   have hj':=hnd.rows j (by omega)
   exact⟨hj'.1,(hj'.2.below hb).other (by show g0≠h j;omega) _⟩
 ·have hi:i≠k:=by omega
  rw[if_neg hi]
  by_cases e:j=k
  ·rw[if_pos e];have:=hlt i (by omega);omega
  ·rw[if_neg e];exact hnd.inc i j hij (by omega)
structure Nd2(c:Ck)(w:World)(D g0 g1 g2 g3 n0 n1 n2 n3 T:Nat)(sN sA sD:Nat→Value)(h:Nat→Nat)(k:Nat)(ha hd:Nat→Nat)(wr:World):Prop where
 bel:BelW w wr
 top:T≤wr.heap.size
 f0:Fr wr g0 64 (ndC c.nodes h sN c.nodes.length)
 f1:Fr wr g1 9 (c.names.map Value.string)
 f2:Fr wr g2 80 (mmC c.mems ha hd sA sD k)
 f3:Fr wr g3 3 (c.outs.map (Value.int .i64))
 fd:Fr wr D 27 [.slice (some ⟨g0,0,none⟩) n0 n0,.slice (some ⟨g1,0,none⟩) n1 n1,.slice (some ⟨g2,0,none⟩) n2 n2,.slice (some ⟨g3,0,none⟩) n3 n3]
 fr:Fr wr (w.heap.size+1) 27 [.slice none 0 0,.slice none 0 0,.slice none 0 0,.slice none 0 0]
 rows:∀j,j<c.nodes.length→T≤h j∧Row wr (h j) (c.nodes.getD j default).ins
 inc:∀i j,i<j→j<c.nodes.length→h i<h j
 mrows:∀j,j<k→T≤ha j∧Row wr (ha j) (c.mems.getD j default).addr∧ha j<hd j∧Row wr (hd j) (c.mems.getD j default).data
 nm:∀i j,i<c.nodes.length→j<k→h i<ha j
 ml:∀i j,i<j→j<k→hd i<ha j
theorem Nd2.step{c:Ck}{w:World}{D g0 g1 g2 g3 n0 n1 n2 n3 T:Nat}{sN sA sD:Nat→Value}{h:Nat→Nat}{k:Nat}{ha hd:Nat→Nat}{wr w2:World}(hnd:Nd2 c w D g0 g1 g2 g3 n0 n1 n2 n3 T sN sA sD h k ha hd wr)
 (hk:k<c.mems.length) (hb:BelW wr w2) {y z:Nat} (hy:wr.heap.size≤y) (hyz:y<z) (hr:Row w2 y (c.mems.getD k default).addr) (hs:Row w2 z (c.mems.getD k default).data)
 (h0:w.heap.size+1<g0) (h1:g0<g1) (h2:g1<g2) (h3:g2<g3) (h4:g3<T) (hD:D≠g2):
 Nd2 c w D g0 g1 g2 g3 n0 n1 n2 n3 T sN sA sD h (k+1) (fun i=>if i=k then y else ha i) (fun i=>if i=k then z else hd i) ((w2.setCell ⟨g2,k*3,none⟩ (.slice (some ⟨y,0,none⟩) (c.mems.getD k default).addr.length (c.mems.getD k default).addr.length)).setCell ⟨g2,k*3+1,none⟩ (.slice (some ⟨z,0,none⟩) (c.mems.getD k default).data.length (c.mems.getD k default).data.length)):=by
 have ht:=hnd.top
 have hlt:∀j,j<c.nodes.length→h j<wr.heap.size:=fun j hj=>(hnd.rows j hj).2.lt
 have hlm:∀j,j<k→hd j<wr.heap.size:=fun j hj=>(hnd.mrows j hj).2.2.2.lt
 have fo:∀ {g:Nat} {t:TypeId} {cs:List Value} {p q:Nat} {u v:Value},g≠g2→Fr wr g t cs→Fr ((w2.setCell ⟨g2,p,none⟩ u).setCell ⟨g2,q,none⟩ v) g t cs:=fun hne hf=>((Fr.below hf hb).other (fun e=>hne e.symm) _).other (fun e=>hne e.symm) _
 have ro:∀ {g:Nat} {l:List Int} {p q:Nat} {u v:Value},g≠g2→Row w2 g l→Row ((w2.setCell ⟨g2,p,none⟩ u).setCell ⟨g2,q,none⟩ v) g l:=fun hne hf=>(hf.other (fun e=>hne e.symm) _).other (fun e=>hne e.symm) _
 refine⟨((hnd.bel.trans hb).set (by show w.heap.size≤g2;omega) _).set (by show w.heap.size≤g2;omega) _,?_,fo (by omega) hnd.f0,fo (by omega) hnd.f1,?_,fo (by omega) hnd.f3,fo hD hnd.fd,fo (by omega) hnd.fr,fun j hj=>?_,hnd.inc,fun j hj=>?_,fun i j hi hj=>?_,fun i j hij hj=>?_⟩
 ·have:=hb.size
  simp only[World.size_setCell];omega
 ·rw[←mmC_set hk]
  exact ((Fr.below hnd.f2 hb).set _ _).set _ _
 ·have hj':=hnd.rows j hj
  exact⟨hj'.1,ro (by omega) (hj'.2.below hb)⟩
 ·by_cases e:j=k
  ·subst e
   rw[if_pos rfl,if_pos rfl]
   exact⟨by omega,ro (by omega) hr,hyz,ro (by omega) hs⟩
  ·rw[if_neg e,if_neg e]
   obtain⟨q1,q2,q3,q4⟩:=hnd.mrows j (by omega)
   exact⟨q1,ro (by omega) (q2.below hb),q3,ro (by omega) (q4.below hb)⟩
 ·by_cases e:j=k
  ·rw[if_pos e];have:=hlt i hi;omega
  ·rw[if_neg e];exact hnd.nm i j hi (by omega)
 ·have hi:i≠k:=by omega
  rw[if_neg hi]
  by_cases e:j=k
  ·rw[if_pos e];have:=hlm i (by omega);omega
  ·rw[if_neg e];exact hnd.ml i j hij (by omega)
structure Fit(x:Ck):Prop where
 n:x.nodes.length≤maxLen
 s:x.names.length≤maxLen
 m:x.mems.length≤maxLen
 o:x.outs.length≤maxLen
 k:∀i,i<x.nodes.length→0≤(x.nodes.getD i default).kind∧(x.nodes.getD i default).kind≤255∧(x.nodes.getD i default).ins.length≤maxLen
 t:∀i,i<x.names.length→(x.names.getD i ByteArray.empty).size≤maxLen
 a:∀i,i<x.mems.length→(x.mems.getD i default).addr.length≤maxLen∧(x.mems.getD i default).data.length≤maxLen
theorem Arr.len{α:Type}{d:α}{sz:Nat}{R:World→Nat→Nat→Nat→α→Prop}{w:World}{B:Nat}{v:Value}{l:List α}(h:Arr d sz R w B v l):l.length≤maxLen:=by
 obtain⟨_,_,_,_,-,-,-,h4,-⟩:=h
 exact h4
theorem Row.is{w:World}{g:Nat}{l:List Int}(h:Row w g l)(hm:l.length≤maxLen):Is w w.heap.size (.slice (some ⟨g,0,none⟩) l.length l.length) l:=
 ⟨_,g,0,_,rfl,fun _=>rfl,Nat.le_refl _,hm,fun k hk=>⟨h.lt,by
  show World.cell? _ _=_
  rw[Nat.zero_add,Nat.mul_one,h.cell hk]
  rfl⟩⟩
def ownV(x:Ck)(g0 g1 g2 g3:Nat):Value:=
 .agg #[.slice (some ⟨g0,0,none⟩) x.nodes.length x.nodes.length,.slice (some ⟨g1,0,none⟩) x.names.length x.names.length,.slice (some ⟨g2,0,none⟩) x.mems.length x.mems.length,.slice (some ⟨g3,0,none⟩) x.outs.length x.outs.length]
section
variable {x:Ck} {G g0 g1 g2 g3:Nat} {h ha hd:Nat→Nat} {w w':World}
theorem OwnC.cir(H:OwnC x G g0 g1 g2 g3 h ha hd w)(F:Fit x):Cir w w.heap.size (ownV x g0 g1 g2 g3) x:=by
 refine⟨_,_,_,_,rfl,?_,?_,?_,H.f3.is F.o⟩
 ·refine⟨_,g0,0,_,rfl,fun _=>rfl,Nat.le_refl _,F.n,fun k hk=>⟨H.f0.lt,?_⟩⟩
  obtain⟨k1,k2,k3⟩:=F.k k hk
  refine⟨_,?_,?_,?_,?_,(H.rn k hk).2.is k3,k1,k2⟩
  ·rw[Nat.zero_add,H.f0.cell,ndC_get (by omega),ndF_0]
  ·rw[Nat.zero_add,H.f0.cell,ndC_get (by omega),ndF_1,if_pos hk]
  ·rw[Nat.zero_add,H.f0.cell,ndC_get (by omega),ndF_2]
  ·rw[Nat.zero_add,H.f0.cell,ndC_get (by omega),ndF_3]
 ·refine⟨_,g1,0,_,rfl,fun _=>rfl,Nat.le_refl _,F.s,fun k hk=>⟨H.f1.lt,?_,F.t k hk⟩⟩
  rw[Nat.zero_add,Nat.mul_one,H.f1.cell]
  simp[hk,List.getD_eq_getElem?_getD]
 ·refine⟨_,g2,0,_,rfl,fun _=>rfl,Nat.le_refl _,F.m,fun k hk=>⟨H.f2.lt,?_⟩⟩
  obtain⟨k1,k2⟩:=F.a k hk
  obtain⟨-,r1,-,r2⟩:=H.rm k hk
  refine⟨_,_,?_,?_,?_,r1.is k1,r2.is k2⟩
  ·rw[Nat.zero_add,H.f2.cell,mmC_get (by omega),mmF_0,if_pos hk]
  ·rw[Nat.zero_add,H.f2.cell,mmC_get (by omega),mmF_1,if_pos hk]
  ·rw[Nat.zero_add,H.f2.cell,mmC_get (by omega),mmF_2]
theorem OwnC.below(H:OwnC x G g0 g1 g2 g3 h ha hd w)(hb:Below w.heap.size w w'):OwnC x G g0 g1 g2 g3 h ha hd w':=
 ⟨H.low,H.f0.below hb,H.f1.below hb,H.f2.below hb,H.f3.below hb,fun k hk=>⟨(H.rn k hk).1,(H.rn k hk).2.below hb⟩,
  fun k hk=>⟨(H.rm k hk).1,(H.rm k hk).2.1.below hb,(H.rm k hk).2.2.1,(H.rm k hk).2.2.2.below hb⟩,H.nn,H.nm,H.mm,H.ml⟩
theorem getD_set{α:Type}(l:List α)(k i:Nat)(a d:α)(hk:k<l.length):(l.set k a).getD i d=if i=k then a else l.getD i d:=by
 rw[List.getD_eq_getElem?_getD,List.getD_eq_getElem?_getD,List.getElem?_set]
 by_cases e:k=i
 ·subst e;simp[hk]
 ·rw[if_neg e,if_neg (fun q=>e q.symm)]
theorem ndC_ins(l:List Nd)(k:Nat)(hk:k<l.length)(li:List Int)(hl:li.length=(l.getD k default).ins.length)(o:Nat→Value):
 ndC (l.set k { l.getD k default with ins:=li }) h o (l.set k { l.getD k default with ins:=li }).length=ndC l h o l.length:=by
 apply List.ext_getElem?
 intro j
 by_cases hj:j<l.length*4
 ·rw[ndC_get (by rw[List.length_set];exact hj),ndC_get hj,List.length_set]
  unfold ndF
  rw[getD_set _ _ _ _ _ hk]
  by_cases e:j/4=k
  ·rw[if_pos e,e]
   simp only[hl]
  ·rw[if_neg e]
 ·rw[List.getElem?_eq_none (by simp[ndC_len];omega),List.getElem?_eq_none (by simp[ndC_len];omega)]
theorem ndC_kind(l:List Nd)(k:Nat)(hk:k<l.length)(v:Int)(o:Nat→Value):
 ndC (l.set k { l.getD k default with kind:=v }) h o (l.set k { l.getD k default with kind:=v }).length=(ndC l h o l.length).set (k*4) (.int .u8 v):=by
 apply List.ext_getElem?
 intro j
 rw[List.getElem?_set]
 by_cases hj:j<l.length*4
 ·rw[ndC_get (by rw[List.length_set];exact hj),ndC_get hj,List.length_set]
  by_cases e0:k*4=j
  ·subst e0
   rw[if_pos rfl,if_pos (by simp[ndC_len];omega),ndF_0,getD_set _ _ _ _ _ hk,if_pos rfl]
  ·rw[if_neg e0]
   unfold ndF
   rw[getD_set _ _ _ _ _ hk]
   by_cases e:j/4=k
   ·have h00:¬j%4=0:=by omega
    rw[if_pos e,e,if_neg h00,if_neg h00]
   ·rw[if_neg e]
 ·rw[List.getElem?_eq_none (by simp[ndC_len];omega),List.getElem?_eq_none (by simp[ndC_len];omega),if_neg (by omega)]
theorem OwnC.ins(H:OwnC x G g0 g1 g2 g3 h ha hd w){k:Nat}(hk:k<x.nodes.length)(j:Nat)(v:Int):
 OwnC { x with nodes:=x.nodes.set k { x.nodes.getD k default with ins:=(x.nodes.getD k default).ins.set j v } } G g0 g1 g2 g3 h ha hd (w.setCell ⟨h k,j,none⟩ (.int .i64 v)):=by
 have hg:=grown_set w (h k) j (.int .i64 v)
 have hgk:=(H.rn k hk).1
 have hl:=H.low
 refine⟨H.low,?_,H.f1.kept hg (by simp;omega),H.f2.kept hg (by simp;omega),H.f3.kept hg (by simp;omega),?_,?_,?_,?_,H.mm,H.ml⟩
 ·show Fr _ _ _ (ndC _ _ _ _)
  rw[ndC_ins _ _ hk _ (by simp)]
  exact H.f0.kept hg (by simp;omega)
 ·intro i hi
  have hi':i<x.nodes.length:=by simpa using hi
  refine⟨(H.rn i hi').1,?_⟩
  show Row _ _ ((x.nodes.set k _).getD i default).ins
  rw[getD_set _ _ _ _ _ hk]
  by_cases e:i=k
  ·subst e
   rw[if_pos rfl]
   exact (H.rn i hi').2.set j v
  ·rw[if_neg e]
   refine (H.rn i hi').2.kept hg ?_
   have:h i≠h k:=by
    rcases Nat.lt_or_gt_of_ne e with q|q
    ·have:=H.nn i k q hk;omega
    ·have:=H.nn k i q hi';omega
   simpa using this
 ·intro i hi
  obtain⟨r1,r2,r3,r4⟩:=H.rm i hi
  have n1:=H.nm k i hk hi
  have n2:=H.mm i hi
  exact⟨r1,r2.kept hg (by simp;omega),r3,r4.kept hg (by simp;omega)⟩
 ·intro i j' hij hj'
  exact H.nn i j' hij (by simpa using hj')
 ·intro i j' hi hj'
  exact H.nm i j' (by simpa using hi) hj'
theorem OwnC.kind(H:OwnC x G g0 g1 g2 g3 h ha hd w){k:Nat}(hk:k<x.nodes.length)(v:Int):
 OwnC { x with nodes:=x.nodes.set k { x.nodes.getD k default with kind:=v } } G g0 g1 g2 g3 h ha hd (w.setCell ⟨g0,k*4,none⟩ (.int .u8 v)):=by
 have hg:=grown_set w g0 (k*4) (.int .u8 v)
 have hl:=H.low
 refine⟨H.low,?_,H.f1.kept hg (by simp;omega),H.f2.kept hg (by simp;omega),H.f3.kept hg (by simp;omega),?_,?_,?_,?_,H.mm,H.ml⟩
 ·show Fr _ _ _ (ndC _ _ _ _)
  rw[ndC_kind _ _ hk]
  exact H.f0.set _ _
 ·intro i hi
  have hi':i<x.nodes.length:=by simpa using hi
  have hh:=(H.rn i hi').1
  refine⟨hh,?_⟩
  show Row _ _ ((x.nodes.set k _).getD i default).ins
  have e2:((x.nodes.set k { x.nodes.getD k default with kind:=v }).getD i default).ins=(x.nodes.getD i default).ins:=by
   rw[getD_set _ _ _ _ _ hk]
   by_cases e:i=k
   ·rw[if_pos e,e]
   ·rw[if_neg e]
  rw[e2]
  exact (H.rn i hi').2.kept hg (by simp;omega)
 ·intro i hi
  obtain⟨r1,r2,r3,r4⟩:=H.rm i hi
  exact⟨r1,r2.kept hg (by simp;omega),r3,r4.kept hg (by simp;omega)⟩
 ·intro i j' hij hj'
  exact H.nn i j' hij (by simpa using hj')
 ·intro i j' hi hj'
  exact H.nm i j' (by simpa using hi) hj'
theorem OwnC.name(H:OwnC x G g0 g1 g2 g3 h ha hd w)(k:Nat)(s:ByteArray):
 OwnC { x with names:=x.names.set k s } G g0 g1 g2 g3 h ha hd (w.setCell ⟨g1,k,none⟩ (.string s)):=by
 have hg:=grown_set w g1 k (.string s)
 have hl:=H.low
 refine⟨H.low,H.f0.kept hg (by simp;omega),?_,H.f2.kept hg (by simp;omega),H.f3.kept hg (by simp;omega),?_,?_,H.nn,H.nm,H.mm,H.ml⟩
 ·show Fr _ _ _ ((x.names.set k s).map Value.string)
  rw[List.map_set]
  exact H.f1.set _ _
 ·intro i hi
  have hh:=(H.rn i hi).1
  exact⟨hh,(H.rn i hi).2.kept hg (by simp;omega)⟩
 ·intro i hi
  obtain⟨r1,r2,r3,r4⟩:=H.rm i hi
  exact⟨r1,r2.kept hg (by simp;omega),r3,r4.kept hg (by simp;omega)⟩
end
section
variable (A0 A1 A2 A3:Option Addr) (n n1 m n3 c0 c1 c2 c3:Nat)
theorem isnode_any(i:Int)(w:World)(hn:n≤maxLen):Calls Tryd.prog 43 #[.agg #[.slice A0 n c0,.slice A1 n1 c1,.slice A2 m c2,.slice A3 n3 c3],.int .i64 i] w fun e w'=>e=.returned (.bool (isIdx n i))∧BelW w w':=by
 obtain⟨W1,HW1⟩:=named (w.alloc (.cells #[.slice A0 n c0,.slice A1 n1 c1,.slice A2 m c2,.slice A3 n3 c3] 27))
 have hb1:BelW w W1:=by rw[HW1.out];exact below_new (Below.refl _ _) _
 have hf:Fr W1 w.heap.size 27 [.slice A0 n c0,.slice A1 n1 c1,.slice A2 m c2,.slice A3 n3 c3]:=by rw[HW1.out];exact Fr.made _ _ _ rfl
 obtain⟨r,HR⟩:=named (isIdx n i)
 rw[←HR.out]
 have hr:r=(decide (0≤i)&&decide (i<(n:Int))):=HR.out
 have x0:=hf.cell 0
 have HB1:=Lib.hid hb1
 unfold maxLen at hn
 clear hb1 hf HR
 go_enter Tryd.func43,Tryd.ntmps43
 go_upto_region 1 with (fail)
 rw[←HW1.out]
 by_cases h0:0≤i
 ·have q0:decide (0≤i)=true:=by simpa using h0
  by_cases h1:i<(n:Int)
  ·have q1:decide (i<(n:Int))=true:=by simpa using h1
   obtain rfl:r=true:=by rw[hr,q0,q1];rfl
   clear hr
   go_wp2
   go_ret
   exact⟨rfl,HB1.out⟩
  ·have q1:decide (i<(n:Int))=false:=by simpa using h1
   obtain rfl:r=false:=by rw[hr,q0,q1];rfl
   clear hr
   go_wp2
   go_ret
   exact⟨rfl,HB1.out⟩
 ·have q0:decide (0≤i)=false:=by simpa using h0
  obtain rfl:r=false:=by rw[hr,q0];rfl
  clear hr
  go_wp2
  go_ret
  exact⟨rfl,HB1.out⟩
theorem check1_any(i:Int)(q:Nat)(W:World)(hn:n≤maxLen)(hq:W.cell? ⟨q,0,none⟩=some (.slice A0 n c0)∧W.cell? ⟨q,1,none⟩=some (.slice A1 n1 c1)∧W.cell? ⟨q,2,none⟩=some (.slice A2 m c2)∧W.cell? ⟨q,3,none⟩=some (.slice A3 n3 c3)):
 Calls Tryd.prog 66 #[.int .i64 i,.pointer (some ⟨q,0,none⟩)] W fun e w'=>e=.returned (.bool (!isIdx n i))∧BelW W w':=by
 obtain⟨x0,x1,x2,x3⟩:=hq
 obtain⟨r,HR⟩:=named (isIdx n i)
 have HN:=Lib.hid (isnode_any A0 A1 A2 A3 n n1 m n3 c0 c1 c2 c3 i W hn)
 rw[←HR.out]at HN
 rw[←HR.out]
 clear HR
 go_enter Tryd.func66,Tryd.ntmps66
 go_wp2_with (go_at_call 43;(with_reducible refine HN.out.mono ?_);rintro e w2 ⟨rfl,hb⟩;have HB:=Lib.hid hb;clear hb)
 go_ret
 exact⟨by cases r<;>rfl,HB.out⟩
def badI(n:Nat)(x:Int):Bool:= !isIdx n x
set_option maxHeartbeats 2000000 in
theorem indexC_any(l:List Int)(s:Value)(q:Nat)(w:World)(B:Nat)(hB:B≤w.heap.size)(hs:Is w B s l)(hn:n≤maxLen)(hq:∀W,BelW w W→W.cell? ⟨q,0,none⟩=some (.slice A0 n c0)∧W.cell? ⟨q,1,none⟩=some (.slice A1 n1 c1)∧W.cell? ⟨q,2,none⟩=some (.slice A2 m c2)∧W.cell? ⟨q,3,none⟩=some (.slice A3 n3 c3)):
 Calls Tryd.prog 95 #[s,.func (.func 66) #[] #[.pointer (some ⟨q,0,none⟩)]] w fun e w'=>∃i:Int,e=.returned (.int .i64 i)∧(0≤i↔anyP (badI n) l=true)∧BelW w w':=by
 obtain⟨A,b,o,c,rfl,hA,-,hm,hc⟩:=hs.opens
 unfold maxLen at hm
 have HC:=Lib.hid hc
 have HAA:=Lib.hid hA
 have HAB:=Lib.hid (fun(x:Int) W (h:BelW w W)=>check1_any A0 A1 A2 A3 n n1 m n3 c0 c1 c2 c3 x q W hn (hq W h))
 clear hc hA hs hq
 obtain⟨k0,hk0⟩:∃n,n=l.length:=⟨_,rfl⟩
 rw[←hk0]at hm
 rw[←hk0]
 have HN:=Lib.hid hk0
 clear hk0
 go_enter Tryd.func95,Tryd.ntmps95
 go_wp2
 go_loopw [8] (fun i wr=>BelW w wr∧∃k:Nat,k≤k0∧i=.int .i64 k∧Hid (∀j,j<k→badI n (l.getD j 0)=false)) (fun i _=>k0-(intOf i).toNat)
 case atStart=>exact⟨Below.refl _ _,0,Nat.zero_le _,rfl,Lib.hid fun j hj=>absurd hj (by omega)⟩
 case round=>
  obtain⟨hb,k,hk,rfl,HNO⟩:=hrel
  by_cases hlt:k<k0
  ·obtain rfl:=HAA.out (by rw[←HN.out];omega)
   have hcc:=HC.out k (by rw[←HN.out];omega)
   have hcell:=(hb.cell (p:=⟨b,o+k,none⟩) (by have:=hcc.1;show b<w.heap.size;omega)).trans hcc.2
   clear hcc
   obtain⟨y,HX⟩:=named (l.getD k 0)
   rw[←HX.out]at hcell
   have HA1:=Lib.hid (HAB.out y wr hb)
   have HB:=Lib.hid hb
   clear hb
   cases hv:isIdx n y
   ·have HV:=Lib.hid hv
    rw[hv]at HA1
    go_wp2_with (go_at_call 66;(with_reducible refine HA1.out.mono ?_);rintro e w' ⟨rfl,hb2⟩;have HB2:=Lib.hid hb2;clear hb2)
    go_ret
    exact⟨k,rfl,⟨fun _=>anyP_yes k (by rw[←HN.out];omega) (by rw[←HX.out];unfold badI;rw[HV.out];rfl),fun _=>by omega⟩,joinB HB.out HB2.out⟩
   ·have HV:=Lib.hid hv
    rw[hv]at HA1
    go_wp2_with (go_at_call 66;(with_reducible refine HA1.out.mono ?_);rintro e w' ⟨rfl,hb2⟩;have HB2:=Lib.hid hb2;clear hb2)
    go_roundw
    case rel=>
     refine⟨joinB HB.out HB2.out,k+1,by omega,by go_num,Lib.hid fun j hj=>?_⟩
     by_cases hjk:j=k
     ·rw[hjk,←HX.out];unfold badI;rw[HV.out];rfl
     ·exact HNO.out j (by omega)
    case measure=>simp[intOf];omega
  ·have HB:=Lib.hid hb
   clear hb
   go_wp2
   go_ret
   exact⟨-1,rfl,⟨fun h=>absurd h (by omega),fun h=>by rw[anyP_no (fun j hj=>HNO.out j (by rw[←HN.out]at hj;omega))]at h;cases h⟩,HB.out⟩
theorem containsC_any(l:List Int)(s:Value)(q:Nat)(w:World)(B:Nat)(hB:B≤w.heap.size)(hs:Is w B s l)(hn:n≤maxLen)(hq:∀W,BelW w W→W.cell? ⟨q,0,none⟩=some (.slice A0 n c0)∧W.cell? ⟨q,1,none⟩=some (.slice A1 n1 c1)∧W.cell? ⟨q,2,none⟩=some (.slice A2 m c2)∧W.cell? ⟨q,3,none⟩=some (.slice A3 n3 c3)):
 Calls Tryd.prog 65 #[s,.func (.func 66) #[] #[.pointer (some ⟨q,0,none⟩)]] w fun e w'=>e=.returned (.bool (anyP (badI n) l))∧BelW w w':=by
 obtain⟨y,HY⟩:=named (anyP (badI n) l)
 rw[←HY.out]
 have HI:=Lib.hid (indexC_any A0 A1 A2 A3 n n1 m n3 c0 c1 c2 c3 l s q w B hB hs hn hq)
 clear hs hq
 rw[←HY.out]at HI
 go_enter Tryd.func65,Tryd.ntmps65
 go_wp2_with (go_at_call 95;(with_reducible refine HI.out.mono ?_);rintro e w' ⟨i,rfl,hi,hb⟩;have HI2:=Lib.hid (And.intro hi hb);clear hi hb)
 go_ret
 exact⟨ret_bool (Bool.eq_iff_iff.2 (by simpa using HI2.out.1)),HI2.out.2⟩
end
noncomputable def ckI (c:Ck) (l:List Int):Int:=if chkErr c=0 then (if anyP (badI c.nodes.length) l=true then 1 else 0) else chkErr c
set_option maxHeartbeats 2000000 in
theorem check5_any(c:Ck)(l:List Int)(s:Value)(A0 A1 A2 A3:Option Addr)(n n1 m n3 c0 c1 c2 c3:Nat)(w:World)(hT:Tabs w)(hC:Cir w w.heap.size (.agg #[.slice A0 n c0,.slice A1 n1 c1,.slice A2 m c2,.slice A3 n3 c3]) c)(hs:Is w w.heap.size s l):
 Calls Tryd.prog 38 #[.agg #[.slice A0 n c0,.slice A1 n1 c1,.slice A2 m c2,.slice A3 n3 c3],s] w fun e w'=>e=.returned (.int .i64 (ckI c l))∧BelW w w':=by
 have hl:c.nodes.length=n∧n≤maxLen:=by
  obtain⟨v0,v1,v2,v3,e,h0,-⟩:=id hC
  simp only[Value.agg.injEq,Array.mk.injEq,List.cons.injEq,and_true]at e
  obtain⟨rfl,-⟩:=e
  have h2:=Arr.len h0
  obtain⟨_,_,_,_,g0,-⟩:=h0
  simp only[Value.slice.injEq]at g0
  exact⟨g0.2.1.symm,by rw[g0.2.1];exact h2⟩
 obtain⟨W1,HW1⟩:=named (w.alloc (.cells #[.slice A0 n c0,.slice A1 n1 c1,.slice A2 m c2,.slice A3 n3 c3] 27))
 have hb1:BelW w W1:=by rw[HW1.out];exact below_new (Below.refl _ _) _
 have hf:Fr W1 w.heap.size 27 [.slice A0 n c0,.slice A1 n1 c1,.slice A2 m c2,.slice A3 n3 c3]:=by rw[HW1.out];exact Fr.made _ _ _ rfl
 obtain⟨q,HQ⟩:=named w.heap.size
 rw[←HQ.out]at hf
 have hce:∀W,BelW W1 W→W.cell? ⟨q,0,none⟩=some (.slice A0 n c0)∧W.cell? ⟨q,1,none⟩=some (.slice A1 n1 c1)∧W.cell? ⟨q,2,none⟩=some (.slice A2 m c2)∧W.cell? ⟨q,3,none⟩=some (.slice A3 n3 c3):=fun W h=>⟨(hf.below h).cell 0,(hf.below h).cell 1,(hf.below h).cell 2,(hf.below h).cell 3⟩
 have HCE:=Lib.hid hce
 have HCH:Hid (Calls Tryd.prog 64 #[.agg #[.slice A0 n c0,.slice A1 n1 c1,.slice A2 m c2,.slice A3 n3 c3]] W1 fun e w'=>e=.returned (.int .i64 (chkErr c))∧BelW W1 w'):=Lib.hid ((check_any c _ W1 W1.heap.size (Nat.le_refl _) (hT.below hb1) ((hC.below hb1).more (Below.size hb1))).mono fun e w' h=>⟨h.1,h.2⟩)
 have HCO:Hid (∀W,BelW W1 W→Calls Tryd.prog 65 #[s,.func (.func 66) #[] #[.pointer (some ⟨q,0,none⟩)]] W fun e w'=>e=.returned (.bool (anyP (badI c.nodes.length) l))∧BelW W w'):=Lib.hid fun W h=>by
  rw[hl.1]
  exact containsC_any A0 A1 A2 A3 n n1 m n3 c0 c1 c2 c3 l s q W W.heap.size (Nat.le_refl _) ((hs.below (joinB hb1 h)).more (Below.size (joinB hb1 h))) hl.2 fun W' h'=>hce W' (joinB h h')
 obtain⟨r,HR⟩:=named (ckI c l)
 rw[←HR.out]
 have HR2:Hid (r=if chkErr c=0 then (if anyP (badI c.nodes.length) l=true then 1 else 0) else chkErr c):=Lib.hid HR.out
 obtain⟨z,HZ⟩:=named (chkErr c)
 rw[←HZ.out]at HR2 HCH
 obtain⟨y,HY⟩:=named (anyP (badI c.nodes.length) l)
 rw[←HY.out]at HR2 HCO
 have HB1:=Lib.hid hb1
 have HQ2:=Lib.hid HQ.out
 clear hT hC hs hl hf hb1 hce HR HZ HY
 go_enter Tryd.func38,Tryd.ntmps38
 go_upto_region 1 with (fail)
 rw[←HW1.out,←HQ2.out]
 obtain⟨x0,x1,x2,x3⟩:=HCE.out W1 (Below.refl _ _)
 go_upto_region 2 with (go_at_call 64;(with_reducible refine HCH.out.mono ?_);rintro e w2 ⟨rfl,hb⟩;have HB2:=Lib.hid hb;clear hb x0 x1 x2 x3)
 by_cases hz:z=0
 ·subst hz
  have HRY:Hid (r=if y=true then 1 else 0):=Lib.hid (by have:=HR2.out;simpa using this)
  clear HR2
  cases y
  ·obtain rfl:r=0:=by simpa using HRY.out
   go_wp2_with (go_at_call 65;(with_reducible refine (HCO.out _ HB2.out).mono ?_);rintro e w3 ⟨rfl,hb⟩;have HB3:=Lib.hid hb;clear hb)
   go_ret
   exact⟨rfl,joinB HB1.out (joinB HB2.out HB3.out)⟩
  ·obtain rfl:r=1:=by simpa using HRY.out
   go_wp2_with (go_at_call 65;(with_reducible refine (HCO.out _ HB2.out).mono ?_);rintro e w3 ⟨rfl,hb⟩;have HB3:=Lib.hid hb;clear hb)
   go_ret
   exact⟨rfl,joinB HB1.out (joinB HB2.out HB3.out)⟩
 ·obtain rfl:r=z:=by rw[HR2.out,if_neg hz]
  have q0:(r != 0)=true:=by simpa using hz
  have q1:(r==0)=false:=by simpa using hz
  clear HR2 hz
  go_wp2
  go_ret
  exact⟨rfl,joinB HB1.out HB2.out⟩
end Go.Proofs.YtckgnoopjapknaaDoor
