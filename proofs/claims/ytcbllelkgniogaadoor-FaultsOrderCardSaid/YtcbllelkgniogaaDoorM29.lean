/- The texts Ofs Ofv Hef Lcv. -/
import Derived.Test.YtcbllelkgniogaaDoorM27
import Derived.Test.YtcbllelkgniogaaDoorM28
import Derived.Laws.BytesArg
import Derived.Test.YtcbllelkgniogaaDoorM15
import Derived.Test.YtcbllelkgniogaaDoorM23
import Derived.Test.YtcbllelkgniogaaDoorM26
import Derived.Test.YtcbllelkgniogaaDoorM18
import Derived.Test.YtcbllelkgniogaaDoorM20
import Derived.Deep.DeepCutAuto
import Derived.Deep.CutBlock
import Derived.Deep.RegionHeld3
namespace Go.Proofs.YtcbllelkgniogaaDoor
open Go.RowKit
def GAt(w:World)(_B b p:Nat)(g:Gx):Prop:=w.cell? ⟨b,p,none⟩=some (.int .u8 g.kind)∧w.cell? ⟨b,p+1,none⟩=some (.int .u8 g.i0)∧w.cell? ⟨b,p+2,none⟩=some (.int .u8 g.i1)∧w.cell? ⟨b,p+3,none⟩=some (.int .u8 g.i2)
theorem stays_g:Stays GAt:=fun w w' B B' b p x hb hB ⟨h0,h1,h2,h3⟩ hk=>⟨(hk ⟨b,p,none⟩ hb).trans h0,(hk ⟨b,p+1,none⟩ hb).trans h1,(hk ⟨b,p+2,none⟩ hb).trans h2,(hk ⟨b,p+3,none⟩ hb).trans h3⟩
def Gs(w:World)(B:Nat)(v:Value)(l:List Gx):Prop:=Arr default 4 GAt w B v l
theorem Gs.below{w w':World}{B:Nat}{v:Value}{l:List Gx}(h:Gs w B v l)(hb:Below B w w'):Gs w' B v l:=Arr.keep stays_g h (Nat.le_refl _) fun _ hp=>hb.cell hp
def xCs(x:Cx)(sG sO:Value):List Value:=[.int .u8 x.inN,.int .u8 x.dffs,.int .u8 x.d0,.int .u8 x.d1,.bool x.bus,.bool x.mem,.int .u8 x.p0,.int .u8 x.p1,.int .u8 x.p2,.int .u8 x.p3,sG,sO]
def nil4:List Value:=[.slice none 0 0,.slice none 0 0,.slice none 0 0,.slice none 0 0]
structure OW(xs:List Value)(w:World)(q1 q2 q3 T:Nat)(sN sS sM sO:Value)(wr:World):Prop where
 bel:Below w.heap.size w wr
 low:T≤wr.heap.size
 e1:w.heap.size≤q1
 e2:q1<q2
 e3:q2<q3
 eT:q3<T
 fx:Fr wr q1 27 xs
 fr:Fr wr q2 39 nil4
 fc:Fr wr q3 39 [sN,sS,sM,sO]
section
variable {xs:List Value} {w wr w1 w2:World} {q1 q2 q3 T:Nat} {sN sS sM sO u:Value}
theorem OW.next(h:OW xs w q1 q2 q3 T sN sS sM sO wr)(hb:Below wr.heap.size wr w1):OW xs w q1 q2 q3 T sN sS sM sO w1:=
 ⟨joinB h.bel hb,Nat.le_trans h.low hb.size,h.e1,h.e2,h.e3,h.eT,h.fx.below hb,h.fr.below hb,h.fc.below hb⟩
theorem Fr.grown{g:Nat}{t:TypeId}{cs:List Value}{R:Option Nat}(h:Fr wr g t cs)(hg:wr.grownBy w1 R)(hR:R≠some g):Fr w1 g t cs:=
 (hg.block g h.lt (fun e=>hR e.symm)).trans h
theorem OW.grown{R:Option Nat}(h:OW xs w q1 q2 q3 T sN sS sM sO wr)(hg:wr.grownBy w1 R)(hR:∀q,R=some q→T≤q):OW xs w q1 q2 q3 T sN sS sM sO w1:=by
 have a1:=h.e1;have a2:=h.e2;have a3:=h.e3;have a4:=h.eT
 refine⟨Below.grown h.bel hg (Below.size h.bel) (fun q hq=>?_),Nat.le_trans h.low hg.size,a1,a2,a3,a4,h.fx.grown hg ?_,h.fr.grown hg ?_,h.fc.grown hg ?_⟩
 ·have:=hR q hq;omega
 ·intro e;have:=hR _ e;omega
 ·intro e;have:=hR _ e;omega
 ·intro e;have:=hR _ e;omega
theorem OW.set(h:OW xs w q1 q2 q3 T sN sS sM sO wr)(j:Nat)(v:Value){sN' sS' sM' sO':Value}(e:[sN,sS,sM,sO].set j v=[sN',sS',sM',sO']):OW xs w q1 q2 q3 T sN' sS' sM' sO' (wr.setCell ⟨q3,j,none⟩ v):=by
 have a1:=h.e1;have a2:=h.e2;have a3:=h.e3;have a4:=h.eT
 exact⟨Below.setCell h.bel (by show w.heap.size≤q3;omega) v,by simpa using h.low,a1,a2,a3,a4,h.fx.other (a:=⟨q3,j,none⟩) (by show q3≠q1;omega) v,h.fr.other (a:=⟨q3,j,none⟩) (by show q3≠q2;omega) v,by rw[←e];exact h.fc.set j v⟩
theorem OW.drewN(h:OW xs w q1 q2 q3 T sN sS sM sO wr)(n:Nat):OW xs w q1 q2 q3 T sN sS sM sO (wr.drewN n):=h.next (below_drewN (Below.refl _ _) n)
theorem OW.cells(h:OW xs w q1 q2 q3 T sN sS sM sO wr):wr.cell? ⟨q3,0,none⟩=some sN∧wr.cell? ⟨q3,1,none⟩=some sS∧wr.cell? ⟨q3,2,none⟩=some sM∧wr.cell? ⟨q3,3,none⟩=some sO∧
 wr.frozen? ⟨q3,0,none⟩=false∧wr.frozen? ⟨q3,1,none⟩=false∧wr.frozen? ⟨q3,2,none⟩=false∧wr.frozen? ⟨q3,3,none⟩=false∧q3<wr.heap.size∧¬q3=wr.heap.size:=
 ⟨h.fc.cell 0,h.fc.cell 1,h.fc.cell 2,h.fc.cell 3,h.fc.frozen 0,h.fc.frozen 1,h.fc.frozen 2,h.fc.frozen 3,h.fc.lt,by have:=h.fc.lt;omega⟩
theorem OW.args{x:Cx}{sG sA:Value}(h:OW (xCs x sG sA) w q1 q2 q3 T sN sS sM sO wr):wr.cell? ⟨q1,0,none⟩=some (.int .u8 x.inN)∧wr.cell? ⟨q1,1,none⟩=some (.int .u8 x.dffs)∧wr.cell? ⟨q1,5,none⟩=some (.bool x.mem)∧wr.cell? ⟨q1,10,none⟩=some sG∧wr.cell? ⟨q1,11,none⟩=some sA∧q1<wr.heap.size∧¬q1=wr.heap.size:=
 ⟨h.fx.cell 0,h.fx.cell 1,h.fx.cell 5,h.fx.cell 10,h.fx.cell 11,h.fx.lt,by have:=h.fx.lt;omega⟩
end
theorem OW.drew{xs:List Value}{w wr:World}{q1 q2 q3 T:Nat}{sN sS sM sO:Value}(h:OW xs w q1 q2 q3 T sN sS sM sO wr):OW xs w q1 q2 q3 T sN sS sM sO wr.drew:=h.next (Below.refl _ _).drew
structure Gate(nodes:List Nd)(nd:Nd):Prop where
 lo:1≤nd.kind
 hi:nd.kind≤13
 wid:Proofs.YtcbllelkgniogaaDoor.lo nd.kind≤nd.ins.length∧(nd.ins.length:Int)≤Proofs.YtcbllelkgniogaaDoor.hi nd.kind
 ins:∀y∈nd.ins,∃i:Nat,y=(i:Int)∧i<nodes.length
 bus:nd.kind=13→∀y∈nd.ins,(nodes.getD y.toNat default).kind=12
 mem:nd.mem=0
 bit:nd.bit=0
def MG(w:World)(T:Nat)(s:Value)(l:List Mm):Prop:=∀w',Kp T none w w'→Ms w' w'.heap.size s l
theorem MG.keep{w w':World}{T:Nat}{s:Value}{l:List Mm}(h:MG w T s l)(hk:Kp T none w w'):MG w' T s l:=fun w2 h2=>h w2 (hk.trans h2)
theorem MG.one{w:World}{T m a d:Nat}{x y z v:Int}(hm:T≤m)(ha:T≤a)(hd:T≤d)(c0:w.cell? ⟨m,0,none⟩=some (.slice (some ⟨a,0,none⟩) 1 1))(c1:w.cell? ⟨m,1,none⟩=some (.slice (some ⟨d,0,none⟩) 2 2))(c2:w.cell? ⟨m,2,none⟩=some (.int .i64 v))
 (a0:w.cell? ⟨a,0,none⟩=some (.int .i64 x)) (d0:w.cell? ⟨d,0,none⟩=some (.int .i64 y)) (d1:w.cell? ⟨d,1,none⟩=some (.int .i64 z)):MG w T (.slice (some ⟨m,0,none⟩) 1 1) [⟨[x],[y,z],v⟩]:=by
 intro w' hk
 have key:∀b o u,T≤b→w.cell? ⟨b,o,none⟩=some u→b<w'.heap.size∧w'.cell? ⟨b,o,none⟩=some u:=fun b o u hb hc=>by
  have hl:=cell_lt hc
  exact⟨Nat.lt_of_lt_of_le hl hk.1,(World.cell?_of_block (hk.2 b hb hl (by simp))).trans hc⟩
 obtain⟨m1,e0⟩:=key _ _ _ hm c0
 obtain⟨-,e1⟩:=key _ _ _ hm c1
 obtain⟨-,e2⟩:=key _ _ _ hm c2
 obtain⟨a1,f0⟩:=key _ _ _ ha a0
 obtain⟨d2,h0⟩:=key _ _ _ hd d0
 obtain⟨-,h1⟩:=key _ _ _ hd d1
 refine⟨some ⟨m,0,none⟩,m,0,1,rfl,fun _=>rfl,by simp,by simp[maxLen],fun k hk'=>?_⟩
 obtain rfl:k=0:=by simp at hk';omega
 refine⟨m1,_,_,e0,e1,e2,⟨some ⟨a,0,none⟩,a,0,1,rfl,fun _=>rfl,by simp,by simp[maxLen],fun j hj=>?_⟩,⟨some ⟨d,0,none⟩,d,0,2,rfl,fun _=>rfl,by simp,by simp[maxLen],fun j hj=>?_⟩⟩
 ·obtain rfl:j=0:=by simp at hj;omega
  exact⟨a1,f0⟩
 ·have h2:j=0∨j=1:=by simp at hj;omega
  rcases h2 with rfl|rfl
  ·exact⟨d2,h0⟩
  ·exact⟨d2,h1⟩
theorem hi_le(k:Int):hi k≤16:=by
 unfold hi
 split
 ·decide
 ·have h:∀i:Fin 16,spansL.getD (2*i.val+1) 0≤16:=by decide
  exact h ⟨k.toNat,by omega⟩
theorem chk_shape{c:Ck}(h:chkErr c=0):shapeErr c=0:=by
 unfold chkErr at h
 by_cases e:shapeErr c=0
 ·exact e
 ·rw[if_pos e]at h;exact absurd h e
structure Vld(c:Ck)(L:List Int)(n:Nat):Prop where
 ok:chkErr c=0
 lvl:Lvl c.nodes L
 len:n=c.nodes.length
 few:n<20
section
variable {c:Ck} {L:List Int} {n:Nat}
theorem Vld.wf(V:Vld c L n):Wf c.nodes:=wf_of_shape (chk_shape V.ok)
theorem Vld.pins(V:Vld c L n):∀k,k<c.nodes.length→(c.nodes.getD k default).ins.length≤16:=fun k hk=>by
 have h:=(nodeErr_zero ((shape_zero (chk_shape V.ok)).2.2.2.2.1 _ (getD_mem_nd hk))).2.2.1
 have:=hi_le (c.nodes.getD k default).kind
 omega
variable {w w1 W:World} {q:Nat} {A0 A1 A2 A3:Option Addr} {n1 n2 n3 c0 c1 c2 c3:Nat}
end
end Go.Proofs.YtcbllelkgniogaaDoor
