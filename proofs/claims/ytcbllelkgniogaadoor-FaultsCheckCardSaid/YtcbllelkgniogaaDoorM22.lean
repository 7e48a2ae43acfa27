/- The texts Lsc Nms Rlv Ror Ofp Ofr. -/
import Derived.Test.YtcbllelkgniogaaDoorM21
import Derived.Test.YtcbllelkgniogaaDoorM02
import Derived.Test.YtcbllelkgniogaaDoorM01
import Derived.Test.YtcbllelkgniogaaDoorM10
import Derived.Test.YtcbllelkgniogaaDoorM09
namespace Go.Proofs.YtcbllelkgniogaaDoor
open Go.RowKit
structure LC(c:Ck)(w:World)(q:Nat)(A0 A1 A2 A3:Option Addr)(n0 n1 n2 n3 c0 c1 c2 c3:Nat)(wr:World):Prop where
 bel:Below w.heap.size w wr
 low:w.heap.size≤q
 tabs:Tabs wr
 cir:Cir wr q (.agg #[.slice A0 n0 c0,.slice A1 n1 c1,.slice A2 n2 c2,.slice A3 n3 c3]) c
 box:Fr wr q 39 [.slice A0 n0 c0,.slice A1 n1 c1,.slice A2 n2 c2,.slice A3 n3 c3]
section
variable {c:Ck} {w w1 W:World} {q:Nat} {A0 A1 A2 A3:Option Addr} {n0 n1 n2 n3 c0 c1 c2 c3:Nat}
theorem LC.next(h:LC c w q A0 A1 A2 A3 n0 n1 n2 n3 c0 c1 c2 c3 w1)(hb:Below w1.heap.size w1 W):LC c w q A0 A1 A2 A3 n0 n1 n2 n3 c0 c1 c2 c3 W:=
 ⟨joinB h.bel hb,h.low,h.tabs.below hb,h.cir.below (hb.mono (Nat.le_of_lt h.box.lt)),h.box.below hb⟩
theorem LC.cells(h:LC c w q A0 A1 A2 A3 n0 n1 n2 n3 c0 c1 c2 c3 w1):w1.cell? ⟨q,0,none⟩=some (.slice A0 n0 c0)∧w1.cell? ⟨q,1,none⟩=some (.slice A1 n1 c1)∧w1.cell? ⟨q,2,none⟩=some (.slice A2 n2 c2)∧w1.cell? ⟨q,3,none⟩=some (.slice A3 n3 c3):=
 ⟨h.box.cell 0,h.box.cell 1,h.box.cell 2,h.box.cell 3⟩
theorem LC.all(h:LC c w q A0 A1 A2 A3 n0 n1 n2 n3 c0 c1 c2 c3 w1):Cir w1 w1.heap.size (.agg #[.slice A0 n0 c0,.slice A1 n1 c1,.slice A2 n2 c2,.slice A3 n3 c3]) c:=h.cir.more (Nat.le_of_lt h.box.lt)
theorem LC.start(hT:Tabs w)(hc:Cir w w.heap.size (.agg #[.slice A0 n0 c0,.slice A1 n1 c1,.slice A2 n2 c2,.slice A3 n3 c3]) c):
 LC c w w.heap.size A0 A1 A2 A3 n0 n1 n2 n3 c0 c1 c2 c3 (w.alloc (.cells #[.slice A0 n0 c0,.slice A1 n1 c1,.slice A2 n2 c2,.slice A3 n3 c3] 39)):=
 ⟨below_new (Below.refl _ _) _,Nat.le_refl _,hT.below (below_new (Below.refl _ _) _),hc.below (below_new (Below.refl _ _) _),heap_alloc_new _ _⟩
end
def First(l:List ByteArray)(s:ByteArray)(r:Int):Prop:=
 (r= -1∧∀j:Nat,j<l.length→(s.toList==(l.getD j ByteArray.empty).toList)=false)∨∃k:Nat,k<l.length∧r=(k:Int)∧(s.toList==(l.getD k ByteArray.empty).toList)=true∧∀j:Nat,j<k→(s.toList==(l.getD j ByteArray.empty).toList)=false
def From(l:List ByteArray)(s:ByteArray)(k:Nat)(r:Int):Prop:=
 (r= -1∧∀j:Nat,k≤j→j<l.length→(s.toList==(l.getD j ByteArray.empty).toList)=false)∨∃m:Nat,k≤m∧m<l.length∧r=(m:Int)∧(s.toList==(l.getD m ByteArray.empty).toList)=true∧∀j:Nat,k≤j→j<m→(s.toList==(l.getD j ByteArray.empty).toList)=false
theorem From.first{l:List ByteArray}{s:ByteArray}{r:Int}(h:From l s 0 r):First l s r:=by
 rcases h with⟨h1,h2⟩| ⟨m,_,h1,h2,h3,h4⟩
 ·exact .inl ⟨h1,fun j hj=>h2 j (Nat.zero_le _) hj⟩
 ·exact .inr ⟨m,h1,h2,h3,fun j hj=>h4 j (Nat.zero_le _) hj⟩
theorem From.no{l:List ByteArray}{s:ByteArray}{r:Int}{k:Nat}(h:From l s (k+1) r)(hk:(s.toList==(l.getD k ByteArray.empty).toList)=false):From l s k r:=by
 rcases h with⟨h1,h2⟩| ⟨m,h0,h1,h2,h3,h4⟩
 ·refine .inl ⟨h1,fun j hj hl=>?_⟩
  by_cases e:j=k
  ·rw[e];exact hk
  ·exact h2 j (by omega) hl
 ·refine .inr ⟨m,by omega,h1,h2,h3,fun j hj hm=>?_⟩
  by_cases e:j=k
  ·rw[e];exact hk
  ·exact h4 j (by omega) hm
structure RW(w:World)(vs:List Value)(wr:World)(out:List Int):Prop where
 bel:Below w.heap.size w wr
 box:Fr wr w.heap.size 39 vs
 row:Row wr (w.heap.size+1) out
section
variable {w wr w1:World} {vs:List Value} {out:List Int}
theorem RW.next(h:RW w vs wr out)(hb:Below wr.heap.size wr w1):RW w vs w1 out:=⟨joinB h.bel hb,h.box.below hb,h.row.below hb⟩
theorem RW.set(h:RW w vs wr out)(j:Nat)(x:Int):RW w vs (wr.setCell ⟨w.heap.size+1,j,none⟩ (.int .i64 x)) (out.set j x):=
 ⟨h.bel.setCell (Nat.le_succ _) _,h.box.other (by show w.heap.size+1≠w.heap.size;omega) _,h.row.set j x⟩
theorem RW.drewN(h:RW w vs wr out)(n:Nat):RW w vs (wr.drewN n) out:=h.next (below_drewN (Below.refl _ _) n)
end
def Bd(l:List Int)(b:Nat):Prop:=∀i:Nat,lat l i≤(b:Int)
theorem Bd.zero(n:Nat):Bd (List.replicate n 0) 0:=fun i=>by
 unfold lat;rw[List.getD_eq_getElem?_getD,List.getElem?_replicate];split<;>exact Int.le_refl _
theorem Bd.le{l:List Int}{b b':Nat}(h:Bd l b)(hb:b≤b'):Bd l b':=fun i=>by have:=h i;omega
theorem getD_in{l:List Int}{k:Nat}(h:k<l.length):l.getD k 0∈l:=by
 rw[List.getD_eq_getElem?_getD,List.getElem?_eq_getElem h];exact List.getElem_mem h
structure OO(w:World)(vs:List Value)(g T:Nat)(L:List Int)(wr:World)(sv:Value)(l:List Int):Prop where
 bel:Below w.heap.size w wr
 box:Fr wr w.heap.size 39 vs
 row:Row wr g L
 stk:Stk wr T sv l
 hg:g<T
 hw:w.heap.size<T
 hT:T≤wr.heap.size
theorem OO.push{w wr w1:World}{vs:List Value}{g T:Nat}{L l:List Int}{sv v':Value}{x:Int}{o:Obj}(h:OO w vs g T L wr sv l)(hown:w1.ownsRow T 3 1 v' (l.length+1) (l.map (Value.int .i64)++[.int .i64 x]))(hgr:(wr.alloc o).grownBy w1 sv.ownBlock):OO w vs g T L w1 v' (l++[x]):=by
 have hlt:=World.ownsRow.lt h.stk
 have h1:=h.hg
 have h2:=h.hw
 have hq:∀q,sv.ownBlock=some q→T≤q:=fun q e=>(hlt q e).1
 have h3:=h.hT
 refine⟨(below_new h.bel o).grown hgr (by simp;have:=h.bel.size;omega) (fun q e=>by have:=hq q e;omega),?_,(h.row.kept (World.grownBy_alloc wr o none) (by simp)).kept hgr (fun e=>by have:=hq g e.symm;omega),?_,h1,h2,by have:=hgr.size;simp at this;omega⟩
 ·exact (h.box.alloc o).kept hgr (fun e=>by have:=hq _ e.symm;omega)
 ·unfold Stk
  rw[List.length_append,List.map_append]
  exact hown
structure OrdAt(L:List Int)(n:Nat)(R:List Int)(k y:Nat):Prop where
 at_:R.getD k 0=(y:Int)
 lt:y<n
 fresh:(y:Int) ∉ R.take k
 next:R.take (k+1)=R.take k++[(y:Int)]
 prev:∀k',k=k'+1→Lex L (R.getD k' 0) y
 deps:∀x:Nat,x<n→lat L x<lat L y→(x:Int)∈R.take (k+1)
structure Gx where
 kind:Int
 i0:Int
 i1:Int
 i2:Int
instance gxInh:Inhabited Gx:=⟨⟨0,0,0,0⟩⟩
structure Cx where
 inN:Int
 dffs:Int
 d0:Int
 d1:Int
 bus:Bool
 mem:Bool
 p0:Int
 p1:Int
 p2:Int
 p3:Int
 gates:List Gx
 outs:List Int
def U8(x:Int):Prop:=0≤x∧x≤255
def Gok(g:Gx):Prop:=U8 g.kind∧U8 g.i0∧U8 g.i1∧U8 g.i2
structure Cok(x:Cx):Prop where
 inN:U8 x.inN
 dffs:U8 x.dffs
 d0:U8 x.d0
 d1:U8 x.d1
 p0:U8 x.p0
 p1:U8 x.p1
 p2:U8 x.p2
 p3:U8 x.p3
 gates:∀k,k<x.gates.length→Gok (x.gates.getD k default)
 outs:∀k,k<x.outs.length→U8 (x.outs.getD k 0)
def ix(a:Int)(n:Nat):Int:=a%(n:Int)
def kindG(bus:Bool)(k:Int):Int:=if bus=true then k%13 else k%9
def trisOf(nodes:List Nd):List Int:=ofTo nodes [12] nodes.length
def gateN(bus:Bool)(g:Gx)(nodes:List Nd):Nd:=
 if kindG bus g.kind<6 then ⟨5+kindG bus g.kind,[ix g.i0 nodes.length,ix g.i1 nodes.length]++(if 128≤g.kind then [ix g.i2 nodes.length] else []),0,0⟩
 else if kindG bus g.kind=6 then ⟨4,[ix g.i0 nodes.length],0,0⟩
 else if kindG bus g.kind=7 then ⟨11,[ix g.i0 nodes.length,ix g.i1 nodes.length,ix g.i2 nodes.length],0,0⟩
 else if kindG bus g.kind=9∨kindG bus g.kind=10 then ⟨12,[ix g.i0 nodes.length,ix g.i1 nodes.length],0,0⟩
 else if 10<kindG bus g.kind∧0<(trisOf nodes).length then
  ⟨13,[(trisOf nodes).getD (ix g.i0 (trisOf nodes).length).toNat 0]++(if 1<(trisOf nodes).length then [(trisOf nodes).getD (ix (ix g.i0 (trisOf nodes).length+1) (trisOf nodes).length).toNat 0] else []),0,0⟩
 else if 240<g.kind then ⟨1+g.i0%2,[],0,0⟩
 else ⟨3,[ix g.i0 nodes.length],0,0⟩
theorem kindG_ge(bus:Bool)(k:Int):0≤kindG bus k∧kindG bus k<13:=by
 unfold kindG;split<;>omega
theorem ix_lt(a:Int){n:Nat}(h:0<n):∃k:Nat,ix a n=(k:Int)∧k<n:=by
 have h1:=Int.emod_nonneg a (show (n:Int)≠0 by omega)
 have h2:=Int.emod_lt_of_pos a (show (0:Int)<(n:Int) by omega)
 exact⟨(ix a n).toNat,by unfold ix at*;omega,by unfold ix;omega⟩
section
variable {bus:Bool} {k i0 i1 i2:Int} {nodes:List Nd} {n:Nat} {a b d:Int}
theorem gateN_lt(hn:n=nodes.length)(h:kindG bus k<6)(h2:¬128≤k)(ha:i0%(n:Int)=a)(hb:i1%(n:Int)=b):gateN bus ⟨k,i0,i1,i2⟩ nodes=⟨5+kindG bus k,[a,b],0,0⟩:=by
 subst hn;unfold gateN ix;rw[if_pos h,if_neg h2,ha,hb];rfl
theorem gateN_lt3(hn:n=nodes.length)(h:kindG bus k<6)(h2:128≤k)(ha:i0%(n:Int)=a)(hb:i1%(n:Int)=b)(hd:i2%(n:Int)=d):gateN bus ⟨k,i0,i1,i2⟩ nodes=⟨5+kindG bus k,[a,b,d],0,0⟩:=by
 subst hn;unfold gateN ix;rw[if_pos h,if_pos h2,ha,hb,hd];rfl
theorem gateN_not(hn:n=nodes.length)(h6:¬kindG bus k<6)(h7:kindG bus k=6)(ha:i0%(n:Int)=a):gateN bus ⟨k,i0,i1,i2⟩ nodes=⟨4,[a],0,0⟩:=by
 subst hn;unfold gateN ix;rw[if_neg h6,if_pos h7,ha]
theorem gateN_mux(hn:n=nodes.length)(h6:¬kindG bus k<6)(h7:¬kindG bus k=6)(h8:kindG bus k=7)(ha:i0%(n:Int)=a)(hb:i1%(n:Int)=b)(hd:i2%(n:Int)=d):gateN bus ⟨k,i0,i1,i2⟩ nodes=⟨11,[a,b,d],0,0⟩:=by
 subst hn;unfold gateN ix;rw[if_neg h6,if_neg h7,if_pos h8,ha,hb,hd]
theorem gateN_tri(hn:n=nodes.length)(h9:kindG bus k=9∨kindG bus k=10)(ha:i0%(n:Int)=a)(hb:i1%(n:Int)=b):gateN bus ⟨k,i0,i1,i2⟩ nodes=⟨12,[a,b],0,0⟩:=by
 subst hn;unfold gateN ix;rw[if_neg (show ¬kindG bus k<6 by omega),if_neg (show ¬kindG bus k=6 by omega),if_neg (show ¬kindG bus k=7 by omega),if_pos h9,ha,hb]
theorem gateN_bus1(h10:10<kindG bus k){m:Nat}(hm:m=(trisOf nodes).length)(h0:0<m)(h1:¬1<m){j:Nat}(hj:i0%(m:Int)=(j:Int)){x:Int}(hx:x=(trisOf nodes).getD j 0):gateN bus ⟨k,i0,i1,i2⟩ nodes=⟨13,[x],0,0⟩:=by
 subst hm;unfold gateN ix;rw[if_neg (show ¬kindG bus k<6 by omega),if_neg (show ¬kindG bus k=6 by omega),if_neg (show ¬kindG bus k=7 by omega),if_neg (show ¬(kindG bus k=9∨kindG bus k=10) by omega),if_pos ⟨h10,h0⟩,if_neg h1,hj,hx];rfl
theorem gateN_bus2(h10:10<kindG bus k){m:Nat}(hm:m=(trisOf nodes).length)(h1:1<m){j j':Nat}(hj:i0%(m:Int)=(j:Int))(hj':((j:Int)+1)%(m:Int)=(j':Int)){x y:Int}(hx:x=(trisOf nodes).getD j 0)(hy:y=(trisOf nodes).getD j' 0):gateN bus ⟨k,i0,i1,i2⟩ nodes=⟨13,[x,y],0,0⟩:=by
 subst hm;unfold gateN ix;rw[if_neg (show ¬kindG bus k<6 by omega),if_neg (show ¬kindG bus k=6 by omega),if_neg (show ¬kindG bus k=7 by omega),if_neg (show ¬(kindG bus k=9∨kindG bus k=10) by omega),if_pos ⟨h10,by omega⟩,if_pos h1,hj,hj',hx,hy];rfl
theorem gateN_const(h6:¬kindG bus k<6)(h7:¬kindG bus k=6)(h8:¬kindG bus k=7)(h9:¬kindG bus k=9)(h9':¬kindG bus k=10)(h10:¬(10<kindG bus k∧0<(trisOf nodes).length))(h:240<k):gateN bus ⟨k,i0,i1,i2⟩ nodes=⟨1+i0%2,[],0,0⟩:=by
 unfold gateN;rw[if_neg h6,if_neg h7,if_neg h8,if_neg (show ¬(kindG bus k=9∨kindG bus k=10) by omega),if_neg h10,if_pos h]
theorem gateN_buf(hn:n=nodes.length)(h6:¬kindG bus k<6)(h7:¬kindG bus k=6)(h8:¬kindG bus k=7)(h9:¬kindG bus k=9)(h9':¬kindG bus k=10)(h10:¬(10<kindG bus k∧0<(trisOf nodes).length))(h:¬240<k)(ha:i0%(n:Int)=a):gateN bus ⟨k,i0,i1,i2⟩ nodes=⟨3,[a],0,0⟩:=by
 subst hn;unfold gateN ix;rw[if_neg h6,if_neg h7,if_neg h8,if_neg (show ¬(kindG bus k=9∨kindG bus k=10) by omega),if_neg h10,if_neg h,ha]
end
def inputN:Nd:=⟨0,[],0,0⟩
def dffN(x:Int):Nd:=⟨14,[x],0,0⟩
def firstN(x:Cx):Nat:=(x.inN%4).toNat+1
def dffsN(x:Cx):Nat:=(x.dffs%3).toNat
def baseN(x:Cx):List Nd:=List.replicate (firstN x) inputN++List.replicate (dffsN x) (dffN 0)++(if x.mem=true then [⟨15,[],0,0⟩,⟨15,[],0,1⟩] else [])
def gatesTo(x:Cx):Nat→List Nd
 |0=>baseN x
 |k+1=>gatesTo x k++[gateN x.bus (x.gates.getD k default) (gatesTo x k)]
def gatesN(x:Cx):Nat:=min x.gates.length 8
def dataN(x:Cx)(i:Nat):Int:=if i=0 then x.d0 else x.d1
def dffTo(x:Cx):Nat→List Nd
 |0=>gatesTo x (gatesN x)
 |k+1=>(dffTo x k).set (firstN x+k) (dffN (ix (dataN x k) (gatesTo x (gatesN x)).length))
def nodesN(x:Cx):List Nd:=dffTo x (dffsN x)
def sizeN(x:Cx):Nat:=(gatesTo x (gatesN x)).length
def memsN(x:Cx):List Mm:=if x.mem=true then [⟨[ix x.p0 (sizeN x)],[ix x.p1 (sizeN x),ix x.p2 (sizeN x)],ix x.p3 (sizeN x)⟩] else []
def digB(x:Nat):UInt8:=UInt8.ofNat (48+x)
def nameB(i:Nat):ByteArray:=⟨#[110,digB (i/10),digB (i%10)]⟩
def outsN(x:Cx):Nat:=min x.outs.length 3
def outsTo(x:Cx)(k:Nat):List Int:=(List.range k).map fun i=>ix (x.outs.getD i 0) (sizeN x)
def ofC(x:Cx):Ck:=⟨nodesN x,(List.range (sizeN x)).map nameB,memsN x,outsTo x (outsN x)++[(sizeN x:Int)-1]⟩
theorem gatesTo_len(x:Cx):∀k,(gatesTo x k).length=(baseN x).length+k
 |0=>rfl
 |k+1=>by rw[gatesTo,List.length_append,gatesTo_len x k];simp;omega
theorem baseN_len(x:Cx):(baseN x).length=firstN x+dffsN x+(if x.mem=true then 2 else 0):=by
 unfold baseN
 rw[List.length_append,List.length_append,List.length_replicate,List.length_replicate]
 split<;>simp
theorem dffTo_len(x:Cx):∀k,(dffTo x k).length=sizeN x
 |0=>rfl
 |k+1=>by rw[dffTo,List.length_set,dffTo_len x k]
theorem firstN_le(x:Cx):1≤firstN x∧firstN x≤4:=by unfold firstN;omega
theorem dffsN_le(x:Cx):dffsN x≤2:=by unfold dffsN;omega
theorem gatesN_le(x:Cx):gatesN x≤8:=by unfold gatesN;omega
theorem sizeN_le(x:Cx):1≤sizeN x∧sizeN x≤16∧firstN x+dffsN x≤sizeN x:=by
 have h1:=firstN_le x
 have h2:=dffsN_le x
 have h3:=gatesN_le x
 unfold sizeN
 rw[gatesTo_len,baseN_len]
 split<;>omega
theorem ofC_len(x:Cx):(ofC x).nodes.length=sizeN x:=dffTo_len x _
def Kp(T:Nat)(R:Option Nat)(w w':World):Prop:=w.heap.size≤w'.heap.size∧∀b,T≤b→b<w.heap.size→R≠some b→w'.heap[b]? =w.heap[b]?
theorem Kp.refl(T:Nat)(R:Option Nat)(w:World):Kp T R w w:=⟨Nat.le_refl _,fun _ _ _ _=>rfl⟩
theorem Kp.trans{T:Nat}{R:Option Nat}{w w1 w2:World}(h:Kp T R w w1)(h':Kp T R w1 w2):Kp T R w w2:=
 ⟨Nat.le_trans h.1 h'.1,fun b h1 h2 h3=>(h'.2 b h1 (Nat.lt_of_lt_of_le h2 h.1) h3).trans (h.2 b h1 h2 h3)⟩
theorem Kp.alloc(T:Nat)(R:Option Nat)(w:World)(o:Obj):Kp T R w (w.alloc o):=
 ⟨by simp,fun b _ h _=>((Below.refl w.heap.size w).alloc (Nat.le_refl _) o).block b h⟩
theorem Kp.below{T:Nat}{R:Option Nat}{w w':World}(h:Below w.heap.size w w'):Kp T R w w':=⟨h.size,fun b _ hb _=>h.block b hb⟩
theorem Kp.set{T:Nat}{R:Option Nat}(w:World){a:Addr}(ha:a.block<T)(v:Value):Kp T R w (w.setCell a v):=
 ⟨by simp,fun b h _ _=>heap_setCell_other w a b v (fun e=>by rw[e]at h;omega)⟩
theorem Kp.grown{T:Nat}{w w':World}{R:Option Nat}(h:w.grownBy w' R):Kp T R w w':=⟨h.size,fun b _ hb hR=>h.block b hb (fun e=>hR e.symm)⟩
theorem Kp.free{T:Nat}{R R':Option Nat}{w w':World}(h:Kp T R w w')(hR:∀b,T≤b→b<w.heap.size→R'≠some b→R≠some b):Kp T R' w w':=
 ⟨h.1,fun b h1 h2 h3=>h.2 b h1 h2 (hR b h1 h2 h3)⟩
theorem Kp.grow{T:Nat}{R:Option Nat}{w0 w w':World}(h:Kp T none w0 w)(hg:w.grownBy w' R)(hR:∀q,R=some q→w0.heap.size≤q):Kp T none w0 w':=
 ⟨Nat.le_trans h.1 hg.size,fun b h1 h2 h3=>(hg.block b (Nat.lt_of_lt_of_le h2 h.1) (fun e=>by have:=hR b e.symm;omega)).trans (h.2 b h1 h2 h3)⟩
def InG(w:World)(T:Nat)(R:Option Nat)(s:Value)(l:List Int):Prop:=
 ∃A c,s=.slice A l.length c∧Is w w.heap.size s l∧(0<l.length→∀a:Addr,A=some a→T≤a.block∧R≠some a.block)
theorem InG.keep{w w':World}{T:Nat}{R R':Option Nat}{s:Value}{l:List Int}(h:InG w T R s l)(hk:Kp T R w w')(hR:∀b,b<w.heap.size→R≠some b→R'≠some b):InG w' T R' s l:=by
 obtain⟨A,c,rfl,hi,ha⟩:=h
 obtain⟨A',b,o,c',e,hA,hle,hm,hc⟩:=hi
 simp only[Value.slice.injEq,true_and]at e
 obtain⟨rfl,rfl⟩:=e
 by_cases h0:0<l.length
 ·obtain rfl:=hA h0
  have hb:=(hc 0 h0).1
  obtain⟨h1,h2⟩:=ha h0 _ rfl
  refine⟨_,c,rfl,⟨_,b,o,c,rfl,fun _=>rfl,hle,hm,fun k hk'=>⟨Nat.lt_of_lt_of_le hb hk.1,?_⟩⟩,fun _ a e=>?_⟩
  ·unfold IntAt
   rw[World.cell?_of_block (hk.2 b h1 hb h2)]
   exact (hc k hk').2
  ·cases e;exact⟨h1,hR b hb h2⟩
 ·exact⟨A,c,rfl,⟨A,0,0,c,rfl,fun h=>absurd h h0,hle,hm,fun k hk'=>absurd hk' (by omega)⟩,fun h=>absurd h h0⟩
theorem InG.is{w:World}{T:Nat}{R:Option Nat}{s:Value}{l:List Int}(h:InG w T R s l):Is w w.heap.size s l:=by
 obtain⟨A,c,-,hi,-⟩:=h
 exact hi
theorem InG.nil(w:World)(T:Nat)(R:Option Nat):InG w T R (.slice none 0 0) []:=⟨none,0,rfl,Arr.nil _ _ _ _ _,fun h=>absurd h (by simp)⟩
def ndCs:List Nd→List Value→List Value
 |x::l,s::ss=>.int .u8 x.kind::s:: .int .i64 x.mem:: .int .i64 x.bit::ndCs l ss
 |_,_=>[]
theorem ndCs_snoc(x:Nd)(s:Value):∀(l:List Nd) (ss:List Value),ss.length=l.length→ndCs (l++[x]) (ss++[s])=ndCs l ss++[.int .u8 x.kind,s,.int .i64 x.mem,.int .i64 x.bit]
 |[],[],_=>rfl
 |y::l,t::ss,h=>by
  show _::_::_::_::ndCs (l++[x]) (ss++[s])=_
  rw[ndCs_snoc x s l ss (by simpa using h)];rfl
theorem ndCs_get:∀(l:List Nd) (ss:List Value),ss.length=l.length→∀k,k<l.length→
 (ndCs l ss)[k*4]? =some (.int .u8 (l.getD k default).kind)∧(ndCs l ss)[k*4+1]? =some (ss.getD k (.slice none 0 0))∧(ndCs l ss)[k*4+2]? =some (.int .i64 (l.getD k default).mem)∧(ndCs l ss)[k*4+3]? =some (.int .i64 (l.getD k default).bit)
 |y::l,t::ss,h,0,_=>⟨rfl,rfl,rfl,rfl⟩
 |y::l,t::ss,h,k+1,hk=>by
  have:=ndCs_get l ss (by simpa using h) k (by simpa using hk)
  rw[show (k+1)*4=k*4+4 by omega]
  exact this
theorem ndCs_set(x:Nd)(s:Value):∀(l:List Nd) (ss:List Value),ss.length=l.length→∀k,k<l.length→x.kind=(l.getD k default).kind→x.mem=(l.getD k default).mem→x.bit=(l.getD k default).bit→
 (ndCs l ss).set (k*4+1) s=ndCs (l.set k x) (ss.set k s)
 |y::l,t::ss,h,0,_,h1,h2,h3=>by
  simp only[List.getD_cons_zero]at h1 h2 h3
  show _::_::_::_::_=_::_::_::_::_
  rw[h1,h2,h3]
 |y::l,t::ss,h,k+1,hk,h1,h2,h3=>by
  have:=ndCs_set x s l ss (by simpa using h) k (by simpa using hk) (by simpa using h1) (by simpa using h2) (by simpa using h3)
  rw[show (k+1)*4+1=k*4+1+4 by omega]
  show _::_::_::_::(ndCs l ss).set (k*4+1) s=_::_::_::_::ndCs (l.set k x) (ss.set k s)
  rw[this]
structure NR(w:World)(T:Nat)(v:Value)(l:List Nd)(ss:List Value):Prop where
 len:ss.length=l.length
 row:w.ownsRow T 53 4 v l.length (ndCs l ss)
 ins:∀k,k<l.length→InG w T v.ownBlock (ss.getD k (.slice none 0 0)) (l.getD k default).ins
section
variable {w w' w1:World} {T:Nat} {v v':Value} {l:List Nd} {ss:List Value}
theorem own_kp{e:TypeId}{size n:Nat}{xs:List Value}(h:w.ownsRow T e size v n xs){T':Nat}{R:Option Nat}(hT:T'≤T)(hk:Kp T' R w w')(hR:v.ownBlock=none∨v.ownBlock≠R):w'.ownsRow T e size v n xs:=by
 refine⟨h.1,?_⟩
 rcases h.2 with h1| ⟨g,cap,cur,rfl,hb,hg,h3⟩
 ·exact .inl h1
 ·have hlt:g<w.heap.size:=(Array.getElem?_eq_some_iff.1 hg).1
  exact .inr ⟨g,cap,cur,rfl,hb,(hk.2 g (Nat.le_trans hT hb) hlt (fun e=>by rcases hR with h|h;cases h;exact h e.symm)).trans hg,h3⟩
theorem NR.nil(w:World)(T:Nat):NR w T (.slice none 0 0) [] []:=⟨rfl,World.ownsRow_nil _ _ _ _,fun k hk=>absurd hk (by simp)⟩
theorem NR.keep(h:NR w T v l ss)(hk:Kp T none w w'):NR w' T v l ss:=
 ⟨h.len,own_kp h.row (Nat.le_refl _) hk (by cases v.ownBlock<;>simp),fun k hk'=>(h.ins k hk').keep (hk.free fun _ _ _ _=>by simp) fun _ _ h=>h⟩
theorem getD_snoc'{α:Type}(d x:α)(l:List α)(k:Nat)(hk:k<l.length+1):(l++[x]).getD k d=if k=l.length then x else l.getD k d:=by
 by_cases h:k=l.length
 ·rw[if_pos h,h];simp[List.getD_eq_getElem?_getD]
 ·rw[if_neg h];simp[List.getD_eq_getElem?_getD,List.getElem?_append_left (show k<l.length by omega)]
theorem NR.push{x:Nd}{s:Value}(h:NR w T v l ss)(hs:InG w T v.ownBlock s x.ins)
 (hown:w1.ownsRow T 53 4 v' (l.length+1) (ndCs l ss++[.int .u8 x.kind,s,.int .i64 x.mem,.int .i64 x.bit])) (hgr:w.grownBy w1 v.ownBlock) (hat:v'.ownBlock=v.ownBlock∨v'.ownBlock=some w.heap.size):
 NR w1 T v' (l++[x]) (ss++[s]):=by
 have hR:∀b,b<w.heap.size→v.ownBlock≠some b→v'.ownBlock≠some b:=fun b hb hn=>by
  rcases hat with e|e
  ·rw[e];exact hn
  ·rw[e];simp;omega
 refine⟨by simp[h.len],by rw[List.length_append,ndCs_snoc x s l ss h.len];exact hown,fun k hk=>?_⟩
 have hk':k<l.length+1:=by simpa using hk
 rw[getD_snoc' _ _ _ _ hk',getD_snoc' _ _ _ _ (by rw[h.len];exact hk'),h.len]
 by_cases e:k=l.length
 ·rw[if_pos e,if_pos e];exact hs.keep (Kp.grown hgr) hR
 ·rw[if_neg e,if_neg e];exact (h.ins k (by omega)).keep (Kp.grown hgr) hR
theorem getD_set'{α:Type}(d x:α)(l:List α)(i k:Nat)(hi:i<l.length):(l.set i x).getD k d=if k=i then x else l.getD k d:=by
 rw[List.getD_eq_getElem?_getD,List.getD_eq_getElem?_getD,List.getElem?_set]
 by_cases h:i=k
 ·subst h;simp[hi]
 ·rw[if_neg h,if_neg (fun e=>h e.symm)]
theorem NR.set{g n c i:Nat}{x:Nd}{s:Value}(h:NR w T (.slice (some ⟨g,0,none⟩) n c) l ss)(hn:n=l.length)(hi:i<l.length)(hs:InG w T (some g) s x.ins)(h1:x.kind=(l.getD i default).kind)(h2:x.mem=(l.getD i default).mem)(h3:x.bit=(l.getD i default).bit):
 NR (w.setCell ⟨g,i*4+1,none⟩ s) T (.slice (some ⟨g,0,none⟩) n c) (l.set i x) (ss.set i s):=by
 subst hn
 have hst:=h.row.stored (i*4+1) s
 refine⟨by simp[h.len],by rw[List.length_set,←ndCs_set x s l ss h.len i hi h1 h2 h3];exact hst.1,fun k hk=>?_⟩
 rw[getD_set' _ _ _ _ _ hi,getD_set' _ _ _ _ _ (by rw[h.len];exact hi)]
 have hkp:Kp T (some g) w (w.setCell ⟨g,i*4+1,none⟩ s):=Kp.grown hst.2
 by_cases e:k=i
 ·rw[if_pos e,if_pos e];exact hs.keep hkp fun _ _ h=>h
 ·rw[if_neg e,if_neg e];exact (h.ins k (by simpa using hk)).keep hkp fun _ _ h=>h
theorem ndCs_app:∀(l:List Nd) (ss:List Value),ss.length=l.length→∀(l':List Nd) (ss':List Value),ndCs (l++l') (ss++ss')=ndCs l ss++ndCs l' ss'
 |[],[],_,_,_=>rfl
 |y::l,t::ss,h,l',ss'=>by
  show _::_::_::_::ndCs (l++l') (ss++ss')=_
  rw[ndCs_app l ss (by simpa using h) l' ss'];rfl
theorem NR.app{l':List Nd}{ss':List Value}(h:NR w T v l ss)(hl:ss'.length=l'.length)(hs:∀k,k<l'.length→InG w T v.ownBlock (ss'.getD k (.slice none 0 0)) (l'.getD k default).ins)
 (hown:w1.ownsRow T 53 4 v' (l.length+l'.length) (ndCs l ss++ndCs l' ss')) (hgr:w.grownBy w1 v.ownBlock) (hat:v'.ownBlock=v.ownBlock∨v'.ownBlock=some w.heap.size):
 NR w1 T v' (l++l') (ss++ss'):=by
 have hR:∀b,b<w.heap.size→v.ownBlock≠some b→v'.ownBlock≠some b:=fun b hb hn=>by
  rcases hat with e|e
  ·rw[e];exact hn
  ·rw[e];simp;omega
 refine⟨by simp[h.len,hl],by rw[List.length_append,ndCs_app l ss h.len];exact hown,fun k hk=>?_⟩
 have hk':k<l.length+l'.length:=by simpa using hk
 have hlen:=h.len
 by_cases e:k<l.length
 ·have e1:(l++l').getD k default=l.getD k default:=by simp[List.getD_eq_getElem?_getD,List.getElem?_append_left e]
  have e2:(ss++ss').getD k (.slice none 0 0)=ss.getD k (.slice none 0 0):=by simp[List.getD_eq_getElem?_getD,List.getElem?_append_left (show k<ss.length by omega)]
  rw[e1,e2];exact (h.ins k e).keep (Kp.grown hgr) hR
 ·have e1:(l++l').getD k default=l'.getD (k-l.length) default:=by simp[List.getD_eq_getElem?_getD,List.getElem?_append_right (show l.length≤k by omega)]
  have e2:(ss++ss').getD k (.slice none 0 0)=ss'.getD (k-l.length) (.slice none 0 0):=by
   rw[List.getD_eq_getElem?_getD,List.getElem?_append_right (show ss.length≤k by omega),List.getD_eq_getElem?_getD,hlen]
  rw[e1,e2];exact (hs _ (by omega)).keep (Kp.grown hgr) hR
theorem InG.lit{k:Nat}(hT:T≤w.heap.size)(hr:∀q,v.ownBlock=some q→q<w.heap.size)(l:List Int)(hk:k=l.length)(hm:l.length≤maxLen):InG (w.alloc (.cells (l.map (Value.int .i64)).toArray 3)) T v.ownBlock (.slice (some ⟨w.heap.size,0,none⟩) k k) l:=by
 subst hk
 exact⟨_,_,rfl,is_of _ (Fr.made w (l.map (Value.int .i64)) 3 rfl) hm (by simp),fun _ a e=>by cases e;exact⟨hT,fun e=>by have:=hr _ e;simp at this⟩⟩
theorem NR.store{g n c i:Nat}{x:Nd}{y:Int}(h:NR w T (.slice (some ⟨g,0,none⟩) n c) l ss)(hT:T≤w.heap.size)(hn:n=l.length)(hi:i<l.length)(hx:x.ins=[y])(h1:x.kind=(l.getD i default).kind)(h2:x.mem=(l.getD i default).mem)(h3:x.bit=(l.getD i default).bit):
 NR ((w.alloc (.cells #[.int .i64 y] 3)).setCell ⟨g,i*4+1,none⟩ (.slice (some ⟨w.heap.size,0,none⟩) 1 1)) T (.slice (some ⟨g,0,none⟩) n c) (l.set i x) (ss.set i (.slice (some ⟨w.heap.size,0,none⟩) 1 1)):=by
 have hk:NR (w.alloc (.cells #[.int .i64 y] 3)) T (.slice (some ⟨g,0,none⟩) n c) l ss:=h.keep (Kp.alloc _ _ _ _)
 refine hk.set hn hi ?_ h1 h2 h3
 rw[hx]
 exact InG.lit (v:=.slice (some ⟨g,0,none⟩) n c) hT (fun q hq=>(World.ownsRow.lt h.row q hq).2) [y] rfl (by simp[maxLen])
theorem NR.store2{g n c i:Nat}{x:Nd}{y:Int}(h:NR w T (.slice (some ⟨g,0,none⟩) n c) l ss)(hT:T≤w.heap.size)(hn:n=l.length)(hi:i<l.length)(hx:x.ins=[y])(h1:x.kind=(l.getD i default).kind)(h2:x.mem=(l.getD i default).mem)(h3:x.bit=(l.getD i default).bit):
 NR ((w.setCell ⟨g,i*4+1,none⟩ (.slice (some ⟨w.heap.size,0,none⟩) 1 1)).alloc (.cells #[.int .i64 y] 3)).drew T (.slice (some ⟨g,0,none⟩) n c) (l.set i x) (ss.set i (.slice (some ⟨w.heap.size,0,none⟩) 1 1)):=by
 have h4:=h.store hT hn hi hx h1 h2 h3
 rw[World.setCell_alloc_past _ _ _ _ (World.ownsRow.lt h.row g rfl).2]at h4
 exact h4.keep (Kp.below (Below.refl _ _).drew)
theorem NR.reads(h:NR w T v l ss)(hk:∀k,k<l.length→0≤(l.getD k default).kind∧(l.getD k default).kind≤255):Ns w w.heap.size v l:=by
 rcases id h.row.2 with⟨rfl,hn⟩| ⟨g,cap,cur,rfl,hb,hg,hle,hm,-⟩
 ·have e:l=[]:=List.length_eq_zero_iff.1 hn
  subst e;exact Arr.nil _ _ _ _ _
 ·refine⟨_,g,0,cap,rfl,fun _=>rfl,hle,Nat.le_trans hle hm,fun k hk'=>⟨(Array.getElem?_eq_some_iff.1 hg).1,?_⟩⟩
  obtain⟨e0,e1,e2,e3⟩:=ndCs_get l ss h.len k hk'
  have hc:∀j u,(ndCs l ss)[j]? =some u→j<l.length*4→w.cell? ⟨g,0+j,none⟩=some u:=fun j u hu hj=>by
   rw[Nat.zero_add,h.row.cellAt j hj];exact hu
  refine⟨_,?_,?_,?_,?_,(h.ins k hk').is,(hk k hk').1,(hk k hk').2⟩
  ·exact hc _ _ e0 (by omega)
  ·exact hc _ _ e1 (by omega)
  ·exact hc _ _ e2 (by omega)
  ·exact hc _ _ e3 (by omega)
theorem NR.low{g n c:Nat}(h:NR w T (.slice (some ⟨g,0,none⟩) n c) l ss):T≤w.heap.size:=by
 have:=World.ownsRow.lt h.row g rfl
 omega
theorem NR.form(h:NR w T v l ss):∃A c,v=.slice A l.length c:=own_form h.row
end
end Go.Proofs.YtcbllelkgniogaaDoor
