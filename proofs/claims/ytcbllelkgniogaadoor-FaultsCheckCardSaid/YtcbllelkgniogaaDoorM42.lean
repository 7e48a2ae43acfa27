/- The texts Pac Pcx. -/
import Derived.Test.YtcbllelkgniogaaDoorM41
import Derived.Deep.Strs
import Derived.Lib.SmallJoins
import Derived.Test.YtcbllelkgniogaaDoorM25
namespace Go.Proofs.YtcbllelkgniogaaDoor
open Go.ChangeShapes Go.WideShapes Go.ChangeAt Go.RowKit
section
variable {H:Type} {enc:TypeId×Value→H} {W:World} {base:Nat} {sp:Nat→Bool} {held:Bool}
theorem arr_of{α:Type} [Inhabited α] {d:α}{sz:Nat}{R:World→Nat→Nat→Nat→α→Prop}{t e:TypeId}{fuel:Nat}{cs:List Value}{x:DataW H×List MemPlace}(ht: Tryd.prog.underlying t=some (.slice e))(hsz: Tryd.prog.cellsOf e=sz)(hpos:0<sz)
 (hel:∀b p cs' y n,cs'.length=sz→(∀j,j<sz→W.cell? ⟨b,p+j,none⟩=cs'[j]?)→DataW.trod enc Tryd.prog W base sp held n e cs'=some y→∃a:α,R W W.heap.size b p a)
 (h:DataW.trod enc Tryd.prog W base sp held fuel t cs=some x):∃v l,cs=[v]∧Arr d sz R W W.heap.size v l:=by
 rcases Go.Deep.open_slice ht h with⟨rfl,-⟩| ⟨a,len,cap,m,n,D,Pl,rfl,-,hl,hm,hmm,-,hx⟩
 ·exact⟨_,[],rfl,Arr.nil _ _ _ _ _⟩
 ·have hlm:len≤m:=by rw[hmm];split<;>omega
  rw[hsz]at hx
  by_cases h0:0<len
  ·have hsp:a.spot=none:=by
    obtain⟨cs',h1,-⟩:=hx 0 (by omega)
    obtain⟨-,h3,h4⟩:=World.cells?_some h1
    have:=h4 0 hpos
    rw[List.getElem?_eq_getElem (by omega)]at this
    simpa [Addr.add]using World.cell?_spot this
   obtain⟨b,o,spot⟩:=a
   obtain rfl:spot=none:=hsp
   have hk:∀i,i<len→∃q:α,b<W.heap.size∧R W W.heap.size b (o+i*sz) q:=fun i hi=>by
    obtain⟨cs',h1,h2⟩:=hx i (by omega)
    obtain⟨-,h3,h4⟩:=World.cells?_some h1
    have hc:∀j,j<sz→W.cell? ⟨b,o+i*sz+j,none⟩=cs'[j]? :=fun j hj=>by
     have:=h4 j hj
     rw[Go.WideShapes.add_plain,Go.WideShapes.add_plain]at this
     exact this
    obtain⟨q,hq⟩:=hel b (o+i*sz) cs' _ _ h3 hc h2
    refine⟨q,?_,hq⟩
    have:=hc 0 hpos
    rw[List.getElem?_eq_getElem (by omega)]at this
    exact cell_lt this
   obtain⟨f,hf⟩:=Go.Deep.choose_lt hk
   refine⟨_,(List.range len).map f,rfl,some ⟨b,o,none⟩,b,o,cap,by simp,fun _=>rfl,by simpa using hl,by simp;omega,fun k hk'=>?_⟩
   have hkl:k<len:=by simpa using hk'
   have e:((List.range len).map f).getD k d=f k:=by simp[hkl,List.getD_eq_getElem?_getD]
   rw[e]
   exact hf k hkl
  ·obtain rfl:len=0:=by omega
   exact⟨_,[],rfl,some a,0,0,cap,rfl,fun h=>absurd h (by simp),by simp,by simp,fun k hk=>absurd hk (by simp)⟩
end
theorem c_u8: Tryd.prog.cellsOf 5=1:=by kernel_rfl
theorem c_bl: Tryd.prog.cellsOf 4=1:=by kernel_rfl
theorem c_a2: Tryd.prog.cellsOf 22=2:=by kernel_rfl
theorem c_a3: Tryd.prog.cellsOf 80=3:=by kernel_rfl
theorem c_a4: Tryd.prog.cellsOf 23=4:=by kernel_rfl
theorem c_gx: Tryd.prog.cellsOf 82=4:=by kernel_rfl
theorem c_cx: Tryd.prog.cellsOf 27=12:=by kernel_rfl
theorem c_gs: Tryd.prog.cellsOf 24=1:=by kernel_rfl
theorem c_us: Tryd.prog.cellsOf 25=1:=by kernel_rfl
theorem array12{α:Type}{cs:Array α}(h:cs.size=12):∃c0 c1 c2 c3 c4 c5 c6 c7 c8 c9 c10 c11,cs= #[c0,c1,c2,c3,c4,c5,c6,c7,c8,c9,c10,c11]:=by
 obtain⟨l⟩:=cs
 match l,h with
 |[c0,c1,c2,c3,c4,c5,c6,c7,c8,c9,c10,c11],_=>exact⟨c0,c1,c2,c3,c4,c5,c6,c7,c8,c9,c10,c11,rfl⟩
theorem Arr.two{α:Type}{d:α}{sz:Nat}{R:World→Nat→Nat→Nat→α→Prop}{Q:α→Prop}{w:World}{B:Nat}{v:Value}{l:List α}(h:Arr d sz (fun w B b p a=>R w B b p a∧Q a) w B v l):
 Arr d sz R w B v l∧∀k,k<l.length→Q (l.getD k d):=by
 obtain⟨A,b,o,c,h1,h2,h3,h4,h5⟩:=h
 exact⟨⟨A,b,o,c,h1,h2,h3,h4,fun k hk=>⟨(h5 k hk).1,(h5 k hk).2.1⟩⟩,fun k hk=>(h5 k hk).2.2⟩
section
variable {H:Type} {enc:TypeId×Value→H} {W:World} {base:Nat} {sp:Nat→Bool} {held:Bool}
theorem u8_of{fuel:Nat}{cs:List Value}{x:DataW H×List MemPlace}(h:DataW.trod enc Tryd.prog W base sp held fuel 5 cs=some x):∃a:Int,cs=[.int .u8 a]∧U8 a:=by
 obtain⟨a,e,-,w⟩:=DataW.trod_int Tryd.underlying5 h
 exact⟨a,e,bounds_u8 w⟩
set_option maxRecDepth 100000 in
theorem two_of{fuel:Nat}{c0 c1:Value}{x:DataW H×List MemPlace}(h:DataW.trod enc Tryd.prog W base sp held fuel 22 [c0,c1]=some x):∃a b:Int,c0=.int .u8 a∧c1=.int .u8 b∧U8 a∧U8 b:=by
 obtain⟨xs,m,-,-,-,hn,hel⟩:=DataW.trod_array Tryd.underlying22 h
 match xs,hn with
 |[x0,x1],_=>
  have e0:=hel 0 (by decide)
  have e1:=hel 1 (by decide)
  rw[c_u8]at e0 e1
  obtain⟨a,ea,wa⟩:=u8_of (show DataW.trod _ _ _ _ _ _ _ _ [c0]=some x0 from e0)
  obtain⟨b,eb,wb⟩:=u8_of (show DataW.trod _ _ _ _ _ _ _ _ [c1]=some x1 from e1)
  simp at ea eb
  exact⟨a,b,ea,eb,wa,wb⟩
set_option maxRecDepth 100000 in
theorem three_of{fuel:Nat}{c0 c1 c2:Value}{x:DataW H×List MemPlace}(h:DataW.trod enc Tryd.prog W base sp held fuel 80 [c0,c1,c2]=some x):∃a b c:Int,c0=.int .u8 a∧c1=.int .u8 b∧c2=.int .u8 c∧U8 a∧U8 b∧U8 c:=by
 obtain⟨xs,m,-,-,-,hn,hel⟩:=DataW.trod_array Tryd.underlying80 h
 match xs,hn with
 |[x0,x1,x2],_=>
  have e0:=hel 0 (by decide)
  have e1:=hel 1 (by decide)
  have e2:=hel 2 (by decide)
  rw[c_u8]at e0 e1 e2
  obtain⟨a,ea,wa⟩:=u8_of (show DataW.trod _ _ _ _ _ _ _ _ [c0]=some x0 from e0)
  obtain⟨b,eb,wb⟩:=u8_of (show DataW.trod _ _ _ _ _ _ _ _ [c1]=some x1 from e1)
  obtain⟨c,ec,wc⟩:=u8_of (show DataW.trod _ _ _ _ _ _ _ _ [c2]=some x2 from e2)
  simp at ea eb ec
  exact⟨a,b,c,ea,eb,ec,wa,wb,wc⟩
set_option maxRecDepth 100000 in
theorem four_of{fuel:Nat}{c0 c1 c2 c3:Value}{x:DataW H×List MemPlace}(h:DataW.trod enc Tryd.prog W base sp held fuel 23 [c0,c1,c2,c3]=some x):∃a b c d:Int,c0=.int .u8 a∧c1=.int .u8 b∧c2=.int .u8 c∧c3=.int .u8 d∧U8 a∧U8 b∧U8 c∧U8 d:=by
 obtain⟨xs,m,-,-,-,hn,hel⟩:=DataW.trod_array Tryd.underlying23 h
 match xs,hn with
 |[x0,x1,x2,x3],_=>
  have e0:=hel 0 (by decide)
  have e1:=hel 1 (by decide)
  have e2:=hel 2 (by decide)
  have e3:=hel 3 (by decide)
  rw[c_u8]at e0 e1 e2 e3
  obtain⟨a,ea,wa⟩:=u8_of (show DataW.trod _ _ _ _ _ _ _ _ [c0]=some x0 from e0)
  obtain⟨b,eb,wb⟩:=u8_of (show DataW.trod _ _ _ _ _ _ _ _ [c1]=some x1 from e1)
  obtain⟨c,ec,wc⟩:=u8_of (show DataW.trod _ _ _ _ _ _ _ _ [c2]=some x2 from e2)
  obtain⟨d,ed,wd⟩:=u8_of (show DataW.trod _ _ _ _ _ _ _ _ [c3]=some x3 from e3)
  simp at ea eb ec ed
  exact⟨a,b,c,d,ea,eb,ec,ed,wa,wb,wc,wd⟩
set_option maxRecDepth 100000 in
theorem gs_of{fuel:Nat}{cs:List Value}{x:DataW H×List MemPlace}(h:DataW.trod enc Tryd.prog W base sp held fuel 24 cs=some x):∃v l,cs=[v]∧Arr default 4 (fun w B b p g=>GAt w B b p g∧Gok g) W W.heap.size v l:=
 arr_of Tryd.underlying24 c_gx (by decide) (fun b p cs' y n h3 hc ht=>by
  obtain⟨y0,y1,n',-,-,h0,h1⟩:=trod_struct2 Tryd.underlying82 ht
  match cs',h3 with
  |[u0,u1,u2,u3],_=>
   rw[c_u8]at h0
   rw[c_a3]at h1
   obtain⟨k,e0,wk⟩:=u8_of (show DataW.trod _ _ _ _ _ _ _ _ [u0]=some y0 from h0)
   obtain⟨i0,i1,i2,rfl,rfl,rfl,w0,w1,w2⟩:=three_of (show DataW.trod _ _ _ _ _ _ _ _ [u1,u2,u3]=some y1 from h1)
   simp at e0
   subst e0
   exact⟨⟨k,i0,i1,i2⟩,⟨hc 0 (by decide),hc 1 (by decide),hc 2 (by decide),hc 3 (by decide)⟩,wk,w0,w1,w2⟩) h
theorem us_of{fuel:Nat}{cs:List Value}{x:DataW H×List MemPlace}(h:DataW.trod enc Tryd.prog W base sp held fuel 25 cs=some x):∃v l,cs=[v]∧Arr 0 1 (fun w B b p g=>U8At w B b p g∧U8 g) W W.heap.size v l:=
 arr_of Tryd.underlying25 c_u8 (by decide) (fun b p cs' y n h3 hc ht=>by
  obtain⟨a,rfl,wa⟩:=u8_of ht
  exact⟨a,by have:=hc 0 (by decide);simpa [U8At]using this,wa⟩) h
set_option maxRecDepth 100000 in
theorem open_cx{b0:Nat}{r:Reach}{v:Value}{d:DataW H}{p:List MemPlace}(hv:Value.okWide Tryd.prog W r b0 27 v)(h:DataW.Trod enc Tryd.prog W base sp held 27 v d p):
 ∃(x:Cx) (sG sA:Value),v=.agg #[.int .u8 x.inN,.int .u8 x.dffs,.int .u8 x.d0,.int .u8 x.d1,.bool x.bus,.bool x.mem,.int .u8 x.p0,.int .u8 x.p1,.int .u8 x.p2,.int .u8 x.p3,sG,sA]∧Cok x∧Gs W W.heap.size sG x.gates∧Ks W W.heap.size sA x.outs:=by
 obtain⟨cs,rfl,hsz⟩:=okWide_struct Tryd.underlying27 hv
 obtain⟨c0,c1,c2,c3,c4,c5,c6,c7,c8,c9,c10,c11,rfl⟩:=array12 (hsz.trans c_cx)
 obtain⟨fuel,hf⟩:=h
 obtain⟨xs,n,-,-,-,hlen,hel⟩:=DataW.trod_struct Tryd.underlying27 hf
 match xs,hlen with
 |[y0,y1,y2,y3,y4,y5,y6,y7],_=>
  have h0:DataW.trod enc Tryd.prog W base sp held n 5 (([c0,c1,c2,c3,c4,c5,c6,c7,c8,c9,c10,c11].drop 0).take (Tryd.prog.cellsOf 5))=_:=hel 0 _ rfl
  have h1:DataW.trod enc Tryd.prog W base sp held n 5 (([c0,c1,c2,c3,c4,c5,c6,c7,c8,c9,c10,c11].drop 1).take (Tryd.prog.cellsOf 5))=_:=hel 1 _ rfl
  have h2:DataW.trod enc Tryd.prog W base sp held n 22 (([c0,c1,c2,c3,c4,c5,c6,c7,c8,c9,c10,c11].drop 2).take (Tryd.prog.cellsOf 22))=_:=hel 2 _ rfl
  have h3:DataW.trod enc Tryd.prog W base sp held n 4 (([c0,c1,c2,c3,c4,c5,c6,c7,c8,c9,c10,c11].drop 4).take (Tryd.prog.cellsOf 4))=_:=hel 3 _ rfl
  have h4:DataW.trod enc Tryd.prog W base sp held n 4 (([c0,c1,c2,c3,c4,c5,c6,c7,c8,c9,c10,c11].drop 5).take (Tryd.prog.cellsOf 4))=_:=hel 4 _ rfl
  have h5:DataW.trod enc Tryd.prog W base sp held n 23 (([c0,c1,c2,c3,c4,c5,c6,c7,c8,c9,c10,c11].drop 6).take (Tryd.prog.cellsOf 23))=_:=hel 5 _ rfl
  have h6:DataW.trod enc Tryd.prog W base sp held n 24 (([c0,c1,c2,c3,c4,c5,c6,c7,c8,c9,c10,c11].drop 10).take (Tryd.prog.cellsOf 24))=_:=hel 6 _ rfl
  have h7:DataW.trod enc Tryd.prog W base sp held n 25 (([c0,c1,c2,c3,c4,c5,c6,c7,c8,c9,c10,c11].drop 11).take (Tryd.prog.cellsOf 25))=_:=hel 7 _ rfl
  rw[c_u8]at h0 h1
  rw[c_a2]at h2
  rw[c_bl]at h3 h4
  rw[c_a4]at h5
  rw[c_gs]at h6
  rw[c_us]at h7
  obtain⟨a0,e0,w0⟩:=u8_of (show DataW.trod _ _ _ _ _ _ _ _ [c0]=some y0 from h0)
  obtain⟨a1,e1,w1⟩:=u8_of (show DataW.trod _ _ _ _ _ _ _ _ [c1]=some y1 from h1)
  obtain⟨a2,a3,rfl,rfl,w2,w3⟩:=two_of (show DataW.trod _ _ _ _ _ _ _ _ [c2,c3]=some y2 from h2)
  obtain⟨b4,e4,-⟩:=DataW.trod_bool Tryd.underlying4 (show DataW.trod _ _ _ _ _ _ _ _ [c4]=some y3 from h3)
  obtain⟨b5,e5,-⟩:=DataW.trod_bool Tryd.underlying4 (show DataW.trod _ _ _ _ _ _ _ _ [c5]=some y4 from h4)
  obtain⟨a6,a7,a8,a9,rfl,rfl,rfl,rfl,w6,w7,w8,w9⟩:=four_of (show DataW.trod _ _ _ _ _ _ _ _ [c6,c7,c8,c9]=some y5 from h5)
  obtain⟨sG,gs,e10,hg⟩:=gs_of (show DataW.trod _ _ _ _ _ _ _ _ [c10]=some y6 from h6)
  obtain⟨sA,os,e11,ho⟩:=us_of (show DataW.trod _ _ _ _ _ _ _ _ [c11]=some y7 from h7)
  simp at e0 e1 e4 e5 e10 e11
  subst e0 e1 e4 e5 e10 e11
  obtain⟨hg1,hg2⟩:=hg.two
  obtain⟨ho1,ho2⟩:=ho.two
  exact⟨⟨a0,a1,a2,a3,b4,b5,a6,a7,a8,a9,gs,os⟩,_,_,rfl,⟨w0,w1,w2,w3,w6,w7,w8,w9,hg2,ho2⟩,hg1,ho1⟩
end
end Go.Proofs.YtcbllelkgniogaaDoor
