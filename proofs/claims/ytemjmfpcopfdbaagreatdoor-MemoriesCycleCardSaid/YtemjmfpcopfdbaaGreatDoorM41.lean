/- The texts Pan Pac Pcx Rs Rt9. -/
import Derived.Test.YtemjmfpcopfdbaaGreatDoorM01
import Derived.Deep.Slices
import Derived.Deep.Fields
import Derived.SliceStrings
import Derived.ChangeSame
import Derived.Test.YtemjmfpcopfdbaaGreatDoorCards
import Derived.Test.YtemjmfpcopfdbaaGreatDoorTie
import Derived.ProofKit
import Derived.OpenShut
import Derived.Deep.DeepHandedRow
import Derived.Lib.LaidTab
import Derived.Lib.SmallJoins
import Derived.MakeChecks
import Derived.Deep.Strs
import Derived.Test.YtemjmfpcopfdbaaGreatDoorM22
import Derived.Test.YtemjmfpcopfdbaaGreatDoorM06
namespace Go.Proofs.YtemjmfpcopfdbaaGreatDoor
open Go.ChangeShapes Go.WideShapes Go.ChangeAt Go.RowKit
theorem rw_own:ownKnob Tryz.prog.godebug=none:=by kernel_rfl
theorem rw_laidOut:laidOutB Tryz.prog=true:=by kernel_rfl
theorem g_spans: Tryz.prog.globalNamed "probecard/logic.spans" =some 1:=by kernel_rfl
theorem t_spans:(Tryz.prog.globals[1]?).map (·.type)=some 170:=by kernel_rfl
theorem c_span: Tryz.prog.cellsOf 169=2:=by kernel_rfl
theorem c_int: Tryz.prog.cellsOf 3=1:=by kernel_rfl
section
variable {H:Type} {enc:TypeId×Value→H}
def spanD(i:Nat):DataW H:=.agg [.lit (.int .i64 (spansL.getD (2*i) 0)),.lit (.int .i64 (spansL.getD (2*i+1) 0))]
theorem spans_cells{W:World}{base fuel:Nat}{sp:Nat→Bool}{held:Bool}{cs:List Value}{p:List MemPlace}
 (h:DataW.trod enc Tryz.prog W base sp held fuel 170 cs=some (Rows.laid_probecard_logic_spans,p)) (k:Nat) (hk:k<32):cs[k]? =some (.int .i64 (spansL.getD k 0)):=by
 obtain⟨xs,m,-,hx,hlen,hn,hel⟩:=DataW.trod_array Tryz.underlying170 h
 simp only[Prod.mk.injEq]at hx
 have hxs:xs.map (·.1)=(List.range 16).map (spanD (H:=H)):=by
  have e:(Rows.laid_probecard_logic_spans:DataW H)=.agg ((List.range 16).map spanD):=rfl
  have:=hx.1.symm.trans e
  injection this
 have hi:k/2<16:=by omega
 have hxi:=congrArg (·[k/2]?) hxs
 simp only[List.getElem?_map,List.getElem?_range hi,Option.map_some]at hxi
 obtain⟨y,hy,hyd⟩:=Option.map_eq_some_iff.1 hxi
 have ht:=(hel (k/2) hi).trans hy
 rw[c_span]at ht
 obtain⟨y0,y1,n,hyx,-,h0,h1⟩:=trod_struct2 Tryz.underlying169 ht
 obtain⟨a,ea,ha,-⟩:=DataW.trod_int Tryz.underlying3 h0
 obtain⟨b,eb,hb,-⟩:=DataW.trod_int Tryz.underlying3 h1
 rw[hyx]at hyd
 simp only[spanD,DataW.agg.injEq,List.cons.injEq,and_true]at hyd
 rw[ha,hb]at hyd
 simp only[DataW.lit.injEq,Lit.int.injEq,true_and]at hyd
 obtain⟨rfl,rfl⟩:=hyd
 rw[c_int]at ea eb
 have e0:cs[k/2*2]? =some (.int .i64 (spansL.getD (2*(k/2)) 0)):=by
  have:=congrArg (·[0]?) ea
  simpa [List.getElem?_take,List.getElem?_drop]using this
 have e1:cs[k/2*2+1]? =some (.int .i64 (spansL.getD (2*(k/2)+1) 0)):=by
  have:=congrArg (·[0]?) eb
  simpa [List.getElem?_take,List.getElem?_drop]using this
 rcases Nat.mod_two_eq_zero_or_one k with h2|h2
 ·have e:k/2*2=k:=by omega
  have e':2*(k/2)=k:=by omega
  rw[e,e']at e0;exact e0
 ·have e:k/2*2+1=k:=by omega
  have e':2*(k/2)+1=k:=by omega
  rw[e,e']at e1;exact e1
end
section
variable {H:Type} {enc:TypeId×Value→H} {P:Program}
theorem all_below(hl:laidOutB P=true){W W':World}(hb:Below W.heap.size W W'):∀ {ts:List TypeId} {vs:List Value} {ds:List (DataW H)} {p:List MemPlace},
 (∀t∈ts,P.readableRec t=true∧t<P.types.size)→DataW.TrodAll enc P W 0 (fun _=>true) true ts vs ds p→(∀x∈p,x.block<W.heap.size)→
 DataW.TrodAll enc P W' 0 (fun b=>decide (b<W.heap.size)) true ts vs ds p
 |[],vs,ds,p,_,h,_=>by
  obtain⟨rfl,rfl,rfl⟩:=trodAll_nil h
  exact trodAll_mk0
 |t::ts,vs,ds,p,hr,h,hp=>by
  obtain⟨v,vs',d,ds',p1,p2,rfl,rfl,rfl,h1,h2⟩:=trodAll_cons h
  have hr1:=hr t List.mem_cons_self
  exact trodAll_cons_mk (Below.trod hl hr1.1 hr1.2 h1 hb fun x hx=>hp x (List.mem_append_left _ hx))
   (all_below hl hb (fun u hu=>hr u (List.mem_cons_of_mem _ hu)) h2 fun x hx=>hp x (List.mem_append_right _ hx))
theorem law_post(hl:laidOutB P=true){f:Func}{s:ChangeSpec}{W W':World}{args:Array Value}{ds:List (DataW H)}{before:List MemPlace}{tb:TypeId}
 (hv:s.vars=[]) (hW:DataW.Whole enc P f.params.toList s.vars false W args.toList ds [] before) (hr:∀t∈f.params.toList,P.readableRec t=true∧t<P.types.size)
 (hres:f.resultTypes= #[tb]) (htb:P.underlying tb=some .bool) (hfn:s.fn H (ds++[])= { results:=[.lit (.bool true)],args:=ds }) (hb:Below W.heap.size W W'):
 s.post enc P f false true false false W args (.bool true) W':=by
 have hlt:=hW.lt
 obtain⟨p,q,hA,hV,he,hz,hn⟩:=id hW
 rw[hv]at hV
 obtain⟨-,rfl⟩:=trodVars_none hV
 rw[List.append_nil]at he
 subst he
 refine⟨ds,[],before,[],before,[],hW,?_,?_,?_,hb.frame _,fun h=>by cases h⟩
 ·rw[hfn,hres]
  exact trodAll_cons_mk (shut_bool htb true) trodAll_mk0
 ·rw[hfn]
  exact all_below hl hb hr hA fun x hx=>hlt x hx
 ·rw[hfn,hv]
  rfl
end
def relay(cs:Array Value):Obj→Obj
 | .cells _ t fr=>.cells cs t fr
 |o=>o
noncomputable def tabWorld (os:Os):World:=
 { World.holding Tryz.prog os ⟨#[],#[],[]⟩ with heap:=(World.holding Tryz.prog os ⟨#[],#[],[]⟩).heap.modify 1 (relay (spansL.map (Value.int .i64)).toArray) }
section
variable {H:Type} {enc:TypeId×Value→H} {W:World} {base:Nat} {sp:Nat→Bool} {held:Bool}
theorem arr_of{α:Type} [Inhabited α] {d:α}{sz:Nat}{R:World→Nat→Nat→Nat→α→Prop}{t e:TypeId}{fuel:Nat}{cs:List Value}{x:DataW H×List MemPlace}(ht: Tryz.prog.underlying t=some (.slice e))(hsz: Tryz.prog.cellsOf e=sz)(hpos:0<sz)
 (hel:∀b p cs' y n,cs'.length=sz→(∀j,j<sz→W.cell? ⟨b,p+j,none⟩=cs'[j]?)→DataW.trod enc Tryz.prog W base sp held n e cs'=some y→∃a:α,R W W.heap.size b p a)
 (h:DataW.trod enc Tryz.prog W base sp held fuel t cs=some x):∃v l,cs=[v]∧Arr d sz R W W.heap.size v l:=by
 rcases Go.Deep.open_slice ht h with⟨rfl,-⟩| ⟨a,len,cap,m,n,D,Pl,rfl,-,hl,hm,hmm,-,hx⟩
 ·exact⟨_,[],rfl,Arr.nil _ _ _ _ _⟩
 ·have hlm:len≤m:=by rw[hmm];split<;>omega
  rw[hsz]at hx
  by_cases h0:0<len
  ·have hsp:a.spot=none:=by
    obtain⟨cs',h1,-⟩:=hx 0 (by omega)
    obtain⟨-,h3,h4⟩:=World.cells?_some h1
    have:=h4 0 hpos
    rw[List.getElem?_eq_getElem (by omega)]at this
    simpa [Addr.add]using World.cell?_spot this
   obtain⟨b,o,spot⟩:=a
   obtain rfl:spot=none:=hsp
   have hk:∀i,i<len→∃q:α,b<W.heap.size∧R W W.heap.size b (o+i*sz) q:=fun i hi=>by
    obtain⟨cs',h1,h2⟩:=hx i (by omega)
    obtain⟨-,h3,h4⟩:=World.cells?_some h1
    have hc:∀j,j<sz→W.cell? ⟨b,o+i*sz+j,none⟩=cs'[j]? :=fun j hj=>by
     have:=h4 j hj
     rw[Go.WideShapes.add_plain,Go.WideShapes.add_plain]at this
     exact this
    obtain⟨q,hq⟩:=hel b (o+i*sz) cs' _ _ h3 hc h2
    refine⟨q,?_,hq⟩
    have:=hc 0 hpos
    rw[List.getElem?_eq_getElem (by omega)]at this
    exact cell_lt this
   obtain⟨f,hf⟩:=Go.Deep.choose_lt hk
   refine⟨_,(List.range len).map f,rfl,some ⟨b,o,none⟩,b,o,cap,by simp,fun _=>rfl,by simpa using hl,by simp;omega,fun k hk'=>?_⟩
   have hkl:k<len:=by simpa using hk'
   have e:((List.range len).map f).getD k d=f k:=by simp[hkl,List.getD_eq_getElem?_getD]
   rw[e]
   exact hf k hkl
  ·obtain rfl:len=0:=by omega
   exact⟨_,[],rfl,some a,0,0,cap,rfl,fun h=>absurd h (by simp),by simp,by simp,fun k hk=>absurd hk (by simp)⟩
end
theorem c_u8: Tryz.prog.cellsOf 5=1:=by kernel_rfl
theorem c_bl: Tryz.prog.cellsOf 4=1:=by kernel_rfl
theorem c_a2: Tryz.prog.cellsOf 22=2:=by kernel_rfl
theorem c_a3: Tryz.prog.cellsOf 83=3:=by kernel_rfl
theorem c_a4: Tryz.prog.cellsOf 23=4:=by kernel_rfl
theorem c_gx: Tryz.prog.cellsOf 85=4:=by kernel_rfl
theorem c_cx: Tryz.prog.cellsOf 27=12:=by kernel_rfl
theorem c_gs: Tryz.prog.cellsOf 24=1:=by kernel_rfl
theorem c_us: Tryz.prog.cellsOf 25=1:=by kernel_rfl
theorem array12{α:Type}{cs:Array α}(h:cs.size=12):∃c0 c1 c2 c3 c4 c5 c6 c7 c8 c9 c10 c11,cs= #[c0,c1,c2,c3,c4,c5,c6,c7,c8,c9,c10,c11]:=by
 obtain⟨l⟩:=cs
 match l,h with
 |[c0,c1,c2,c3,c4,c5,c6,c7,c8,c9,c10,c11],_=>exact⟨c0,c1,c2,c3,c4,c5,c6,c7,c8,c9,c10,c11,rfl⟩
theorem Arr.two{α:Type}{d:α}{sz:Nat}{R:World→Nat→Nat→Nat→α→Prop}{Q:α→Prop}{w:World}{B:Nat}{v:Value}{l:List α}(h:Arr d sz (fun w B b p a=>R w B b p a∧Q a) w B v l):
 Arr d sz R w B v l∧∀k,k<l.length→Q (l.getD k d):=by
 obtain⟨A,b,o,c,h1,h2,h3,h4,h5⟩:=h
 exact⟨⟨A,b,o,c,h1,h2,h3,h4,fun k hk=>⟨(h5 k hk).1,(h5 k hk).2.1⟩⟩,fun k hk=>(h5 k hk).2.2⟩
section
variable {H:Type} {enc:TypeId×Value→H} {W:World} {base:Nat} {sp:Nat→Bool} {held:Bool}
theorem u8_of{fuel:Nat}{cs:List Value}{x:DataW H×List MemPlace}(h:DataW.trod enc Tryz.prog W base sp held fuel 5 cs=some x):∃a:Int,cs=[.int .u8 a]∧U8 a:=by
 obtain⟨a,e,-,w⟩:=DataW.trod_int Tryz.underlying5 h
 exact⟨a,e,bounds_u8 w⟩
set_option maxRecDepth 100000 in
theorem two_of{fuel:Nat}{c0 c1:Value}{x:DataW H×List MemPlace}(h:DataW.trod enc Tryz.prog W base sp held fuel 22 [c0,c1]=some x):∃a b:Int,c0=.int .u8 a∧c1=.int .u8 b∧U8 a∧U8 b:=by
 obtain⟨xs,m,-,-,-,hn,hel⟩:=DataW.trod_array Tryz.underlying22 h
 match xs,hn with
 |[x0,x1],_=>
  have e0:=hel 0 (by decide)
  have e1:=hel 1 (by decide)
  rw[c_u8]at e0 e1
  obtain⟨a,ea,wa⟩:=u8_of (show DataW.trod _ _ _ _ _ _ _ _ [c0]=some x0 from e0)
  obtain⟨b,eb,wb⟩:=u8_of (show DataW.trod _ _ _ _ _ _ _ _ [c1]=some x1 from e1)
  simp at ea eb
  exact⟨a,b,ea,eb,wa,wb⟩
set_option maxRecDepth 100000 in
theorem three_of{fuel:Nat}{c0 c1 c2:Value}{x:DataW H×List MemPlace}(h:DataW.trod enc Tryz.prog W base sp held fuel 83 [c0,c1,c2]=some x):∃a b c:Int,c0=.int .u8 a∧c1=.int .u8 b∧c2=.int .u8 c∧U8 a∧U8 b∧U8 c:=by
 obtain⟨xs,m,-,-,-,hn,hel⟩:=DataW.trod_array Tryz.underlying83 h
 match xs,hn with
 |[x0,x1,x2],_=>
  have e0:=hel 0 (by decide)
  have e1:=hel 1 (by decide)
  have e2:=hel 2 (by decide)
  rw[c_u8]at e0 e1 e2
  obtain⟨a,ea,wa⟩:=u8_of (show DataW.trod _ _ _ _ _ _ _ _ [c0]=some x0 from e0)
  obtain⟨b,eb,wb⟩:=u8_of (show DataW.trod _ _ _ _ _ _ _ _ [c1]=some x1 from e1)
  obtain⟨c,ec,wc⟩:=u8_of (show DataW.trod _ _ _ _ _ _ _ _ [c2]=some x2 from e2)
  simp at ea eb ec
  exact⟨a,b,c,ea,eb,ec,wa,wb,wc⟩
set_option maxRecDepth 100000 in
theorem four_of{fuel:Nat}{c0 c1 c2 c3:Value}{x:DataW H×List MemPlace}(h:DataW.trod enc Tryz.prog W base sp held fuel 23 [c0,c1,c2,c3]=some x):∃a b c d:Int,c0=.int .u8 a∧c1=.int .u8 b∧c2=.int .u8 c∧c3=.int .u8 d∧U8 a∧U8 b∧U8 c∧U8 d:=by
 obtain⟨xs,m,-,-,-,hn,hel⟩:=DataW.trod_array Tryz.underlying23 h
 match xs,hn with
 |[x0,x1,x2,x3],_=>
  have e0:=hel 0 (by decide)
  have e1:=hel 1 (by decide)
  have e2:=hel 2 (by decide)
  have e3:=hel 3 (by decide)
  rw[c_u8]at e0 e1 e2 e3
  obtain⟨a,ea,wa⟩:=u8_of (show DataW.trod _ _ _ _ _ _ _ _ [c0]=some x0 from e0)
  obtain⟨b,eb,wb⟩:=u8_of (show DataW.trod _ _ _ _ _ _ _ _ [c1]=some x1 from e1)
  obtain⟨c,ec,wc⟩:=u8_of (show DataW.trod _ _ _ _ _ _ _ _ [c2]=some x2 from e2)
  obtain⟨d,ed,wd⟩:=u8_of (show DataW.trod _ _ _ _ _ _ _ _ [c3]=some x3 from e3)
  simp at ea eb ec ed
  exact⟨a,b,c,d,ea,eb,ec,ed,wa,wb,wc,wd⟩
set_option maxRecDepth 100000 in
theorem gs_of{fuel:Nat}{cs:List Value}{x:DataW H×List MemPlace}(h:DataW.trod enc Tryz.prog W base sp held fuel 24 cs=some x):∃v l,cs=[v]∧Arr default 4 (fun w B b p g=>GAt w B b p g∧Gok g) W W.heap.size v l:=
 arr_of Tryz.underlying24 c_gx (by decide) (fun b p cs' y n h3 hc ht=>by
  obtain⟨y0,y1,n',-,-,h0,h1⟩:=trod_struct2 Tryz.underlying85 ht
  match cs',h3 with
  |[u0,u1,u2,u3],_=>
   rw[c_u8]at h0
   rw[c_a3]at h1
   obtain⟨k,e0,wk⟩:=u8_of (show DataW.trod _ _ _ _ _ _ _ _ [u0]=some y0 from h0)
   obtain⟨i0,i1,i2,rfl,rfl,rfl,w0,w1,w2⟩:=three_of (show DataW.trod _ _ _ _ _ _ _ _ [u1,u2,u3]=some y1 from h1)
   simp at e0
   subst e0
   exact⟨⟨k,i0,i1,i2⟩,⟨hc 0 (by decide),hc 1 (by decide),hc 2 (by decide),hc 3 (by decide)⟩,wk,w0,w1,w2⟩) h
theorem us_of{fuel:Nat}{cs:List Value}{x:DataW H×List MemPlace}(h:DataW.trod enc Tryz.prog W base sp held fuel 25 cs=some x):∃v l,cs=[v]∧Arr 0 1 (fun w B b p g=>U8At w B b p g∧U8 g) W W.heap.size v l:=
 arr_of Tryz.underlying25 c_u8 (by decide) (fun b p cs' y n h3 hc ht=>by
  obtain⟨a,rfl,wa⟩:=u8_of ht
  exact⟨a,by have:=hc 0 (by decide);simpa [U8At]using this,wa⟩) h
set_option maxRecDepth 100000 in
theorem open_cx{b0:Nat}{r:Reach}{v:Value}{d:DataW H}{p:List MemPlace}(hv:Value.okWide Tryz.prog W r b0 27 v)(h:DataW.Trod enc Tryz.prog W base sp held 27 v d p):
 ∃(x:Cx) (sG sA:Value),v=.agg #[.int .u8 x.inN,.int .u8 x.dffs,.int .u8 x.d0,.int .u8 x.d1,.bool x.bus,.bool x.mem,.int .u8 x.p0,.int .u8 x.p1,.int .u8 x.p2,.int .u8 x.p3,sG,sA]∧Cok x∧Gs W W.heap.size sG x.gates∧Ks W W.heap.size sA x.outs:=by
 obtain⟨cs,rfl,hsz⟩:=okWide_struct Tryz.underlying27 hv
 obtain⟨c0,c1,c2,c3,c4,c5,c6,c7,c8,c9,c10,c11,rfl⟩:=array12 (hsz.trans c_cx)
 obtain⟨fuel,hf⟩:=h
 obtain⟨xs,n,-,-,-,hlen,hel⟩:=DataW.trod_struct Tryz.underlying27 hf
 match xs,hlen with
 |[y0,y1,y2,y3,y4,y5,y6,y7],_=>
  have h0:DataW.trod enc Tryz.prog W base sp held n 5 (([c0,c1,c2,c3,c4,c5,c6,c7,c8,c9,c10,c11].drop 0).take (Tryz.prog.cellsOf 5))=_:=hel 0 _ rfl
  have h1:DataW.trod enc Tryz.prog W base sp held n 5 (([c0,c1,c2,c3,c4,c5,c6,c7,c8,c9,c10,c11].drop 1).take (Tryz.prog.cellsOf 5))=_:=hel 1 _ rfl
  have h2:DataW.trod enc Tryz.prog W base sp held n 22 (([c0,c1,c2,c3,c4,c5,c6,c7,c8,c9,c10,c11].drop 2).take (Tryz.prog.cellsOf 22))=_:=hel 2 _ rfl
  have h3:DataW.trod enc Tryz.prog W base sp held n 4 (([c0,c1,c2,c3,c4,c5,c6,c7,c8,c9,c10,c11].drop 4).take (Tryz.prog.cellsOf 4))=_:=hel 3 _ rfl
  have h4:DataW.trod enc Tryz.prog W base sp held n 4 (([c0,c1,c2,c3,c4,c5,c6,c7,c8,c9,c10,c11].drop 5).take (Tryz.prog.cellsOf 4))=_:=hel 4 _ rfl
  have h5:DataW.trod enc Tryz.prog W base sp held n 23 (([c0,c1,c2,c3,c4,c5,c6,c7,c8,c9,c10,c11].drop 6).take (Tryz.prog.cellsOf 23))=_:=hel 5 _ rfl
  have h6:DataW.trod enc Tryz.prog W base sp held n 24 (([c0,c1,c2,c3,c4,c5,c6,c7,c8,c9,c10,c11].drop 10).take (Tryz.prog.cellsOf 24))=_:=hel 6 _ rfl
  have h7:DataW.trod enc Tryz.prog W base sp held n 25 (([c0,c1,c2,c3,c4,c5,c6,c7,c8,c9,c10,c11].drop 11).take (Tryz.prog.cellsOf 25))=_:=hel 7 _ rfl
  rw[c_u8]at h0 h1
  rw[c_a2]at h2
  rw[c_bl]at h3 h4
  rw[c_a4]at h5
  rw[c_gs]at h6
  rw[c_us]at h7
  obtain⟨a0,e0,w0⟩:=u8_of (show DataW.trod _ _ _ _ _ _ _ _ [c0]=some y0 from h0)
  obtain⟨a1,e1,w1⟩:=u8_of (show DataW.trod _ _ _ _ _ _ _ _ [c1]=some y1 from h1)
  obtain⟨a2,a3,rfl,rfl,w2,w3⟩:=two_of (show DataW.trod _ _ _ _ _ _ _ _ [c2,c3]=some y2 from h2)
  obtain⟨b4,e4,-⟩:=DataW.trod_bool Tryz.underlying4 (show DataW.trod _ _ _ _ _ _ _ _ [c4]=some y3 from h3)
  obtain⟨b5,e5,-⟩:=DataW.trod_bool Tryz.underlying4 (show DataW.trod _ _ _ _ _ _ _ _ [c5]=some y4 from h4)
  obtain⟨a6,a7,a8,a9,rfl,rfl,rfl,rfl,w6,w7,w8,w9⟩:=four_of (show DataW.trod _ _ _ _ _ _ _ _ [c6,c7,c8,c9]=some y5 from h5)
  obtain⟨sG,gs,e10,hg⟩:=gs_of (show DataW.trod _ _ _ _ _ _ _ _ [c10]=some y6 from h6)
  obtain⟨sA,os,e11,ho⟩:=us_of (show DataW.trod _ _ _ _ _ _ _ _ [c11]=some y7 from h7)
  simp at e0 e1 e4 e5 e10 e11
  subst e0 e1 e4 e5 e10 e11
  obtain⟨hg1,hg2⟩:=hg.two
  obtain⟨ho1,ho2⟩:=ho.two
  exact⟨⟨a0,a1,a2,a3,b4,b5,a6,a7,a8,a9,gs,os⟩,_,_,rfl,⟨w0,w1,w2,w3,w6,w7,w8,w9,hg2,ho2⟩,hg1,ho1⟩
end
theorem g_chars: Tryz.prog.globalNamed "probecard/logic.characters" =some 0:=by kernel_rfl
theorem t_chars:(Tryz.prog.globals[0]?).map (·.type)=some 23:=by kernel_rfl
theorem c_chars: Tryz.prog.cellsOf 23=4:=by kernel_rfl
theorem c_byte: Tryz.prog.cellsOf 5=1:=by kernel_rfl
theorem Lg.tabs_of{W:World}(h:laidMetH Tryz.prog [("probecard/logic.spans",Rows.laid_probecard_logic_spans),("probecard/logic.characters",Rows.laid_probecard_logic_characters)] W):Lg.Tabs W:=by
 rw[MakeChecks.laidMetH_plain _ _ _ (by kernel_rfl)]at h
 obtain⟨ps,⟨g0,t0,cs0,f0,p0,q0,hg0,ht0,hv0,hd0,⟨g1,t1,cs1,f1,p1,q1,hg1,ht1,hv1,hd1,-,-⟩,-⟩,-,-⟩:=h
 obtain rfl:=Option.some.inj (g_spans.symm.trans hg0)
 obtain rfl:=Option.some.inj (g_chars.symm.trans hg1)
 obtain rfl:=Option.some.inj (t_spans.symm.trans ht0)
 obtain rfl:=Option.some.inj (t_chars.symm.trans ht1)
 have hs:∀k,k<32→W.cell? ⟨1,k,none⟩=some (.int .i64 (spansL.getD k 0)):=fun k hk=>by
  rw[World.var?_cell g_spans hv0 k]
  simpa using spans_cells hd0 k hk
 have hc:cs1.toList=charsL.map fun z=>Value.int .u8 z:=Lib.cells_of_tab (zs:=charsL) Tryz.underlying23 Tryz.underlying5 c_byte c_chars hd1
 have hch:∀k,k<4→W.cell? ⟨0,k,none⟩=some (.int .u8 (charsL.getD k 0)):=fun k hk=>by
  rw[World.var?_cell g_chars hv1 k,←Array.getElem?_toList,hc,List.getElem?_map,List.getD_eq_getElem?_getD,List.getElem?_eq_getElem (show k<charsL.length from hk)]
  rfl
 refine⟨?_,hs,hch⟩
 have h0:=hs 0 (by decide)
 have h1:=hch 0 (by decide)
 have lt:∀ {g:Nat} {v:Value},W.cell? ⟨g,0,none⟩=some v→g<W.heap.size:=fun {g v} h=>by
  rcases Nat.lt_or_ge g W.heap.size with hl|hl
  ·exact hl
  ·simp[World.cell?,Array.getElem?_eq_none hl]at h
 have l0:=lt h0
 have l1:=lt h1
 omega
noncomputable def Lg.tabWorld (os:Os):World:=
 { World.holding Tryz.prog os ⟨#[],#[],[]⟩ with heap:=((World.holding Tryz.prog os ⟨#[],#[],[]⟩).heap.modify 1 (relay (spansL.map (Value.int .i64)).toArray)).modify 0 (relay (charsL.map (Value.int .u8)).toArray) }
theorem c_p6: Tryz.prog.cellsOf 31=2:=by kernel_rfl
section
variable {H:Type} {enc:TypeId×Value→H} {W:World} {base:Nat} {sp:Nat→Bool} {held:Bool}
theorem ks_slice{w:World}{B:Nat}{v:Value}{l:List Int}(h:Ks w B v l):∃A n c,v=.slice A n c:=by
 obtain⟨A,_,_,c,e,-⟩:=h
 exact⟨A,_,c,e⟩
theorem ks_of{v:Value}{l:List Int}(h:Arr 0 1 (fun w B b p g=>U8At w B b p g∧U8 g) W W.heap.size v l):Ks W W.heap.size v l∧∀y∈l,0≤y∧y≤255:=by
 obtain⟨h1,h2⟩:=Arr.two h
 refine⟨h1,fun y hy=>?_⟩
 obtain⟨k,hk,rfl⟩:=List.mem_iff_getElem.1 hy
 have:=h2 k hk
 rw[List.getD_eq_getElem?_getD,List.getElem?_eq_getElem hk]at this
 exact this
end
theorem c_two9: Tryz.prog.cellsOf 33=3:=by kernel_rfl
theorem c_s9: Tryz.prog.cellsOf 29=1:=by kernel_rfl
section
variable {H:Type} {enc:TypeId×Value→H} {W:World} {base:Nat} {sp:Nat→Bool} {held:Bool}
set_option maxRecDepth 100000 in
theorem open_two{b0:Nat}{r:Reach}{v:Value}{d:DataW H}{p:List MemPlace}(hv:Value.okWide Tryz.prog W r b0 33 v)(h:DataW.Trod enc Tryz.prog W base sp held 33 v d p):
 ∃(A Ai As:Option Addr) (n ni ns c ci cs:Nat) (l li ls:List Int),v=.agg #[.slice A n c,.slice Ai ni ci,.slice As ns cs]∧(Ks W W.heap.size (.slice A n c) l∧Ks W W.heap.size (.slice Ai ni ci) li∧Ks W W.heap.size (.slice As ns cs) ls)∧(∀y∈l,0≤y∧y≤255)∧(∀y∈li,0≤y∧y≤255)∧(∀y∈ls,0≤y∧y≤255):=by
 obtain⟨cs,rfl,hsz⟩:=okWide_struct Tryz.underlying33 hv
 obtain⟨c0,c1,c2,rfl⟩:∃c0 c1 c2,cs= #[c0,c1,c2]:=by
  obtain⟨l⟩:=cs
  match l,hsz.trans c_two9 with
  |[c0,c1,c2],_=>exact⟨c0,c1,c2,rfl⟩
 obtain⟨fuel,hf⟩:=h
 obtain⟨xs,n,-,-,-,hlen,hel⟩:=DataW.trod_struct Tryz.underlying33 hf
 match xs,hlen with
 |[y0,y1],_=>
  have h0:DataW.trod enc Tryz.prog W base sp held n 29 (([c0,c1,c2].drop 0).take (Tryz.prog.cellsOf 29))=_:=hel 0 _ rfl
  have h1:DataW.trod enc Tryz.prog W base sp held n 31 (([c0,c1,c2].drop 1).take (Tryz.prog.cellsOf 31))=_:=hel 1 _ rfl
  rw[c_s9]at h0
  rw[c_p6]at h1
  obtain⟨xs0,n0,-,-,-,hlen0,hel0⟩:=DataW.trod_struct Tryz.underlying29 (show DataW.trod _ _ _ _ _ _ _ _ [c0]=some y0 from h0)
  obtain⟨xs1,n1,-,-,-,hlen1,hel1⟩:=DataW.trod_struct Tryz.underlying31 (show DataW.trod _ _ _ _ _ _ _ _ [c1,c2]=some y1 from h1)
  match xs0,hlen0,xs1,hlen1 with
  |[z0],_,[z1,z2],_=>
   have g0:DataW.trod enc Tryz.prog W base sp held n0 25 (([c0].drop 0).take (Tryz.prog.cellsOf 25))=_:=hel0 0 _ rfl
   have g1:DataW.trod enc Tryz.prog W base sp held n1 25 (([c1,c2].drop 0).take (Tryz.prog.cellsOf 25))=_:=hel1 0 _ rfl
   have g2:DataW.trod enc Tryz.prog W base sp held n1 25 (([c1,c2].drop 1).take (Tryz.prog.cellsOf 25))=_:=hel1 1 _ rfl
   rw[c_us]at g0 g1 g2
   obtain⟨s0,l0,e0,k0⟩:=us_of (show DataW.trod _ _ _ _ _ _ _ _ [c0]=some z0 from g0)
   obtain⟨s1,l1,e1,k1⟩:=us_of (show DataW.trod _ _ _ _ _ _ _ _ [c1]=some z1 from g1)
   obtain⟨s2,l2,e2,k2⟩:=us_of (show DataW.trod _ _ _ _ _ _ _ _ [c2]=some z2 from g2)
   simp at e0 e1 e2
   subst e0 e1 e2
   obtain⟨k0,v0⟩:=ks_of k0
   obtain⟨k1,v1⟩:=ks_of k1
   obtain⟨k2,v2⟩:=ks_of k2
   obtain⟨A,m0,cA,rfl⟩:=ks_slice k0
   obtain⟨Ai,m1,cB,rfl⟩:=ks_slice k1
   obtain⟨As,m2,cC,rfl⟩:=ks_slice k2
   exact⟨A,Ai,As,m0,m1,m2,cA,cB,cC,l0,l1,l2,rfl,⟨k0,k1,k2⟩,v0,v1,v2⟩
end
end Go.Proofs.YtemjmfpcopfdbaaGreatDoor
