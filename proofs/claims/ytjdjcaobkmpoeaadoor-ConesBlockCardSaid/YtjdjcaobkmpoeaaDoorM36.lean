/- The texts Lp5 Pan Pac Pcx Pcz Lq5 Lb5 Fo2. -/
import Derived.Test.YtjdjcaobkmpoeaaDoorM35
import Derived.Test.YtjdjcaobkmpoeaaDoorM29
import Derived.Test.YtjdjcaobkmpoeaaDoorM02
import Derived.Deep.Slices
import Derived.Deep.Fields
import Derived.SliceStrings
import Derived.ChangeSame
import Derived.Test.YtjdjcaobkmpoeaaDoorCards
import Derived.Test.YtjdjcaobkmpoeaaDoorTie
import Derived.Test.YtjdjcaobkmpoeaaDoorM01
import Derived.ProofKit
import Derived.OpenShut
import Derived.Deep.DeepHandedRow
import Derived.Lib.LaidTab
import Derived.Lib.SmallJoins
import Derived.MakeChecks
import Derived.Deep.Strs
import Derived.Test.YtjdjcaobkmpoeaaDoorM24
import Derived.Test.YtjdjcaobkmpoeaaDoorM16
import Derived.Test.YtjdjcaobkmpoeaaDoorM31
import Derived.Test.YtjdjcaobkmpoeaaDoorM18
namespace Go.Proofs.YtjdjcaobkmpoeaaDoor
open Go.RowKit
theorem flat_len{f:Nat→List Int}{B:Nat} :∀k,(∀i,i<k→(f i).length≤B)→((List.range k).flatMap f).length≤k*B
 |0,_=>by simp
 |k+1,h=>by
  have ih:=flat_len (f:=f) (B:=B) k fun i hi=>h i (by omega)
  rw[List.range_succ,List.flatMap_append,List.length_append,List.flatMap_cons,List.flatMap_nil,List.append_nil,Nat.succ_mul]
  have:=h k (by omega)
  omega
theorem G5.obl{c:Ck}{n:Nat}{L:List Int}(G:G5 c n L):(obsN c).length≤1000000000:=by
 obtain⟨h1,h2,h3,-,-,-,h7,-⟩:=shape_zero (chk_shape G.ok)
 have hd:(dffL c.nodes c.nodes.length).length≤c.nodes.length*16:=flat_len _ fun i hi=>by
  split
  ·exact G.pins i (by rw[←G.len];exact hi)
  ·simp
 have hm:(mmsL c.mems c.mems.length).length≤c.mems.length*41:=flat_len _ fun i hi=>by
  have h:=h7 (c.mems.getD i default) (by rw[List.getD_eq_getElem?_getD,List.getElem?_eq_getElem hi];exact List.getElem_mem hi)
  unfold memErr at h
  split at h
  ·cases h
  ·rename_i hh
   unfold mmL
   simp only[List.length_append,List.length_cons,List.length_nil]
   omega
 unfold obsN
 simp only[List.length_append]
 have:=G.len
 have:=G.few
 omega
open Go.ChangeShapes Go.WideShapes Go.ChangeAt Go.RowKit
theorem rw_own:ownKnob Tryd.prog.godebug=none:=by kernel_rfl
theorem rw_laidOut:laidOutB Tryd.prog=true:=by kernel_rfl
theorem g_spans: Tryd.prog.globalNamed "probecard/logic.spans" =some 0:=by kernel_rfl
theorem t_spans:(Tryd.prog.globals[0]?).map (·.type)=some 120:=by kernel_rfl
theorem c_span: Tryd.prog.cellsOf 119=2:=by kernel_rfl
theorem c_int: Tryd.prog.cellsOf 3=1:=by kernel_rfl
section
variable {H:Type} {enc:TypeId×Value→H}
def spanD(i:Nat):DataW H:=.agg [.lit (.int .i64 (spansL.getD (2*i) 0)),.lit (.int .i64 (spansL.getD (2*i+1) 0))]
theorem spans_cells{W:World}{base fuel:Nat}{sp:Nat→Bool}{held:Bool}{cs:List Value}{p:List MemPlace}
 (h:DataW.trod enc Tryd.prog W base sp held fuel 120 cs=some (Rows.laid_probecard_logic_spans,p)) (k:Nat) (hk:k<32):cs[k]? =some (.int .i64 (spansL.getD k 0)):=by
 obtain⟨xs,m,-,hx,hlen,hn,hel⟩:=DataW.trod_array Tryd.underlying120 h
 simp only[Prod.mk.injEq]at hx
 have hxs:xs.map (·.1)=(List.range 16).map (spanD (H:=H)):=by
  have e:(Rows.laid_probecard_logic_spans:DataW H)=.agg ((List.range 16).map spanD):=rfl
  have:=hx.1.symm.trans e
  injection this
 have hi:k/2<16:=by omega
 have hxi:=congrArg (·[k/2]?) hxs
 simp only[List.getElem?_map,List.getElem?_range hi,Option.map_some]at hxi
 obtain⟨y,hy,hyd⟩:=Option.map_eq_some_iff.1 hxi
 have ht:=(hel (k/2) hi).trans hy
 rw[c_span]at ht
 obtain⟨y0,y1,n,hyx,-,h0,h1⟩:=trod_struct2 Tryd.underlying119 ht
 obtain⟨a,ea,ha,-⟩:=DataW.trod_int Tryd.underlying3 h0
 obtain⟨b,eb,hb,-⟩:=DataW.trod_int Tryd.underlying3 h1
 rw[hyx]at hyd
 simp only[spanD,DataW.agg.injEq,List.cons.injEq,and_true]at hyd
 rw[ha,hb]at hyd
 simp only[DataW.lit.injEq,Lit.int.injEq,true_and]at hyd
 obtain⟨rfl,rfl⟩:=hyd
 rw[c_int]at ea eb
 have e0:cs[k/2*2]? =some (.int .i64 (spansL.getD (2*(k/2)) 0)):=by
  have:=congrArg (·[0]?) ea
  simpa [List.getElem?_take,List.getElem?_drop]using this
 have e1:cs[k/2*2+1]? =some (.int .i64 (spansL.getD (2*(k/2)+1) 0)):=by
  have:=congrArg (·[0]?) eb
  simpa [List.getElem?_take,List.getElem?_drop]using this
 rcases Nat.mod_two_eq_zero_or_one k with h2|h2
 ·have e:k/2*2=k:=by omega
  have e':2*(k/2)=k:=by omega
  rw[e,e']at e0;exact e0
 ·have e:k/2*2+1=k:=by omega
  have e':2*(k/2)+1=k:=by omega
  rw[e,e']at e1;exact e1
end
theorem tabs_of{W:World}(h:laidMetH Tryd.prog [("probecard/logic.spans",Rows.laid_probecard_logic_spans)] W):Tabs W:=by
 rw[MakeChecks.laidMetH_plain _ _ _ (by kernel_rfl)]at h
 obtain⟨ps,⟨g0,t0,cs0,f0,p0,q0,hg0,ht0,hv0,hd0,-,-⟩,-,-⟩:=h
 obtain rfl:=Option.some.inj (g_spans.symm.trans hg0)
 obtain rfl:=Option.some.inj (t_spans.symm.trans ht0)
 have hs:∀k,k<32→W.cell? ⟨0,k,none⟩=some (.int .i64 (spansL.getD k 0)):=fun k hk=>by
  rw[World.var?_cell g_spans hv0 k]
  simpa using spans_cells hd0 k hk
 refine⟨?_,hs⟩
 have h0:=hs 0 (by decide)
 have lt:∀ {g:Nat} {v:Value},W.cell? ⟨g,0,none⟩=some v→g<W.heap.size:=fun {g v} h=>by
  rcases Nat.lt_or_ge g W.heap.size with hl|hl
  ·exact hl
  ·simp[World.cell?,Array.getElem?_eq_none hl]at h
 have l0:=lt h0
 omega
section
variable {H:Type} {enc:TypeId×Value→H} {P:Program}
theorem all_below(hl:laidOutB P=true){W W':World}(hb:Below W.heap.size W W'):∀ {ts:List TypeId} {vs:List Value} {ds:List (DataW H)} {p:List MemPlace},
 (∀t∈ts,P.readableRec t=true∧t<P.types.size)→DataW.TrodAll enc P W 0 (fun _=>true) true ts vs ds p→(∀x∈p,x.block<W.heap.size)→
 DataW.TrodAll enc P W' 0 (fun b=>decide (b<W.heap.size)) true ts vs ds p
 |[],vs,ds,p,_,h,_=>by
  obtain⟨rfl,rfl,rfl⟩:=trodAll_nil h
  exact trodAll_mk0
 |t::ts,vs,ds,p,hr,h,hp=>by
  obtain⟨v,vs',d,ds',p1,p2,rfl,rfl,rfl,h1,h2⟩:=trodAll_cons h
  have hr1:=hr t List.mem_cons_self
  exact trodAll_cons_mk (Below.trod hl hr1.1 hr1.2 h1 hb fun x hx=>hp x (List.mem_append_left _ hx))
   (all_below hl hb (fun u hu=>hr u (List.mem_cons_of_mem _ hu)) h2 fun x hx=>hp x (List.mem_append_right _ hx))
theorem law_post(hl:laidOutB P=true){f:Func}{s:ChangeSpec}{W W':World}{args:Array Value}{ds:List (DataW H)}{before:List MemPlace}{tb:TypeId}
 (hv:s.vars=[]) (hW:DataW.Whole enc P f.params.toList s.vars false W args.toList ds [] before) (hr:∀t∈f.params.toList,P.readableRec t=true∧t<P.types.size)
 (hres:f.resultTypes= #[tb]) (htb:P.underlying tb=some .bool) (hfn:s.fn H (ds++[])= { results:=[.lit (.bool true)],args:=ds }) (hb:Below W.heap.size W W'):
 s.post enc P f false true false false W args (.bool true) W':=by
 have hlt:=hW.lt
 obtain⟨p,q,hA,hV,he,hz,hn⟩:=id hW
 rw[hv]at hV
 obtain⟨-,rfl⟩:=trodVars_none hV
 rw[List.append_nil]at he
 subst he
 refine⟨ds,[],before,[],before,[],hW,?_,?_,?_,hb.frame _,fun h=>by cases h⟩
 ·rw[hfn,hres]
  exact trodAll_cons_mk (shut_bool htb true) trodAll_mk0
 ·rw[hfn]
  exact all_below hl hb hr hA fun x hx=>hlt x hx
 ·rw[hfn,hv]
  rfl
end
def relay(cs:Array Value):Obj→Obj
 | .cells _ t fr=>.cells cs t fr
 |o=>o
noncomputable def tabWorld (os:Os):World:=
 { World.holding Tryd.prog os ⟨#[],#[],[]⟩ with heap:=(World.holding Tryd.prog os ⟨#[],#[],[]⟩).heap.modify 0 (relay (spansL.map (Value.int .i64)).toArray) }
theorem c_str: Tryd.prog.cellsOf 9=1:=by kernel_rfl
theorem c_nd: Tryd.prog.cellsOf 57=4:=by kernel_rfl
theorem c_mm: Tryd.prog.cellsOf 72=3:=by kernel_rfl
theorem c_ct: Tryd.prog.cellsOf 27=4:=by kernel_rfl
theorem c_kd: Tryd.prog.cellsOf 55=1:=by kernel_rfl
theorem c_is: Tryd.prog.cellsOf 25=1:=by kernel_rfl
section
variable {H:Type} {enc:TypeId×Value→H} {W:World} {base:Nat} {sp:Nat→Bool} {held:Bool}
theorem arr_of{α:Type} [Inhabited α] {d:α}{sz:Nat}{R:World→Nat→Nat→Nat→α→Prop}{t e:TypeId}{fuel:Nat}{cs:List Value}{x:DataW H×List MemPlace}(ht: Tryd.prog.underlying t=some (.slice e))(hsz: Tryd.prog.cellsOf e=sz)(hpos:0<sz)
 (hel:∀b p cs' y n,cs'.length=sz→(∀j,j<sz→W.cell? ⟨b,p+j,none⟩=cs'[j]?)→DataW.trod enc Tryd.prog W base sp held n e cs'=some y→∃a:α,R W W.heap.size b p a)
 (h:DataW.trod enc Tryd.prog W base sp held fuel t cs=some x):∃v l,cs=[v]∧Arr d sz R W W.heap.size v l:=by
 rcases Go.Deep.open_slice ht h with⟨rfl,-⟩| ⟨a,len,cap,m,n,D,Pl,rfl,-,hl,hm,hmm,-,hx⟩
 ·exact⟨_,[],rfl,Arr.nil _ _ _ _ _⟩
 ·have hlm:len≤m:=by rw[hmm];split<;>omega
  rw[hsz]at hx
  by_cases h0:0<len
  ·have hsp:a.spot=none:=by
    obtain⟨cs',h1,-⟩:=hx 0 (by omega)
    obtain⟨-,h3,h4⟩:=World.cells?_some h1
    have:=h4 0 hpos
    rw[List.getElem?_eq_getElem (by omega)]at this
    simpa [Addr.add]using World.cell?_spot this
   obtain⟨b,o,spot⟩:=a
   obtain rfl:spot=none:=hsp
   have hk:∀i,i<len→∃q:α,b<W.heap.size∧R W W.heap.size b (o+i*sz) q:=fun i hi=>by
    obtain⟨cs',h1,h2⟩:=hx i (by omega)
    obtain⟨-,h3,h4⟩:=World.cells?_some h1
    have hc:∀j,j<sz→W.cell? ⟨b,o+i*sz+j,none⟩=cs'[j]? :=fun j hj=>by
     have:=h4 j hj
     rw[Go.WideShapes.add_plain,Go.WideShapes.add_plain]at this
     exact this
    obtain⟨q,hq⟩:=hel b (o+i*sz) cs' _ _ h3 hc h2
    refine⟨q,?_,hq⟩
    have:=hc 0 hpos
    rw[List.getElem?_eq_getElem (by omega)]at this
    exact cell_lt this
   obtain⟨f,hf⟩:=Go.Deep.choose_lt hk
   refine⟨_,(List.range len).map f,rfl,some ⟨b,o,none⟩,b,o,cap,by simp,fun _=>rfl,by simpa using hl,by simp;omega,fun k hk'=>?_⟩
   have hkl:k<len:=by simpa using hk'
   have e:((List.range len).map f).getD k d=f k:=by simp[hkl,List.getD_eq_getElem?_getD]
   rw[e]
   exact hf k hkl
  ·obtain rfl:len=0:=by omega
   exact⟨_,[],rfl,some a,0,0,cap,rfl,fun h=>absurd h (by simp),by simp,by simp,fun k hk=>absurd hk (by simp)⟩
theorem ints_of{fuel:Nat}{cs:List Value}{x:DataW H×List MemPlace}(h:DataW.trod enc Tryd.prog W base sp held fuel 25 cs=some x):∃v l,cs=[v]∧Is W W.heap.size v l:=
 arr_of Tryd.underlying25 c_int (by decide) (fun b p cs' y n h3 hc ht=>by
  obtain⟨z,rfl,-,-⟩:=DataW.trod_int Tryd.underlying3 ht
  exact⟨z,by have:=hc 0 (by decide);simpa [IntAt]using this⟩) h
theorem strs_of{fuel:Nat}{cs:List Value}{x:DataW H×List MemPlace}(h:DataW.trod enc Tryd.prog W base sp held fuel 23 cs=some x):∃v l,cs=[v]∧Ss W W.heap.size v l:=
 arr_of Tryd.underlying23 c_str (by decide) (fun b p cs' y n h3 hc ht=>by
  obtain⟨s,rfl,-,hw⟩:=DataW.trod_string Tryd.underlying9 ht
  exact⟨s,by have:=hc 0 (by decide);simpa using this,hw⟩) h
end
theorem c_u8: Tryd.prog.cellsOf 5=1:=by kernel_rfl
theorem c_bl: Tryd.prog.cellsOf 4=1:=by kernel_rfl
theorem c_a2: Tryd.prog.cellsOf 44=2:=by kernel_rfl
theorem c_a3: Tryd.prog.cellsOf 74=3:=by kernel_rfl
theorem c_a4: Tryd.prog.cellsOf 45=4:=by kernel_rfl
theorem c_gx: Tryd.prog.cellsOf 76=4:=by kernel_rfl
theorem c_cx: Tryd.prog.cellsOf 49=12:=by kernel_rfl
theorem c_gs: Tryd.prog.cellsOf 46=1:=by kernel_rfl
theorem c_us: Tryd.prog.cellsOf 47=1:=by kernel_rfl
theorem array12{α:Type}{cs:Array α}(h:cs.size=12):∃c0 c1 c2 c3 c4 c5 c6 c7 c8 c9 c10 c11,cs= #[c0,c1,c2,c3,c4,c5,c6,c7,c8,c9,c10,c11]:=by
 obtain⟨l⟩:=cs
 match l,h with
 |[c0,c1,c2,c3,c4,c5,c6,c7,c8,c9,c10,c11],_=>exact⟨c0,c1,c2,c3,c4,c5,c6,c7,c8,c9,c10,c11,rfl⟩
theorem Arr.two{α:Type}{d:α}{sz:Nat}{R:World→Nat→Nat→Nat→α→Prop}{Q:α→Prop}{w:World}{B:Nat}{v:Value}{l:List α}(h:Arr d sz (fun w B b p a=>R w B b p a∧Q a) w B v l):
 Arr d sz R w B v l∧∀k,k<l.length→Q (l.getD k d):=by
 obtain⟨A,b,o,c,h1,h2,h3,h4,h5⟩:=h
 exact⟨⟨A,b,o,c,h1,h2,h3,h4,fun k hk=>⟨(h5 k hk).1,(h5 k hk).2.1⟩⟩,fun k hk=>(h5 k hk).2.2⟩
section
variable {H:Type} {enc:TypeId×Value→H} {W:World} {base:Nat} {sp:Nat→Bool} {held:Bool}
theorem u8_of{fuel:Nat}{cs:List Value}{x:DataW H×List MemPlace}(h:DataW.trod enc Tryd.prog W base sp held fuel 5 cs=some x):∃a:Int,cs=[.int .u8 a]∧U8 a:=by
 obtain⟨a,e,-,w⟩:=DataW.trod_int Tryd.underlying5 h
 exact⟨a,e,bounds_u8 w⟩
set_option maxRecDepth 100000 in
theorem two_of{fuel:Nat}{c0 c1:Value}{x:DataW H×List MemPlace}(h:DataW.trod enc Tryd.prog W base sp held fuel 44 [c0,c1]=some x):∃a b:Int,c0=.int .u8 a∧c1=.int .u8 b∧U8 a∧U8 b:=by
 obtain⟨xs,m,-,-,-,hn,hel⟩:=DataW.trod_array Tryd.underlying44 h
 match xs,hn with
 |[x0,x1],_=>
  have e0:=hel 0 (by decide)
  have e1:=hel 1 (by decide)
  rw[c_u8]at e0 e1
  obtain⟨a,ea,wa⟩:=u8_of (show DataW.trod _ _ _ _ _ _ _ _ [c0]=some x0 from e0)
  obtain⟨b,eb,wb⟩:=u8_of (show DataW.trod _ _ _ _ _ _ _ _ [c1]=some x1 from e1)
  simp at ea eb
  exact⟨a,b,ea,eb,wa,wb⟩
set_option maxRecDepth 100000 in
theorem three_of{fuel:Nat}{c0 c1 c2:Value}{x:DataW H×List MemPlace}(h:DataW.trod enc Tryd.prog W base sp held fuel 74 [c0,c1,c2]=some x):∃a b c:Int,c0=.int .u8 a∧c1=.int .u8 b∧c2=.int .u8 c∧U8 a∧U8 b∧U8 c:=by
 obtain⟨xs,m,-,-,-,hn,hel⟩:=DataW.trod_array Tryd.underlying74 h
 match xs,hn with
 |[x0,x1,x2],_=>
  have e0:=hel 0 (by decide)
  have e1:=hel 1 (by decide)
  have e2:=hel 2 (by decide)
  rw[c_u8]at e0 e1 e2
  obtain⟨a,ea,wa⟩:=u8_of (show DataW.trod _ _ _ _ _ _ _ _ [c0]=some x0 from e0)
  obtain⟨b,eb,wb⟩:=u8_of (show DataW.trod _ _ _ _ _ _ _ _ [c1]=some x1 from e1)
  obtain⟨c,ec,wc⟩:=u8_of (show DataW.trod _ _ _ _ _ _ _ _ [c2]=some x2 from e2)
  simp at ea eb ec
  exact⟨a,b,c,ea,eb,ec,wa,wb,wc⟩
set_option maxRecDepth 100000 in
theorem four_of{fuel:Nat}{c0 c1 c2 c3:Value}{x:DataW H×List MemPlace}(h:DataW.trod enc Tryd.prog W base sp held fuel 45 [c0,c1,c2,c3]=some x):∃a b c d:Int,c0=.int .u8 a∧c1=.int .u8 b∧c2=.int .u8 c∧c3=.int .u8 d∧U8 a∧U8 b∧U8 c∧U8 d:=by
 obtain⟨xs,m,-,-,-,hn,hel⟩:=DataW.trod_array Tryd.underlying45 h
 match xs,hn with
 |[x0,x1,x2,x3],_=>
  have e0:=hel 0 (by decide)
  have e1:=hel 1 (by decide)
  have e2:=hel 2 (by decide)
  have e3:=hel 3 (by decide)
  rw[c_u8]at e0 e1 e2 e3
  obtain⟨a,ea,wa⟩:=u8_of (show DataW.trod _ _ _ _ _ _ _ _ [c0]=some x0 from e0)
  obtain⟨b,eb,wb⟩:=u8_of (show DataW.trod _ _ _ _ _ _ _ _ [c1]=some x1 from e1)
  obtain⟨c,ec,wc⟩:=u8_of (show DataW.trod _ _ _ _ _ _ _ _ [c2]=some x2 from e2)
  obtain⟨d,ed,wd⟩:=u8_of (show DataW.trod _ _ _ _ _ _ _ _ [c3]=some x3 from e3)
  simp at ea eb ec ed
  exact⟨a,b,c,d,ea,eb,ec,ed,wa,wb,wc,wd⟩
set_option maxRecDepth 100000 in
theorem gs_of{fuel:Nat}{cs:List Value}{x:DataW H×List MemPlace}(h:DataW.trod enc Tryd.prog W base sp held fuel 46 cs=some x):∃v l,cs=[v]∧Arr default 4 (fun w B b p g=>GAt w B b p g∧Gok g) W W.heap.size v l:=
 arr_of Tryd.underlying46 c_gx (by decide) (fun b p cs' y n h3 hc ht=>by
  obtain⟨y0,y1,n',-,-,h0,h1⟩:=trod_struct2 Tryd.underlying76 ht
  match cs',h3 with
  |[u0,u1,u2,u3],_=>
   rw[c_u8]at h0
   rw[c_a3]at h1
   obtain⟨k,e0,wk⟩:=u8_of (show DataW.trod _ _ _ _ _ _ _ _ [u0]=some y0 from h0)
   obtain⟨i0,i1,i2,rfl,rfl,rfl,w0,w1,w2⟩:=three_of (show DataW.trod _ _ _ _ _ _ _ _ [u1,u2,u3]=some y1 from h1)
   simp at e0
   subst e0
   exact⟨⟨k,i0,i1,i2⟩,⟨hc 0 (by decide),hc 1 (by decide),hc 2 (by decide),hc 3 (by decide)⟩,wk,w0,w1,w2⟩) h
theorem us_of{fuel:Nat}{cs:List Value}{x:DataW H×List MemPlace}(h:DataW.trod enc Tryd.prog W base sp held fuel 47 cs=some x):∃v l,cs=[v]∧Arr 0 1 (fun w B b p g=>U8At w B b p g∧U8 g) W W.heap.size v l:=
 arr_of Tryd.underlying47 c_u8 (by decide) (fun b p cs' y n h3 hc ht=>by
  obtain⟨a,rfl,wa⟩:=u8_of ht
  exact⟨a,by have:=hc 0 (by decide);simpa [U8At]using this,wa⟩) h
set_option maxRecDepth 100000 in
theorem open_cx{b0:Nat}{r:Reach}{v:Value}{d:DataW H}{p:List MemPlace}(hv:Value.okWide Tryd.prog W r b0 49 v)(h:DataW.Trod enc Tryd.prog W base sp held 49 v d p):
 ∃(x:Cx) (sG sA:Value),v=.agg #[.int .u8 x.inN,.int .u8 x.dffs,.int .u8 x.d0,.int .u8 x.d1,.bool x.bus,.bool x.mem,.int .u8 x.p0,.int .u8 x.p1,.int .u8 x.p2,.int .u8 x.p3,sG,sA]∧Cok x∧Gs W W.heap.size sG x.gates∧Ks W W.heap.size sA x.outs:=by
 obtain⟨cs,rfl,hsz⟩:=okWide_struct Tryd.underlying49 hv
 obtain⟨c0,c1,c2,c3,c4,c5,c6,c7,c8,c9,c10,c11,rfl⟩:=array12 (hsz.trans c_cx)
 obtain⟨fuel,hf⟩:=h
 obtain⟨xs,n,-,-,-,hlen,hel⟩:=DataW.trod_struct Tryd.underlying49 hf
 match xs,hlen with
 |[y0,y1,y2,y3,y4,y5,y6,y7],_=>
  have h0:DataW.trod enc Tryd.prog W base sp held n 5 (([c0,c1,c2,c3,c4,c5,c6,c7,c8,c9,c10,c11].drop 0).take (Tryd.prog.cellsOf 5))=_:=hel 0 _ rfl
  have h1:DataW.trod enc Tryd.prog W base sp held n 5 (([c0,c1,c2,c3,c4,c5,c6,c7,c8,c9,c10,c11].drop 1).take (Tryd.prog.cellsOf 5))=_:=hel 1 _ rfl
  have h2:DataW.trod enc Tryd.prog W base sp held n 44 (([c0,c1,c2,c3,c4,c5,c6,c7,c8,c9,c10,c11].drop 2).take (Tryd.prog.cellsOf 44))=_:=hel 2 _ rfl
  have h3:DataW.trod enc Tryd.prog W base sp held n 4 (([c0,c1,c2,c3,c4,c5,c6,c7,c8,c9,c10,c11].drop 4).take (Tryd.prog.cellsOf 4))=_:=hel 3 _ rfl
  have h4:DataW.trod enc Tryd.prog W base sp held n 4 (([c0,c1,c2,c3,c4,c5,c6,c7,c8,c9,c10,c11].drop 5).take (Tryd.prog.cellsOf 4))=_:=hel 4 _ rfl
  have h5:DataW.trod enc Tryd.prog W base sp held n 45 (([c0,c1,c2,c3,c4,c5,c6,c7,c8,c9,c10,c11].drop 6).take (Tryd.prog.cellsOf 45))=_:=hel 5 _ rfl
  have h6:DataW.trod enc Tryd.prog W base sp held n 46 (([c0,c1,c2,c3,c4,c5,c6,c7,c8,c9,c10,c11].drop 10).take (Tryd.prog.cellsOf 46))=_:=hel 6 _ rfl
  have h7:DataW.trod enc Tryd.prog W base sp held n 47 (([c0,c1,c2,c3,c4,c5,c6,c7,c8,c9,c10,c11].drop 11).take (Tryd.prog.cellsOf 47))=_:=hel 7 _ rfl
  rw[c_u8]at h0 h1
  rw[c_a2]at h2
  rw[c_bl]at h3 h4
  rw[c_a4]at h5
  rw[c_gs]at h6
  rw[c_us]at h7
  obtain⟨a0,e0,w0⟩:=u8_of (show DataW.trod _ _ _ _ _ _ _ _ [c0]=some y0 from h0)
  obtain⟨a1,e1,w1⟩:=u8_of (show DataW.trod _ _ _ _ _ _ _ _ [c1]=some y1 from h1)
  obtain⟨a2,a3,rfl,rfl,w2,w3⟩:=two_of (show DataW.trod _ _ _ _ _ _ _ _ [c2,c3]=some y2 from h2)
  obtain⟨b4,e4,-⟩:=DataW.trod_bool Tryd.underlying4 (show DataW.trod _ _ _ _ _ _ _ _ [c4]=some y3 from h3)
  obtain⟨b5,e5,-⟩:=DataW.trod_bool Tryd.underlying4 (show DataW.trod _ _ _ _ _ _ _ _ [c5]=some y4 from h4)
  obtain⟨a6,a7,a8,a9,rfl,rfl,rfl,rfl,w6,w7,w8,w9⟩:=four_of (show DataW.trod _ _ _ _ _ _ _ _ [c6,c7,c8,c9]=some y5 from h5)
  obtain⟨sG,gs,e10,hg⟩:=gs_of (show DataW.trod _ _ _ _ _ _ _ _ [c10]=some y6 from h6)
  obtain⟨sA,os,e11,ho⟩:=us_of (show DataW.trod _ _ _ _ _ _ _ _ [c11]=some y7 from h7)
  simp at e0 e1 e4 e5 e10 e11
  subst e0 e1 e4 e5 e10 e11
  obtain⟨hg1,hg2⟩:=hg.two
  obtain⟨ho1,ho2⟩:=ho.two
  exact⟨⟨a0,a1,a2,a3,b4,b5,a6,a7,a8,a9,gs,os⟩,_,_,rfl,⟨w0,w1,w2,w3,w6,w7,w8,w9,hg2,ho2⟩,hg1,ho1⟩
end
section
variable {H:Type} {enc:TypeId×Value→H} {W:World} {base:Nat} {sp:Nat→Bool} {held:Bool}
set_option maxRecDepth 100000 in
theorem open_u2{b0:Nat}{r:Reach}{v:Value}{d:DataW H}{p:List MemPlace}(hv:Value.okWide Tryd.prog W r b0 44 v)(h:DataW.Trod enc Tryd.prog W base sp held 44 v d p):
 ∃a b:Int,v=.agg #[.int .u8 a,.int .u8 b]∧U8 a∧U8 b:=by
 simp only[Value.okWide,Tryd.underlying44]at hv
 obtain⟨cs,rfl,hsz,-⟩:=hv
 obtain⟨c0,c1,rfl⟩:∃c0 c1,cs= #[c0,c1]:=by
  obtain⟨l⟩:=cs
  match l,hsz.trans c_a2 with
  |[c0,c1],_=>exact⟨c0,c1,rfl⟩
 obtain⟨fuel,hf⟩:=h
 obtain⟨a,b,rfl,rfl,h1,h2⟩:=two_of (show DataW.trod _ _ _ _ _ _ _ _ [c0,c1]=some _ from hf)
 exact⟨a,b,rfl,h1,h2⟩
end
theorem ck_zero{c:Ck}{n:Nat}{L l:List Int}(G:G5 c n L)(hl:Inr n l):ckI c l=0:=by
 unfold ckI
 rw[if_pos G.ok,if_neg]
 intro h
 unfold anyP at h
 obtain⟨x,hx,h2⟩:=List.any_eq_true.1 h
 have h3:isIdx n x=true:=idx_nod.2 (hl x hx)
 unfold badI at h2
 rw[G.len,h3]at h2
 cases h2
section
variable {c:Ck} {L:List Int} {A0 A1 A2 A3:Option Addr} {n n1 n2 n3 c0 c1 c2 c3:Nat}
theorem fanout_g(G:G5 c n L)(W:World)(hT:Tabs W)(hc:Cir W W.heap.size (.agg #[.slice A0 n c0,.slice A1 n1 c1,.slice A2 n2 c2,.slice A3 n3 c3]) c)(s:Value)(l:List Int)(hs:Is W W.heap.size s l)(hl:Inr n l):
 Calls Tryd.prog 10 #[.agg #[.slice A0 n c0,.slice A1 n1 c1,.slice A2 n2 c2,.slice A3 n3 c3],s] W (ConePost (rdL c.nodes) n l W):=
 fanout_ok c l s A0 A1 A2 A3 n n1 n2 n3 c0 c1 c2 c3 W hT hc hs (ck_zero G hl) hl G.inr' (Nat.le_trans G.few (by decide)) G.np
end
section
variable {P:Program} {ops:Array Oper} {Q:Exit→Act→World→Prop} {i:Nat} {o:Oper} {d:Tmp} {Y:Value→World→Prop} {a:Act} {w:World}
end
def BStk(w:World)(base:Nat)(v:Value)(l:List Bool):Prop:=w.ownsRow base 4 1 v l.length (l.map Value.bool)
theorem BStk.nil(w:World)(base:Nat):BStk w base (.slice none 0 0) []:=World.ownsRow_nil w base _ _
theorem BStk.kept{w w':World}{base:Nat}{v:Value}{l:List Bool}{row:Option Nat}(h:BStk w base v l)(hg:w.grownBy w' row)(hne:∀q,row=some q→q<base):BStk w' base v l:=by
 refine World.ownsRow.kept h hg ?_
 rcases ho:v.ownBlock with _|q
 ·exact .inl rfl
 ·refine .inr fun e=>?_
  have:=(World.ownsRow.lt h q ho).1
  have:=hne q e.symm
  omega
theorem BStk.below{w w':World}{base:Nat}{v:Value}{l:List Bool}(h:BStk w base v l)(hb:Below w.heap.size w w'):BStk w' base v l:=
 h.kept (row:=none) ⟨hb.os,hb.tape,hb.output,hb.size,fun i hi _=>hb.block i hi⟩ (by simp)
theorem BStk.shape{w:World}{base:Nat}{v:Value}{l:List Bool}(h:BStk w base v l):∃A c,v=.slice A l.length c∧l.length≤c∧c≤maxLen∧(0<l.length→∃q,A=some ⟨q,0,none⟩∧base≤q∧q<w.heap.size):=by
 have hlt:=World.ownsRow.lt h
 rcases h.2 with⟨rfl,hn⟩| ⟨g,cap,cur,rfl,hb,hg,hle,hm,-⟩
 ·exact⟨none,0,by rw[hn],by omega,by simp,fun h=>by omega⟩
 ·exact⟨_,cap,rfl,hle,hm,fun _=>⟨g,rfl,hb,(hlt g rfl).2⟩⟩
theorem BStk.cell{w:World}{base q c:Nat}{l:List Bool}(h:BStk w base (.slice (some ⟨q,0,none⟩) l.length c) l){j:Nat}(hj:j<l.length):w.cell? ⟨q,j,none⟩=some (.bool (l.getD j false)):=by
 rw[World.ownsRow.cellAt h j (by omega),List.getElem?_map,List.getElem?_eq_getElem hj]
 simp[List.getD_eq_getElem?_getD,List.getElem?_eq_getElem hj]
theorem ord5_to{L:List Int}{n:Nat}(hL:∀i:Nat,i<n→0≤lat L i∧lat L i<(n:Int)):Ord5 L n (ordTo L n n):=
 ord5_of ⟨ordTo L n n,by simp[rng],ordTo_full hL,Nat.le_refl _,ordTo_sorted L n n,fun x hx=>by
  obtain⟨j,rfl,hj,-⟩:=ordTo_mem.1 hx
  exact⟨by omega,by omega⟩⟩ hL
section
variable {P:Program} {ops:Array Oper} {Q:Exit→Act→World→Prop} {i:Nat} {o:Oper} {d:Tmp} {Y:Value→World→Prop} {a:Act} {w:World}
end
end Go.Proofs.YtjdjcaobkmpoeaaDoor
