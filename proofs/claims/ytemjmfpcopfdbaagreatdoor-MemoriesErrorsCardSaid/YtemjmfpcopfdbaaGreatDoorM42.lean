/- The texts Pan Pac Pcx Rs Psz Rso O9 Rm9. -/
import Derived.Test.YtemjmfpcopfdbaaGreatDoorM01
import Derived.Deep.Slices
import Derived.Deep.Fields
import Derived.SliceStrings
import Derived.ChangeSame
import Derived.Test.YtemjmfpcopfdbaaGreatDoorCards
import Derived.Test.YtemjmfpcopfdbaaGreatDoorTie
import Derived.ProofKit
import Derived.OpenShut
import Derived.Deep.DeepHandedRow
import Derived.Lib.LaidTab
import Derived.Lib.SmallJoins
import Derived.MakeChecks
import Derived.Deep.Strs
import Derived.Test.YtemjmfpcopfdbaaGreatDoorM35
import Derived.Test.YtemjmfpcopfdbaaGreatDoorM14
import Derived.Test.YtemjmfpcopfdbaaGreatDoorM06
import Derived.SizedLaws
import Derived.Test.YtemjmfpcopfdbaaGreatDoorM25
namespace Go.Proofs.YtemjmfpcopfdbaaGreatDoor
open Go.ChangeShapes Go.WideShapes Go.ChangeAt Go.RowKit
theorem rw_own:ownKnob Tryz.prog.godebug=none:=by kernel_rfl
theorem rw_laidOut:laidOutB Tryz.prog=true:=by kernel_rfl
theorem g_spans: Tryz.prog.globalNamed "probecard/logic.spans" =some 1:=by kernel_rfl
theorem t_spans:(Tryz.prog.globals[1]?).map (·.type)=some 170:=by kernel_rfl
theorem c_span: Tryz.prog.cellsOf 169=2:=by kernel_rfl
theorem c_int: Tryz.prog.cellsOf 3=1:=by kernel_rfl
section
variable {H:Type} {enc:TypeId×Value→H}
def spanD(i:Nat):DataW H:=.agg [.lit (.int .i64 (spansL.getD (2*i) 0)),.lit (.int .i64 (spansL.getD (2*i+1) 0))]
theorem spans_cells{W:World}{base fuel:Nat}{sp:Nat→Bool}{held:Bool}{cs:List Value}{p:List MemPlace}
 (h:DataW.trod enc Tryz.prog W base sp held fuel 170 cs=some (Rows.laid_probecard_logic_spans,p)) (k:Nat) (hk:k<32):cs[k]? =some (.int .i64 (spansL.getD k 0)):=by
 obtain⟨xs,m,-,hx,hlen,hn,hel⟩:=DataW.trod_array Tryz.underlying170 h
 simp only[Prod.mk.injEq]at hx
 have hxs:xs.map (·.1)=(List.range 16).map (spanD (H:=H)):=by
  have e:(Rows.laid_probecard_logic_spans:DataW H)=.agg ((List.range 16).map spanD):=rfl
  have:=hx.1.symm.trans e
  injection this
 have hi:k/2<16:=by omega
 have hxi:=congrArg (·[k/2]?) hxs
 simp only[List.getElem?_map,List.getElem?_range hi,Option.map_some]at hxi
 obtain⟨y,hy,hyd⟩:=Option.map_eq_some_iff.1 hxi
 have ht:=(hel (k/2) hi).trans hy
 rw[c_span]at ht
 obtain⟨y0,y1,n,hyx,-,h0,h1⟩:=trod_struct2 Tryz.underlying169 ht
 obtain⟨a,ea,ha,-⟩:=DataW.trod_int Tryz.underlying3 h0
 obtain⟨b,eb,hb,-⟩:=DataW.trod_int Tryz.underlying3 h1
 rw[hyx]at hyd
 simp only[spanD,DataW.agg.injEq,List.cons.injEq,and_true]at hyd
 rw[ha,hb]at hyd
 simp only[DataW.lit.injEq,Lit.int.injEq,true_and]at hyd
 obtain⟨rfl,rfl⟩:=hyd
 rw[c_int]at ea eb
 have e0:cs[k/2*2]? =some (.int .i64 (spansL.getD (2*(k/2)) 0)):=by
  have:=congrArg (·[0]?) ea
  simpa [List.getElem?_take,List.getElem?_drop]using this
 have e1:cs[k/2*2+1]? =some (.int .i64 (spansL.getD (2*(k/2)+1) 0)):=by
  have:=congrArg (·[0]?) eb
  simpa [List.getElem?_take,List.getElem?_drop]using this
 rcases Nat.mod_two_eq_zero_or_one k with h2|h2
 ·have e:k/2*2=k:=by omega
  have e':2*(k/2)=k:=by omega
  rw[e,e']at e0;exact e0
 ·have e:k/2*2+1=k:=by omega
  have e':2*(k/2)+1=k:=by omega
  rw[e,e']at e1;exact e1
end
section
variable {H:Type} {enc:TypeId×Value→H} {P:Program}
theorem all_below(hl:laidOutB P=true){W W':World}(hb:Below W.heap.size W W'):∀ {ts:List TypeId} {vs:List Value} {ds:List (DataW H)} {p:List MemPlace},
 (∀t∈ts,P.readableRec t=true∧t<P.types.size)→DataW.TrodAll enc P W 0 (fun _=>true) true ts vs ds p→(∀x∈p,x.block<W.heap.size)→
 DataW.TrodAll enc P W' 0 (fun b=>decide (b<W.heap.size)) true ts vs ds p
 |[],vs,ds,p,_,h,_=>by
  obtain⟨rfl,rfl,rfl⟩:=trodAll_nil h
  exact trodAll_mk0
 |t::ts,vs,ds,p,hr,h,hp=>by
  obtain⟨v,vs',d,ds',p1,p2,rfl,rfl,rfl,h1,h2⟩:=trodAll_cons h
  have hr1:=hr t List.mem_cons_self
  exact trodAll_cons_mk (Below.trod hl hr1.1 hr1.2 h1 hb fun x hx=>hp x (List.mem_append_left _ hx))
   (all_below hl hb (fun u hu=>hr u (List.mem_cons_of_mem _ hu)) h2 fun x hx=>hp x (List.mem_append_right _ hx))
theorem law_post(hl:laidOutB P=true){f:Func}{s:ChangeSpec}{W W':World}{args:Array Value}{ds:List (DataW H)}{before:List MemPlace}{tb:TypeId}
 (hv:s.vars=[]) (hW:DataW.Whole enc P f.params.toList s.vars false W args.toList ds [] before) (hr:∀t∈f.params.toList,P.readableRec t=true∧t<P.types.size)
 (hres:f.resultTypes= #[tb]) (htb:P.underlying tb=some .bool) (hfn:s.fn H (ds++[])= { results:=[.lit (.bool true)],args:=ds }) (hb:Below W.heap.size W W'):
 s.post enc P f false true false false W args (.bool true) W':=by
 have hlt:=hW.lt
 obtain⟨p,q,hA,hV,he,hz,hn⟩:=id hW
 rw[hv]at hV
 obtain⟨-,rfl⟩:=trodVars_none hV
 rw[List.append_nil]at he
 subst he
 refine⟨ds,[],before,[],before,[],hW,?_,?_,?_,hb.frame _,fun h=>by cases h⟩
 ·rw[hfn,hres]
  exact trodAll_cons_mk (shut_bool htb true) trodAll_mk0
 ·rw[hfn]
  exact all_below hl hb hr hA fun x hx=>hlt x hx
 ·rw[hfn,hv]
  rfl
end
def relay(cs:Array Value):Obj→Obj
 | .cells _ t fr=>.cells cs t fr
 |o=>o
noncomputable def tabWorld (os:Os):World:=
 { World.holding Tryz.prog os ⟨#[],#[],[]⟩ with heap:=(World.holding Tryz.prog os ⟨#[],#[],[]⟩).heap.modify 1 (relay (spansL.map (Value.int .i64)).toArray) }
theorem c_str: Tryz.prog.cellsOf 9=1:=by kernel_rfl
theorem c_nd: Tryz.prog.cellsOf 65=4:=by kernel_rfl
theorem c_mm: Tryz.prog.cellsOf 67=3:=by kernel_rfl
theorem c_ct: Tryz.prog.cellsOf 39=4:=by kernel_rfl
theorem c_kd: Tryz.prog.cellsOf 63=1:=by kernel_rfl
theorem c_is: Tryz.prog.cellsOf 37=1:=by kernel_rfl
section
variable {H:Type} {enc:TypeId×Value→H} {W:World} {base:Nat} {sp:Nat→Bool} {held:Bool}
theorem arr_of{α:Type} [Inhabited α] {d:α}{sz:Nat}{R:World→Nat→Nat→Nat→α→Prop}{t e:TypeId}{fuel:Nat}{cs:List Value}{x:DataW H×List MemPlace}(ht: Tryz.prog.underlying t=some (.slice e))(hsz: Tryz.prog.cellsOf e=sz)(hpos:0<sz)
 (hel:∀b p cs' y n,cs'.length=sz→(∀j,j<sz→W.cell? ⟨b,p+j,none⟩=cs'[j]?)→DataW.trod enc Tryz.prog W base sp held n e cs'=some y→∃a:α,R W W.heap.size b p a)
 (h:DataW.trod enc Tryz.prog W base sp held fuel t cs=some x):∃v l,cs=[v]∧Arr d sz R W W.heap.size v l:=by
 rcases Go.Deep.open_slice ht h with⟨rfl,-⟩| ⟨a,len,cap,m,n,D,Pl,rfl,-,hl,hm,hmm,-,hx⟩
 ·exact⟨_,[],rfl,Arr.nil _ _ _ _ _⟩
 ·have hlm:len≤m:=by rw[hmm];split<;>omega
  rw[hsz]at hx
  by_cases h0:0<len
  ·have hsp:a.spot=none:=by
    obtain⟨cs',h1,-⟩:=hx 0 (by omega)
    obtain⟨-,h3,h4⟩:=World.cells?_some h1
    have:=h4 0 hpos
    rw[List.getElem?_eq_getElem (by omega)]at this
    simpa [Addr.add]using World.cell?_spot this
   obtain⟨b,o,spot⟩:=a
   obtain rfl:spot=none:=hsp
   have hk:∀i,i<len→∃q:α,b<W.heap.size∧R W W.heap.size b (o+i*sz) q:=fun i hi=>by
    obtain⟨cs',h1,h2⟩:=hx i (by omega)
    obtain⟨-,h3,h4⟩:=World.cells?_some h1
    have hc:∀j,j<sz→W.cell? ⟨b,o+i*sz+j,none⟩=cs'[j]? :=fun j hj=>by
     have:=h4 j hj
     rw[Go.WideShapes.add_plain,Go.WideShapes.add_plain]at this
     exact this
    obtain⟨q,hq⟩:=hel b (o+i*sz) cs' _ _ h3 hc h2
    refine⟨q,?_,hq⟩
    have:=hc 0 hpos
    rw[List.getElem?_eq_getElem (by omega)]at this
    exact cell_lt this
   obtain⟨f,hf⟩:=Go.Deep.choose_lt hk
   refine⟨_,(List.range len).map f,rfl,some ⟨b,o,none⟩,b,o,cap,by simp,fun _=>rfl,by simpa using hl,by simp;omega,fun k hk'=>?_⟩
   have hkl:k<len:=by simpa using hk'
   have e:((List.range len).map f).getD k d=f k:=by simp[hkl,List.getD_eq_getElem?_getD]
   rw[e]
   exact hf k hkl
  ·obtain rfl:len=0:=by omega
   exact⟨_,[],rfl,some a,0,0,cap,rfl,fun h=>absurd h (by simp),by simp,by simp,fun k hk=>absurd hk (by simp)⟩
theorem ints_of{fuel:Nat}{cs:List Value}{x:DataW H×List MemPlace}(h:DataW.trod enc Tryz.prog W base sp held fuel 37 cs=some x):∃v l,cs=[v]∧Is W W.heap.size v l:=
 arr_of Tryz.underlying37 c_int (by decide) (fun b p cs' y n h3 hc ht=>by
  obtain⟨z,rfl,-,-⟩:=DataW.trod_int Tryz.underlying3 ht
  exact⟨z,by have:=hc 0 (by decide);simpa [IntAt]using this⟩) h
theorem strs_of{fuel:Nat}{cs:List Value}{x:DataW H×List MemPlace}(h:DataW.trod enc Tryz.prog W base sp held fuel 35 cs=some x):∃v l,cs=[v]∧Ss W W.heap.size v l:=
 arr_of Tryz.underlying35 c_str (by decide) (fun b p cs' y n h3 hc ht=>by
  obtain⟨s,rfl,-,hw⟩:=DataW.trod_string Tryz.underlying9 ht
  exact⟨s,by have:=hc 0 (by decide);simpa using this,hw⟩) h
end
theorem Arr.two{α:Type}{d:α}{sz:Nat}{R:World→Nat→Nat→Nat→α→Prop}{Q:α→Prop}{w:World}{B:Nat}{v:Value}{l:List α}(h:Arr d sz (fun w B b p a=>R w B b p a∧Q a) w B v l):
 Arr d sz R w B v l∧∀k,k<l.length→Q (l.getD k d):=by
 obtain⟨A,b,o,c,h1,h2,h3,h4,h5⟩:=h
 exact⟨⟨A,b,o,c,h1,h2,h3,h4,fun k hk=>⟨(h5 k hk).1,(h5 k hk).2.1⟩⟩,fun k hk=>(h5 k hk).2.2⟩
section
variable {H:Type} {enc:TypeId×Value→H} {W:World} {base:Nat} {sp:Nat→Bool} {held:Bool}
end
theorem g_chars: Tryz.prog.globalNamed "probecard/logic.characters" =some 0:=by kernel_rfl
theorem t_chars:(Tryz.prog.globals[0]?).map (·.type)=some 23:=by kernel_rfl
theorem c_chars: Tryz.prog.cellsOf 23=4:=by kernel_rfl
theorem c_byte: Tryz.prog.cellsOf 5=1:=by kernel_rfl
theorem Lg.tabs_of{W:World}(h:laidMetH Tryz.prog [("probecard/logic.spans",Rows.laid_probecard_logic_spans),("probecard/logic.characters",Rows.laid_probecard_logic_characters)] W):Lg.Tabs W:=by
 rw[MakeChecks.laidMetH_plain _ _ _ (by kernel_rfl)]at h
 obtain⟨ps,⟨g0,t0,cs0,f0,p0,q0,hg0,ht0,hv0,hd0,⟨g1,t1,cs1,f1,p1,q1,hg1,ht1,hv1,hd1,-,-⟩,-⟩,-,-⟩:=h
 obtain rfl:=Option.some.inj (g_spans.symm.trans hg0)
 obtain rfl:=Option.some.inj (g_chars.symm.trans hg1)
 obtain rfl:=Option.some.inj (t_spans.symm.trans ht0)
 obtain rfl:=Option.some.inj (t_chars.symm.trans ht1)
 have hs:∀k,k<32→W.cell? ⟨1,k,none⟩=some (.int .i64 (spansL.getD k 0)):=fun k hk=>by
  rw[World.var?_cell g_spans hv0 k]
  simpa using spans_cells hd0 k hk
 have hc:cs1.toList=charsL.map fun z=>Value.int .u8 z:=Lib.cells_of_tab (zs:=charsL) Tryz.underlying23 Tryz.underlying5 c_byte c_chars hd1
 have hch:∀k,k<4→W.cell? ⟨0,k,none⟩=some (.int .u8 (charsL.getD k 0)):=fun k hk=>by
  rw[World.var?_cell g_chars hv1 k,←Array.getElem?_toList,hc,List.getElem?_map,List.getD_eq_getElem?_getD,List.getElem?_eq_getElem (show k<charsL.length from hk)]
  rfl
 refine⟨?_,hs,hch⟩
 have h0:=hs 0 (by decide)
 have h1:=hch 0 (by decide)
 have lt:∀ {g:Nat} {v:Value},W.cell? ⟨g,0,none⟩=some v→g<W.heap.size:=fun {g v} h=>by
  rcases Nat.lt_or_ge g W.heap.size with hl|hl
  ·exact hl
  ·simp[World.cell?,Array.getElem?_eq_none hl]at h
 have l0:=lt h0
 have l1:=lt h1
 omega
noncomputable def Lg.tabWorld (os:Os):World:=
 { World.holding Tryz.prog os ⟨#[],#[],[]⟩ with heap:=((World.holding Tryz.prog os ⟨#[],#[],[]⟩).heap.modify 1 (relay (spansL.map (Value.int .i64)).toArray)).modify 0 (relay (charsL.map (Value.int .u8)).toArray) }
section
variable {H:Type} {enc:TypeId×Value→H} {W:World} {base:Nat} {sp:Nat→Bool} {held:Bool}
theorem ks_of{v:Value}{l:List Int}(h:Arr 0 1 (fun w B b p g=>U8At w B b p g∧U8 g) W W.heap.size v l):Ks W W.heap.size v l∧∀y∈l,0≤y∧y≤255:=by
 obtain⟨h1,h2⟩:=Arr.two h
 refine⟨h1,fun y hy=>?_⟩
 obtain⟨k,hk,rfl⟩:=List.mem_iff_getElem.1 hy
 have:=h2 k hk
 rw[List.getD_eq_getElem?_getD,List.getElem?_eq_getElem hk]at this
 exact this
end
def Wok{H:Type}(t:TypeId)(d:DataW H):Prop:=∀n∈DataW.weights Tryz.prog t d,n≤reachBytes
theorem wall_mem{H:Type}{P:Program}{e:TypeId}{d:DataW H}{n:Nat} :∀ {l:List (DataW H)},d∈l→n∈DataW.weights P e d→n∈DataW.weightsAll P e l
 |x::l,h,hn=>by
  rw[DataW.weightsAll]
  rcases List.mem_cons.1 h with rfl|h
  ·exact List.mem_append_left _ hn
  ·exact List.mem_append_right _ (wall_mem h hn)
theorem weach_mem{H:Type}{P:Program}{t:TypeId}{d:DataW H}{n:Nat} :∀ {ts:List TypeId} {ds:List (DataW H)} {j:Nat},ts[j]? =some t→ds[j]? =some d→n∈DataW.weights P t d→n∈DataW.weightsEach P ts ds
 |t'::ts,d'::ds,0,ht,hd,hn=>by
  simp at ht hd
  subst ht hd
  rw[DataW.weightsEach]
  exact List.mem_append_left _ hn
 |t'::ts,d'::ds,j+1,ht,hd,hn=>by
  rw[DataW.weightsEach]
  exact List.mem_append_right _ (weach_mem (j:=j) (by simpa using ht) (by simpa using hd) hn)
theorem b_int: Tryz.prog.bytesOf 3=8:=by kernel_rfl
section
variable {H:Type} {enc:TypeId×Value→H} {W:World} {base:Nat} {sp:Nat→Bool} {held:Bool}
theorem ints_sz{fuel:Nat}{v:Value}{l:List Int}{x:DataW H×List MemPlace}(hz:Wok 37 x.1)(h:DataW.trod enc Tryz.prog W base sp held fuel 37 [v]=some x)(hi:Is W W.heap.size v l):l.length≤17592186044416:=by
 obtain⟨A,b,o,c,rfl,-⟩:=hi
 rcases Go.Deep.open_slice Tryz.underlying37 h with⟨e,-⟩| ⟨a,len,cap,m,n,D,Pl,e,-,-,-,-,rfl,-⟩
 ·simp only[List.cons.injEq,Value.slice.injEq,and_true]at e
  omega
 ·simp only[List.cons.injEq,Value.slice.injEq,and_true]at e
  have h1:=hz ((((List.range len).map D).length+((List.range (m-len)).map fun j=>D (len+j)).length)*8) (by simp only[DataW.weights,Tryz.underlying37,b_int];exact List.mem_cons_self)
  simp only[List.length_map,List.length_range,reachBytes]at h1
  omega
theorem arr_sz{α:Type} [Inhabited α] {d:α}{sz:Nat}{R:World→Nat→Nat→Nat→α→Prop}{t e:TypeId}{fuel:Nat}{cs:List Value}{x:DataW H×List MemPlace}(ht: Tryz.prog.underlying t=some (.slice e))(hsz: Tryz.prog.cellsOf e=sz)(hpos:0<sz)
 (hel:∀b p cs' y n,cs'.length=sz→(∀j,j<sz→W.cell? ⟨b,p+j,none⟩=cs'[j]?)→DataW.trod enc Tryz.prog W base sp held n e cs'=some y→Wok e y.1→∃a:α,R W W.heap.size b p a)
 (hN:Wok t x.1)
 (h:DataW.trod enc Tryz.prog W base sp held fuel t cs=some x):∃v l,cs=[v]∧Arr d sz R W W.heap.size v l:=by
 rcases Go.Deep.open_slice ht h with⟨rfl,-⟩| ⟨a,len,cap,m,n,D,Pl,rfl,-,hl,hm,hmm,rfl,hx⟩
 ·exact⟨_,[],rfl,Arr.nil _ _ _ _ _⟩
 ·have hlm:len≤m:=by rw[hmm];split<;>omega
  have hD:∀i,i<len→Wok e (D i):=fun i hi q hq=>hN q (by
   simp only[DataW.weights,ht]
   exact List.mem_cons_of_mem _ (List.mem_append_left _ (wall_mem (l:=(List.range len).map D) (List.mem_map.2 ⟨i,List.mem_range.2 hi,rfl⟩) hq)))
  rw[hsz]at hx
  by_cases h0:0<len
  ·have hsp:a.spot=none:=by
    obtain⟨cs',h1,-⟩:=hx 0 (by omega)
    obtain⟨-,h3,h4⟩:=World.cells?_some h1
    have:=h4 0 hpos
    rw[List.getElem?_eq_getElem (by omega)]at this
    simpa [Addr.add]using World.cell?_spot this
   obtain⟨b,o,spot⟩:=a
   obtain rfl:spot=none:=hsp
   have hk:∀i,i<len→∃q:α,b<W.heap.size∧R W W.heap.size b (o+i*sz) q:=fun i hi=>by
    obtain⟨cs',h1,h2⟩:=hx i (by omega)
    obtain⟨-,h3,h4⟩:=World.cells?_some h1
    have hc:∀j,j<sz→W.cell? ⟨b,o+i*sz+j,none⟩=cs'[j]? :=fun j hj=>by
     have:=h4 j hj
     rw[Go.WideShapes.add_plain,Go.WideShapes.add_plain]at this
     exact this
    obtain⟨q,hq⟩:=hel b (o+i*sz) cs' _ _ h3 hc h2 (hD i hi)
    refine⟨q,?_,hq⟩
    have:=hc 0 hpos
    rw[List.getElem?_eq_getElem (by omega)]at this
    exact cell_lt this
   obtain⟨f,hf⟩:=Go.Deep.choose_lt hk
   refine⟨_,(List.range len).map f,rfl,some ⟨b,o,none⟩,b,o,cap,by simp,fun _=>rfl,by simpa using hl,by simp;omega,fun k hk'=>?_⟩
   have hkl:k<len:=by simpa using hk'
   have e:((List.range len).map f).getD k d=f k:=by simp[hkl,List.getD_eq_getElem?_getD]
   rw[e]
   exact hf k hkl
  ·obtain rfl:len=0:=by omega
   exact⟨_,[],rfl,some a,0,0,cap,rfl,fun h=>absurd h (by simp),by simp,by simp,fun k hk=>absurd hk (by simp)⟩
set_option maxRecDepth 100000 in
theorem nodes_sz{fuel:Nat}{cs:List Value}{x:DataW H×List MemPlace}(hN:Wok 34 x.1)(h:DataW.trod enc Tryz.prog W base sp held fuel 34 cs=some x):∃v l,cs=[v]∧Ns W W.heap.size v l∧∀k,k<l.length→(l.getD k default).ins.length≤17592186044416:=by
 obtain⟨v,l,rfl,ha⟩:=arr_sz (α:=Nd) (d:=default) (R:=fun w B b p q=>NdAt w B b p q∧q.ins.length≤17592186044416) Tryz.underlying34 c_nd (by decide) (fun b p cs' y n h3 hc ht hb=>by
  obtain⟨y0,y1,y2,y3,n',hy,-,h0,h1,h2,h3'⟩:=Joins.trod_struct4 Tryz.underlying65 ht
  match cs',h3 with
  |[u0,u1,u2,u3],_=>
   rw[c_kd]at h0
   rw[c_is]at h1
   rw[c_int]at h2 h3'
   obtain⟨k,e0,-,wk⟩:=DataW.trod_int Tryz.underlying63 h0
   obtain⟨s,l,e1,hi⟩:=ints_of h1
   obtain⟨m,e2,-,-⟩:=DataW.trod_int Tryz.underlying3 h2
   obtain⟨t,e3,-,-⟩:=DataW.trod_int Tryz.underlying3 h3'
   simp at e0 e1 e2 e3
   subst e0 e1 e2 e3
   have hw:Wok 37 y1.1:=fun q hq=>hb q (by
    rw[hy]
    show q∈DataW.weights _ _ (.agg [y0.1,y1.1,y2.1,y3.1])
    simp only[DataW.weights,Tryz.underlying65]
    exact weach_mem (j:=1) rfl rfl hq)
   have hl:l.length≤17592186044416:=ints_sz (v:=u1) hw (by simpa using h1) hi
   have q0:=hc 0 (by decide)
   have q1:=hc 1 (by decide)
   have q2:=hc 2 (by decide)
   have q3:=hc 3 (by decide)
   exact⟨⟨k,l,m,t⟩,⟨u1,q0,q1,q2,q3,hi,(bounds_u8 wk).1,(bounds_u8 wk).2⟩,hl⟩) hN h
 refine⟨v,l,rfl,?_,?_⟩
 ·obtain⟨A,b,o,c,h1,h2,h3,h4,h5⟩:=ha
  exact⟨A,b,o,c,h1,h2,h3,h4,fun k hk=>⟨(h5 k hk).1,(h5 k hk).2.1⟩⟩
 ·obtain⟨A,b,o,c,h1,h2,h3,h4,h5⟩:=ha
  exact fun k hk=>(h5 k hk).2.2
set_option maxRecDepth 100000 in
theorem mems_sz{fuel:Nat}{cs:List Value}{x:DataW H×List MemPlace}(hN:Wok 36 x.1)(h:DataW.trod enc Tryz.prog W base sp held fuel 36 cs=some x):∃v l,cs=[v]∧Ms W W.heap.size v l∧∀k,k<l.length→(l.getD k default).addr.length≤17592186044416∧(l.getD k default).data.length≤17592186044416:=by
 obtain⟨v,l,rfl,ha⟩:=arr_sz (α:=Mm) (d:=default) (R:=fun w B b p q=>MmAt w B b p q∧q.addr.length≤17592186044416∧q.data.length≤17592186044416) Tryz.underlying36 c_mm (by decide) (fun b p cs' y n h3 hc ht hb=>by
  obtain⟨y0,y1,y2,n',hy,-,h0,h1,h2⟩:=Go.Deep.trod_struct3 Tryz.underlying67 ht
  match cs',h3 with
  |[u0,u1,u2],_=>
   rw[c_is]at h0 h1
   rw[c_int]at h2
   obtain⟨s,l,e0,hi⟩:=ints_of h0
   obtain⟨s',l',e1,hi'⟩:=ints_of h1
   obtain⟨m,e2,-,-⟩:=DataW.trod_int Tryz.underlying3 h2
   simp at e0 e1 e2
   subst e0 e1 e2
   have hw:∀j t d,[37,37,3][j]? =some t→[y0.1,y1.1,y2.1][j]? =some d→Wok t d:=fun j t d h1 h2 q hq=>hb q (by
    rw[hy]
    show q∈DataW.weights _ _ (.agg [y0.1,y1.1,y2.1])
    simp only[DataW.weights,Tryz.underlying67]
    exact weach_mem (j:=j) h1 h2 hq)
   have hl:l.length≤17592186044416:=ints_sz (v:=u0) (hw 0 _ _ rfl rfl) (by simpa using h0) hi
   have hl':l'.length≤17592186044416:=ints_sz (v:=u1) (hw 1 _ _ rfl rfl) (by simpa using h1) hi'
   have q0:=hc 0 (by decide)
   have q1:=hc 1 (by decide)
   have q2:=hc 2 (by decide)
   exact⟨⟨l,l',m⟩,⟨u0,u1,q0,q1,q2,hi,hi'⟩,hl,hl'⟩) hN h
 refine⟨v,l,rfl,?_,?_⟩
 ·obtain⟨A,b,o,c,h1,h2,h3,h4,h5⟩:=ha
  exact⟨A,b,o,c,h1,h2,h3,h4,fun k hk=>⟨(h5 k hk).1,(h5 k hk).2.1⟩⟩
 ·obtain⟨A,b,o,c,h1,h2,h3,h4,h5⟩:=ha
  exact fun k hk=>(h5 k hk).2.2
structure Bear(c:Ck):Prop where
 i:∀k,k<c.nodes.length→(c.nodes.getD k default).ins.length≤17592186044416
 m:∀k,k<c.mems.length→(c.mems.getD k default).addr.length≤17592186044416∧(c.mems.getD k default).data.length≤17592186044416
end
theorem c_val: Tryz.prog.cellsOf 77=1:=by kernel_rfl
theorem b_str: Tryz.prog.bytesOf 9=16:=by kernel_rfl
theorem b_val: Tryz.prog.bytesOf 77=1:=by kernel_rfl
theorem c_vals: Tryz.prog.cellsOf 41=1:=by kernel_rfl
section
variable {H:Type} {enc:TypeId×Value→H} {W:World} {base:Nat} {sp:Nat→Bool} {held:Bool}
theorem v8_of{fuel:Nat}{cs:List Value}{x:DataW H×List MemPlace}(h:DataW.trod enc Tryz.prog W base sp held fuel 77 cs=some x):∃a:Int,cs=[.int .u8 a]∧U8 a:=by
 obtain⟨a,e,-,w⟩:=DataW.trod_int Tryz.underlying77 h
 exact⟨a,e,bounds_u8 w⟩
theorem vs_of{fuel:Nat}{cs:List Value}{x:DataW H×List MemPlace}(h:DataW.trod enc Tryz.prog W base sp held fuel 41 cs=some x):∃v l,cs=[v]∧Arr 0 1 (fun w B b p g=>U8At w B b p g∧U8 g) W W.heap.size v l:=
 arr_of Tryz.underlying41 c_val (by decide) (fun b p cs' y n h3 hc ht=>by
  obtain⟨a,rfl,wa⟩:=v8_of ht
  exact⟨a,by have:=hc 0 (by decide);simpa [U8At]using this,wa⟩) h
theorem strs_sz{fuel:Nat}{v:Value}{l:List ByteArray}{x:DataW H×List MemPlace}(hz:Wok 35 x.1)(h:DataW.trod enc Tryz.prog W base sp held fuel 35 [v]=some x)(hi:Ss W W.heap.size v l):l.length≤17592186044416:=by
 obtain⟨A,b,o,c,rfl,-⟩:=hi
 rcases Go.Deep.open_slice Tryz.underlying35 h with⟨e,-⟩| ⟨a,len,cap,m,n,D,Pl,e,-,-,-,-,rfl,-⟩
 ·simp only[List.cons.injEq,Value.slice.injEq,and_true]at e
  omega
 ·simp only[List.cons.injEq,Value.slice.injEq,and_true]at e
  have h1:=hz ((((List.range len).map D).length+((List.range (m-len)).map fun j=>D (len+j)).length)*16) (by simp only[DataW.weights,Tryz.underlying35,b_str];exact List.mem_cons_self)
  simp only[List.length_map,List.length_range,reachBytes]at h1
  omega
theorem vals_sz{fuel:Nat}{v:Value}{A:Option Addr}{n c:Nat}{x:DataW H×List MemPlace}(hz:Wok 41 x.1)(h:DataW.trod enc Tryz.prog W base sp held fuel 41 [v]=some x)(hv:v=.slice A n c):n≤140737488355328:=by
 subst hv
 rcases Go.Deep.open_slice Tryz.underlying41 h with⟨e,-⟩| ⟨a,len,cap,m,k,D,Pl,e,-,-,-,-,rfl,-⟩
 ·simp only[List.cons.injEq,Value.slice.injEq,and_true]at e
  omega
 ·simp only[List.cons.injEq,Value.slice.injEq,and_true]at e
  have h1:=hz ((((List.range len).map D).length+((List.range (m-len)).map fun j=>D (len+j)).length)*1) (by simp only[DataW.weights,Tryz.underlying41,b_val];exact List.mem_cons_self)
  simp only[List.length_map,List.length_range,reachBytes]at h1
  omega
structure Bearz(c:Ck):Prop where
 b:Bear c
 n:c.names.length≤17592186044416
 o:c.outs.length≤17592186044416
end
theorem b_vals: Tryz.prog.bytesOf 41=24:=by kernel_rfl
theorem b_wds: Tryz.prog.bytesOf 43=24:=by kernel_rfl
theorem c_wds: Tryz.prog.cellsOf 43=1:=by kernel_rfl
def Fine1(l:List Int):Prop:=(∀y∈l,0≤y∧y≤255)∧l.length≤140737488355328
def Fine2(l:List (List Int)):Prop:=l.length≤140737488355328∧∀k,k<l.length→Fine1 (l.getD k [])
def Fine3(l:List (List (List Int))):Prop:=l.length≤140737488355328∧∀k,k<l.length→Fine2 (l.getD k [])
section
variable {H:Type} {enc:TypeId×Value→H} {W:World} {base:Nat} {sp:Nat→Bool} {held:Bool}
theorem vals_szf{fuel:Nat}{cs:List Value}{x:DataW H×List MemPlace}(hz:Wok 41 x.1)(h:DataW.trod enc Tryz.prog W base sp held fuel 41 cs=some x):∃A l c,cs=[.slice A l.length c]∧Ks W W.heap.size (.slice A l.length c) l∧Fine1 l:=by
 obtain⟨s0,l0,e0,g0⟩:=vs_of h
 obtain⟨k0,v0⟩:=ks_of g0
 obtain⟨A,_,_,c,e,-⟩:=id k0
 subst e
 exact⟨A,l0,c,e0,k0,v0,vals_sz hz (e0▸h) rfl⟩
theorem wds_szl{fuel:Nat}{v:Value}{A:Option Addr}{n c:Nat}{x:DataW H×List MemPlace}(hz:Wok 43 x.1)(h:DataW.trod enc Tryz.prog W base sp held fuel 43 [v]=some x)(hv:v=.slice A n c):n≤140737488355328:=by
 subst hv
 rcases Go.Deep.open_slice Tryz.underlying43 h with⟨e,-⟩| ⟨a,len,cap,m,k,D,Pl,e,-,-,-,-,rfl,-⟩
 ·simp only[List.cons.injEq,Value.slice.injEq,and_true]at e
  omega
 ·simp only[List.cons.injEq,Value.slice.injEq,and_true]at e
  have h1:=hz ((((List.range len).map D).length+((List.range (m-len)).map fun j=>D (len+j)).length)*24) (by simp only[DataW.weights,Tryz.underlying43,b_vals];exact List.mem_cons_self)
  simp only[List.length_map,List.length_range,reachBytes]at h1
  omega
theorem wws_szl{fuel:Nat}{v:Value}{A:Option Addr}{n c:Nat}{x:DataW H×List MemPlace}(hz:Wok 42 x.1)(h:DataW.trod enc Tryz.prog W base sp held fuel 42 [v]=some x)(hv:v=.slice A n c):n≤140737488355328:=by
 subst hv
 rcases Go.Deep.open_slice Tryz.underlying42 h with⟨e,-⟩| ⟨a,len,cap,m,k,D,Pl,e,-,-,-,-,rfl,-⟩
 ·simp only[List.cons.injEq,Value.slice.injEq,and_true]at e
  omega
 ·simp only[List.cons.injEq,Value.slice.injEq,and_true]at e
  have h1:=hz ((((List.range len).map D).length+((List.range (m-len)).map fun j=>D (len+j)).length)*24) (by simp only[DataW.weights,Tryz.underlying42,b_wds];exact List.mem_cons_self)
  simp only[List.length_map,List.length_range,reachBytes]at h1
  omega
theorem wds_szf{fuel:Nat}{cs:List Value}{x:DataW H×List MemPlace}(hz:Wok 43 x.1)(h:DataW.trod enc Tryz.prog W base sp held fuel 43 cs=some x):∃A l c,cs=[.slice A l.length c]∧Wrds W W.heap.size (.slice A l.length c) l∧Fine2 l:=by
 obtain⟨v,l,rfl,ha⟩:=arr_sz (α:=List Int) (d:=[]) (R:=fun w B b p q=>WdsAt w B b p q∧Fine1 q) Tryz.underlying43 c_vals (by decide) (fun b p cs' y n h3 hc ht hb=>by
  obtain⟨A,l,c,rfl,hk,hf⟩:=vals_szf hb ht
  have:=hc 0 (by decide)
  exact⟨l,⟨A,c,by simpa using this,hk⟩,hf⟩) hz h
 obtain⟨h1,h2⟩:=Arr.two ha
 obtain⟨A,_,_,c,e,-⟩:=id h1
 subst e
 exact⟨A,l,c,rfl,h1,wds_szl hz h rfl,h2⟩
theorem wws_szf{fuel:Nat}{cs:List Value}{x:DataW H×List MemPlace}(hz:Wok 42 x.1)(h:DataW.trod enc Tryz.prog W base sp held fuel 42 cs=some x):∃A l c,cs=[.slice A l.length c]∧Wwss W W.heap.size (.slice A l.length c) l∧Fine3 l:=by
 obtain⟨v,l,rfl,ha⟩:=arr_sz (α:=List (List Int)) (d:=[]) (R:=fun w B b p q=>WwsAt w B b p q∧Fine2 q) Tryz.underlying42 c_wds (by decide) (fun b p cs' y n h3 hc ht hb=>by
  obtain⟨A,l,c,rfl,hk,hf⟩:=wds_szf hb ht
  have:=hc 0 (by decide)
  exact⟨l,⟨A,c,by simpa using this,hk⟩,hf⟩) hz h
 obtain⟨h1,h2⟩:=Arr.two ha
 obtain⟨A,_,_,c,e,-⟩:=id h1
 subst e
 exact⟨A,l,c,rfl,h1,wws_szl hz h rfl,h2⟩
def SttFine(s:Stt):Prop:=Fine1 s.dff∧Fine3 s.words∧Fine2 s.read
theorem c_state: Tryz.prog.cellsOf 45=3:=by kernel_rfl
theorem c_wws: Tryz.prog.cellsOf 42=1:=by kernel_rfl
set_option maxRecDepth 100000 in
theorem open_state{b0:Nat}{r:Reach}{v:Value}{d:DataW H}{p:List MemPlace}(hN:Wok 45 d)(hv:Value.okWide Tryz.prog W r b0 45 v)(h:DataW.Trod enc Tryz.prog W base sp held 45 v d p):
 ∃(A0 A1 A2:Option Addr) (c0 c1 c2:Nat) (s:Stt),v=.agg #[.slice A0 s.dff.length c0,.slice A1 s.words.length c1,.slice A2 s.read.length c2]∧StR W W.heap.size A0 A1 A2 s.dff.length s.words.length s.read.length c0 c1 c2 s∧SttFine s:=by
 obtain⟨cs,rfl,hsz⟩:=okWide_struct Tryz.underlying45 hv
 obtain⟨c0,c1,c2,rfl⟩:∃c0 c1 c2,cs= #[c0,c1,c2]:=by
  obtain⟨l⟩:=cs
  match l,hsz.trans c_state with
  |[c0,c1,c2],_=>exact⟨c0,c1,c2,rfl⟩
 obtain⟨fuel,hf⟩:=h
 obtain⟨xs,n,-,hd,-,hlen,hel⟩:=DataW.trod_struct Tryz.underlying45 hf
 match xs,hlen with
 |[y0,y1,y2],_=>
  have hw:∀j t e,[41,42,43][j]? =some t→[y0.1,y1.1,y2.1][j]? =some e→Wok t e:=fun j t e h1 h2 q hq=>hN q (by
   rw[(Prod.mk.inj hd).1]
   simp only[DataW.weights,Tryz.underlying45]
   exact weach_mem (j:=j) h1 h2 hq)
  have h0:DataW.trod enc Tryz.prog W base sp held n 41 (([c0,c1,c2].drop 0).take (Tryz.prog.cellsOf 41))=_:=hel 0 _ rfl
  have h1:DataW.trod enc Tryz.prog W base sp held n 42 (([c0,c1,c2].drop 1).take (Tryz.prog.cellsOf 42))=_:=hel 1 _ rfl
  have h2:DataW.trod enc Tryz.prog W base sp held n 43 (([c0,c1,c2].drop 2).take (Tryz.prog.cellsOf 43))=_:=hel 2 _ rfl
  rw[c_vals]at h0
  rw[c_wws]at h1
  rw[c_wds]at h2
  obtain⟨A0,l0,q0,e0,k0,f0⟩:=vals_szf (hw 0 _ _ rfl rfl) (show DataW.trod enc Tryz.prog W base sp held n 41 [c0]=some y0 from h0)
  obtain⟨A1,l1,q1,e1,k1,f1⟩:=wws_szf (hw 1 _ _ rfl rfl) (show DataW.trod enc Tryz.prog W base sp held n 42 [c1]=some y1 from h1)
  obtain⟨A2,l2,q2,e2,k2,f2⟩:=wds_szf (hw 2 _ _ rfl rfl) (show DataW.trod enc Tryz.prog W base sp held n 43 [c2]=some y2 from h2)
  simp at e0 e1 e2
  subst e0 e1 e2
  exact⟨A0,A1,A2,q0,q1,q2,⟨l0,l1,l2⟩,rfl,⟨k0,k1,k2⟩,f0,f1,f2⟩
end
theorem b_mm9: Tryz.prog.bytesOf 67=56:=by kernel_rfl
section
variable {H:Type} {enc:TypeId×Value→H} {W:World} {base:Nat} {sp:Nat→Bool} {held:Bool}
theorem mms_sz{fuel:Nat}{v:Value}{l:List Mm}{x:DataW H×List MemPlace}(hz:Wok 36 x.1)(h:DataW.trod enc Tryz.prog W base sp held fuel 36 [v]=some x)(hi:Ms W W.heap.size v l):l.length≤17592186044416:=by
 obtain⟨A,b,o,c,rfl,-⟩:=hi
 rcases Go.Deep.open_slice Tryz.underlying36 h with⟨e,-⟩| ⟨a,len,cap,m,n,D,Pl,e,-,-,-,-,rfl,-⟩
 ·simp only[List.cons.injEq,Value.slice.injEq,and_true]at e
  omega
 ·simp only[List.cons.injEq,Value.slice.injEq,and_true]at e
  have h1:=hz ((((List.range len).map D).length+((List.range (m-len)).map fun j=>D (len+j)).length)*56) (by simp only[DataW.weights,Tryz.underlying36,b_mm9];exact List.mem_cons_self)
  simp only[List.length_map,List.length_range,reachBytes]at h1
  omega
set_option maxRecDepth 100000 in
theorem open_circuit_sz9{b0:Nat}{r:Reach}{v:Value}{d:DataW H}{p:List MemPlace}(hN:Wok 39 d)(hv:Value.okWide Tryz.prog W r b0 39 v)(h:DataW.Trod enc Tryz.prog W base sp held 39 v d p):
 ∃(c:Ck) (A0 A1 A2 A3:Option Addr) (c0 c1 c2 c3:Nat),v=.agg #[.slice A0 c.nodes.length c0,.slice A1 c.names.length c1,.slice A2 c.mems.length c2,.slice A3 c.outs.length c3]∧Cir W W.heap.size v c∧c.names.length≤17592186044416∧c.mems.length≤17592186044416∧c.outs.length≤17592186044416:=by
 obtain⟨v0,v1,v2,v3,y0,y1,y2,y3,n,rfl,hd,-,h0,h1,h2,h3⟩:=Joins.open_agg4 Tryz.underlying39 (by kernel_rfl) c_ct hv h
 have hw:∀j t e,[34,35,36,37][j]? =some t→[y0.1,y1.1,y2.1,y3.1][j]? =some e→Wok t e:=fun j t e h1 h2 q hq=>hN q (by
  rw[hd]
  simp only[DataW.weights,Tryz.underlying39]
  exact weach_mem (j:=j) h1 h2 hq)
 obtain⟨_,l0,e0,k0,hk⟩:=nodes_sz (hw 0 _ _ rfl rfl) h0
 obtain⟨_,l1,e1,k1⟩:=strs_of h1
 obtain⟨_,l2,e2,k2,hm⟩:=mems_sz (hw 2 _ _ rfl rfl) h2
 obtain⟨_,l3,e3,k3⟩:=ints_of h3
 simp at e0 e1 e2 e3
 subst e0 e1 e2 e3
 have z1:=strs_sz (hw 1 _ _ rfl rfl) h1 k1
 have z2:=mms_sz (hw 2 _ _ rfl rfl) h2 k2
 have z3:=ints_sz (hw 3 _ _ rfl rfl) h3 k3
 obtain⟨A0,_,_,c0,rfl,-⟩:=id k0
 obtain⟨A1,_,_,c1,rfl,-⟩:=id k1
 obtain⟨A2,_,_,c2,rfl,-⟩:=id k2
 obtain⟨A3,_,_,c3,rfl,-⟩:=id k3
 exact⟨⟨l0,l1,l2,l3⟩,A0,A1,A2,A3,c0,c1,c2,c3,rfl,⟨_,_,_,_,rfl,k0,k1,k2,k3⟩,z1,z2,z3⟩
set_option maxRecDepth 100000 in
theorem open_vs_sz{b0:Nat}{r:Reach}{v:Value}{d:DataW H}{p:List MemPlace}(hN:Wok 41 d)(hv:Value.okWide Tryz.prog W r b0 41 v)(h:DataW.Trod enc Tryz.prog W base sp held 41 v d p):
 ∃A l c,v=.slice A l.length c∧Ks W W.heap.size (.slice A l.length c) l∧Fine1 l:=by
 obtain⟨A,len,cap,rfl⟩:=okWide_slice Tryz.underlying41 hv
 obtain⟨fuel,hf⟩:=h
 obtain⟨A,l,c,e,k,f⟩:=vals_szf hN hf
 exact⟨A,l,c,by simpa [Value.cells]using e,k,f⟩
end
end Go.Proofs.YtemjmfpcopfdbaaGreatDoor
