/- The texts Pan Rdq Ofl. -/
import Derived.Test.YtcbllelkgniogaaDoorM03
import Derived.Deep.Slices
import Derived.Deep.Fields
import Derived.SliceStrings
import Derived.ChangeSame
import Derived.Test.YtcbllelkgniogaaDoorCards
import Derived.Test.YtcbllelkgniogaaDoorTie
import Derived.Test.YtcbllelkgniogaaDoorM02
import Derived.ProofKit
import Derived.OpenShut
import Derived.Deep.DeepHandedRow
import Derived.Lib.LaidTab
import Derived.Lib.SmallJoins
import Derived.MakeChecks
import Derived.Test.YtcbllelkgniogaaDoorM41
namespace Go.Proofs.YtcbllelkgniogaaDoor
open Go.ChangeShapes Go.WideShapes Go.ChangeAt Go.RowKit
theorem rw_own:ownKnob Tryd.prog.godebug=none:=by kernel_rfl
theorem rw_laidOut:laidOutB Tryd.prog=true:=by kernel_rfl
theorem g_spans: Tryd.prog.globalNamed "probecard/logic.spans" =some 3:=by kernel_rfl
theorem t_spans:(Tryd.prog.globals[3]?).map (·.type)=some 156:=by kernel_rfl
theorem c_span: Tryd.prog.cellsOf 155=2:=by kernel_rfl
theorem c_int: Tryd.prog.cellsOf 3=1:=by kernel_rfl
section
variable {H:Type} {enc:TypeId×Value→H}
def spanD(i:Nat):DataW H:=.agg [.lit (.int .i64 (spansL.getD (2*i) 0)),.lit (.int .i64 (spansL.getD (2*i+1) 0))]
theorem spans_cells{W:World}{base fuel:Nat}{sp:Nat→Bool}{held:Bool}{cs:List Value}{p:List MemPlace}
 (h:DataW.trod enc Tryd.prog W base sp held fuel 156 cs=some (Rows.laid_probecard_logic_spans,p)) (k:Nat) (hk:k<32):cs[k]? =some (.int .i64 (spansL.getD k 0)):=by
 obtain⟨xs,m,-,hx,hlen,hn,hel⟩:=DataW.trod_array Tryd.underlying156 h
 simp only[Prod.mk.injEq]at hx
 have hxs:xs.map (·.1)=(List.range 16).map (spanD (H:=H)):=by
  have e:(Rows.laid_probecard_logic_spans:DataW H)=.agg ((List.range 16).map spanD):=rfl
  have:=hx.1.symm.trans e
  injection this
 have hi:k/2<16:=by omega
 have hxi:=congrArg (·[k/2]?) hxs
 simp only[List.getElem?_map,List.getElem?_range hi,Option.map_some]at hxi
 obtain⟨y,hy,hyd⟩:=Option.map_eq_some_iff.1 hxi
 have ht:=(hel (k/2) hi).trans hy
 rw[c_span]at ht
 obtain⟨y0,y1,n,hyx,-,h0,h1⟩:=trod_struct2 Tryd.underlying155 ht
 obtain⟨a,ea,ha,-⟩:=DataW.trod_int Tryd.underlying3 h0
 obtain⟨b,eb,hb,-⟩:=DataW.trod_int Tryd.underlying3 h1
 rw[hyx]at hyd
 simp only[spanD,DataW.agg.injEq,List.cons.injEq,and_true]at hyd
 rw[ha,hb]at hyd
 simp only[DataW.lit.injEq,Lit.int.injEq,true_and]at hyd
 obtain⟨rfl,rfl⟩:=hyd
 rw[c_int]at ea eb
 have e0:cs[k/2*2]? =some (.int .i64 (spansL.getD (2*(k/2)) 0)):=by
  have:=congrArg (·[0]?) ea
  simpa [List.getElem?_take,List.getElem?_drop]using this
 have e1:cs[k/2*2+1]? =some (.int .i64 (spansL.getD (2*(k/2)+1) 0)):=by
  have:=congrArg (·[0]?) eb
  simpa [List.getElem?_take,List.getElem?_drop]using this
 rcases Nat.mod_two_eq_zero_or_one k with h2|h2
 ·have e:k/2*2=k:=by omega
  have e':2*(k/2)=k:=by omega
  rw[e,e']at e0;exact e0
 ·have e:k/2*2+1=k:=by omega
  have e':2*(k/2)+1=k:=by omega
  rw[e,e']at e1;exact e1
end
section
variable {H:Type} {enc:TypeId×Value→H} {P:Program}
theorem all_below(hl:laidOutB P=true){W W':World}(hb:Below W.heap.size W W'):∀ {ts:List TypeId} {vs:List Value} {ds:List (DataW H)} {p:List MemPlace},
 (∀t∈ts,P.readableRec t=true∧t<P.types.size)→DataW.TrodAll enc P W 0 (fun _=>true) true ts vs ds p→(∀x∈p,x.block<W.heap.size)→
 DataW.TrodAll enc P W' 0 (fun b=>decide (b<W.heap.size)) true ts vs ds p
 |[],vs,ds,p,_,h,_=>by
  obtain⟨rfl,rfl,rfl⟩:=trodAll_nil h
  exact trodAll_mk0
 |t::ts,vs,ds,p,hr,h,hp=>by
  obtain⟨v,vs',d,ds',p1,p2,rfl,rfl,rfl,h1,h2⟩:=trodAll_cons h
  have hr1:=hr t List.mem_cons_self
  exact trodAll_cons_mk (Below.trod hl hr1.1 hr1.2 h1 hb fun x hx=>hp x (List.mem_append_left _ hx))
   (all_below hl hb (fun u hu=>hr u (List.mem_cons_of_mem _ hu)) h2 fun x hx=>hp x (List.mem_append_right _ hx))
theorem law_post(hl:laidOutB P=true){f:Func}{s:ChangeSpec}{W W':World}{args:Array Value}{ds:List (DataW H)}{before:List MemPlace}{tb:TypeId}
 (hv:s.vars=[]) (hW:DataW.Whole enc P f.params.toList s.vars false W args.toList ds [] before) (hr:∀t∈f.params.toList,P.readableRec t=true∧t<P.types.size)
 (hres:f.resultTypes= #[tb]) (htb:P.underlying tb=some .bool) (hfn:s.fn H (ds++[])= { results:=[.lit (.bool true)],args:=ds }) (hb:Below W.heap.size W W'):
 s.post enc P f false true false false W args (.bool true) W':=by
 have hlt:=hW.lt
 obtain⟨p,q,hA,hV,he,hz,hn⟩:=id hW
 rw[hv]at hV
 obtain⟨-,rfl⟩:=trodVars_none hV
 rw[List.append_nil]at he
 subst he
 refine⟨ds,[],before,[],before,[],hW,?_,?_,?_,hb.frame _,fun h=>by cases h⟩
 ·rw[hfn,hres]
  exact trodAll_cons_mk (shut_bool htb true) trodAll_mk0
 ·rw[hfn]
  exact all_below hl hb hr hA fun x hx=>hlt x hx
 ·rw[hfn,hv]
  rfl
end
def relay(cs:Array Value):Obj→Obj
 | .cells _ t fr=>.cells cs t fr
 |o=>o
theorem c_str: Tryd.prog.cellsOf 9=1:=by kernel_rfl
theorem g_words: Tryd.prog.globalNamed "probecard/faults.modelWords" =some 0:=by kernel_rfl
theorem t_words:(Tryd.prog.globals[0]?).map (·.type)=some 87:=by kernel_rfl
theorem g_db64: Tryd.prog.globalNamed "math/bits.deBruijn64tab" =some 5:=by kernel_rfl
theorem t_db64:(Tryd.prog.globals[5]?).map (·.type)=some 162:=by kernel_rfl
theorem c_db64: Tryd.prog.cellsOf 162=64:=by kernel_rfl
section
variable {H:Type} {enc:TypeId×Value→H}
theorem words_cells{W:World}{base fuel:Nat}{sp:Nat→Bool}{held:Bool}{cs:List Value}{p:List MemPlace}
 (h:DataW.trod enc Tryd.prog W base sp held fuel 87 cs=some (Rows.laid_probecard_faults_modelWords,p)) (k:Nat) (hk:k<4):cs[k]? =some (.string (mwS k)):=by
 obtain⟨xs,m,-,hx,hlen,hn,hel⟩:=DataW.trod_array Tryd.underlying87 h
 simp only[Prod.mk.injEq]at hx
 have hxs:xs.map (·.1)=(List.range 4).map fun i=>(DataW.lit (.string (mwS i).data.toList):DataW H):=by
  have e:(Rows.laid_probecard_faults_modelWords:DataW H)=.agg ((List.range 4).map fun i=>DataW.lit (.string (mwS i).data.toList)):=rfl
  have:=hx.1.symm.trans e
  injection this
 have hxi:=congrArg (·[k]?) hxs
 simp only[List.getElem?_map,List.getElem?_range hk,Option.map_some]at hxi
 obtain⟨y,hy,hyd⟩:=Option.map_eq_some_iff.1 hxi
 have ht:=(hel k hk).trans hy
 rw[c_str]at ht
 obtain⟨s,es,ex,-⟩:=DataW.trod_string Tryd.underlying9 ht
 rw[ex]at hyd
 simp only[DataW.lit.injEq,Lit.string.injEq]at hyd
 have hs:s=mwS k:=by
  cases s with
  |mk d=>
   have:d=(mwS k).data:=by
    apply Array.ext'
    exact hyd
   rw[this]
 subst hs
 have:=congrArg (·[0]?) es
 simpa [List.getElem?_take,List.getElem?_drop]using this
end
theorem tabs_of{W:World}(h:laidMetH Tryd.prog [("math/bits.deBruijn32tab",Rows.laid_math_bits_deBruijn32tab),("math/bits.deBruijn64tab",Rows.laid_math_bits_deBruijn64tab),("internal/strconv.uint64pow10",Rows.laid_internal_strconv_uint64pow10),("probecard/logic.spans",Rows.laid_probecard_logic_spans),("probecard/faults.modelWords",Rows.laid_probecard_faults_modelWords)] W):Tabs W∧MWs W:=by
 rw[MakeChecks.laidMetH_plain _ _ _ (by kernel_rfl)]at h
 obtain⟨ps,⟨g0,t0,cs0,f0,p0,q0,hg0,ht0,hv0,hd0,⟨g1,t1,cs1,f1,p1,q1,hg1,ht1,hv1,hd1,⟨g2,t2,cs2,f2,p2,q2,hg2,ht2,hv2,hd2,⟨g3,t3,cs3,f3,p3,q3,hg3,ht3,hv3,hd3,⟨g4,t4,cs4,f4,p4,q4,hg4,ht4,hv4,hd4,-,-⟩,-⟩,-⟩,-⟩,-⟩,-,-⟩:=h
 obtain rfl:=Option.some.inj (g_db64.symm.trans hg1)
 obtain rfl:=Option.some.inj (t_db64.symm.trans ht1)
 obtain rfl:=Option.some.inj (g_spans.symm.trans hg3)
 obtain rfl:=Option.some.inj (t_spans.symm.trans ht3)
 obtain rfl:=Option.some.inj (g_words.symm.trans hg4)
 obtain rfl:=Option.some.inj (t_words.symm.trans ht4)
 have hs:∀k,k<32→W.cell? ⟨3,k,none⟩=some (.int .i64 (spansL.getD k 0)):=fun k hk=>by
  rw[World.var?_cell g_spans hv3 k]
  simpa using spans_cells hd3 k hk
 have hm:∀k,k<4→W.cell? ⟨0,k,none⟩=some (.string (mwS k)):=fun k hk=>by
  rw[World.var?_cell g_words hv4 k]
  simpa using words_cells hd4 k hk
 have lt:∀ {g:Nat} {v:Value},W.cell? ⟨g,0,none⟩=some v→g<W.heap.size:=fun {g v} h=>by
  rcases Nat.lt_or_ge g W.heap.size with hl|hl
  ·exact hl
  ·simp[World.cell?,Array.getElem?_eq_none hl]at h
 have h5:5<W.heap.size:=by
  obtain⟨xs,m,-,-,hlen,-⟩:=DataW.trod_array Tryd.underlying162 hd1
  rw[c_db64]at hlen
  have hc:=World.var?_cell g_db64 hv1 0
  have h0:0<cs1.size:=by simpa using (show 0<cs1.toList.length by omega)
  rw[Array.getElem?_eq_getElem h0]at hc
  exact lt hc
 exact⟨⟨by omega,hs⟩,by omega,hm⟩
def litV:DataW Unit→Value
 | .lit (.int k v)=>.int k v
 | .lit (.string l)=>.string ⟨l.toArray⟩
 |_=>undef
def datV:DataW Unit→Array Value
 | .agg l=>(l.map litV).toArray
 |_=>#[]
noncomputable def tabWorld (os:Os):World:=
 { World.holding Tryd.prog os ⟨#[],#[],[]⟩ with heap:=(((((World.holding Tryd.prog os ⟨#[],#[],[]⟩).heap.modify 3 (relay (spansL.map (Value.int .i64)).toArray)).modify 0 (relay (datV Rows.laid_probecard_faults_modelWords))).modify 4 (relay (datV Rows.laid_math_bits_deBruijn32tab))).modify 5 (relay (datV Rows.laid_math_bits_deBruijn64tab))).modify 1 (relay (datV Rows.laid_internal_strconv_uint64pow10)) }
theorem c_fault: Tryd.prog.cellsOf 33=5:=by kernel_rfl
theorem c_md: Tryd.prog.cellsOf 28=1:=by kernel_rfl
theorem c_vl: Tryd.prog.cellsOf 31=1:=by kernel_rfl
theorem c_ln: Tryd.prog.cellsOf 30=2:=by kernel_rfl
section
variable {H:Type} {enc:TypeId×Value→H} {W:World} {base:Nat} {sp:Nat→Bool} {held:Bool}
set_option maxRecDepth 100000 in
theorem open_fault{b0:Nat}{r:Reach}{v:Value}{d:DataW H}{p:List MemPlace}(hv:Value.okWide Tryd.prog W r b0 33 v)(h:DataW.Trod enc Tryd.prog W base sp held 33 v d p):
 ∃f:Ft,v=.agg #[.int .u8 f.md,.int .i64 f.nd,.int .i64 f.pn,.int .u8 f.vl,.int .i64 f.ot]:=by
 obtain⟨cs,rfl,hsz⟩:=okWide_struct Tryd.underlying33 hv
 obtain⟨c0,c1,c2,c3,c4,rfl⟩:∃c0 c1 c2 c3 c4,cs= #[c0,c1,c2,c3,c4]:=by
  obtain⟨l⟩:=cs
  match l,hsz.trans c_fault with
  |[c0,c1,c2,c3,c4],_=>exact⟨c0,c1,c2,c3,c4,rfl⟩
 obtain⟨fuel,hf⟩:=h
 obtain⟨xs,n,-,-,-,hlen,hel⟩:=DataW.trod_struct Tryd.underlying33 hf
 match xs,hlen with
 |[y0,y1,y2,y3],_=>
  have h0:DataW.trod enc Tryd.prog W base sp held n 28 (([c0,c1,c2,c3,c4].drop 0).take (Tryd.prog.cellsOf 28))=_:=hel 0 _ rfl
  have h1:DataW.trod enc Tryd.prog W base sp held n 30 (([c0,c1,c2,c3,c4].drop 1).take (Tryd.prog.cellsOf 30))=_:=hel 1 _ rfl
  have h2:DataW.trod enc Tryd.prog W base sp held n 31 (([c0,c1,c2,c3,c4].drop 3).take (Tryd.prog.cellsOf 31))=_:=hel 2 _ rfl
  have h3:DataW.trod enc Tryd.prog W base sp held n 3 (([c0,c1,c2,c3,c4].drop 4).take (Tryd.prog.cellsOf 3))=_:=hel 3 _ rfl
  rw[c_md]at h0
  rw[c_ln]at h1
  rw[c_vl]at h2
  rw[c_int]at h3
  obtain⟨a0,e0,-⟩:=DataW.trod_int Tryd.underlying28 (show DataW.trod enc Tryd.prog W base sp held n 28 [c0]=some y0 from h0)
  obtain⟨z0,z1,n2,-,-,k0,k1⟩:=trod_struct2 Tryd.underlying30 (show DataW.trod enc Tryd.prog W base sp held n 30 [c1,c2]=some y1 from h1)
  rw[c_int]at k0 k1
  obtain⟨a1,e1,-⟩:=DataW.trod_int Tryd.underlying3 (show DataW.trod enc Tryd.prog W base sp held n2 3 [c1]=some z0 from k0)
  obtain⟨a2,e2,-⟩:=DataW.trod_int Tryd.underlying3 (show DataW.trod enc Tryd.prog W base sp held n2 3 [c2]=some z1 from k1)
  obtain⟨a3,e3,-⟩:=DataW.trod_int Tryd.underlying31 (show DataW.trod enc Tryd.prog W base sp held n 31 [c3]=some y2 from h2)
  obtain⟨a4,e4,-⟩:=DataW.trod_int Tryd.underlying3 (show DataW.trod enc Tryd.prog W base sp held n 3 [c4]=some y3 from h3)
  simp only[List.cons.injEq,and_true]at e0 e1 e2 e3 e4
  exact⟨⟨a0,a1,a2,a3,a4⟩,by rw[e0,e1,e2,e3,e4]⟩
end
end Go.Proofs.YtcbllelkgniogaaDoor
