/- The texts Ci2 Pan Rdq Ofl. -/
import Derived.Test.YtcbllelkgniogaaDoorM40
import Derived.Test.YtcbllelkgniogaaDoorM29
import Derived.Test.YtcbllelkgniogaaDoorM02
import Derived.Deep.Slices
import Derived.Deep.Fields
import Derived.SliceStrings
import Derived.ChangeSame
import Derived.Test.YtcbllelkgniogaaDoorCards
import Derived.Test.YtcbllelkgniogaaDoorTie
import Derived.Test.YtcbllelkgniogaaDoorM01
import Derived.ProofKit
import Derived.OpenShut
import Derived.Deep.DeepHandedRow
import Derived.Lib.LaidTab
import Derived.Lib.SmallJoins
import Derived.MakeChecks
namespace Go.Proofs.YtcbllelkgniogaaDoor
open Go.RowKit
def Cx.noM(x:Cx):Cx:= { x with mem:=false }
section
variable {w w':World} {B B' p:Nat} {v:Value}
def Slc(w:World)(p:Nat):Prop:=∀j u,w.cell? ⟨p,j,none⟩=some u→∃A n c,u=.slice A n c
theorem Slc.int(h:Slc w p){b j:Nat}{k:IntKind}{x:Int}(hc:w.cell? ⟨b,j,none⟩=some (.int k x)):b≠p:=by
 rintro rfl
 obtain⟨A,n,c,e⟩:=h _ _ hc
 cases e
theorem Slc.str(h:Slc w p){b j:Nat}{x:ByteArray}(hc:w.cell? ⟨b,j,none⟩=some (.string x)):b≠p:=by
 rintro rfl
 obtain⟨A,n,c,e⟩:=h _ _ hc
 cases e
theorem Is.put{l:List Int}(h:Is w B v l)(hp:Slc w p)(hB:B≤B')(hk:∀q:Addr,q.block<B→q.block≠p→w'.cell? q=w.cell? q):Is w' B' v l:=by
 obtain⟨A,b,o,c,h1,h2,h3,h4,h5⟩:=h
 refine⟨A,b,o,c,h1,h2,h3,h4,fun k hkl=>?_⟩
 obtain⟨hb,hc⟩:=h5 k hkl
 exact⟨Nat.lt_of_lt_of_le hb hB,(hk ⟨b,o+k*1,none⟩ hb (hp.int hc)).trans hc⟩
theorem Ss.put{l:List ByteArray}(h:Ss w B v l)(hp:Slc w p)(hB:B≤B')(hk:∀q:Addr,q.block<B→q.block≠p→w'.cell? q=w.cell? q):Ss w' B' v l:=by
 obtain⟨A,b,o,c,h1,h2,h3,h4,h5⟩:=h
 refine⟨A,b,o,c,h1,h2,h3,h4,fun k hkl=>?_⟩
 obtain⟨hb,hc,hs⟩:=h5 k hkl
 exact⟨Nat.lt_of_lt_of_le hb hB,(hk ⟨b,o+k*1,none⟩ hb (hp.str hc)).trans hc,hs⟩
theorem Cir.put{x:Ck}(h:Cir w B v x)(hp:Slc w p)(hB:B≤B')(hk:∀q:Addr,q.block<B→q.block≠p→w'.cell? q=w.cell? q):Cir w' B' v x:=by
 obtain⟨v0,v1,v2,v3,e,hns,hss,hms,hos⟩:=h
 refine⟨v0,v1,v2,v3,e,?_,hss.put hp hB hk,?_,hos.put hp hB hk⟩
 ·obtain⟨A,b,o,c,h1,h2,h3,h4,h5⟩:=hns
  refine⟨A,b,o,c,h1,h2,h3,h4,fun k hkl=>?_⟩
  obtain⟨hb,s,g0,g1,g2,g3,g4,g5⟩:=h5 k hkl
  have hne:b≠p:=hp.int g0
  exact⟨Nat.lt_of_lt_of_le hb hB,s,(hk ⟨b,o+k*4,none⟩ hb hne).trans g0,(hk ⟨b,o+k*4+1,none⟩ hb hne).trans g1,(hk ⟨b,o+k*4+2,none⟩ hb hne).trans g2,(hk ⟨b,o+k*4+3,none⟩ hb hne).trans g3,g4.put hp hB hk,g5⟩
 ·obtain⟨A,b,o,c,h1,h2,h3,h4,h5⟩:=hms
  refine⟨A,b,o,c,h1,h2,h3,h4,fun k hkl=>?_⟩
  obtain⟨hb,s,t,g0,g1,g2,g3,g4⟩:=h5 k hkl
  have hne:b≠p:=hp.int g2
  exact⟨Nat.lt_of_lt_of_le hb hB,s,t,(hk ⟨b,o+k*3,none⟩ hb hne).trans g0,(hk ⟨b,o+k*3+1,none⟩ hb hne).trans g1,(hk ⟨b,o+k*3+2,none⟩ hb hne).trans g2,g3.put hp hB hk,g4.put hp hB hk⟩
end
theorem cok_noM{x:Cx}(h:Cok x):Cok x.noM:=⟨h.inN,h.dffs,h.d0,h.d1,h.p0,h.p1,h.p2,h.p3,h.gates,h.outs⟩
set_option maxHeartbeats 4000000 in
theorem circ12_any(x:Cx)(hx:Cok x)(sG sA:Value)(w:World)(hG:Gs w w.heap.size sG x.gates)(hA:Ks w w.heap.size sA x.outs):
 Calls Tryd.prog 7 #[.agg #[.int .u8 x.inN,.int .u8 x.dffs,.int .u8 x.d0,.int .u8 x.d1,.bool x.bus,.bool x.mem,.int .u8 x.p0,.int .u8 x.p1,.int .u8 x.p2,.int .u8 x.p3,sG,sA]] w
  fun e w'=>(∃v0 v1 v2 v3,e=.returned (.agg #[v0,v1,v2,v3])∧Cir w' w'.heap.size (.agg #[v0,v1,v2,v3]) (ofC x.noM))∧BelW w w':=by
 have HOFX:∀V,Below w.heap.size w V→Calls Tryd.prog 14 #[.agg #[.int .u8 x.inN,.int .u8 x.dffs,.int .u8 x.d0,.int .u8 x.d1,.bool x.bus,.bool false,.int .u8 x.p0,.int .u8 x.p1,.int .u8 x.p2,.int .u8 x.p3,sG,sA]] V fun e w'=>(∃A0 A1 A2 A3 n0 n1 n2 n3 c0 c1 c2 c3,e=.returned (.agg #[.slice A0 n0 c0,.slice A1 n1 c1,.slice A2 n2 c2,.slice A3 n3 c3])∧Cir w' w'.heap.size (.agg #[.slice A0 n0 c0,.slice A1 n1 c1,.slice A2 n2 c2,.slice A3 n3 c3]) (ofC x.noM))∧BelW V w':=fun V hV=>by
  refine (ofc_any x.noM (cok_noM hx) sG sA V w.heap.size (Below.size hV) (hG.below hV) (hA.below hV)).mono ?_
  rintro e w' ⟨⟨v,rfl,hc⟩,hb⟩
  obtain⟨v0,v1,v2,v3,rfl,hns,hss,hms,hos⟩:=hc
  obtain⟨A0,b0,o0,c0,rfl,-⟩:=id hns
  obtain⟨A1,b1,o1,c1,rfl,-⟩:=id hss
  obtain⟨A2,b2,o2,c2,rfl,-⟩:=id hms
  obtain⟨A3,b3,o3,c3,rfl,-⟩:=id hos
  exact⟨⟨_,_,_,_,_,_,_,_,_,_,_,_,rfl,_,_,_,_,rfl,hns,hss,hms,hos⟩,hb⟩
 obtain⟨AG,nG,bG,cG,eG,-⟩:=id hG
 obtain⟨AA,nA,bA,cA,eA,-⟩:=id hA
 subst eG eA
 have HOF:=Lib.hid HOFX
 have HFN:Hid (∀o V,BelW ((w.alloc o).alloc (.cells #[.slice none 0 0,.slice none 0 0,.slice none 0 0,.slice none 0 0] 39)) V→Fr V (w.heap.size+1) 39 [.slice none 0 0,.slice none 0 0,.slice none 0 0,.slice none 0 0]):=Lib.hid fun o V h=>Fr.below (Fr.made _ _ _ (by simp)) h
 clear HOFX hG hA hx
 go_enter Tryd.func7,Tryd.ntmps7
 go_upto_region 2 with (fail)
 go_wp2_with (go_at_call 14;(with_reducible refine (HOF.out _ (below_new (below_new (Below.refl _ _) _) _)).mono ?_);rintro e w3 ⟨⟨A0,A1,A2,A3,n0,n1,n2,n3,c0,c1,c2,c3,rfl,hc⟩,h2⟩;have HC3:=Lib.hid hc;have HF3:=Lib.hid (HFN.out _ _ h2);have HB3:Hid (BelW w w3):=Lib.hid (joinB (below_new (below_new (Below.refl _ _) _) _) h2);have y0:=HF3.out.cell 0;have y1:=HF3.out.cell 1;have y2:=HF3.out.cell 2;have y3:=HF3.out.cell 3;have f0:=HF3.out.frozen 0;have f1:=HF3.out.frozen 1;have f2:=HF3.out.frozen 2;have f3:=HF3.out.frozen 3;simp only[List.getElem?_cons_zero,List.getElem?_cons_succ]at y0 y1 y2 y3;clear h2 hc)
 have hsl:Slc w3 (w.heap.size+1):=fun j u hu=>by
  have:=(HF3.out.cell j).symm.trans hu
  match j,this with
  |0,h=>cases h;exact⟨_,_,_,rfl⟩
  |1,h=>cases h;exact⟨_,_,_,rfl⟩
  |2,h=>cases h;exact⟨_,_,_,rfl⟩
  |3,h=>cases h;exact⟨_,_,_,rfl⟩
  |n+4,h=>cases h
 have hF:=(((HF3.out.set 0 (.slice A0 n0 c0)).set 1 (.slice A1 n1 c1)).set 2 (.slice A2 n2 c2)).set 3 (.slice A3 n3 c3)
 have hle:w.heap.size≤w.heap.size+1:=Nat.le_succ _
 have hB9:=((((HB3.out.setCell (p:=⟨w.heap.size+1,0,none⟩) hle (.slice A0 n0 c0)).setCell (p:=⟨w.heap.size+1,1,none⟩) hle (.slice A1 n1 c1)).setCell (p:=⟨w.heap.size+1,2,none⟩) hle (.slice A2 n2 c2)).setCell (p:=⟨w.heap.size+1,3,none⟩) hle (.slice A3 n3 c3))
 have hC9:=HC3.out.put (w':=(((w3.setCell ⟨w.heap.size+1,0,none⟩ (.slice A0 n0 c0)).setCell ⟨w.heap.size+1,1,none⟩ (.slice A1 n1 c1)).setCell ⟨w.heap.size+1,2,none⟩ (.slice A2 n2 c2)).setCell ⟨w.heap.size+1,3,none⟩ (.slice A3 n3 c3)) (B':=((((w3.setCell ⟨w.heap.size+1,0,none⟩ (.slice A0 n0 c0)).setCell ⟨w.heap.size+1,1,none⟩ (.slice A1 n1 c1)).setCell ⟨w.heap.size+1,2,none⟩ (.slice A2 n2 c2)).setCell ⟨w.heap.size+1,3,none⟩ (.slice A3 n3 c3)).heap.size) hsl (by simp) (fun q _ hne=>World.cell?_of_block (by
  rw[heap_set_ne5 _ _ _ hne,heap_set_ne5 _ _ _ hne,heap_set_ne5 _ _ _ hne,heap_set_ne5 _ _ _ hne]))
 (try simp only[Exit.inBlock,Exit.then])
 refine bodyPost_ret (results_cell_row rfl _ _ _ _ _ _ _ rfl hF Tryd.underlying39 rfl (by kernel_rfl)) rfl ?_
 exact⟨⟨_,_,_,_,rfl,hC9⟩,hB9⟩
open Go.ChangeShapes Go.WideShapes Go.ChangeAt Go.RowKit
theorem rw_own:ownKnob Tryd.prog.godebug=none:=by kernel_rfl
theorem rw_laidOut:laidOutB Tryd.prog=true:=by kernel_rfl
theorem g_spans: Tryd.prog.globalNamed "probecard/logic.spans" =some 3:=by kernel_rfl
theorem t_spans:(Tryd.prog.globals[3]?).map (·.type)=some 156:=by kernel_rfl
theorem c_span: Tryd.prog.cellsOf 155=2:=by kernel_rfl
theorem c_int: Tryd.prog.cellsOf 3=1:=by kernel_rfl
section
variable {H:Type} {enc:TypeId×Value→H}
def spanD(i:Nat):DataW H:=.agg [.lit (.int .i64 (spansL.getD (2*i) 0)),.lit (.int .i64 (spansL.getD (2*i+1) 0))]
theorem spans_cells{W:World}{base fuel:Nat}{sp:Nat→Bool}{held:Bool}{cs:List Value}{p:List MemPlace}
 (h:DataW.trod enc Tryd.prog W base sp held fuel 156 cs=some (Rows.laid_probecard_logic_spans,p)) (k:Nat) (hk:k<32):cs[k]? =some (.int .i64 (spansL.getD k 0)):=by
 obtain⟨xs,m,-,hx,hlen,hn,hel⟩:=DataW.trod_array Tryd.underlying156 h
 simp only[Prod.mk.injEq]at hx
 have hxs:xs.map (·.1)=(List.range 16).map (spanD (H:=H)):=by
  have e:(Rows.laid_probecard_logic_spans:DataW H)=.agg ((List.range 16).map spanD):=rfl
  have:=hx.1.symm.trans e
  injection this
 have hi:k/2<16:=by omega
 have hxi:=congrArg (·[k/2]?) hxs
 simp only[List.getElem?_map,List.getElem?_range hi,Option.map_some]at hxi
 obtain⟨y,hy,hyd⟩:=Option.map_eq_some_iff.1 hxi
 have ht:=(hel (k/2) hi).trans hy
 rw[c_span]at ht
 obtain⟨y0,y1,n,hyx,-,h0,h1⟩:=trod_struct2 Tryd.underlying155 ht
 obtain⟨a,ea,ha,-⟩:=DataW.trod_int Tryd.underlying3 h0
 obtain⟨b,eb,hb,-⟩:=DataW.trod_int Tryd.underlying3 h1
 rw[hyx]at hyd
 simp only[spanD,DataW.agg.injEq,List.cons.injEq,and_true]at hyd
 rw[ha,hb]at hyd
 simp only[DataW.lit.injEq,Lit.int.injEq,true_and]at hyd
 obtain⟨rfl,rfl⟩:=hyd
 rw[c_int]at ea eb
 have e0:cs[k/2*2]? =some (.int .i64 (spansL.getD (2*(k/2)) 0)):=by
  have:=congrArg (·[0]?) ea
  simpa [List.getElem?_take,List.getElem?_drop]using this
 have e1:cs[k/2*2+1]? =some (.int .i64 (spansL.getD (2*(k/2)+1) 0)):=by
  have:=congrArg (·[0]?) eb
  simpa [List.getElem?_take,List.getElem?_drop]using this
 rcases Nat.mod_two_eq_zero_or_one k with h2|h2
 ·have e:k/2*2=k:=by omega
  have e':2*(k/2)=k:=by omega
  rw[e,e']at e0;exact e0
 ·have e:k/2*2+1=k:=by omega
  have e':2*(k/2)+1=k:=by omega
  rw[e,e']at e1;exact e1
end
section
variable {H:Type} {enc:TypeId×Value→H} {P:Program}
theorem all_below(hl:laidOutB P=true){W W':World}(hb:Below W.heap.size W W'):∀ {ts:List TypeId} {vs:List Value} {ds:List (DataW H)} {p:List MemPlace},
 (∀t∈ts,P.readableRec t=true∧t<P.types.size)→DataW.TrodAll enc P W 0 (fun _=>true) true ts vs ds p→(∀x∈p,x.block<W.heap.size)→
 DataW.TrodAll enc P W' 0 (fun b=>decide (b<W.heap.size)) true ts vs ds p
 |[],vs,ds,p,_,h,_=>by
  obtain⟨rfl,rfl,rfl⟩:=trodAll_nil h
  exact trodAll_mk0
 |t::ts,vs,ds,p,hr,h,hp=>by
  obtain⟨v,vs',d,ds',p1,p2,rfl,rfl,rfl,h1,h2⟩:=trodAll_cons h
  have hr1:=hr t List.mem_cons_self
  exact trodAll_cons_mk (Below.trod hl hr1.1 hr1.2 h1 hb fun x hx=>hp x (List.mem_append_left _ hx))
   (all_below hl hb (fun u hu=>hr u (List.mem_cons_of_mem _ hu)) h2 fun x hx=>hp x (List.mem_append_right _ hx))
theorem law_post(hl:laidOutB P=true){f:Func}{s:ChangeSpec}{W W':World}{args:Array Value}{ds:List (DataW H)}{before:List MemPlace}{tb:TypeId}
 (hv:s.vars=[]) (hW:DataW.Whole enc P f.params.toList s.vars false W args.toList ds [] before) (hr:∀t∈f.params.toList,P.readableRec t=true∧t<P.types.size)
 (hres:f.resultTypes= #[tb]) (htb:P.underlying tb=some .bool) (hfn:s.fn H (ds++[])= { results:=[.lit (.bool true)],args:=ds }) (hb:Below W.heap.size W W'):
 s.post enc P f false true false false W args (.bool true) W':=by
 have hlt:=hW.lt
 obtain⟨p,q,hA,hV,he,hz,hn⟩:=id hW
 rw[hv]at hV
 obtain⟨-,rfl⟩:=trodVars_none hV
 rw[List.append_nil]at he
 subst he
 refine⟨ds,[],before,[],before,[],hW,?_,?_,?_,hb.frame _,fun h=>by cases h⟩
 ·rw[hfn,hres]
  exact trodAll_cons_mk (shut_bool htb true) trodAll_mk0
 ·rw[hfn]
  exact all_below hl hb hr hA fun x hx=>hlt x hx
 ·rw[hfn,hv]
  rfl
end
def relay(cs:Array Value):Obj→Obj
 | .cells _ t fr=>.cells cs t fr
 |o=>o
theorem c_str: Tryd.prog.cellsOf 9=1:=by kernel_rfl
theorem g_words: Tryd.prog.globalNamed "probecard/faults.modelWords" =some 0:=by kernel_rfl
theorem t_words:(Tryd.prog.globals[0]?).map (·.type)=some 87:=by kernel_rfl
theorem g_db64: Tryd.prog.globalNamed "math/bits.deBruijn64tab" =some 5:=by kernel_rfl
theorem t_db64:(Tryd.prog.globals[5]?).map (·.type)=some 162:=by kernel_rfl
theorem c_db64: Tryd.prog.cellsOf 162=64:=by kernel_rfl
section
variable {H:Type} {enc:TypeId×Value→H}
theorem words_cells{W:World}{base fuel:Nat}{sp:Nat→Bool}{held:Bool}{cs:List Value}{p:List MemPlace}
 (h:DataW.trod enc Tryd.prog W base sp held fuel 87 cs=some (Rows.laid_probecard_faults_modelWords,p)) (k:Nat) (hk:k<4):cs[k]? =some (.string (mwS k)):=by
 obtain⟨xs,m,-,hx,hlen,hn,hel⟩:=DataW.trod_array Tryd.underlying87 h
 simp only[Prod.mk.injEq]at hx
 have hxs:xs.map (·.1)=(List.range 4).map fun i=>(DataW.lit (.string (mwS i).data.toList):DataW H):=by
  have e:(Rows.laid_probecard_faults_modelWords:DataW H)=.agg ((List.range 4).map fun i=>DataW.lit (.string (mwS i).data.toList)):=rfl
  have:=hx.1.symm.trans e
  injection this
 have hxi:=congrArg (·[k]?) hxs
 simp only[List.getElem?_map,List.getElem?_range hk,Option.map_some]at hxi
 obtain⟨y,hy,hyd⟩:=Option.map_eq_some_iff.1 hxi
 have ht:=(hel k hk).trans hy
 rw[c_str]at ht
 obtain⟨s,es,ex,-⟩:=DataW.trod_string Tryd.underlying9 ht
 rw[ex]at hyd
 simp only[DataW.lit.injEq,Lit.string.injEq]at hyd
 have hs:s=mwS k:=by
  cases s with
  |mk d=>
   have:d=(mwS k).data:=by
    apply Array.ext'
    exact hyd
   rw[this]
 subst hs
 have:=congrArg (·[0]?) es
 simpa [List.getElem?_take,List.getElem?_drop]using this
end
theorem tabs_of{W:World}(h:laidMetH Tryd.prog [("math/bits.deBruijn32tab",Rows.laid_math_bits_deBruijn32tab),("math/bits.deBruijn64tab",Rows.laid_math_bits_deBruijn64tab),("internal/strconv.uint64pow10",Rows.laid_internal_strconv_uint64pow10),("probecard/logic.spans",Rows.laid_probecard_logic_spans),("probecard/faults.modelWords",Rows.laid_probecard_faults_modelWords)] W):Tabs W∧MWs W:=by
 rw[MakeChecks.laidMetH_plain _ _ _ (by kernel_rfl)]at h
 obtain⟨ps,⟨g0,t0,cs0,f0,p0,q0,hg0,ht0,hv0,hd0,⟨g1,t1,cs1,f1,p1,q1,hg1,ht1,hv1,hd1,⟨g2,t2,cs2,f2,p2,q2,hg2,ht2,hv2,hd2,⟨g3,t3,cs3,f3,p3,q3,hg3,ht3,hv3,hd3,⟨g4,t4,cs4,f4,p4,q4,hg4,ht4,hv4,hd4,-,-⟩,-⟩,-⟩,-⟩,-⟩,-,-⟩:=h
 obtain rfl:=Option.some.inj (g_db64.symm.trans hg1)
 obtain rfl:=Option.some.inj (t_db64.symm.trans ht1)
 obtain rfl:=Option.some.inj (g_spans.symm.trans hg3)
 obtain rfl:=Option.some.inj (t_spans.symm.trans ht3)
 obtain rfl:=Option.some.inj (g_words.symm.trans hg4)
 obtain rfl:=Option.some.inj (t_words.symm.trans ht4)
 have hs:∀k,k<32→W.cell? ⟨3,k,none⟩=some (.int .i64 (spansL.getD k 0)):=fun k hk=>by
  rw[World.var?_cell g_spans hv3 k]
  simpa using spans_cells hd3 k hk
 have hm:∀k,k<4→W.cell? ⟨0,k,none⟩=some (.string (mwS k)):=fun k hk=>by
  rw[World.var?_cell g_words hv4 k]
  simpa using words_cells hd4 k hk
 have lt:∀ {g:Nat} {v:Value},W.cell? ⟨g,0,none⟩=some v→g<W.heap.size:=fun {g v} h=>by
  rcases Nat.lt_or_ge g W.heap.size with hl|hl
  ·exact hl
  ·simp[World.cell?,Array.getElem?_eq_none hl]at h
 have h5:5<W.heap.size:=by
  obtain⟨xs,m,-,-,hlen,-⟩:=DataW.trod_array Tryd.underlying162 hd1
  rw[c_db64]at hlen
  have hc:=World.var?_cell g_db64 hv1 0
  have h0:0<cs1.size:=by simpa using (show 0<cs1.toList.length by omega)
  rw[Array.getElem?_eq_getElem h0]at hc
  exact lt hc
 exact⟨⟨by omega,hs⟩,by omega,hm⟩
def litV:DataW Unit→Value
 | .lit (.int k v)=>.int k v
 | .lit (.string l)=>.string ⟨l.toArray⟩
 |_=>undef
def datV:DataW Unit→Array Value
 | .agg l=>(l.map litV).toArray
 |_=>#[]
noncomputable def tabWorld (os:Os):World:=
 { World.holding Tryd.prog os ⟨#[],#[],[]⟩ with heap:=(((((World.holding Tryd.prog os ⟨#[],#[],[]⟩).heap.modify 3 (relay (spansL.map (Value.int .i64)).toArray)).modify 0 (relay (datV Rows.laid_probecard_faults_modelWords))).modify 4 (relay (datV Rows.laid_math_bits_deBruijn32tab))).modify 5 (relay (datV Rows.laid_math_bits_deBruijn64tab))).modify 1 (relay (datV Rows.laid_internal_strconv_uint64pow10)) }
theorem c_fault: Tryd.prog.cellsOf 33=5:=by kernel_rfl
theorem c_md: Tryd.prog.cellsOf 28=1:=by kernel_rfl
theorem c_vl: Tryd.prog.cellsOf 31=1:=by kernel_rfl
theorem c_ln: Tryd.prog.cellsOf 30=2:=by kernel_rfl
section
variable {H:Type} {enc:TypeId×Value→H} {W:World} {base:Nat} {sp:Nat→Bool} {held:Bool}
set_option maxRecDepth 100000 in
theorem open_fault_b{b0:Nat}{r:Reach}{v:Value}{d:DataW H}{p:List MemPlace}(hv:Value.okWide Tryd.prog W r b0 33 v)(h:DataW.Trod enc Tryd.prog W base sp held 33 v d p):
 ∃f:Ft,v=.agg #[.int .u8 f.md,.int .i64 f.nd,.int .i64 f.pn,.int .u8 f.vl,.int .i64 f.ot]∧0≤f.vl:=by
 obtain⟨cs,rfl,hsz⟩:=okWide_struct Tryd.underlying33 hv
 obtain⟨c0,c1,c2,c3,c4,rfl⟩:∃c0 c1 c2 c3 c4,cs= #[c0,c1,c2,c3,c4]:=by
  obtain⟨l⟩:=cs
  match l,hsz.trans c_fault with
  |[c0,c1,c2,c3,c4],_=>exact⟨c0,c1,c2,c3,c4,rfl⟩
 obtain⟨fuel,hf⟩:=h
 obtain⟨xs,n,-,-,-,hlen,hel⟩:=DataW.trod_struct Tryd.underlying33 hf
 match xs,hlen with
 |[y0,y1,y2,y3],_=>
  have h0:DataW.trod enc Tryd.prog W base sp held n 28 (([c0,c1,c2,c3,c4].drop 0).take (Tryd.prog.cellsOf 28))=_:=hel 0 _ rfl
  have h1:DataW.trod enc Tryd.prog W base sp held n 30 (([c0,c1,c2,c3,c4].drop 1).take (Tryd.prog.cellsOf 30))=_:=hel 1 _ rfl
  have h2:DataW.trod enc Tryd.prog W base sp held n 31 (([c0,c1,c2,c3,c4].drop 3).take (Tryd.prog.cellsOf 31))=_:=hel 2 _ rfl
  have h3:DataW.trod enc Tryd.prog W base sp held n 3 (([c0,c1,c2,c3,c4].drop 4).take (Tryd.prog.cellsOf 3))=_:=hel 3 _ rfl
  rw[c_md]at h0
  rw[c_ln]at h1
  rw[c_vl]at h2
  rw[c_int]at h3
  obtain⟨a0,e0,-⟩:=DataW.trod_int Tryd.underlying28 (show DataW.trod enc Tryd.prog W base sp held n 28 [c0]=some y0 from h0)
  obtain⟨z0,z1,n2,-,-,k0,k1⟩:=trod_struct2 Tryd.underlying30 (show DataW.trod enc Tryd.prog W base sp held n 30 [c1,c2]=some y1 from h1)
  rw[c_int]at k0 k1
  obtain⟨a1,e1,-⟩:=DataW.trod_int Tryd.underlying3 (show DataW.trod enc Tryd.prog W base sp held n2 3 [c1]=some z0 from k0)
  obtain⟨a2,e2,-⟩:=DataW.trod_int Tryd.underlying3 (show DataW.trod enc Tryd.prog W base sp held n2 3 [c2]=some z1 from k1)
  obtain⟨a3,e3,-,w3⟩:=DataW.trod_int Tryd.underlying31 (show DataW.trod enc Tryd.prog W base sp held n 31 [c3]=some y2 from h2)
  obtain⟨a4,e4,-⟩:=DataW.trod_int Tryd.underlying3 (show DataW.trod enc Tryd.prog W base sp held n 3 [c4]=some y3 from h3)
  simp only[List.cons.injEq,and_true]at e0 e1 e2 e3 e4
  refine⟨⟨a0,a1,a2,a3,a4⟩,by rw[e0,e1,e2,e3,e4],?_⟩
  simp only[Lit.wf,Bool.and_eq_true,decide_eq_true_eq]at w3
  exact w3.1
end
end Go.Proofs.YtcbllelkgniogaaDoor
