/- The texts Rgo Fa1 Fa2. -/
import Derived.Test.YtcbllelkgniogaaDoorM01
import Derived.Test.YtcbllelkgniogaaDoorM10
namespace Go.Proofs.YtcbllelkgniogaaDoor
open Go.RowKit
theorem heap_set_ne5(W:World)(a:Addr)(v:Value){b:Nat}(h:b≠a.block):(W.setCell a v).heap[b]? =W.heap[b]? :=by
 simp[World.setCell,Array.getElem?_modify,Ne.symm h]
structure Rel5(B:Nat)(K:World→World→Prop):Prop where
 trans:∀ {A C D:World},K A C→K C D→K A D
 below:∀ {A C:World},Below A.heap.size A C→K A C
 put:∀(W:World) (l:Nat) (o o':Obj),B≤l→W.heap[l]? =some o→o.isCells=false→K W (W.putObj l o')
def Kt(B:Nat)(ts:List TypeId)(V V':World):Prop:=(∀(b:Nat),b<B→b<V.heap.size→V'.heap[b]? =V.heap[b]?)∧∀(b:Nat) (cs:Array Value) (u:TypeId),V.heap[b]? =some (.cells cs u)→u ∉ ts→V'.heap[b]? =some (.cells cs u)
theorem lt_of_some{W:World}{b:Nat}{o:Obj}(h:W.heap[b]? =some o):b<W.heap.size:=(Array.getElem?_eq_some_iff.1 h).1
theorem Kt.rel(B:Nat)(ts:List TypeId):Rel5 B (fun V V'=>V.heap.size≤V'.heap.size∧Kt B ts V V') where
 trans h k:=⟨Nat.le_trans h.1 k.1,fun b hb hv=>(k.2.1 b hb (by have:=h.1;omega)).trans (h.2.1 b hb hv),fun b cs u hb hu=>k.2.2 b cs u (h.2.2 b cs u hb hu) hu⟩
 below h:=⟨Below.size h,fun b _ hv=>h.block b hv,fun b cs u hb _=>(h.block b (lt_of_some hb)).trans hb⟩
 put W l o o' hB hl ho:=⟨by simp[World.putObj],fun b hb _=>World.putObj_heap_other (by omega),fun b cs u hb _=>by
  by_cases e:b=l
  ·subst e
   rw[hl]at hb
   cases hb
   cases ho
  ·exact (World.putObj_heap_other (fun g=>e g)).trans hb⟩
def Kr(B:Nat)(ts:List TypeId)(V V':World):Prop:=V.heap.size≤V'.heap.size∧Kt B ts V V'
theorem Kr.rel(B:Nat)(ts:List TypeId):Rel5 B (Kr B ts):=Kt.rel B ts
theorem Kr.cell{B:Nat}{ts:List TypeId}{V V':World}(h:Kr B ts V V'){b j:Nat}{v:Value}(hb:b<B)(hc:V.cell? ⟨b,j,none⟩=some v):V'.cell? ⟨b,j,none⟩=some v:=by
 rw[←hc]
 exact World.cell?_of_block (h.2.1 b hb (cell_lt hc))
theorem Kr.row{B:Nat}{ts:List TypeId}{V V':World}(h:Kr B ts V V'){b:Nat}{t:TypeId}{xs:List Value}(hf:Fr V b t xs)(ht:t ∉ ts):Fr V' b t xs:=h.2.2 b _ t hf ht
section
variable {α:Type} {F:Fence} {n m:Nat} {P:Program} {K:World→World→Prop}
def SeqT(B0:Nat)(K:World→World→Prop)(F:Fence)(n m:Nat)(P:Program)(gf:Nat)(lb:Array Value)(encs:α→Array Value)(zs:List α)(w:World):Prop:=
 ∀(l:Nat) (J:Nat→World→Prop) (W:World),Below w.heap.size w W→
  OwnFrom W.heap.size J→
  (∀k x V,zs[k]? =some x→J k V→YieldAt F m P l (encs x) V fun e V'=>e=.returned (.bool true)∧J (k+1) V'∧K V V'∧KeepsFrom B0 V V')→
  J 0 W→CallsIn F n P gf (#[.func (.yield l) #[] #[]]++lb) W fun e V'=>(∃v,e=.returned v)∧J zs.length V'
theorem own_below{B:Nat}{I:Nat→World→Prop}(hI:OwnFrom B I){k:Nat}{V V':World}(h:I k V)(hb:Below V.heap.size V V'):I k V':=
 hI k V V' none h ⟨hb.os,hb.tape,hb.output,hb.size,fun i hi _=>hb.block i hi⟩ (fun r e=>by cases e)
theorem range_t{g:Operand}{ps:Array Tmp}{assign body:Code}{Q:Exit→Act→World→Prop}{a:Act}{w:World}{gf:Nat}{lb:Array Value}{encs:α→Array Value}{zs:List α}
 {B0:Nat} (hK:Rel5 B0 K) (hB0:B0≤w.heap.size) (hro:F.round=none) (h1:1≤n) (hg:a.eval g=.func (.func gf) #[] lb) (hF:F.fn gf) (hen:∀args V,(callFunc gf args).run P V=.ok (.enter gf args) V)
 (hseq:SeqT B0 K F (n-1) m P gf lb encs zs w) (hps:∀x,(encs x).size=ps.size)
 (I:Nat→World→Prop) (hI:OwnFrom w.heap.size I) (h0:I 0 w) (Ax:α→Act→World→Prop) (hAx:∀x a',OwnFrom w.heap.size (fun(_:Unit) V=>Ax x a' V))
 (hassign:∀l k x V (K':Act→World→Prop),zs[k]? =some x→I k V→(∀a' V1,Below V.heap.size V V1→Ax x a' V1→K' a' V1)→assign.wpIn (F.inRound l) m P (Exit.then K' (fun _ _ _=>False)) { tmps:=(ps.zip (encs x)).foldl (fun t (p,v)=>t.setIfInBounds p v) a.tmps,defers:=[] } V)
 (hbody:∀l k x a' V,w.heap.size≤l→zs[k]? =some x→I k V→Ax x a' V→body.wpIn (F.inRound l) m P (fun e _ V'=>e=.normal∧KeepsFrom B0 V V'∧K V V'∧I (k+1) V') a' V)
 (hdone:∀D V,w.heap.size≤D→I zs.length V→V.heap[D]? =some (.deferred (some []))→Q .normal { a with defers:= { target:=.collected D,args:=#[] } ::a.defers } V):
 (Code.rangeFunc g ps assign body).wpIn F n P Q a w:=by
 refine wpIn_rangeFunc fun fn hfn=>?_
 rw[hro]
 generalize hd:w.heap.size=d at*
 let r:LoopState→Loop:=fun s=> { state:=s,pending:=none,fn,tmps:=a.tmps,params:=ps,assign,body,defers:=d }
 let J:Nat→World→Prop:=fun k V=>I k V∧V.heap[d+1]? =some (.loop (r .ready))∧V.heap[d]? =some (.deferred (some []))
 obtain⟨V0,hV0⟩:∃V0,V0=(w.alloc (.deferred (some []))).alloc (.loop (r .ready)):=⟨_,rfl⟩
 have hJ0:J 0 V0:=by
  refine⟨by rw[hV0];exact hI.alloc _ (hI.alloc _ h0),?_,?_⟩
  ·have:=World.alloc_heap_new (w.alloc (.deferred (some []))) (.loop (r .ready))
   rw[World.size_alloc,hd]at this
   rw[hV0];exact this
  ·have e1:=World.alloc_heap_new w (.deferred (some []))
   rw[hd]at e1
   rw[hV0]
   exact (Below.heap_alloc (w.alloc (.deferred (some []))) (.loop (r .ready)) d (by rw[World.size_alloc,hd];exact Nat.lt_succ_self d)).trans e1
 have hb0:Below d w V0:=by
  rw[hV0]
  have:=((Below.refl w.heap.size w).alloc (Nat.le_refl _) (.deferred (some []))).alloc (by simp) (.loop (r .ready))
  rwa [hd]at this
 have hz0:V0.heap.size=d+2:=by rw[hV0];simp[hd]
 have hst:OwnFrom V0.heap.size J:=by
  rintro k V V' row ⟨hi,hl,hk⟩ hg hr
  refine⟨hI k V V' row hi hg fun r e=>⟨by have:=(hr r e).1;omega,(hr r e).2⟩,(hg.block _ (lt_of_some hl) fun e=>?_).trans hl,(hg.block _ (lt_of_some hk) fun e=>?_).trans hk⟩
  ·have:=(hr _ e.symm).1;omega
  ·have:=(hr _ e.symm).1;omega
 have hround:∀k x V,zs[k]? =some x→J k V→YieldAt F m P (d+1) (encs x) V fun e V'=>e=.returned (.bool true)∧J (k+1) V'∧K V V'∧KeepsFrom B0 V V':=by
  rintro k x V hx ⟨hi,hl,hk⟩
  refine⟨fn,_,assign,body,run_yield (P:=P) (args:=encs x) hl (hps x),roundIn_of_wpIn hfn (hassign _ k x V _ hx hi fun a1 V1 hb1 ha1=>⟨_,run_beginRound ((hb1.block _ (Array.getElem?_eq_some_iff.1 hl).1).trans hl) rfl,?_⟩)⟩
  have hl1:V1.heap[d+1]? =some (.loop (r .ready)):=(hb1.block _ (Array.getElem?_eq_some_iff.1 hl).1).trans hl
  have hk1:V1.heap[d]? =some (.deferred (some [])):=(hb1.block _ (Array.getElem?_eq_some_iff.1 hk).1).trans hk
  have hi1:I k V1:=own_below hI hi hb1
  have hlt:d+1<V1.heap.size:=(Array.getElem?_eq_some_iff.1 hl1).1
  have hl2:(V1.putObj (d+1) (.loop (r .busy))).heap[d+1]? =some (.loop (r .busy)):=World.putObj_heap_same hlt
  have hk2:(V1.putObj (d+1) (.loop (r .busy))).heap[d]? =some (.deferred (some [])):=(World.putObj_heap_other (by omega)).trans hk1
  have hb2:K V1 (V1.putObj (d+1) (.loop (r .busy))):=hK.put _ _ _ _ (by omega) hl1 rfl
  refine wpIn_mono (hbody _ k x a1 _ (by omega) hx (hI.putObj _ hi1 (by omega) hl1 rfl) ((hAx x a1).putObj (s:=()) _ ha1 (by omega) hl1 rfl)) ?_
  rintro e a3 V3 ⟨rfl,hkf,hbb,hi3⟩
  have hl3:=hkf.same _ _ (by omega) hl2 rfl
  have hk3:=hkf.same _ _ (by omega) hk2 rfl
  refine⟨_,_,run_endRound (P:=P) none hl3,rfl,⟨hI.putObj _ hi3 (by omega) hl3 rfl,?_,?_⟩,?_,?_⟩
  ·exact World.putObj_heap_same (Array.getElem?_eq_some_iff.1 hl3).1
  ·exact (World.putObj_heap_other (by omega)).trans hk3
  ·exact hK.trans (hK.below hb1) (hK.trans hb2 (hK.trans hbb (hK.put _ _ _ _ (by omega) hl3 rfl)))
  ·refine⟨?_,fun b o hb hbo hoc=>?_⟩
   ·have h1:=Below.size hb1
    have h2:=hkf.size
    simp[World.putObj]at h2 ⊢
    omega
   ·by_cases e:b=d+1
    ·subst e
     rw[hl]at hbo
     rw[←hbo]
     exact World.putObj_heap_same (lt_of_some hl3)
    ·refine (World.putObj_heap_other (fun g=>e g)).trans (hkf.same b o hb ?_ hoc)
     exact (World.putObj_heap_other (fun g=>e g)).trans ((hb1.block b (lt_of_some hbo)).trans hbo)
 refine⟨d+1,[{ target:=.collected d,args:=#[] }],V0, { target:=.fn (.func gf) lb,args:=#[.func (.yield (d+1)) #[] #[]] },V0,gf,#[.func (.yield (d+1)) #[] #[]]++lb,V0,?_,?_,?_,?_,fun _=>h1,?_⟩
 ·have:=run_enterLoop_outer (P:=P) (w:=w) fn a.tmps ps assign body
  rw[hd]at this
  rw[hV0];exact this
 ·simp only[resolve,hg]
  simp[go_sem]
 ·intro f' hf'
  simp[Target.leads]at hf'
  subst hf';exact hF
 ·simp[invoke,go_sem,hen]
 ·refine (hseq (d+1) J V0 (by rw[hd];exact hb0) hst hround hJ0).mono ?_
  rintro e V2 ⟨⟨v,rfl⟩,hi,hl,hk⟩
  exact⟨none,_,run_endLoop (P:=P) hl (by simp[r]),hdone _ _ (Nat.le_refl _) (hI.putObj _ hi (by omega) hl rfl) ((World.putObj_heap_other (by omega)).trans hk)⟩
end
structure Ft where
 md:Int
 nd:Int
 pn:Int
 vl:Int
 ot:Int
def cmI(x y:Int):Int:=if x<y then-1 else if y<x then 1 else 0
def orI:List Int→Int
 |[]=>0
 |x::l=>if x=0 then orI l else x
def cmF(a b:Ft):Int:=orI [cmI a.md b.md,cmI a.nd b.nd,cmI a.pn b.pn,cmI a.ot b.ot,cmI a.vl b.vl]
def ltF(a b:Ft):Prop:=a.md<b.md∨(a.md=b.md∧(a.nd<b.nd∨(a.nd=b.nd∧(a.pn<b.pn∨(a.pn=b.pn∧(a.ot<b.ot∨(a.ot=b.ot∧a.vl<b.vl)))))))
theorem cmI_cases(x y:Int):(cmI x y= -1∧x<y)∨(cmI x y=0∧x=y)∨(cmI x y=1∧y<x):=by
 unfold cmI
 by_cases h:x<y
 ·rw[if_pos h];exact .inl ⟨rfl,h⟩
 ·rw[if_neg h]
  by_cases h2:y<x
  ·rw[if_pos h2];exact .inr (.inr ⟨rfl,h2⟩)
  ·rw[if_neg h2];exact .inr (.inl ⟨rfl,by omega⟩)
theorem cmF_cases(a b:Ft):(cmF a b= -1∧ltF a b)∨(cmF a b=0∧a=b)∨(cmF a b=1∧ltF b a):=by
 unfold cmF ltF
 simp only[orI]
 rcases cmI_cases a.md b.md with⟨e1,h1⟩| ⟨e1,h1⟩| ⟨e1,h1⟩
 ·rw[e1,if_neg (by decide)];exact .inl ⟨rfl,.inl h1⟩
 ·rw[e1,if_pos rfl]
  rcases cmI_cases a.nd b.nd with⟨e2,h2⟩| ⟨e2,h2⟩| ⟨e2,h2⟩
  ·rw[e2,if_neg (by decide)];exact .inl ⟨rfl,.inr ⟨h1,.inl h2⟩⟩
  ·rw[e2,if_pos rfl]
   rcases cmI_cases a.pn b.pn with⟨e3,h3⟩| ⟨e3,h3⟩| ⟨e3,h3⟩
   ·rw[e3,if_neg (by decide)];exact .inl ⟨rfl,.inr ⟨h1,.inr ⟨h2,.inl h3⟩⟩⟩
   ·rw[e3,if_pos rfl]
    rcases cmI_cases a.ot b.ot with⟨e4,h4⟩| ⟨e4,h4⟩| ⟨e4,h4⟩
    ·rw[e4,if_neg (by decide)];exact .inl ⟨rfl,.inr ⟨h1,.inr ⟨h2,.inr ⟨h3,.inl h4⟩⟩⟩⟩
    ·rw[e4,if_pos rfl]
     rcases cmI_cases a.vl b.vl with⟨e5,h5⟩| ⟨e5,h5⟩| ⟨e5,h5⟩
     ·rw[e5,if_neg (by decide)];exact .inl ⟨rfl,.inr ⟨h1,.inr ⟨h2,.inr ⟨h3,.inr ⟨h4,h5⟩⟩⟩⟩⟩
     ·rw[e5,if_pos rfl]
      refine .inr (.inl ⟨rfl,?_⟩)
      obtain⟨a1,a2,a3,a4,a5⟩:=a
      obtain⟨b1,b2,b3,b4,b5⟩:=b
      simp only at h1 h2 h3 h4 h5
      subst h1 h2 h3 h4 h5
      rfl
     ·rw[e5,if_neg (by decide)];exact .inr (.inr ⟨rfl,.inr ⟨h1.symm,.inr ⟨h2.symm,.inr ⟨h3.symm,.inr ⟨h4.symm,h5⟩⟩⟩⟩⟩)
    ·rw[e4,if_neg (by decide)];exact .inr (.inr ⟨rfl,.inr ⟨h1.symm,.inr ⟨h2.symm,.inr ⟨h3.symm,.inl h4⟩⟩⟩⟩)
   ·rw[e3,if_neg (by decide)];exact .inr (.inr ⟨rfl,.inr ⟨h1.symm,.inr ⟨h2.symm,.inl h3⟩⟩⟩)
  ·rw[e2,if_neg (by decide)];exact .inr (.inr ⟨rfl,.inr ⟨h1.symm,.inl h2⟩⟩)
 ·rw[e1,if_neg (by decide)];exact .inr (.inr ⟨rfl,.inl h1⟩)
theorem ltF_irr(a:Ft):¬ltF a a:=by unfold ltF;omega
theorem ltF_trans{a b c:Ft}(h:ltF a b)(k:ltF b c):ltF a c:=by
 unfold ltF at*
 omega
theorem cmF_self(a:Ft):cmF a a=0:=by
 rcases cmF_cases a a with⟨_,h⟩| ⟨h,_⟩| ⟨_,h⟩
 ·exact absurd h (ltF_irr a)
 ·exact h
 ·exact absurd h (ltF_irr a)
def lnsN(nodes:List Nd)(k:Nat):List (Int×Int):=(List.range k).flatMap fun(i:Nat)=>(List.range ((nodes.getD i default).ins.length+1)).map fun(p:Nat)=>((i:Int),(p:Int)-1)
def lnsL(c:Ck):List (Int×Int):=lnsN c.nodes c.nodes.length
theorem lnsN_succ(nodes:List Nd)(k:Nat):lnsN nodes (k+1)=lnsN nodes k++(List.range ((nodes.getD k default).ins.length+1)).map fun(p:Nat)=>((k:Int),(p:Int)-1):=by
 unfold lnsN;rw[List.range_succ,List.flatMap_append,List.flatMap_cons,List.flatMap_nil,List.append_nil]
def lnsC(nodes:List Nd)(k:Nat):Nat:=(lnsN nodes k).length
theorem lnsC_succ(nodes:List Nd)(k:Nat):lnsC nodes (k+1)=lnsC nodes k+((nodes.getD k default).ins.length+1):=by
 unfold lnsC;rw[lnsN_succ,List.length_append,List.length_map,List.length_range]
theorem lnsN_at(nodes:List Nd){k p n:Nat}(hk:k<n)(hp:p<(nodes.getD k default).ins.length+1):(lnsN nodes n)[lnsC nodes k+p]? =some ((k:Int),(p:Int)-1):=by
 induction n with
 |zero=>omega
 |succ n ih=>
  rw[lnsN_succ]
  by_cases e:k=n
  ·subst e
   rw[List.getElem?_append_right (by unfold lnsC;omega)]
   have:lnsC nodes k+p-(lnsN nodes k).length=p:=by unfold lnsC;omega
   rw[this,List.getElem?_map,List.getElem?_range hp];rfl
  ·have h1:=ih (by omega)
   have h2:lnsC nodes k+p<(lnsN nodes n).length:=(List.getElem?_eq_some_iff.1 h1).1
   rw[List.getElem?_append_left h2]
   exact h1
def stkL(c:Ck)(m:Int):List Ft:=(lnsL c).flatMap fun l=>[⟨m,l.1,l.2,0,0⟩,⟨m,l.1,l.2,1,0⟩]
theorem flat2_at{α β:Type}(f:α→β×β)(l:List α)(i:Nat):(l.flatMap fun x=>[(f x).1,(f x).2])[2*i]? =(l[i]?).map (fun x=>(f x).1)∧(l.flatMap fun x=>[(f x).1,(f x).2])[2*i+1]? =(l[i]?).map (fun x=>(f x).2):=by
 induction l generalizing i with
 |nil=>simp
 |cons x l ih=>
  cases i with
  |zero=>simp
  |succ i=>
   have:=ih i
   rw[List.flatMap_cons]
   have e1:2*(i+1)=2*i+1+1:=by omega
   rw[e1]
   simpa using this
theorem stkL_len(c:Ck)(m:Int):(stkL c m).length=2*(lnsL c).length:=by
 unfold stkL
 induction lnsL c with
 |nil=>rfl
 |cons x l ih=>rw[List.flatMap_cons,List.length_append,ih];simp;omega
end Go.Proofs.YtcbllelkgniogaaDoor
