/- The texts Hin Nxs Cyr Blr Nxr. -/
import Derived.Test.YtemjmfpcopfdbaaGreatDoorM25
import Derived.Deep.DeepCutAuto
import Derived.Deep.RegionHeld3
namespace Go.Proofs.YtemjmfpcopfdbaaGreatDoor
open Go.RowKit
section
variable {P:Program} {md:Region.Mode} {ops:Array Oper} {Q:Exit→Act→World→Prop} {S:World→Prop}
theorem left_less{l:Array Bool}{i:Nat}{o:Oper}(hs:l.size=ops.size)(ho:ops[i]? =some o)(h:l.getD i true=false):(l.setIfInBounds i true).toList.countP (fun b=> !b)<l.toList.countP (fun b=> !b):=by
 have hi:i<l.toList.length:=by
  have:=(Array.getElem?_eq_some_iff.1 ho).1
  simp;omega
 have hv:l.toList[i]=false:=by
  have hi':i<l.size:=by simpa using hi
  simpa [hi']using h
 have hp:0<l.toList.countP (fun b=> !b):=List.countP_pos_iff.2 ⟨_,List.getElem_mem hi,by simp[hv]⟩
 rw[Array.toList_setIfInBounds,List.countP_set hi,hv]
 simp only[Bool.not_false,Bool.not_true,if_true,Bool.false_eq_true,if_false]
 omega
theorem held_inv(J:Array Bool→Act→World→Prop)
 (hz:∀l a w,J l a w→l.size=ops.size) (hJS:∀l a w,J l a w→S w)
 (hstep:∀l a w i o,J l a w→ops[i]? =some o→l.getD i true=false→(∀e∈o.after,Region.binds md e=true→l.getD e.on false=true)→
   wpOp P ops Q i (fun a' w'=>J (l.setIfInBounds i true) a' w') a w)
 (hdone:∀l a w,J l a w→Region.ready md ops l=[]→Q .normal a w):
 ∀(fuel:Nat) (l:Array Bool) (a:Act) (w:World),l.toList.countP (fun b=> !b)≤fuel→J l a w→wpAnyH P md ops Q S fuel l a w:=by
 intro fuel
 induction fuel with
 |zero=>
  intro l a w hc hj
  have hr:Region.ready md ops l=[]:=by
   apply List.eq_nil_iff_forall_not_mem.2
   intro i hi
   obtain⟨h0,o,ho,_⟩:=mem_ready.1 hi
   have:=left_less (hz l a w hj) ho h0
   omega
  exact⟨hr,hdone l a w hj hr⟩
 |succ fuel ih=>
  intro l a w hc hj
  refine⟨fun hr=>hdone l a w hj hr,fun i hi=>?_⟩
  obtain⟨h0,o,ho,hall⟩:=mem_ready.1 hi
  have hl:=left_less (hz l a w hj) ho h0
  exact wpOp_mono (fun a' w' h=>⟨hJS _ _ _ h,ih _ a' w' (by omega) h⟩) (hstep l a w i o hj ho h0 hall)
def OpAt(md:Region.Mode)(ops:Array Oper)(i:Nat)(dst:Option Tmp)(op:Op)(deps:List Nat):Prop:=
 ∃o,ops[i]? =some o∧o.guard=none∧o.dst=dst∧o.op=op∧(deps.all fun k=>o.after.any fun e=>e.on==k&&Region.binds md e)=true
theorem waits{l:Array Bool}{o:Oper}{k:Nat}(h:o.after.any (fun e=>e.on==k&&Region.binds md e)=true)(hall:∀e∈o.after,Region.binds md e=true→l.getD e.on false=true):l.getD k false=true:=by
 rw[Array.any_eq_true']at h
 obtain⟨e,he,hb⟩:=h
 simp only[Bool.and_eq_true,beq_iff_eq]at hb
 have:=hall e he hb.2
 rwa [hb.1]at this
end
def early(ops:Array Oper):Bool:=(List.range ops.size).all fun i=>((ops[i]?).map fun o=>o.after.all fun e=>decide (e.on<i)).getD true
theorem early_spec{ops:Array Oper}(h:early ops=true){i:Nat}{o:Oper}(ho:ops[i]? =some o){e:Edge}(he:e∈o.after):e.on<i:=by
 have hi:i<ops.size:=(Array.getElem?_eq_some_iff.1 ho).1
 have h1:=List.all_eq_true.1 h i (List.mem_range.2 hi)
 rw[ho]at h1
 simp only[Option.map_some,Option.getD_some]at h1
 simpa using Array.all_eq_true_iff_forall_mem.1 h1 e he
theorem all_up{md:Region.Mode}{ops:Array Oper}{l:Array Bool}(h:early ops=true)(hs:l.size=ops.size)(hr:Region.ready md ops l=[])(i:Nat)(hi:i<ops.size):l.getD i false=true:=by
 induction i using Nat.strongRecOn with
 |_ i ih=>
  by_cases hc:l.getD i false=true
  ·exact hc
  ·have hm:i∈Region.ready md ops l:=by
    refine mem_ready.2 ⟨?_,ops[i],Array.getElem?_eq_getElem hi,fun e he hb=>?_⟩
    ·have hi':i<l.size:=by omega
     simp[hi']at hc ⊢
     exact hc
    ·have:=early_spec h (Array.getElem?_eq_getElem hi) he
     exact ih e.on this (by omega)
   rw[hr]at hm
   cases hm
theorem dep_of{md:Region.Mode}{ops:Array Oper}{i:Nat}{dst:Option Tmp}{op:Op}{deps:List Nat}{o:Oper}{l:Array Bool}(h:OpAt md ops i dst op deps)(ho:ops[i]? =some o)(hall:∀e∈o.after,Region.binds md e=true→l.getD e.on false=true)(k:Nat)(hk:k∈deps):l.getD k false=true:=by
 obtain⟨o',ho',_,_,_,hd⟩:=h
 rw[ho]at ho'
 cases ho'
 exact waits (List.all_eq_true.1 hd k hk) hall
theorem own_full{w:World}{base:Nat}{e:TypeId}{size g n:Nat}{xs:List Value}(h:w.ownsRow base e size (.slice (some ⟨g,0,none⟩) n n) n xs):Fr w g e xs∧base≤g∧xs.length=n*size:=by
 obtain⟨h1,h2⟩:=h
 rcases h2 with⟨e',-⟩| ⟨g',cap,cur,e',hb,hg,hle,hm,hs,ht⟩
 ·cases e'
 ·simp only[Value.slice.injEq,Option.some.injEq,Addr.mk.injEq,and_true,true_and]at e'
  obtain⟨rfl,rfl⟩:=e'
  refine⟨?_,hb,h1⟩
  have hc:cur=xs.toArray:=by
   apply Array.ext'
   rw[←ht,List.take_of_length_le (by simp;omega)]
  unfold Fr
  rw[hg,hc]
theorem step_make{P:Program}{w:World}{ops:Array Oper}{o:Oper}{a:Act}{K:Act→World→Prop}{Q:Exit→Act→World→Prop}{E:Prop}(hgd:o.guard=none)(l c:Operand)(t:TypeId)(ho:o.op=Op.makeSlice t l c)
 (base:Nat) (e:TypeId) (i:TypeInfo) (z:Value) (size:Nat) (h1:P.underlying t=some (.slice e)) (h2:P.info? e=some i) (h3:i.zero=some z) (h4:i.size=size) (kl kc:IntKind) (n:Nat) (hl:a.eval l=.int kl (n:Int)) (hc:a.eval c=.int kc (n:Int))
 (b2:i.bytes*n≤281474976710656) (b3:n≤maxLen) (b4:base≤w.heap.size) (H:Nat) (hH:w.heap.size=H)
 (hK:∀w',w'.ownsRow base e size (.slice (some ⟨H,0,none⟩) n n) n (madeCells z.cells (n*size)).toList→w.grownBy w' none→K (a.put o.dst (.slice (some ⟨H,0,none⟩) n n)) w'):
 if Region.wanted o (yielded ops a.tmps)=true then Oper.wp P o a w K Q else E:=by
 have hw:Region.wanted o (yielded ops a.tmps)=true:=by simp[Region.wanted,hgd]
 rw[if_pos hw]
 obtain⟨w',hrun,r1,r2⟩:=run_make_full (P:=P) w base t e i z size h1 h2 h3 h4 kl kc n b2 b3 b4
 subst hH
 unfold Oper.wp
 simp[execOp,ho,hl,hc,hrun,Result.andThen]
 exact hK w' r1 r2
section
variable {P:Program} {md:Region.Mode} {ops:Array Oper} {i:Nat} {a:Act} {w:World} {K:Act→World→Prop} {Q:Exit→Act→World→Prop}
theorem op_makeR{d:Tmp}{deps:List Nat}{l c:Operand}{t:TypeId}(ho:OpAt md ops i (some d) (.makeSlice t l c) deps)
 (base:Nat) (e:TypeId) (ti:TypeInfo) (z:Value) (size:Nat) (h1:P.underlying t=some (.slice e)) (h2:P.info? e=some ti) (h3:ti.zero=some z) (h4:ti.size=size) (kl kc:IntKind) (n:Nat) (hl:a.eval l=.int kl (n:Int)) (hc:a.eval c=.int kc (n:Int))
 (b2:ti.bytes*n≤281474976710656) (b3:n≤maxLen) (b4:base≤w.heap.size)
 (hK:∀w' g,base≤g→Fr w' g e (madeCells z.cells (n*size)).toList→Below w.heap.size w w'→K (a.put (some d) (.slice (some ⟨g,0,none⟩) n n)) w'):wpOp P ops Q i K a w:=by
 obtain⟨o,ho,hgd,hd,hop,_⟩:=ho
 refine wpOp_step ho fun K' hK'=>?_
 refine step_make hgd l c t hop base e ti z size h1 h2 h3 h4 kl kc n hl hc b2 b3 b4 w.heap.size rfl fun w' r1 r2=>?_
 obtain⟨r3,r4,-⟩:=own_full r1
 rw[hd]
 exact hK' _ _ (hK w' _ r4 r3 ((Below.refl _ _).grown r2 (Nat.le_refl _) (fun k h=>by cases h)))
theorem op_allocS{d:Tmp}{deps:List Nat}(ho:OpAt md ops i (some d) (.alloc 45) deps)(hP:P= Tryz.prog)
 (h:∀g w' l,g=w.heap.size→l.length=3→Fr w' g 45 l→Below w.heap.size w w'→K (a.put (some d) (.pointer (some ⟨g,0,none⟩))) w'):
 wpOp P ops Q i K a w:=by
 obtain⟨o,ho,hgd,hd,hop,_⟩:=ho
 refine wpOp_step ho fun K' hK=>?_
 have hw:Region.wanted o (yielded ops a.tmps)=true:=by simp[Region.wanted,hgd]
 rw[if_pos hw]
 subst hP
 have hk:=hK _ _ (h w.heap.size (w.alloc (.cells #[.slice none 0 0,.slice none 0 0,.slice none 0 0] 45)) [.slice none 0 0,.slice none 0 0,.slice none 0 0] rfl rfl (Fr.made _ [.slice none 0 0,.slice none 0 0,.slice none 0 0] _ rfl) (below_new (Below.refl _ _) _))
 unfold Oper.wp execOp
 simp only[hop]
 simp[go_sem,hd]
 exact hk
theorem op_buildS{d t0 t1 t2:Tmp}{deps:List Nat}(ho:OpAt md ops i (some d) (.build 45 #[(0,.tmp t0),(1,.tmp t1),(2,.tmp t2)]) deps) (hP:P= Tryz.prog) {A0 A1 A2:Option Addr} {n0 n1 n2 k0 k1 k2:Nat} (h0:a.eval (.tmp t0)=.slice A0 n0 k0) (h1:a.eval (.tmp t1)=.slice A1 n1 k1) (h2:a.eval (.tmp t2)=.slice A2 n2 k2)
 (h:K (a.put (some d) (.agg #[.slice A0 n0 k0,.slice A1 n1 k1,.slice A2 n2 k2])) w):wpOp P ops Q i K a w:=by
 obtain⟨o,ho,hgd,hd,hop,_⟩:=ho
 refine wpOp_step ho fun K' hK=>?_
 have hw:Region.wanted o (yielded ops a.tmps)=true:=by simp[Region.wanted,hgd]
 rw[if_pos hw]
 subst hP
 have hk:=hK _ _ h
 have e0:a.tmps[t0]?.getD undef=.slice A0 n0 k0:=by rw[←h0];simp[Act.eval]
 have e1:a.tmps[t1]?.getD undef=.slice A1 n1 k1:=by rw[←h1];simp[Act.eval]
 have e2:a.tmps[t2]?.getD undef=.slice A2 n2 k2:=by rw[←h2];simp[Act.eval]
 unfold Oper.wp execOp
 simp only[hop]
 simp[go_sem,hd,e0,e1,e2]
 exact hk
theorem op_storeS{p x:Operand}{deps:List Nat}(ho:OpAt md ops i none (.store 45 p x) deps)(hP:P= Tryz.prog)
 (g:Nat) (l:List Value) (s0 s1 s2:Option Addr) (m0 m1 m2 k0 k1 k2:Nat) (hp:a.eval p=.pointer (some ⟨g,0,none⟩)) (hx:a.eval x=.agg #[.slice s0 m0 k0,.slice s1 m1 k1,.slice s2 m2 k2]) (hl:l.length=3) (hb:Fr w g 45 l)
 (h:K a (((w.setCell ⟨g,0,none⟩ (.slice s0 m0 k0)).setCell ⟨g,1,none⟩ (.slice s1 m1 k1)).setCell ⟨g,2,none⟩ (.slice s2 m2 k2))):
 wpOp P ops Q i K a w:=by
 obtain⟨o,ho,hgd,hd,hop,_⟩:=ho
 refine wpOp_step ho fun K' hK=>?_
 have hw:Region.wanted o (yielded ops a.tmps)=true:=by simp[Region.wanted,hgd]
 rw[if_pos hw]
 subst hP
 have hk:=hK _ _ h
 have c0:=hb.cell 0
 have c1:=hb.cell 1
 have c2:=hb.cell 2
 have f0:=hb.frozen 0
 have f1:=hb.frozen 1
 have f2:=hb.frozen 2
 match l,hl with
 |[y0,y1,y2],_=>
  simp at c0 c1 c2
  unfold Oper.wp execOp
  simp only[hop,hp,hx]
  simp[go_sem,hd,c0,c1,c2,f0,f1,f2]
  exact hk
theorem op_callBits{d x y:Tmp}{deps:List Nat}(ho:OpAt md ops i (some d) (.call { callee:=.value (.func 86),args:=#[.tmp x,.tmp y],argTypes:=#[41,3] }) deps) (hP:P= Tryz.prog)
 {u v:Value} (hu:a.eval (.tmp x)=u) (hv:a.eval (.tmp y)=v) {R:Value→World→Prop} (hc:Calls Tryz.prog 86 #[u,v] w fun e w'=>∃s',e=.returned s'∧R s' w')
 (h:∀z w',R z w'→K (a.put (some d) z) w'):wpOp P ops Q i K a w:=by
 obtain⟨o,ho,hgd,hd,hop,_⟩:=ho
 refine wpOp_step ho fun K' hK=>?_
 have hw:Region.wanted o (yielded ops a.tmps)=true:=by simp[Region.wanted,hgd]
 rw[if_pos hw]
 subst hP
 unfold Oper.wp execOp
 simp only[hop]
 have hx2:a.tmps[x]?.getD undef=u:=by rw[←hu];simp[Act.eval]
 have hy2:a.tmps[y]?.getD undef=v:=by rw[←hv];simp[Act.eval]
 simp[go_sem,hd,hx2,hy2]
 with_reducible refine Calls.mono hc ?_
 rintro e w' ⟨v,rfl,hr⟩
 exact hK _ _ (h v w' hr)
theorem op_callUnk{d x:Tmp}{deps:List Nat}(ho:OpAt md ops i (some d) (.call { callee:=.value (.func 102),args:=#[.tmp x],argTypes:=#[3] }) deps) (hP:P= Tryz.prog)
 {u:Value} (hu:a.eval (.tmp x)=u) {R:Value→World→Prop} (hc:Calls Tryz.prog 102 #[u] w fun e w'=>∃s',e=.returned s'∧R s' w')
 (h:∀z w',R z w'→K (a.put (some d) z) w'):wpOp P ops Q i K a w:=by
 obtain⟨o,ho,hgd,hd,hop,_⟩:=ho
 refine wpOp_step ho fun K' hK=>?_
 have hw:Region.wanted o (yielded ops a.tmps)=true:=by simp[Region.wanted,hgd]
 rw[if_pos hw]
 subst hP
 unfold Oper.wp execOp
 simp only[hop]
 have hx2:a.tmps[x]?.getD undef=u:=by rw[←hu];simp[Act.eval]
 simp[go_sem,hd,hx2]
 with_reducible refine Calls.mono hc ?_
 rintro e w' ⟨v,rfl,hr⟩
 exact hK _ _ (h v w' hr)
theorem op_callSta{d x:Tmp}{deps:List Nat}(ho:OpAt md ops i (some d) (.call { callee:=.value (.func 37),args:=#[.tmp x],argTypes:=#[39] }) deps) (hP:P= Tryz.prog)
 {u:Value} (hu:a.eval (.tmp x)=u) {R:Value→World→Prop} (hc:Calls Tryz.prog 37 #[u] w fun e w'=>∃s',e=.returned s'∧R s' w')
 (h:∀z w',R z w'→K (a.put (some d) z) w'):wpOp P ops Q i K a w:=by
 obtain⟨o,ho,hgd,hd,hop,_⟩:=ho
 refine wpOp_step ho fun K' hK=>?_
 have hw:Region.wanted o (yielded ops a.tmps)=true:=by simp[Region.wanted,hgd]
 rw[if_pos hw]
 subst hP
 unfold Oper.wp execOp
 simp only[hop]
 have hx2:a.tmps[x]?.getD undef=u:=by rw[←hu];simp[Act.eval]
 simp[go_sem,hd,hx2]
 with_reducible refine Calls.mono hc ?_
 rintro e w' ⟨v,rfl,hr⟩
 exact hK _ _ (h v w' hr)
theorem op_len{d x:Tmp}{deps:List Nat}(ho:OpAt md ops i (some d) (.call { callee:=.builtin .len,args:=#[.tmp x],argTypes:=#[37] }) deps) (hP:P= Tryz.prog) {A:Option Addr} {n c:Nat} (hx:a.eval (.tmp x)=.slice A n c)
 (h:K (a.put (some d) (.int .i64 (n:Int))) w):wpOp P ops Q i K a w:=by
 obtain⟨o,ho,hgd,hd,hop,_⟩:=ho
 refine wpOp_step ho fun K' hK=>?_
 have hw:Region.wanted o (yielded ops a.tmps)=true:=by simp[Region.wanted,hgd]
 rw[if_pos hw]
 subst hP
 have hk:=hK _ _ h
 unfold Oper.wp execOp
 simp only[hop]
 have hx2:a.tmps[x]?.getD undef=.slice A n c:=by rw[←hx];simp[Act.eval]
 have hu: Tryz.prog.underlying 37=some (.slice (Tryz.prog.elem 37)):=by kernel_rfl
 simp[go_sem,hd,hx2]
 exact hk
end
structure NxS(wb:World)(gd gB D1 D2 L m na:Nat)(lo:List Int)(nw:Nat→Nat)(fw:Nat→Nat→List Int)(fr:Nat→List Int)(k1 k2:Nat)(w:World):Prop where
 bel:Below wb.heap.size wb w
 box:Fr w gd 45 [.slice (some ⟨gB,0,none⟩) na na,.slice (some ⟨D1,0,none⟩) m m,.slice (some ⟨D2,0,none⟩) m m]
 row:VRow w gB lo
 st:OSt w D1 D2 L m nw fw fr k1 k2
 ld:gd<L
 hl:L≤w.heap.size
 nd:wb.heap.size≤gd
 n1:wb.heap.size≤D1
 n2:wb.heap.size≤D2
section
variable {wb w w':World} {gd gB D1 D2 L m na:Nat} {lo:List Int} {nw:Nat→Nat} {fw:Nat→Nat→List Int} {fr:Nat→List Int} {k1 k2:Nat}
theorem NxS.below(h:NxS wb gd gB D1 D2 L m na lo nw fw fr k1 k2 w)(hb:BelW w w'):NxS wb gd gB D1 D2 L m na lo nw fw fr k1 k2 w':=
 ⟨joinB h.bel hb,h.box.below hb,h.row.below hb,h.st.below hb,h.ld,Nat.le_trans h.hl (Below.size hb),h.nd,h.n1,h.n2⟩
theorem NxS.set1(h:NxS wb gd gB D1 D2 L m na lo nw fw fr k1 k2 w)(hk:k1<m){D T:Nat}(s:SRow w D (fw k1) (nw k1) (nw k1) T)(l:L≤D):NxS wb gd gB D1 D2 L m na lo nw fw fr (k1+1) k2 (w.setCell ⟨D1,k1,none⟩ (.slice (some ⟨D,0,none⟩) (nw k1) (nw k1))):=by
 obtain⟨vs,a1,-⟩:=h.st.r1
 exact⟨h.bel.setCell h.n1 _,h.box.other (a:=⟨D1,k1,none⟩) (a1.apart9 h.box (by decide)) _,h.row.other (a:=⟨D1,k1,none⟩) (a1.apart9 h.row.fr (by decide)) _,h.st.set1 hk s l,h.ld,by simpa [World.setCell]using h.hl,h.nd,h.n1,h.n2⟩
theorem NxS.set2(h:NxS wb gd gB D1 D2 L m na lo nw fw fr k1 k2 w)(hk:k2<m){g:Nat}(v:VRow w g (fr k2)):NxS wb gd gB D1 D2 L m na lo nw fw fr k1 (k2+1) (w.setCell ⟨D2,k2,none⟩ (.slice (some ⟨g,0,none⟩) (fr k2).length (fr k2).length)):=by
 obtain⟨vs,a1,-⟩:=h.st.r2
 exact⟨h.bel.setCell h.n2 _,h.box.other (a:=⟨D2,k2,none⟩) (a1.apart9 h.box (by decide)) _,h.row.other (a:=⟨D2,k2,none⟩) (a1.apart9 h.row.fr (by decide)) _,h.st.set2 hk v,h.ld,by simpa [World.setCell]using h.hl,h.nd,h.n1,h.n2⟩
theorem NxS.cells(h:NxS wb gd gB D1 D2 L m na lo nw fw fr k1 k2 w):w.cell? ⟨gd,0,none⟩=some (.slice (some ⟨gB,0,none⟩) na na)∧w.cell? ⟨gd,1,none⟩=some (.slice (some ⟨D1,0,none⟩) m m)∧w.cell? ⟨gd,2,none⟩=some (.slice (some ⟨D2,0,none⟩) m m):=⟨h.box.cell 0,h.box.cell 1,h.box.cell 2⟩
end
def Gcy(a:Act)(v12 v34 v35:Value):Act:=(((a.put (some 12) v12).put (some 34) v34).put (some 35) v35)
section
variable (a:Act) (v12 v34 v35 u:Value)
theorem Gcy.p12:(Gcy a v12 v34 v35).put (some 12) u=Gcy a u v34 v35:=by
 simp only[Gcy,Act.put,Act.mk.injEq,and_true];apply Array.ext_getElem?;intro i;by_cases h12:12=i;(subst h12;simp[Array.getElem?_setIfInBounds]);by_cases h34:34=i;(subst h34;simp[Array.getElem?_setIfInBounds]);by_cases h35:35=i;(subst h35;simp[Array.getElem?_setIfInBounds]);simp[Array.getElem?_setIfInBounds,h12,h34,h35]
theorem Gcy.p34:(Gcy a v12 v34 v35).put (some 34) u=Gcy a v12 u v35:=by
 simp only[Gcy,Act.put,Act.mk.injEq,and_true];apply Array.ext_getElem?;intro i;by_cases h12:12=i;(subst h12;simp[Array.getElem?_setIfInBounds]);by_cases h34:34=i;(subst h34;simp[Array.getElem?_setIfInBounds]);by_cases h35:35=i;(subst h35;simp[Array.getElem?_setIfInBounds]);simp[Array.getElem?_setIfInBounds,h12,h34,h35]
theorem Gcy.p35:(Gcy a v12 v34 v35).put (some 35) u=Gcy a v12 v34 u:=by
 simp only[Gcy,Act.put,Act.mk.injEq,and_true];apply Array.ext_getElem?;intro i;by_cases h12:12=i;(subst h12;simp[Array.getElem?_setIfInBounds]);by_cases h34:34=i;(subst h34;simp[Array.getElem?_setIfInBounds]);by_cases h35:35=i;(subst h35;simp[Array.getElem?_setIfInBounds]);simp[Array.getElem?_setIfInBounds,h12,h34,h35]
theorem Gcy.e12(hz:60≤a.tmps.size):(Gcy a v12 v34 v35).eval (.tmp 12)=v12:=by
 have k12:12<a.tmps.size:=(by omega);have k34:34<a.tmps.size:=(by omega);have k35:35<a.tmps.size:=(by omega);simp[Gcy,Act.put,Act.eval,Array.getElem?_setIfInBounds, *]
theorem Gcy.e34(hz:60≤a.tmps.size):(Gcy a v12 v34 v35).eval (.tmp 34)=v34:=by
 have k12:12<a.tmps.size:=(by omega);have k34:34<a.tmps.size:=(by omega);have k35:35<a.tmps.size:=(by omega);simp[Gcy,Act.put,Act.eval,Array.getElem?_setIfInBounds, *]
theorem Gcy.e35(hz:60≤a.tmps.size):(Gcy a v12 v34 v35).eval (.tmp 35)=v35:=by
 have k12:12<a.tmps.size:=(by omega);have k34:34<a.tmps.size:=(by omega);have k35:35<a.tmps.size:=(by omega);simp[Gcy,Act.put,Act.eval,Array.getElem?_setIfInBounds, *]
theorem Gcy.e30(hz:60≤a.tmps.size):(Gcy a v12 v34 v35).eval (.tmp 30)=a.eval (.tmp 30):=by
 have k12:12<a.tmps.size:=(by omega);have k34:34<a.tmps.size:=(by omega);have k35:35<a.tmps.size:=(by omega);simp[Gcy,Act.put,Act.eval,Array.getElem?_setIfInBounds, *]
theorem Gcy.e31(hz:60≤a.tmps.size):(Gcy a v12 v34 v35).eval (.tmp 31)=a.eval (.tmp 31):=by
 have k12:12<a.tmps.size:=(by omega);have k34:34<a.tmps.size:=(by omega);have k35:35<a.tmps.size:=(by omega);simp[Gcy,Act.put,Act.eval,Array.getElem?_setIfInBounds, *]
theorem Gcy.e33(hz:60≤a.tmps.size):(Gcy a v12 v34 v35).eval (.tmp 33)=a.eval (.tmp 33):=by
 have k12:12<a.tmps.size:=(by omega);have k34:34<a.tmps.size:=(by omega);have k35:35<a.tmps.size:=(by omega);simp[Gcy,Act.put,Act.eval,Array.getElem?_setIfInBounds, *]
end
section
variable {P:Program} {md:Region.Mode} {ops:Array Oper} {i:Nat} {a:Act} {w:World} {K:Act→World→Prop} {Q:Exit→Act→World→Prop}
theorem op_allocM{d:Tmp}{deps:List Nat}(ho:OpAt md ops i (some d) (.alloc 90) deps)(hP:P= Tryz.prog)
 (h:∀g w' l,g=w.heap.size→l.length=8→Fr w' g 90 l→Below w.heap.size w w'→K (a.put (some d) (.pointer (some ⟨g,0,none⟩))) w'):
 wpOp P ops Q i K a w:=by
 obtain⟨o,ho,hgd,hd,hop,_⟩:=ho
 refine wpOp_step ho fun K' hK=>?_
 have hw:Region.wanted o (yielded ops a.tmps)=true:=by simp[Region.wanted,hgd]
 rw[if_pos hw]
 subst hP
 have hk:=hK _ _ (h w.heap.size (w.alloc (.cells #[.slice none 0 0,.slice none 0 0,.slice none 0 0,.slice none 0 0,.slice none 0 0,.slice none 0 0,.slice none 0 0,.slice none 0 0] 90)) [.slice none 0 0,.slice none 0 0,.slice none 0 0,.slice none 0 0,.slice none 0 0,.slice none 0 0,.slice none 0 0,.slice none 0 0] rfl rfl (Fr.made _ [.slice none 0 0,.slice none 0 0,.slice none 0 0,.slice none 0 0,.slice none 0 0,.slice none 0 0,.slice none 0 0,.slice none 0 0] _ rfl) (below_new (Below.refl _ _) _))
 unfold Oper.wp execOp
 simp only[hop]
 simp[go_sem,hd]
 exact hk
theorem op_buildM{d t0 t1 t2:Tmp}{deps:List Nat}(ho:OpAt md ops i (some d) (.build 90 #[(0,.tmp t0),(1,.tmp t1),(2,.tmp t2)]) deps) (hP:P= Tryz.prog) {X0 X1 X2 X3 Y0 Y1 Y2 B0:Option Addr} {n0 n1 n2 n3 m0 m1 m2 b0 k0 k1 k2 k3 l0 l1 l2 e0:Nat} (h0:a.eval (.tmp t0)=.agg #[.slice X0 n0 k0,.slice X1 n1 k1,.slice X2 n2 k2,.slice X3 n3 k3]) (h1:a.eval (.tmp t1)=.agg #[.slice Y0 m0 l0,.slice Y1 m1 l1,.slice Y2 m2 l2]) (h2:a.eval (.tmp t2)=.slice B0 b0 e0)
 (h:K (a.put (some d) (.agg #[.slice X0 n0 k0,.slice X1 n1 k1,.slice X2 n2 k2,.slice X3 n3 k3,.slice Y0 m0 l0,.slice Y1 m1 l1,.slice Y2 m2 l2,.slice B0 b0 e0])) w):wpOp P ops Q i K a w:=by
 obtain⟨o,ho,hgd,hd,hop,_⟩:=ho
 refine wpOp_step ho fun K' hK=>?_
 have hw:Region.wanted o (yielded ops a.tmps)=true:=by simp[Region.wanted,hgd]
 rw[if_pos hw]
 subst hP
 have hk:=hK _ _ h
 have q0:a.tmps[t0]?.getD undef=.agg #[.slice X0 n0 k0,.slice X1 n1 k1,.slice X2 n2 k2,.slice X3 n3 k3]:=by rw[←h0];simp[Act.eval]
 have q1:a.tmps[t1]?.getD undef=.agg #[.slice Y0 m0 l0,.slice Y1 m1 l1,.slice Y2 m2 l2]:=by rw[←h1];simp[Act.eval]
 have q2:a.tmps[t2]?.getD undef=.slice B0 b0 e0:=by rw[←h2];simp[Act.eval]
 unfold Oper.wp execOp
 simp only[hop]
 simp[go_sem,hd,q0,q1,q2]
 exact hk
theorem op_storeM{p x:Operand}{deps:List Nat}(ho:OpAt md ops i none (.store 90 p x) deps)(hP:P= Tryz.prog)
 (g:Nat) (l:List Value) (X0 X1 X2 X3 Y0 Y1 Y2 B0:Option Addr) (n0 n1 n2 n3 m0 m1 m2 b0 k0 k1 k2 k3 l0 l1 l2 e0:Nat) (hp:a.eval p=.pointer (some ⟨g,0,none⟩)) (hx:a.eval x=.agg #[.slice X0 n0 k0,.slice X1 n1 k1,.slice X2 n2 k2,.slice X3 n3 k3,.slice Y0 m0 l0,.slice Y1 m1 l1,.slice Y2 m2 l2,.slice B0 b0 e0]) (hl:l.length=8) (hb:Fr w g 90 l)
 (h:K a ((((((((w.setCell ⟨g,0,none⟩ (.slice X0 n0 k0)).setCell ⟨g,1,none⟩ (.slice X1 n1 k1)).setCell ⟨g,2,none⟩ (.slice X2 n2 k2)).setCell ⟨g,3,none⟩ (.slice X3 n3 k3)).setCell ⟨g,4,none⟩ (.slice Y0 m0 l0)).setCell ⟨g,5,none⟩ (.slice Y1 m1 l1)).setCell ⟨g,6,none⟩ (.slice Y2 m2 l2)).setCell ⟨g,7,none⟩ (.slice B0 b0 e0))):
 wpOp P ops Q i K a w:=by
 obtain⟨o,ho,hgd,hd,hop,_⟩:=ho
 refine wpOp_step ho fun K' hK=>?_
 have hw:Region.wanted o (yielded ops a.tmps)=true:=by simp[Region.wanted,hgd]
 rw[if_pos hw]
 subst hP
 have hk:=hK _ _ h
 have c0:=hb.cell 0
 have c1:=hb.cell 1
 have c2:=hb.cell 2
 have c3:=hb.cell 3
 have c4:=hb.cell 4
 have c5:=hb.cell 5
 have c6:=hb.cell 6
 have c7:=hb.cell 7
 have f0:=hb.frozen 0
 have f1:=hb.frozen 1
 have f2:=hb.frozen 2
 have f3:=hb.frozen 3
 have f4:=hb.frozen 4
 have f5:=hb.frozen 5
 have f6:=hb.frozen 6
 have f7:=hb.frozen 7
 match l,hl with
 |[u0,u1,u2,u3,u4,u5,u6,u7],_=>
  simp at c0 c1 c2 c3 c4 c5 c6 c7
  unfold Oper.wp execOp
  simp only[hop,hp,hx]
  simp[go_sem,hd,c0,c1,c2,c3,c4,c5,c6,c7,f0,f1,f2,f3,f4,f5,f6,f7]
  exact hk
end
structure Icy(n:Nat)(wb:World)(X0 X1 X2 X3 Y0 Y1 Y2:Option Addr)(n0 n1 n2 n3 m0 m1 m2 k0 k1 k2 k3 l0 l1 l2:Nat)(b4 b5 b6 b7:Bool)(v12 v34 v35:Value)(g gd:Nat)(w:World):Prop where
 bel:Below wb.heap.size wb w
 m4:b4=true→v34=.slice (some ⟨g,0,none⟩) n n∧wb.heap.size≤g∧VRow w g (List.replicate n 0)
 m5:b5=true→v35=.agg #[.slice X0 n0 k0,.slice X1 n1 k1,.slice X2 n2 k2,.slice X3 n3 k3,.slice Y0 m0 l0,.slice Y1 m1 l1,.slice Y2 m2 l2,v34]∧b4=true
 m6:b6=true→v12=.pointer (some ⟨gd,0,none⟩)∧wb.heap.size≤gd∧∃l,l.length=8∧Fr w gd 90 l∧(b7=true→l=[.slice X0 n0 k0,.slice X1 n1 k1,.slice X2 n2 k2,.slice X3 n3 k3,.slice Y0 m0 l0,.slice Y1 m1 l1,.slice Y2 m2 l2,v34])
 d7:b7=true→b5=true∧b6=true
section
variable {n:Nat} {wb:World} {X0 X1 X2 X3 Y0 Y1 Y2:Option Addr} {n0 n1 n2 n3 m0 m1 m2 k0 k1 k2 k3 l0 l1 l2:Nat} {b4 b5 b6 b7:Bool} {v12 v34 v35:Value} {g gd:Nat} {w w':World}
theorem Icy.next(I:Icy n wb X0 X1 X2 X3 Y0 Y1 Y2 n0 n1 n2 n3 m0 m1 m2 k0 k1 k2 k3 l0 l1 l2 b4 b5 b6 b7 v12 v34 v35 g gd w)(hb:Below w.heap.size w w'):Icy n wb X0 X1 X2 X3 Y0 Y1 Y2 n0 n1 n2 n3 m0 m1 m2 k0 k1 k2 k3 l0 l1 l2 b4 b5 b6 b7 v12 v34 v35 g gd w':=
 ⟨joinB I.bel hb,fun e=>by obtain⟨h1,h2,h3⟩:=I.m4 e;exact⟨h1,h2,h3.below hb⟩,I.m5,fun e=>by obtain⟨h1,h2,l,h3,h4,h5⟩:=I.m6 e;exact⟨h1,h2,l,h3,h4.below hb,h5⟩,I.d7⟩
end
def Jcy(n:Nat)(wb:World)(X0 X1 X2 X3 Y0 Y1 Y2:Option Addr)(n0 n1 n2 n3 m0 m1 m2 k0 k1 k2 k3 l0 l1 l2:Nat)(a9:Act)(l:Array Bool)(a:Act)(w:World):Prop:=
 ∃(b4 b5 b6 b7:Bool) (v12 v34 v35:Value) (g gd:Nat),l= #[true,true,true,true,b4,b5,b6,b7]∧a=Gcy a9 v12 v34 v35∧Icy n wb X0 X1 X2 X3 Y0 Y1 Y2 n0 n1 n2 n3 m0 m1 m2 k0 k1 k2 k3 l0 l1 l2 b4 b5 b6 b7 v12 v34 v35 g gd w
set_option maxHeartbeats 2000000 in
theorem cy_reg{Q:Exit→Act→World→Prop}{md:Region.Mode}{ops:Array Oper}{n:Nat}{wb:World}{X0 X1 X2 X3 Y0 Y1 Y2:Option Addr}{n0 n1 n2 n3 m0 m1 m2 k0 k1 k2 k3 l0 l1 l2:Nat}(a9:Act)(hn:n≤1000000)
 (hsz:ops.size=8) (hea:early ops=true)
 (h4:OpAt md ops 4 (some 34) (.makeSlice 41 (.tmp 33) (.tmp 33)) [])
 (h5:OpAt md ops 5 (some 35) (.build 90 #[(0,.tmp 30),(1,.tmp 31),(2,.tmp 34)]) [4])
 (h6:OpAt md ops 6 (some 12) (.alloc 90) [])
 (h7:OpAt md ops 7 none (.store 90 (.tmp 12) (.tmp 35)) [5,6])
 (hz:60≤a9.tmps.size) (e30:a9.eval (.tmp 30)=.agg #[.slice X0 n0 k0,.slice X1 n1 k1,.slice X2 n2 k2,.slice X3 n3 k3]) (e31:a9.eval (.tmp 31)=.agg #[.slice Y0 m0 l0,.slice Y1 m1 l1,.slice Y2 m2 l2]) (e33:a9.eval (.tmp 33)=.int .i64 (n:Int))
 (hfr:a9=Gcy a9 undef undef undef)
 (hQ:∀v12 v34 v35 g gd w',Icy n wb X0 X1 X2 X3 Y0 Y1 Y2 n0 n1 n2 n3 m0 m1 m2 k0 k1 k2 k3 l0 l1 l2 true true true true v12 v34 v35 g gd w'→Q .normal (Gcy a9 v12 v34 v35) w')
 (w:World) (hw:Below wb.heap.size wb w):wpAnyH Tryz.prog md ops Q (fun w'=>Below wb.heap.size wb w') 4 #[true,true,true,true,false,false,false,false] a9 w:=by
 obtain⟨i1,hi1,hz0,hz1,hz2⟩:=info_parts info_val
 refine held_inv (Jcy n wb X0 X1 X2 X3 Y0 Y1 Y2 n0 n1 n2 n3 m0 m1 m2 k0 k1 k2 k3 l0 l1 l2 a9) ?_ ?_ ?_ ?_ 4 _ a9 w (by decide) ?_
 ·rintro l a w ⟨b4,b5,b6,b7,v12,v34,v35,g,gd,rfl,-⟩
  rw[hsz];rfl
 ·rintro l a w ⟨b4,b5,b6,b7,v12,v34,v35,g,gd,-,-,I⟩
  exact I.bel
 ·rintro l a w i o ⟨b4,b5,b6,b7,v12,v34,v35,g,gd,rfl,rfl,I⟩ ho h0 hall
  have hi:i<8:=hsz▸(Array.getElem?_eq_some_iff.1 ho).1
  have hcs:i=0∨i=1∨i=2∨i=3∨i=4∨i=5∨i=6∨i=7:=by omega
  rcases hcs with rfl|rfl|rfl|rfl|rfl|rfl|rfl|rfl
  ·exact absurd (show true=false from h0) (by decide)
  ·exact absurd (show true=false from h0) (by decide)
  ·exact absurd (show true=false from h0) (by decide)
  ·exact absurd (show true=false from h0) (by decide)
  ·obtain rfl:b4=false:=h0
   obtain rfl:b5=false:=Bool.eq_false_iff.2 fun e=>absurd (I.m5 e).2 (by simp)
   obtain rfl:b7=false:=Bool.eq_false_iff.2 fun e=>absurd (I.d7 e).1 (by simp)
   refine op_makeR h4 wb.heap.size 77 i1 (.int .u8 0) 1 Tryz.underlying41 hi1 hz0 hz1 .i64 .i64 n ((Gcy.e33 _ _ _ _ hz).trans e33) ((Gcy.e33 _ _ _ _ hz).trans e33) (by rw[hz2];omega) (by unfold maxLen;omega) I.bel.size fun w' g hg hf hb=>?_
   have J:=I.next hb
   exact⟨true,false,b6,false,v12,_,v35,g,gd,rfl,Gcy.p34 ..,J.bel,fun _=>⟨rfl,hg,vrow_of hf (by rw[Nat.mul_one];exact made_vals n) (by rw[List.length_replicate];unfold maxLen;omega)⟩,fun e=>(by cases e),fun e=>(by obtain⟨h1,h2,l,h3,h4,-⟩:=J.m6 e;exact⟨h1,h2,l,h3,h4,fun e=>by cases e⟩),fun e=>by cases e⟩
  ·obtain rfl:b5=false:=h0
   obtain rfl:b4=true:=dep_of h5 ho hall 4 (by decide)
   obtain rfl:b7=false:=Bool.eq_false_iff.2 fun e=>absurd (I.d7 e).1 (by simp)
   obtain⟨r1,-⟩:=id (I.m4 rfl)
   subst r1
   refine op_buildM h5 rfl ((Gcy.e30 _ _ _ _ hz).trans e30) ((Gcy.e31 _ _ _ _ hz).trans e31) (Gcy.e34 _ _ _ _ hz) ?_
   exact⟨true,true,b6,false,v12,_,_,g,gd,rfl,Gcy.p35 ..,I.bel,I.m4,fun _=>⟨rfl,rfl⟩,fun e=>(by obtain⟨h1,h2,l,h3,h4,-⟩:=I.m6 e;exact⟨h1,h2,l,h3,h4,fun e=>by cases e⟩),fun e=>by cases e⟩
  ·obtain rfl:b6=false:=h0
   obtain rfl:b7=false:=Bool.eq_false_iff.2 fun e=>absurd (I.d7 e).2 (by simp)
   refine op_allocM h6 rfl fun g' w' l hg hll hX hb=>?_
   have J:=I.next hb
   exact⟨b4,b5,true,false,_,v34,v35,g,g',rfl,Gcy.p12 ..,J.bel,J.m4,J.m5,fun _=>⟨rfl,hg▸I.bel.size,l,hll,hX,fun e=>by cases e⟩,fun e=>by cases e⟩
  ·obtain rfl:b7=false:=h0
   obtain rfl:b5=true:=dep_of h7 ho hall 5 (by decide)
   obtain rfl:b6=true:=dep_of h7 ho hall 6 (by decide)
   obtain⟨rfl,rfl⟩:=I.m5 rfl
   obtain⟨rfl,na1,hva⟩:=I.m4 rfl
   obtain⟨rfl,n9,l,hll,hX,-⟩:=I.m6 rfl
   refine op_storeM h7 rfl gd l X0 X1 X2 X3 Y0 Y1 Y2 (some ⟨g,0,none⟩) n0 n1 n2 n3 m0 m1 m2 n k0 k1 k2 k3 l0 l1 l2 n (Gcy.e12 _ _ _ _ hz) (Gcy.e35 _ _ _ _ hz) hll hX ?_
   have hx1:=hX.set 0 (.slice X0 n0 k0)
   have hx2:=hx1.set 1 (.slice X1 n1 k1)
   have hx3:=hx2.set 2 (.slice X2 n2 k2)
   have hx4:=hx3.set 3 (.slice X3 n3 k3)
   have hx5:=hx4.set 4 (.slice Y0 m0 l0)
   have hx6:=hx5.set 5 (.slice Y1 m1 l1)
   have hx7:=hx6.set 6 (.slice Y2 m2 l2)
   have hx8:=hx7.set 7 (.slice (some ⟨g,0,none⟩) n n)
   have hnb:=hX.apart9 hva.fr (by decide)
   refine⟨true,true,true,true,_,_,_,g,gd,rfl,rfl,((((((((I.bel.setCell n9 _).setCell n9 _).setCell n9 _).setCell n9 _).setCell n9 _).setCell n9 _).setCell n9 _).setCell n9 _),fun _=>⟨rfl,na1,?_⟩,fun _=>⟨rfl,rfl⟩,fun _=>⟨rfl,n9,_,?_,hx8,fun _=>?_⟩,fun _=>⟨rfl,rfl⟩⟩
   ·exact ((((((((hva.other (a:=⟨gd,_,none⟩) hnb _).other (a:=⟨gd,_,none⟩) hnb _).other (a:=⟨gd,_,none⟩) hnb _).other (a:=⟨gd,_,none⟩) hnb _).other (a:=⟨gd,_,none⟩) hnb _).other (a:=⟨gd,_,none⟩) hnb _).other (a:=⟨gd,_,none⟩) hnb _).other (a:=⟨gd,_,none⟩) hnb _)
   ·simpa using hll
   ·match l,hll with
    |[_,_,_,_,_,_,_,_],_=>rfl
 ·rintro l a w ⟨b4,b5,b6,b7,v12,v34,v35,g,gd,rfl,rfl,I⟩ hr
  have hs:(#[true,true,true,true,b4,b5,b6,b7]:Array Bool).size=ops.size:=by rw[hsz];rfl
  obtain rfl:b4=true:=all_up hea hs hr 4 (by omega)
  obtain rfl:b5=true:=all_up hea hs hr 5 (by omega)
  obtain rfl:b6=true:=all_up hea hs hr 6 (by omega)
  obtain rfl:b7=true:=all_up hea hs hr 7 (by omega)
  exact hQ _ _ _ _ _ _ I
 ·exact⟨false,false,false,false,undef,undef,undef,0,0,rfl,hfr,hw,fun e=>(by cases e),fun e=>(by cases e),fun e=>(by cases e),fun e=>(by cases e)⟩
theorem cy_end{n:Nat}{wb:World}{X0 X1 X2 X3 Y0 Y1 Y2:Option Addr}{n0 n1 n2 n3 m0 m1 m2 k0 k1 k2 k3 l0 l1 l2:Nat}{v12 v34 v35:Value}{g gd:Nat}{w:World}(I:Icy n wb X0 X1 X2 X3 Y0 Y1 Y2 n0 n1 n2 n3 m0 m1 m2 k0 k1 k2 k3 l0 l1 l2 true true true true v12 v34 v35 g gd w):
 v34=.slice (some ⟨g,0,none⟩) n n∧v35=.agg #[.slice X0 n0 k0,.slice X1 n1 k1,.slice X2 n2 k2,.slice X3 n3 k3,.slice Y0 m0 l0,.slice Y1 m1 l1,.slice Y2 m2 l2,.slice (some ⟨g,0,none⟩) n n]∧v12=.pointer (some ⟨gd,0,none⟩)∧Below wb.heap.size wb w∧VRow w g (List.replicate n 0)∧wb.heap.size≤g∧wb.heap.size≤gd∧Fr w gd 90 [.slice X0 n0 k0,.slice X1 n1 k1,.slice X2 n2 k2,.slice X3 n3 k3,.slice Y0 m0 l0,.slice Y1 m1 l1,.slice Y2 m2 l2,.slice (some ⟨g,0,none⟩) n n]:=by
 obtain⟨rfl,-⟩:=I.m5 rfl
 obtain⟨rfl,na1,hva⟩:=I.m4 rfl
 obtain⟨rfl,n9,l,hll,hX,hl⟩:=I.m6 rfl
 obtain rfl:=hl rfl
 exact⟨rfl,rfl,rfl,I.bel,hva,na1,n9,hX⟩
def Gbl(a:Act)(v3 v8 v9 v10 v14 v18 v19:Value):Act:=(((((((a.put (some 3) v3).put (some 8) v8).put (some 9) v9).put (some 10) v10).put (some 14) v14).put (some 18) v18).put (some 19) v19)
section
variable (a:Act) (v3 v8 v9 v10 v14 v18 v19 u:Value)
theorem Gbl.p3:(Gbl a v3 v8 v9 v10 v14 v18 v19).put (some 3) u=Gbl a u v8 v9 v10 v14 v18 v19:=by
 simp only[Gbl,Act.put,Act.mk.injEq,and_true];apply Array.ext_getElem?;intro i;by_cases h3:3=i;(subst h3;simp[Array.getElem?_setIfInBounds]);by_cases h8:8=i;(subst h8;simp[Array.getElem?_setIfInBounds]);by_cases h9:9=i;(subst h9;simp[Array.getElem?_setIfInBounds]);by_cases h10:10=i;(subst h10;simp[Array.getElem?_setIfInBounds]);by_cases h14:14=i;(subst h14;simp[Array.getElem?_setIfInBounds]);by_cases h18:18=i;(subst h18;simp[Array.getElem?_setIfInBounds]);by_cases h19:19=i;(subst h19;simp[Array.getElem?_setIfInBounds]);simp[Array.getElem?_setIfInBounds,h3,h8,h9,h10,h14,h18,h19]
theorem Gbl.p8:(Gbl a v3 v8 v9 v10 v14 v18 v19).put (some 8) u=Gbl a v3 u v9 v10 v14 v18 v19:=by
 simp only[Gbl,Act.put,Act.mk.injEq,and_true];apply Array.ext_getElem?;intro i;by_cases h3:3=i;(subst h3;simp[Array.getElem?_setIfInBounds]);by_cases h8:8=i;(subst h8;simp[Array.getElem?_setIfInBounds]);by_cases h9:9=i;(subst h9;simp[Array.getElem?_setIfInBounds]);by_cases h10:10=i;(subst h10;simp[Array.getElem?_setIfInBounds]);by_cases h14:14=i;(subst h14;simp[Array.getElem?_setIfInBounds]);by_cases h18:18=i;(subst h18;simp[Array.getElem?_setIfInBounds]);by_cases h19:19=i;(subst h19;simp[Array.getElem?_setIfInBounds]);simp[Array.getElem?_setIfInBounds,h3,h8,h9,h10,h14,h18,h19]
theorem Gbl.p9:(Gbl a v3 v8 v9 v10 v14 v18 v19).put (some 9) u=Gbl a v3 v8 u v10 v14 v18 v19:=by
 simp only[Gbl,Act.put,Act.mk.injEq,and_true];apply Array.ext_getElem?;intro i;by_cases h3:3=i;(subst h3;simp[Array.getElem?_setIfInBounds]);by_cases h8:8=i;(subst h8;simp[Array.getElem?_setIfInBounds]);by_cases h9:9=i;(subst h9;simp[Array.getElem?_setIfInBounds]);by_cases h10:10=i;(subst h10;simp[Array.getElem?_setIfInBounds]);by_cases h14:14=i;(subst h14;simp[Array.getElem?_setIfInBounds]);by_cases h18:18=i;(subst h18;simp[Array.getElem?_setIfInBounds]);by_cases h19:19=i;(subst h19;simp[Array.getElem?_setIfInBounds]);simp[Array.getElem?_setIfInBounds,h3,h8,h9,h10,h14,h18,h19]
theorem Gbl.p10:(Gbl a v3 v8 v9 v10 v14 v18 v19).put (some 10) u=Gbl a v3 v8 v9 u v14 v18 v19:=by
 simp only[Gbl,Act.put,Act.mk.injEq,and_true];apply Array.ext_getElem?;intro i;by_cases h3:3=i;(subst h3;simp[Array.getElem?_setIfInBounds]);by_cases h8:8=i;(subst h8;simp[Array.getElem?_setIfInBounds]);by_cases h9:9=i;(subst h9;simp[Array.getElem?_setIfInBounds]);by_cases h10:10=i;(subst h10;simp[Array.getElem?_setIfInBounds]);by_cases h14:14=i;(subst h14;simp[Array.getElem?_setIfInBounds]);by_cases h18:18=i;(subst h18;simp[Array.getElem?_setIfInBounds]);by_cases h19:19=i;(subst h19;simp[Array.getElem?_setIfInBounds]);simp[Array.getElem?_setIfInBounds,h3,h8,h9,h10,h14,h18,h19]
theorem Gbl.p14:(Gbl a v3 v8 v9 v10 v14 v18 v19).put (some 14) u=Gbl a v3 v8 v9 v10 u v18 v19:=by
 simp only[Gbl,Act.put,Act.mk.injEq,and_true];apply Array.ext_getElem?;intro i;by_cases h3:3=i;(subst h3;simp[Array.getElem?_setIfInBounds]);by_cases h8:8=i;(subst h8;simp[Array.getElem?_setIfInBounds]);by_cases h9:9=i;(subst h9;simp[Array.getElem?_setIfInBounds]);by_cases h10:10=i;(subst h10;simp[Array.getElem?_setIfInBounds]);by_cases h14:14=i;(subst h14;simp[Array.getElem?_setIfInBounds]);by_cases h18:18=i;(subst h18;simp[Array.getElem?_setIfInBounds]);by_cases h19:19=i;(subst h19;simp[Array.getElem?_setIfInBounds]);simp[Array.getElem?_setIfInBounds,h3,h8,h9,h10,h14,h18,h19]
theorem Gbl.p18:(Gbl a v3 v8 v9 v10 v14 v18 v19).put (some 18) u=Gbl a v3 v8 v9 v10 v14 u v19:=by
 simp only[Gbl,Act.put,Act.mk.injEq,and_true];apply Array.ext_getElem?;intro i;by_cases h3:3=i;(subst h3;simp[Array.getElem?_setIfInBounds]);by_cases h8:8=i;(subst h8;simp[Array.getElem?_setIfInBounds]);by_cases h9:9=i;(subst h9;simp[Array.getElem?_setIfInBounds]);by_cases h10:10=i;(subst h10;simp[Array.getElem?_setIfInBounds]);by_cases h14:14=i;(subst h14;simp[Array.getElem?_setIfInBounds]);by_cases h18:18=i;(subst h18;simp[Array.getElem?_setIfInBounds]);by_cases h19:19=i;(subst h19;simp[Array.getElem?_setIfInBounds]);simp[Array.getElem?_setIfInBounds,h3,h8,h9,h10,h14,h18,h19]
theorem Gbl.p19:(Gbl a v3 v8 v9 v10 v14 v18 v19).put (some 19) u=Gbl a v3 v8 v9 v10 v14 v18 u:=by
 simp only[Gbl,Act.put,Act.mk.injEq,and_true];apply Array.ext_getElem?;intro i;by_cases h3:3=i;(subst h3;simp[Array.getElem?_setIfInBounds]);by_cases h8:8=i;(subst h8;simp[Array.getElem?_setIfInBounds]);by_cases h9:9=i;(subst h9;simp[Array.getElem?_setIfInBounds]);by_cases h10:10=i;(subst h10;simp[Array.getElem?_setIfInBounds]);by_cases h14:14=i;(subst h14;simp[Array.getElem?_setIfInBounds]);by_cases h18:18=i;(subst h18;simp[Array.getElem?_setIfInBounds]);by_cases h19:19=i;(subst h19;simp[Array.getElem?_setIfInBounds]);simp[Array.getElem?_setIfInBounds,h3,h8,h9,h10,h14,h18,h19]
theorem Gbl.e3(hz:60≤a.tmps.size):(Gbl a v3 v8 v9 v10 v14 v18 v19).eval (.tmp 3)=v3:=by
 have k3:3<a.tmps.size:=(by omega);have k8:8<a.tmps.size:=(by omega);have k9:9<a.tmps.size:=(by omega);have k10:10<a.tmps.size:=(by omega);have k14:14<a.tmps.size:=(by omega);have k18:18<a.tmps.size:=(by omega);have k19:19<a.tmps.size:=(by omega);simp[Gbl,Act.put,Act.eval,Array.getElem?_setIfInBounds, *]
theorem Gbl.e8(hz:60≤a.tmps.size):(Gbl a v3 v8 v9 v10 v14 v18 v19).eval (.tmp 8)=v8:=by
 have k3:3<a.tmps.size:=(by omega);have k8:8<a.tmps.size:=(by omega);have k9:9<a.tmps.size:=(by omega);have k10:10<a.tmps.size:=(by omega);have k14:14<a.tmps.size:=(by omega);have k18:18<a.tmps.size:=(by omega);have k19:19<a.tmps.size:=(by omega);simp[Gbl,Act.put,Act.eval,Array.getElem?_setIfInBounds, *]
theorem Gbl.e9(hz:60≤a.tmps.size):(Gbl a v3 v8 v9 v10 v14 v18 v19).eval (.tmp 9)=v9:=by
 have k3:3<a.tmps.size:=(by omega);have k8:8<a.tmps.size:=(by omega);have k9:9<a.tmps.size:=(by omega);have k10:10<a.tmps.size:=(by omega);have k14:14<a.tmps.size:=(by omega);have k18:18<a.tmps.size:=(by omega);have k19:19<a.tmps.size:=(by omega);simp[Gbl,Act.put,Act.eval,Array.getElem?_setIfInBounds, *]
theorem Gbl.e10(hz:60≤a.tmps.size):(Gbl a v3 v8 v9 v10 v14 v18 v19).eval (.tmp 10)=v10:=by
 have k3:3<a.tmps.size:=(by omega);have k8:8<a.tmps.size:=(by omega);have k9:9<a.tmps.size:=(by omega);have k10:10<a.tmps.size:=(by omega);have k14:14<a.tmps.size:=(by omega);have k18:18<a.tmps.size:=(by omega);have k19:19<a.tmps.size:=(by omega);simp[Gbl,Act.put,Act.eval,Array.getElem?_setIfInBounds, *]
theorem Gbl.e14(hz:60≤a.tmps.size):(Gbl a v3 v8 v9 v10 v14 v18 v19).eval (.tmp 14)=v14:=by
 have k3:3<a.tmps.size:=(by omega);have k8:8<a.tmps.size:=(by omega);have k9:9<a.tmps.size:=(by omega);have k10:10<a.tmps.size:=(by omega);have k14:14<a.tmps.size:=(by omega);have k18:18<a.tmps.size:=(by omega);have k19:19<a.tmps.size:=(by omega);simp[Gbl,Act.put,Act.eval,Array.getElem?_setIfInBounds, *]
theorem Gbl.e18(hz:60≤a.tmps.size):(Gbl a v3 v8 v9 v10 v14 v18 v19).eval (.tmp 18)=v18:=by
 have k3:3<a.tmps.size:=(by omega);have k8:8<a.tmps.size:=(by omega);have k9:9<a.tmps.size:=(by omega);have k10:10<a.tmps.size:=(by omega);have k14:14<a.tmps.size:=(by omega);have k18:18<a.tmps.size:=(by omega);have k19:19<a.tmps.size:=(by omega);simp[Gbl,Act.put,Act.eval,Array.getElem?_setIfInBounds, *]
theorem Gbl.e19(hz:60≤a.tmps.size):(Gbl a v3 v8 v9 v10 v14 v18 v19).eval (.tmp 19)=v19:=by
 have k3:3<a.tmps.size:=(by omega);have k8:8<a.tmps.size:=(by omega);have k9:9<a.tmps.size:=(by omega);have k10:10<a.tmps.size:=(by omega);have k14:14<a.tmps.size:=(by omega);have k18:18<a.tmps.size:=(by omega);have k19:19<a.tmps.size:=(by omega);simp[Gbl,Act.put,Act.eval,Array.getElem?_setIfInBounds, *]
theorem Gbl.e7(hz:60≤a.tmps.size):(Gbl a v3 v8 v9 v10 v14 v18 v19).eval (.tmp 7)=a.eval (.tmp 7):=by
 have k3:3<a.tmps.size:=(by omega);have k8:8<a.tmps.size:=(by omega);have k9:9<a.tmps.size:=(by omega);have k10:10<a.tmps.size:=(by omega);have k14:14<a.tmps.size:=(by omega);have k18:18<a.tmps.size:=(by omega);have k19:19<a.tmps.size:=(by omega);simp[Gbl,Act.put,Act.eval,Array.getElem?_setIfInBounds, *]
theorem Gbl.e13(hz:60≤a.tmps.size):(Gbl a v3 v8 v9 v10 v14 v18 v19).eval (.tmp 13)=a.eval (.tmp 13):=by
 have k3:3<a.tmps.size:=(by omega);have k8:8<a.tmps.size:=(by omega);have k9:9<a.tmps.size:=(by omega);have k10:10<a.tmps.size:=(by omega);have k14:14<a.tmps.size:=(by omega);have k18:18<a.tmps.size:=(by omega);have k19:19<a.tmps.size:=(by omega);simp[Gbl,Act.put,Act.eval,Array.getElem?_setIfInBounds, *]
theorem Gbl.e17(hz:60≤a.tmps.size):(Gbl a v3 v8 v9 v10 v14 v18 v19).eval (.tmp 17)=a.eval (.tmp 17):=by
 have k3:3<a.tmps.size:=(by omega);have k8:8<a.tmps.size:=(by omega);have k9:9<a.tmps.size:=(by omega);have k10:10<a.tmps.size:=(by omega);have k14:14<a.tmps.size:=(by omega);have k18:18<a.tmps.size:=(by omega);have k19:19<a.tmps.size:=(by omega);simp[Gbl,Act.put,Act.eval,Array.getElem?_setIfInBounds, *]
end
structure Ibl(m na ns:Nat)(wb:World)(lo:List Int)(b1 b2 b3 b7 b11 b12 b13 b14:Bool)(v3 v8 v9 v10 v14 v18 v19:Value)(gB g1 g2 gd:Nat)(w:World):Prop where
 bel:Below wb.heap.size wb w
 p1:b1=true→∃A c,v8=.slice A ns c
 p2:b2=true→v9=.int .i64 (ns:Int)
 ma:b3=true→v10=.slice (some ⟨gB,0,none⟩) na na∧wb.heap.size≤gB∧VRow w gB lo
 m1:b7=true→v14=.slice (some ⟨g1,0,none⟩) m m∧wb.heap.size≤g1∧∃cs,Fr w g1 43 cs∧cs.length=m
 m2:b11=true→v18=.slice (some ⟨g2,0,none⟩) m m∧wb.heap.size≤g2∧∃cs,Fr w g2 41 cs∧cs.length=m
 mb:b12=true→v19=.agg #[v10,v14,v18]∧b3=true∧b7=true∧b11=true
 ml:b13=true→v3=.pointer (some ⟨gd,0,none⟩)∧wb.heap.size≤gd∧∃l,l.length=3∧Fr w gd 45 l∧(b14=true→l=[v10,v14,v18])
 ds:b14=true→b12=true∧b13=true
section
variable {m na ns:Nat} {wb:World} {lo:List Int} {b1 b2 b3 b7 b11 b12 b13 b14:Bool} {v3 v8 v9 v10 v14 v18 v19:Value} {gB g1 g2 gd:Nat} {w w':World}
theorem Ibl.next(I:Ibl m na ns wb lo b1 b2 b3 b7 b11 b12 b13 b14 v3 v8 v9 v10 v14 v18 v19 gB g1 g2 gd w)(hb:Below w.heap.size w w'):Ibl m na ns wb lo b1 b2 b3 b7 b11 b12 b13 b14 v3 v8 v9 v10 v14 v18 v19 gB g1 g2 gd w':=
 ⟨joinB I.bel hb,I.p1,I.p2,fun e=>by obtain⟨h1,h2,h3⟩:=I.ma e;exact⟨h1,h2,h3.below hb⟩,fun e=>by obtain⟨h1,h2,cs,h3,h4⟩:=I.m1 e;exact⟨h1,h2,cs,h3.below hb,h4⟩,fun e=>by obtain⟨h1,h2,cs,h3,h4⟩:=I.m2 e;exact⟨h1,h2,cs,h3.below hb,h4⟩,I.mb,
  fun e=>by obtain⟨h1,h2,l,h3,h4,h5⟩:=I.ml e;exact⟨h1,h2,l,h3,h4.below hb,h5⟩,I.ds⟩
end
def Jbl(m na ns:Nat)(wb:World)(lo:List Int)(a9:Act)(l:Array Bool)(a:Act)(w:World):Prop:=
 ∃(b1 b2 b3 b7 b11 b12 b13 b14:Bool) (v3 v8 v9 v10 v14 v18 v19:Value) (gB g1 g2 gd:Nat),l= #[true,b1,b2,b3,true,true,true,b7,true,true,true,b11,b12,b13,b14]∧a=Gbl a9 v3 v8 v9 v10 v14 v18 v19∧Ibl m na ns wb lo b1 b2 b3 b7 b11 b12 b13 b14 v3 v8 v9 v10 v14 v18 v19 gB g1 g2 gd w
set_option maxHeartbeats 2000000 in
theorem bl_reg{Q:Exit→Act→World→Prop}{md:Region.Mode}{ops:Array Oper}{m na ns:Nat}{wb:World}{lo:List Int}{sC:Value}(a9:Act)(hm:m≤1000000)
 (hsz:ops.size=15) (hea:early ops=true)
 (h1:OpAt md ops 1 (some 8) (.call { callee:=.value (.func 37),args:=#[.tmp 7],argTypes:=#[39] }) [])
 (h2:OpAt md ops 2 (some 9) (.call { callee:=.builtin .len,args:=#[.tmp 8],argTypes:=#[37] }) [1])
 (h3:OpAt md ops 3 (some 10) (.call { callee:=.value (.func 102),args:=#[.tmp 9],argTypes:=#[3] }) [2])
 (h7:OpAt md ops 7 (some 14) (.makeSlice 42 (.tmp 13) (.tmp 13)) [])
 (h11:OpAt md ops 11 (some 18) (.makeSlice 43 (.tmp 17) (.tmp 17)) [])
 (h12:OpAt md ops 12 (some 19) (.build 45 #[(0,.tmp 10),(1,.tmp 14),(2,.tmp 18)]) [3,7,11])
 (h13:OpAt md ops 13 (some 3) (.alloc 45) [])
 (h14:OpAt md ops 14 none (.store 45 (.tmp 3) (.tmp 19)) [12,13])
 (hz:60≤a9.tmps.size) (e7:a9.eval (.tmp 7)=sC) (e13:a9.eval (.tmp 13)=.int .i64 (m:Int)) (e17:a9.eval (.tmp 17)=.int .i64 (m:Int))
 (hfr:a9=Gbl a9 undef undef undef undef undef undef undef)
 (hsta:∀W,Below wb.heap.size wb W→Calls Tryz.prog 37 #[sC] W fun e w'=>∃s',e=.returned s'∧(∃A c,s'=.slice A ns c)∧BelW W w')
 (hcall:∀W,Below wb.heap.size wb W→Calls Tryz.prog 102 #[.int .i64 (ns:Int)] W fun e w'=>∃s',e=.returned s'∧∃g,s'=.slice (some ⟨g,0,none⟩) na na∧VRow w' g lo∧W.heap.size≤g∧BelW W w')
 (hQ:∀v3 v8 v9 v10 v14 v18 v19 gB g1 g2 gd w',Ibl m na ns wb lo true true true true true true true true v3 v8 v9 v10 v14 v18 v19 gB g1 g2 gd w'→Q .normal (Gbl a9 v3 v8 v9 v10 v14 v18 v19) w')
 (w:World) (hw:Below wb.heap.size wb w):wpAnyH Tryz.prog md ops Q (fun w'=>Below wb.heap.size wb w') 8 #[true,false,false,false,true,true,true,false,true,true,true,false,false,false,false] a9 w:=by
 obtain⟨i1,hi1,hz0,hz1,hz2⟩:=info_parts info_wds
 obtain⟨i2,hj1,hj0,hj2,hj3⟩:=info_parts info_vals
 refine held_inv (Jbl m na ns wb lo a9) ?_ ?_ ?_ ?_ 8 _ a9 w (by decide) ?_
 ·rintro l a w ⟨b1,b2,b3,b7,b11,b12,b13,b14,v3,v8,v9,v10,v14,v18,v19,gB,g1,g2,gd,rfl,-⟩
  rw[hsz];rfl
 ·rintro l a w ⟨b1,b2,b3,b7,b11,b12,b13,b14,v3,v8,v9,v10,v14,v18,v19,gB,g1,g2,gd,-,-,I⟩
  exact I.bel
 ·rintro l a w i o ⟨b1,b2,b3,b7,b11,b12,b13,b14,v3,v8,v9,v10,v14,v18,v19,gB,g1,g2,gd,rfl,rfl,I⟩ ho h0 hall
  have hi:i<15:=hsz▸(Array.getElem?_eq_some_iff.1 ho).1
  have hcs:i=0∨i=1∨i=2∨i=3∨i=4∨i=5∨i=6∨i=7∨i=8∨i=9∨i=10∨i=11∨i=12∨i=13∨i=14:=by omega
  rcases hcs with rfl|rfl|rfl|rfl|rfl|rfl|rfl|rfl|rfl|rfl|rfl|rfl|rfl|rfl|rfl
  ·exact absurd (show true=false from h0) (by decide)
  ·obtain rfl:b1=false:=h0
   refine op_callSta h1 rfl ((Gbl.e7 _ _ _ _ _ _ _ _ hz).trans e7) (hsta w I.bel) fun v w' hr=>?_
   obtain⟨hr,hb⟩:=hr
   have J:=I.next hb
   exact⟨true,b2,b3,b7,b11,b12,b13,b14,v3,_,v9,v10,v14,v18,v19,gB,g1,g2,gd,rfl,Gbl.p8 ..,J.bel,fun _=>hr,J.p2,J.ma,J.m1,J.m2,J.mb,J.ml,J.ds⟩
  ·obtain rfl:b2=false:=h0
   obtain⟨A,c,rfl⟩:=I.p1 (dep_of h2 ho hall 1 (by decide))
   refine op_len h2 rfl (Gbl.e8 _ _ _ _ _ _ _ _ hz) ?_
   exact⟨b1,true,b3,b7,b11,b12,b13,b14,v3,_,_,v10,v14,v18,v19,gB,g1,g2,gd,rfl,Gbl.p9 ..,I.bel,I.p1,fun _=>rfl,I.ma,I.m1,I.m2,I.mb,I.ml,I.ds⟩
  ·obtain rfl:b3=false:=h0
   obtain rfl:b12=false:=Bool.eq_false_iff.2 fun e=>absurd (I.mb e).2.1 (by simp)
   obtain rfl:b14=false:=Bool.eq_false_iff.2 fun e=>absurd (I.ds e).1 (by simp)
   refine op_callUnk h3 rfl ((Gbl.e9 _ _ _ _ _ _ _ _ hz).trans (I.p2 (dep_of h3 ho hall 2 (by decide)))) (hcall w I.bel) fun v w' hr=>?_
   obtain⟨g,rfl,hvr,hge,hb⟩:=hr
   have J:=I.next hb
   exact⟨b1,b2,true,b7,b11,false,b13,false,v3,v8,v9,_,v14,v18,v19,g,g1,g2,gd,rfl,Gbl.p10 ..,J.bel,J.p1,J.p2,fun _=>⟨rfl,Nat.le_trans I.bel.size hge,hvr⟩,J.m1,J.m2,fun e=>(by cases e),fun e=>(by obtain⟨h1,h2,l,h3,h4,-⟩:=J.ml e;exact⟨h1,h2,l,h3,h4,fun e=>by cases e⟩),fun e=>by cases e⟩
  ·exact absurd (show true=false from h0) (by decide)
  ·exact absurd (show true=false from h0) (by decide)
  ·exact absurd (show true=false from h0) (by decide)
  ·obtain rfl:b7=false:=h0
   obtain rfl:b12=false:=Bool.eq_false_iff.2 fun e=>absurd (I.mb e).2.2.1 (by simp)
   obtain rfl:b14=false:=Bool.eq_false_iff.2 fun e=>absurd (I.ds e).1 (by simp)
   refine op_makeR h7 wb.heap.size 43 i1 (.slice none 0 0) 1 Tryz.underlying42 hi1 hz0 hz1 .i64 .i64 m ((Gbl.e13 _ _ _ _ _ _ _ _ hz).trans e13) ((Gbl.e13 _ _ _ _ _ _ _ _ hz).trans e13) (by rw[hz2];omega) (by unfold maxLen;omega) I.bel.size fun w' g hg hf hb=>?_
   have J:=I.next hb
   exact⟨b1,b2,b3,true,b11,false,b13,false,v3,v8,v9,v10,_,v18,v19,gB,g,g2,gd,rfl,Gbl.p14 ..,J.bel,J.p1,J.p2,J.ma,fun _=>⟨rfl,hg,_,hf,by simp[madeCells,Value.cells]⟩,J.m2,fun e=>(by cases e),fun e=>(by obtain⟨h1,h2,l,h3,h4,-⟩:=J.ml e;exact⟨h1,h2,l,h3,h4,fun e=>by cases e⟩),fun e=>by cases e⟩
  ·exact absurd (show true=false from h0) (by decide)
  ·exact absurd (show true=false from h0) (by decide)
  ·exact absurd (show true=false from h0) (by decide)
  ·obtain rfl:b11=false:=h0
   obtain rfl:b12=false:=Bool.eq_false_iff.2 fun e=>absurd (I.mb e).2.2.2 (by simp)
   obtain rfl:b14=false:=Bool.eq_false_iff.2 fun e=>absurd (I.ds e).1 (by simp)
   refine op_makeR h11 wb.heap.size 41 i2 (.slice none 0 0) 1 Tryz.underlying43 hj1 hj0 hj2 .i64 .i64 m ((Gbl.e17 _ _ _ _ _ _ _ _ hz).trans e17) ((Gbl.e17 _ _ _ _ _ _ _ _ hz).trans e17) (by rw[hj3];omega) (by unfold maxLen;omega) I.bel.size fun w' g hg hf hb=>?_
   have J:=I.next hb
   exact⟨b1,b2,b3,b7,true,false,b13,false,v3,v8,v9,v10,v14,_,v19,gB,g1,g,gd,rfl,Gbl.p18 ..,J.bel,J.p1,J.p2,J.ma,J.m1,fun _=>⟨rfl,hg,_,hf,by simp[madeCells,Value.cells]⟩,fun e=>(by cases e),fun e=>(by obtain⟨h1,h2,l,h3,h4,-⟩:=J.ml e;exact⟨h1,h2,l,h3,h4,fun e=>by cases e⟩),fun e=>by cases e⟩
  ·obtain rfl:b12=false:=h0
   obtain rfl:b3=true:=dep_of h12 ho hall 3 (by decide)
   obtain rfl:b7=true:=dep_of h12 ho hall 7 (by decide)
   obtain rfl:b11=true:=dep_of h12 ho hall 11 (by decide)
   obtain rfl:b14=false:=Bool.eq_false_iff.2 fun e=>absurd (I.ds e).1 (by simp)
   obtain⟨r1,-⟩:=id (I.ma rfl)
   obtain⟨r2,-⟩:=id (I.m1 rfl)
   obtain⟨r3,-⟩:=id (I.m2 rfl)
   subst r1 r2 r3
   refine op_buildS h12 rfl (Gbl.e10 _ _ _ _ _ _ _ _ hz) (Gbl.e14 _ _ _ _ _ _ _ _ hz) (Gbl.e18 _ _ _ _ _ _ _ _ hz) ?_
   exact⟨b1,b2,true,true,true,true,b13,false,v3,v8,v9,_,_,_,_,gB,g1,g2,gd,rfl,Gbl.p19 ..,I.bel,I.p1,I.p2,I.ma,I.m1,I.m2,fun _=>⟨rfl,rfl,rfl,rfl⟩,I.ml,fun e=>by cases e⟩
  ·obtain rfl:b13=false:=h0
   obtain rfl:b14=false:=Bool.eq_false_iff.2 fun e=>absurd (I.ds e).2 (by simp)
   refine op_allocS h13 rfl fun g w' l hg hll hX hb=>?_
   have J:=I.next hb
   exact⟨b1,b2,b3,b7,b11,b12,true,false,_,v8,v9,v10,v14,v18,v19,gB,g1,g2,g,rfl,Gbl.p3 ..,J.bel,J.p1,J.p2,J.ma,J.m1,J.m2,J.mb,fun _=>⟨rfl,hg▸I.bel.size,l,hll,hX,fun e=>by cases e⟩,fun e=>by cases e⟩
  ·obtain rfl:b14=false:=h0
   obtain rfl:b12=true:=dep_of h14 ho hall 12 (by decide)
   obtain rfl:b13=true:=dep_of h14 ho hall 13 (by decide)
   obtain⟨rfl,rfl,rfl,rfl⟩:=I.mb rfl
   obtain⟨rfl,na1,hva⟩:=I.ma rfl
   obtain⟨rfl,n1,cs,f1,l1⟩:=I.m1 rfl
   obtain⟨rfl,n2,ds,f2,l2⟩:=I.m2 rfl
   obtain⟨rfl,n9,l,hll,hX,-⟩:=I.ml rfl
   refine op_storeS h14 rfl gd l (some ⟨gB,0,none⟩) (some ⟨g1,0,none⟩) (some ⟨g2,0,none⟩) na m m na m m (Gbl.e3 _ _ _ _ _ _ _ _ hz) (Gbl.e19 _ _ _ _ _ _ _ _ hz) hll hX ?_
   have hx1:=hX.set 0 (.slice (some ⟨gB,0,none⟩) na na)
   have hx2:=hx1.set 1 (.slice (some ⟨g1,0,none⟩) m m)
   have hx3:=hx2.set 2 (.slice (some ⟨g2,0,none⟩) m m)
   have hnb:=hX.apart9 hva.fr (by decide)
   have hn1:=hX.apart9 f1 (by decide)
   have hn2:=hX.apart9 f2 (by decide)
   refine⟨b1,b2,true,true,true,true,true,true,_,v8,v9,_,_,_,_,gB,g1,g2,gd,rfl,rfl,((I.bel.setCell n9 _).setCell n9 _).setCell n9 _,I.p1,I.p2,fun _=>⟨rfl,na1,?_⟩,fun _=>⟨rfl,n1,cs,?_,l1⟩,fun _=>⟨rfl,n2,ds,?_,l2⟩,fun _=>⟨rfl,rfl,rfl,rfl⟩,fun _=>⟨rfl,n9,_,?_,hx3,fun _=>?_⟩,fun _=>⟨rfl,rfl⟩⟩
   ·exact ((hva.other (a:=⟨gd,_,none⟩) hnb _).other (a:=⟨gd,_,none⟩) hnb _).other (a:=⟨gd,_,none⟩) hnb _
   ·exact ((f1.other (a:=⟨gd,_,none⟩) hn1 _).other (a:=⟨gd,_,none⟩) hn1 _).other (a:=⟨gd,_,none⟩) hn1 _
   ·exact ((f2.other (a:=⟨gd,_,none⟩) hn2 _).other (a:=⟨gd,_,none⟩) hn2 _).other (a:=⟨gd,_,none⟩) hn2 _
   ·simpa using hll
   ·match l,hll with
    |[_,_,_],_=>rfl
 ·rintro l a w ⟨b1,b2,b3,b7,b11,b12,b13,b14,v3,v8,v9,v10,v14,v18,v19,gB,g1,g2,gd,rfl,rfl,I⟩ hr
  have hs:(#[true,b1,b2,b3,true,true,true,b7,true,true,true,b11,b12,b13,b14]:Array Bool).size=ops.size:=by rw[hsz];rfl
  obtain rfl:b1=true:=all_up hea hs hr 1 (by omega)
  obtain rfl:b2=true:=all_up hea hs hr 2 (by omega)
  obtain rfl:b3=true:=all_up hea hs hr 3 (by omega)
  obtain rfl:b7=true:=all_up hea hs hr 7 (by omega)
  obtain rfl:b11=true:=all_up hea hs hr 11 (by omega)
  obtain rfl:b12=true:=all_up hea hs hr 12 (by omega)
  obtain rfl:b13=true:=all_up hea hs hr 13 (by omega)
  obtain rfl:b14=true:=all_up hea hs hr 14 (by omega)
  exact hQ _ _ _ _ _ _ _ _ _ _ _ _ I
 ·exact⟨false,false,false,false,false,false,false,false,undef,undef,undef,undef,undef,undef,undef,0,0,0,0,rfl,hfr,hw,fun e=>(by cases e),fun e=>(by cases e),fun e=>(by cases e),fun e=>(by cases e),fun e=>(by cases e),fun e=>(by cases e),fun e=>(by cases e),fun e=>(by cases e)⟩
theorem bl_reg_end{m na ns:Nat}{wb:World}{lo:List Int}{v3 v8 v9 v10 v14 v18 v19:Value}{gB g1 g2 gd:Nat}{w:World}(I:Ibl m na ns wb lo true true true true true true true true v3 v8 v9 v10 v14 v18 v19 gB g1 g2 gd w)(nw:Nat→Nat)(fw:Nat→Nat→List Int)(fr:Nat→List Int):
 v10=.slice (some ⟨gB,0,none⟩) na na∧v14=.slice (some ⟨g1,0,none⟩) m m∧v18=.slice (some ⟨g2,0,none⟩) m m∧v19=.agg #[.slice (some ⟨gB,0,none⟩) na na,.slice (some ⟨g1,0,none⟩) m m,.slice (some ⟨g2,0,none⟩) m m]∧v3=.pointer (some ⟨gd,0,none⟩)∧NxS wb gd gB g1 g2 w.heap.size m na lo nw fw fr 0 0 w:=by
 obtain⟨rfl,-,-,-⟩:=I.mb rfl
 obtain⟨rfl,na1,hva⟩:=I.ma rfl
 obtain⟨rfl,n1,cs,f1,l1⟩:=I.m1 rfl
 obtain⟨rfl,n2,ds,f2,l2⟩:=I.m2 rfl
 obtain⟨rfl,n9,l,hll,hX,hl⟩:=I.ml rfl
 obtain rfl:=hl rfl
 exact⟨rfl,rfl,rfl,rfl,rfl,I.bel,hX,hva,OSt.start f1 f2 l1 l2 f1.lt f2.lt (f1.apart9 f2 (by decide)),hX.lt,Nat.le_refl _,n9,n1,n2⟩
def Gnx(a:Act)(v5 v13 v18 v23 v24:Value):Act:=(((((a.put (some 5) v5).put (some 13) v13).put (some 18) v18).put (some 23) v23).put (some 24) v24)
section
variable (a:Act) (v5 v13 v18 v23 v24 u:Value)
theorem Gnx.p5:(Gnx a v5 v13 v18 v23 v24).put (some 5) u=Gnx a u v13 v18 v23 v24:=by
 simp only[Gnx,Act.put,Act.mk.injEq,and_true];apply Array.ext_getElem?;intro i;by_cases h5:5=i;(subst h5;simp[Array.getElem?_setIfInBounds]);by_cases h13:13=i;(subst h13;simp[Array.getElem?_setIfInBounds]);by_cases h18:18=i;(subst h18;simp[Array.getElem?_setIfInBounds]);by_cases h23:23=i;(subst h23;simp[Array.getElem?_setIfInBounds]);by_cases h24:24=i;(subst h24;simp[Array.getElem?_setIfInBounds]);simp[Array.getElem?_setIfInBounds,h5,h13,h18,h23,h24]
theorem Gnx.p13:(Gnx a v5 v13 v18 v23 v24).put (some 13) u=Gnx a v5 u v18 v23 v24:=by
 simp only[Gnx,Act.put,Act.mk.injEq,and_true];apply Array.ext_getElem?;intro i;by_cases h5:5=i;(subst h5;simp[Array.getElem?_setIfInBounds]);by_cases h13:13=i;(subst h13;simp[Array.getElem?_setIfInBounds]);by_cases h18:18=i;(subst h18;simp[Array.getElem?_setIfInBounds]);by_cases h23:23=i;(subst h23;simp[Array.getElem?_setIfInBounds]);by_cases h24:24=i;(subst h24;simp[Array.getElem?_setIfInBounds]);simp[Array.getElem?_setIfInBounds,h5,h13,h18,h23,h24]
theorem Gnx.p18:(Gnx a v5 v13 v18 v23 v24).put (some 18) u=Gnx a v5 v13 u v23 v24:=by
 simp only[Gnx,Act.put,Act.mk.injEq,and_true];apply Array.ext_getElem?;intro i;by_cases h5:5=i;(subst h5;simp[Array.getElem?_setIfInBounds]);by_cases h13:13=i;(subst h13;simp[Array.getElem?_setIfInBounds]);by_cases h18:18=i;(subst h18;simp[Array.getElem?_setIfInBounds]);by_cases h23:23=i;(subst h23;simp[Array.getElem?_setIfInBounds]);by_cases h24:24=i;(subst h24;simp[Array.getElem?_setIfInBounds]);simp[Array.getElem?_setIfInBounds,h5,h13,h18,h23,h24]
theorem Gnx.p23:(Gnx a v5 v13 v18 v23 v24).put (some 23) u=Gnx a v5 v13 v18 u v24:=by
 simp only[Gnx,Act.put,Act.mk.injEq,and_true];apply Array.ext_getElem?;intro i;by_cases h5:5=i;(subst h5;simp[Array.getElem?_setIfInBounds]);by_cases h13:13=i;(subst h13;simp[Array.getElem?_setIfInBounds]);by_cases h18:18=i;(subst h18;simp[Array.getElem?_setIfInBounds]);by_cases h23:23=i;(subst h23;simp[Array.getElem?_setIfInBounds]);by_cases h24:24=i;(subst h24;simp[Array.getElem?_setIfInBounds]);simp[Array.getElem?_setIfInBounds,h5,h13,h18,h23,h24]
theorem Gnx.p24:(Gnx a v5 v13 v18 v23 v24).put (some 24) u=Gnx a v5 v13 v18 v23 u:=by
 simp only[Gnx,Act.put,Act.mk.injEq,and_true];apply Array.ext_getElem?;intro i;by_cases h5:5=i;(subst h5;simp[Array.getElem?_setIfInBounds]);by_cases h13:13=i;(subst h13;simp[Array.getElem?_setIfInBounds]);by_cases h18:18=i;(subst h18;simp[Array.getElem?_setIfInBounds]);by_cases h23:23=i;(subst h23;simp[Array.getElem?_setIfInBounds]);by_cases h24:24=i;(subst h24;simp[Array.getElem?_setIfInBounds]);simp[Array.getElem?_setIfInBounds,h5,h13,h18,h23,h24]
theorem Gnx.e5(hz:60≤a.tmps.size):(Gnx a v5 v13 v18 v23 v24).eval (.tmp 5)=v5:=by
 have k5:5<a.tmps.size:=(by omega);have k13:13<a.tmps.size:=(by omega);have k18:18<a.tmps.size:=(by omega);have k23:23<a.tmps.size:=(by omega);have k24:24<a.tmps.size:=(by omega);simp[Gnx,Act.put,Act.eval,Array.getElem?_setIfInBounds, *]
theorem Gnx.e13(hz:60≤a.tmps.size):(Gnx a v5 v13 v18 v23 v24).eval (.tmp 13)=v13:=by
 have k5:5<a.tmps.size:=(by omega);have k13:13<a.tmps.size:=(by omega);have k18:18<a.tmps.size:=(by omega);have k23:23<a.tmps.size:=(by omega);have k24:24<a.tmps.size:=(by omega);simp[Gnx,Act.put,Act.eval,Array.getElem?_setIfInBounds, *]
theorem Gnx.e18(hz:60≤a.tmps.size):(Gnx a v5 v13 v18 v23 v24).eval (.tmp 18)=v18:=by
 have k5:5<a.tmps.size:=(by omega);have k13:13<a.tmps.size:=(by omega);have k18:18<a.tmps.size:=(by omega);have k23:23<a.tmps.size:=(by omega);have k24:24<a.tmps.size:=(by omega);simp[Gnx,Act.put,Act.eval,Array.getElem?_setIfInBounds, *]
theorem Gnx.e23(hz:60≤a.tmps.size):(Gnx a v5 v13 v18 v23 v24).eval (.tmp 23)=v23:=by
 have k5:5<a.tmps.size:=(by omega);have k13:13<a.tmps.size:=(by omega);have k18:18<a.tmps.size:=(by omega);have k23:23<a.tmps.size:=(by omega);have k24:24<a.tmps.size:=(by omega);simp[Gnx,Act.put,Act.eval,Array.getElem?_setIfInBounds, *]
theorem Gnx.e24(hz:60≤a.tmps.size):(Gnx a v5 v13 v18 v23 v24).eval (.tmp 24)=v24:=by
 have k5:5<a.tmps.size:=(by omega);have k13:13<a.tmps.size:=(by omega);have k18:18<a.tmps.size:=(by omega);have k23:23<a.tmps.size:=(by omega);have k24:24<a.tmps.size:=(by omega);simp[Gnx,Act.put,Act.eval,Array.getElem?_setIfInBounds, *]
theorem Gnx.e10(hz:60≤a.tmps.size):(Gnx a v5 v13 v18 v23 v24).eval (.tmp 10)=a.eval (.tmp 10):=by
 have k5:5<a.tmps.size:=(by omega);have k13:13<a.tmps.size:=(by omega);have k18:18<a.tmps.size:=(by omega);have k23:23<a.tmps.size:=(by omega);have k24:24<a.tmps.size:=(by omega);simp[Gnx,Act.put,Act.eval,Array.getElem?_setIfInBounds, *]
theorem Gnx.e12(hz:60≤a.tmps.size):(Gnx a v5 v13 v18 v23 v24).eval (.tmp 12)=a.eval (.tmp 12):=by
 have k5:5<a.tmps.size:=(by omega);have k13:13<a.tmps.size:=(by omega);have k18:18<a.tmps.size:=(by omega);have k23:23<a.tmps.size:=(by omega);have k24:24<a.tmps.size:=(by omega);simp[Gnx,Act.put,Act.eval,Array.getElem?_setIfInBounds, *]
theorem Gnx.e17(hz:60≤a.tmps.size):(Gnx a v5 v13 v18 v23 v24).eval (.tmp 17)=a.eval (.tmp 17):=by
 have k5:5<a.tmps.size:=(by omega);have k13:13<a.tmps.size:=(by omega);have k18:18<a.tmps.size:=(by omega);have k23:23<a.tmps.size:=(by omega);have k24:24<a.tmps.size:=(by omega);simp[Gnx,Act.put,Act.eval,Array.getElem?_setIfInBounds, *]
theorem Gnx.e22(hz:60≤a.tmps.size):(Gnx a v5 v13 v18 v23 v24).eval (.tmp 22)=a.eval (.tmp 22):=by
 have k5:5<a.tmps.size:=(by omega);have k13:13<a.tmps.size:=(by omega);have k18:18<a.tmps.size:=(by omega);have k23:23<a.tmps.size:=(by omega);have k24:24<a.tmps.size:=(by omega);simp[Gnx,Act.put,Act.eval,Array.getElem?_setIfInBounds, *]
end
structure Inx(m na ns:Nat)(wb:World)(lo:List Int)(b3 b8 b13 b14 b15 b16:Bool)(v5 v13 v18 v23 v24:Value)(gB g1 g2 gd:Nat)(w:World):Prop where
 bel:Below wb.heap.size wb w
 ma:b3=true→v13=.slice (some ⟨gB,0,none⟩) na na∧wb.heap.size≤gB∧VRow w gB lo
 m1:b8=true→v18=.slice (some ⟨g1,0,none⟩) m m∧wb.heap.size≤g1∧∃cs,Fr w g1 43 cs∧cs.length=m
 m2:b13=true→v23=.slice (some ⟨g2,0,none⟩) m m∧wb.heap.size≤g2∧∃cs,Fr w g2 41 cs∧cs.length=m
 mb:b14=true→v24=.agg #[v13,v18,v23]∧b3=true∧b8=true∧b13=true
 ml:b15=true→v5=.pointer (some ⟨gd,0,none⟩)∧wb.heap.size≤gd∧∃l,l.length=3∧Fr w gd 45 l∧(b16=true→l=[v13,v18,v23])
 ds:b16=true→b14=true∧b15=true
section
variable {m na ns:Nat} {wb:World} {lo:List Int} {b3 b8 b13 b14 b15 b16:Bool} {v5 v13 v18 v23 v24:Value} {gB g1 g2 gd:Nat} {w w':World}
theorem Inx.next(I:Inx m na ns wb lo b3 b8 b13 b14 b15 b16 v5 v13 v18 v23 v24 gB g1 g2 gd w)(hb:Below w.heap.size w w'):Inx m na ns wb lo b3 b8 b13 b14 b15 b16 v5 v13 v18 v23 v24 gB g1 g2 gd w':=
 ⟨joinB I.bel hb,fun e=>by obtain⟨h1,h2,h3⟩:=I.ma e;exact⟨h1,h2,h3.below hb⟩,fun e=>by obtain⟨h1,h2,cs,h3,h4⟩:=I.m1 e;exact⟨h1,h2,cs,h3.below hb,h4⟩,fun e=>by obtain⟨h1,h2,cs,h3,h4⟩:=I.m2 e;exact⟨h1,h2,cs,h3.below hb,h4⟩,I.mb,
  fun e=>by obtain⟨h1,h2,l,h3,h4,h5⟩:=I.ml e;exact⟨h1,h2,l,h3,h4.below hb,h5⟩,I.ds⟩
end
def Jnx(m na ns:Nat)(wb:World)(lo:List Int)(a9:Act)(l:Array Bool)(a:Act)(w:World):Prop:=
 ∃(b3 b8 b13 b14 b15 b16:Bool) (v5 v13 v18 v23 v24:Value) (gB g1 g2 gd:Nat),l= #[true,true,true,b3,true,true,true,true,b8,true,true,true,true,b13,b14,b15,b16]∧a=Gnx a9 v5 v13 v18 v23 v24∧Inx m na ns wb lo b3 b8 b13 b14 b15 b16 v5 v13 v18 v23 v24 gB g1 g2 gd w
set_option maxHeartbeats 2000000 in
theorem nx_reg{Q:Exit→Act→World→Prop}{md:Region.Mode}{ops:Array Oper}{m na ns:Nat}{wb:World}{lo:List Int}{sD:Value}(a9:Act)(hm:m≤1000000)
 (hsz:ops.size=17) (hea:early ops=true)
 (h3:OpAt md ops 3 (some 13) (.call { callee:=.value (.func 86),args:=#[.tmp 10,.tmp 12],argTypes:=#[41,3] }) [])
 (h8:OpAt md ops 8 (some 18) (.makeSlice 42 (.tmp 17) (.tmp 17)) [])
 (h13:OpAt md ops 13 (some 23) (.makeSlice 43 (.tmp 22) (.tmp 22)) [])
 (h14:OpAt md ops 14 (some 24) (.build 45 #[(0,.tmp 13),(1,.tmp 18),(2,.tmp 23)]) [3,8,13])
 (h15:OpAt md ops 15 (some 5) (.alloc 45) [])
 (h16:OpAt md ops 16 none (.store 45 (.tmp 5) (.tmp 24)) [14,15])
 (hz:60≤a9.tmps.size) (e10:a9.eval (.tmp 10)=sD) (e12:a9.eval (.tmp 12)=.int .i64 (na:Int)) (e17:a9.eval (.tmp 17)=.int .i64 (m:Int)) (e22:a9.eval (.tmp 22)=.int .i64 (m:Int))
 (hfr:a9=Gnx a9 undef undef undef undef undef)
 (hcall:∀W,Below wb.heap.size wb W→Calls Tryz.prog 86 #[sD,.int .i64 (na:Int)] W fun e w'=>∃s',e=.returned s'∧∃g,s'=.slice (some ⟨g,0,none⟩) na na∧VRow w' g lo∧W.heap.size≤g∧BelW W w')
 (hQ:∀v5 v13 v18 v23 v24 gB g1 g2 gd w',Inx m na ns wb lo true true true true true true v5 v13 v18 v23 v24 gB g1 g2 gd w'→Q .normal (Gnx a9 v5 v13 v18 v23 v24) w')
 (w:World) (hw:Below wb.heap.size wb w):wpAnyH Tryz.prog md ops Q (fun w'=>Below wb.heap.size wb w') 6 #[true,true,true,false,true,true,true,true,false,true,true,true,true,false,false,false,false] a9 w:=by
 obtain⟨i1,hi1,hz0,hz1,hz2⟩:=info_parts info_wds
 obtain⟨i2,hj1,hj0,hj2,hj3⟩:=info_parts info_vals
 refine held_inv (Jnx m na ns wb lo a9) ?_ ?_ ?_ ?_ 6 _ a9 w (by decide) ?_
 ·rintro l a w ⟨b3,b8,b13,b14,b15,b16,v5,v13,v18,v23,v24,gB,g1,g2,gd,rfl,-⟩
  rw[hsz];rfl
 ·rintro l a w ⟨b3,b8,b13,b14,b15,b16,v5,v13,v18,v23,v24,gB,g1,g2,gd,-,-,I⟩
  exact I.bel
 ·rintro l a w i o ⟨b3,b8,b13,b14,b15,b16,v5,v13,v18,v23,v24,gB,g1,g2,gd,rfl,rfl,I⟩ ho h0 hall
  have hi:i<17:=hsz▸(Array.getElem?_eq_some_iff.1 ho).1
  have hcs:i=0∨i=1∨i=2∨i=3∨i=4∨i=5∨i=6∨i=7∨i=8∨i=9∨i=10∨i=11∨i=12∨i=13∨i=14∨i=15∨i=16:=by omega
  rcases hcs with rfl|rfl|rfl|rfl|rfl|rfl|rfl|rfl|rfl|rfl|rfl|rfl|rfl|rfl|rfl|rfl|rfl
  ·exact absurd (show true=false from h0) (by decide)
  ·exact absurd (show true=false from h0) (by decide)
  ·exact absurd (show true=false from h0) (by decide)
  ·obtain rfl:b3=false:=h0
   obtain rfl:b14=false:=Bool.eq_false_iff.2 fun e=>absurd (I.mb e).2.1 (by simp)
   obtain rfl:b16=false:=Bool.eq_false_iff.2 fun e=>absurd (I.ds e).1 (by simp)
   refine op_callBits h3 rfl ((Gnx.e10 _ _ _ _ _ _ hz).trans e10) ((Gnx.e12 _ _ _ _ _ _ hz).trans e12) (hcall w I.bel) fun v w' hr=>?_
   obtain⟨g,rfl,hvr,hge,hb⟩:=hr
   have J:=I.next hb
   exact⟨true,b8,b13,false,b15,false,v5,_,v18,v23,v24,g,g1,g2,gd,rfl,Gnx.p13 ..,J.bel,fun _=>⟨rfl,Nat.le_trans I.bel.size hge,hvr⟩,J.m1,J.m2,fun e=>(by cases e),fun e=>(by obtain⟨h1,h2,l,h3,h4,-⟩:=J.ml e;exact⟨h1,h2,l,h3,h4,fun e=>by cases e⟩),fun e=>by cases e⟩
  ·exact absurd (show true=false from h0) (by decide)
  ·exact absurd (show true=false from h0) (by decide)
  ·exact absurd (show true=false from h0) (by decide)
  ·exact absurd (show true=false from h0) (by decide)
  ·obtain rfl:b8=false:=h0
   obtain rfl:b14=false:=Bool.eq_false_iff.2 fun e=>absurd (I.mb e).2.2.1 (by simp)
   obtain rfl:b16=false:=Bool.eq_false_iff.2 fun e=>absurd (I.ds e).1 (by simp)
   refine op_makeR h8 wb.heap.size 43 i1 (.slice none 0 0) 1 Tryz.underlying42 hi1 hz0 hz1 .i64 .i64 m ((Gnx.e17 _ _ _ _ _ _ hz).trans e17) ((Gnx.e17 _ _ _ _ _ _ hz).trans e17) (by rw[hz2];omega) (by unfold maxLen;omega) I.bel.size fun w' g hg hf hb=>?_
   have J:=I.next hb
   exact⟨b3,true,b13,false,b15,false,v5,v13,_,v23,v24,gB,g,g2,gd,rfl,Gnx.p18 ..,J.bel,J.ma,fun _=>⟨rfl,hg,_,hf,by simp[madeCells,Value.cells]⟩,J.m2,fun e=>(by cases e),fun e=>(by obtain⟨h1,h2,l,h3,h4,-⟩:=J.ml e;exact⟨h1,h2,l,h3,h4,fun e=>by cases e⟩),fun e=>by cases e⟩
  ·exact absurd (show true=false from h0) (by decide)
  ·exact absurd (show true=false from h0) (by decide)
  ·exact absurd (show true=false from h0) (by decide)
  ·exact absurd (show true=false from h0) (by decide)
  ·obtain rfl:b13=false:=h0
   obtain rfl:b14=false:=Bool.eq_false_iff.2 fun e=>absurd (I.mb e).2.2.2 (by simp)
   obtain rfl:b16=false:=Bool.eq_false_iff.2 fun e=>absurd (I.ds e).1 (by simp)
   refine op_makeR h13 wb.heap.size 41 i2 (.slice none 0 0) 1 Tryz.underlying43 hj1 hj0 hj2 .i64 .i64 m ((Gnx.e22 _ _ _ _ _ _ hz).trans e22) ((Gnx.e22 _ _ _ _ _ _ hz).trans e22) (by rw[hj3];omega) (by unfold maxLen;omega) I.bel.size fun w' g hg hf hb=>?_
   have J:=I.next hb
   exact⟨b3,b8,true,false,b15,false,v5,v13,v18,_,v24,gB,g1,g,gd,rfl,Gnx.p23 ..,J.bel,J.ma,J.m1,fun _=>⟨rfl,hg,_,hf,by simp[madeCells,Value.cells]⟩,fun e=>(by cases e),fun e=>(by obtain⟨h1,h2,l,h3,h4,-⟩:=J.ml e;exact⟨h1,h2,l,h3,h4,fun e=>by cases e⟩),fun e=>by cases e⟩
  ·obtain rfl:b14=false:=h0
   obtain rfl:b3=true:=dep_of h14 ho hall 3 (by decide)
   obtain rfl:b8=true:=dep_of h14 ho hall 8 (by decide)
   obtain rfl:b13=true:=dep_of h14 ho hall 13 (by decide)
   obtain rfl:b16=false:=Bool.eq_false_iff.2 fun e=>absurd (I.ds e).1 (by simp)
   obtain⟨r1,-⟩:=id (I.ma rfl)
   obtain⟨r2,-⟩:=id (I.m1 rfl)
   obtain⟨r3,-⟩:=id (I.m2 rfl)
   subst r1 r2 r3
   refine op_buildS h14 rfl (Gnx.e13 _ _ _ _ _ _ hz) (Gnx.e18 _ _ _ _ _ _ hz) (Gnx.e23 _ _ _ _ _ _ hz) ?_
   exact⟨true,true,true,true,b15,false,v5,_,_,_,_,gB,g1,g2,gd,rfl,Gnx.p24 ..,I.bel,I.ma,I.m1,I.m2,fun _=>⟨rfl,rfl,rfl,rfl⟩,I.ml,fun e=>by cases e⟩
  ·obtain rfl:b15=false:=h0
   obtain rfl:b16=false:=Bool.eq_false_iff.2 fun e=>absurd (I.ds e).2 (by simp)
   refine op_allocS h15 rfl fun g w' l hg hll hX hb=>?_
   have J:=I.next hb
   exact⟨b3,b8,b13,b14,true,false,_,v13,v18,v23,v24,gB,g1,g2,g,rfl,Gnx.p5 ..,J.bel,J.ma,J.m1,J.m2,J.mb,fun _=>⟨rfl,hg▸I.bel.size,l,hll,hX,fun e=>by cases e⟩,fun e=>by cases e⟩
  ·obtain rfl:b16=false:=h0
   obtain rfl:b14=true:=dep_of h16 ho hall 14 (by decide)
   obtain rfl:b15=true:=dep_of h16 ho hall 15 (by decide)
   obtain⟨rfl,rfl,rfl,rfl⟩:=I.mb rfl
   obtain⟨rfl,na1,hva⟩:=I.ma rfl
   obtain⟨rfl,n1,cs,f1,l1⟩:=I.m1 rfl
   obtain⟨rfl,n2,ds,f2,l2⟩:=I.m2 rfl
   obtain⟨rfl,n9,l,hll,hX,-⟩:=I.ml rfl
   refine op_storeS h16 rfl gd l (some ⟨gB,0,none⟩) (some ⟨g1,0,none⟩) (some ⟨g2,0,none⟩) na m m na m m (Gnx.e5 _ _ _ _ _ _ hz) (Gnx.e24 _ _ _ _ _ _ hz) hll hX ?_
   have hx1:=hX.set 0 (.slice (some ⟨gB,0,none⟩) na na)
   have hx2:=hx1.set 1 (.slice (some ⟨g1,0,none⟩) m m)
   have hx3:=hx2.set 2 (.slice (some ⟨g2,0,none⟩) m m)
   have hnb:=hX.apart9 hva.fr (by decide)
   have hn1:=hX.apart9 f1 (by decide)
   have hn2:=hX.apart9 f2 (by decide)
   refine⟨true,true,true,true,true,true,_,_,_,_,_,gB,g1,g2,gd,rfl,rfl,((I.bel.setCell n9 _).setCell n9 _).setCell n9 _,fun _=>⟨rfl,na1,?_⟩,fun _=>⟨rfl,n1,cs,?_,l1⟩,fun _=>⟨rfl,n2,ds,?_,l2⟩,fun _=>⟨rfl,rfl,rfl,rfl⟩,fun _=>⟨rfl,n9,_,?_,hx3,fun _=>?_⟩,fun _=>⟨rfl,rfl⟩⟩
   ·exact ((hva.other (a:=⟨gd,_,none⟩) hnb _).other (a:=⟨gd,_,none⟩) hnb _).other (a:=⟨gd,_,none⟩) hnb _
   ·exact ((f1.other (a:=⟨gd,_,none⟩) hn1 _).other (a:=⟨gd,_,none⟩) hn1 _).other (a:=⟨gd,_,none⟩) hn1 _
   ·exact ((f2.other (a:=⟨gd,_,none⟩) hn2 _).other (a:=⟨gd,_,none⟩) hn2 _).other (a:=⟨gd,_,none⟩) hn2 _
   ·simpa using hll
   ·match l,hll with
    |[_,_,_],_=>rfl
 ·rintro l a w ⟨b3,b8,b13,b14,b15,b16,v5,v13,v18,v23,v24,gB,g1,g2,gd,rfl,rfl,I⟩ hr
  have hs:(#[true,true,true,b3,true,true,true,true,b8,true,true,true,true,b13,b14,b15,b16]:Array Bool).size=ops.size:=by rw[hsz];rfl
  obtain rfl:b3=true:=all_up hea hs hr 3 (by omega)
  obtain rfl:b8=true:=all_up hea hs hr 8 (by omega)
  obtain rfl:b13=true:=all_up hea hs hr 13 (by omega)
  obtain rfl:b14=true:=all_up hea hs hr 14 (by omega)
  obtain rfl:b15=true:=all_up hea hs hr 15 (by omega)
  obtain rfl:b16=true:=all_up hea hs hr 16 (by omega)
  exact hQ _ _ _ _ _ _ _ _ _ _ I
 ·exact⟨false,false,false,false,false,false,undef,undef,undef,undef,undef,0,0,0,0,rfl,hfr,hw,fun e=>(by cases e),fun e=>(by cases e),fun e=>(by cases e),fun e=>(by cases e),fun e=>(by cases e),fun e=>(by cases e)⟩
theorem nx_reg_end{m na ns:Nat}{wb:World}{lo:List Int}{v5 v13 v18 v23 v24:Value}{gB g1 g2 gd:Nat}{w:World}(I:Inx m na ns wb lo true true true true true true v5 v13 v18 v23 v24 gB g1 g2 gd w)(nw:Nat→Nat)(fw:Nat→Nat→List Int)(fr:Nat→List Int):
 v13=.slice (some ⟨gB,0,none⟩) na na∧v18=.slice (some ⟨g1,0,none⟩) m m∧v23=.slice (some ⟨g2,0,none⟩) m m∧v24=.agg #[.slice (some ⟨gB,0,none⟩) na na,.slice (some ⟨g1,0,none⟩) m m,.slice (some ⟨g2,0,none⟩) m m]∧v5=.pointer (some ⟨gd,0,none⟩)∧NxS wb gd gB g1 g2 w.heap.size m na lo nw fw fr 0 0 w:=by
 obtain⟨rfl,-,-,-⟩:=I.mb rfl
 obtain⟨rfl,na1,hva⟩:=I.ma rfl
 obtain⟨rfl,n1,cs,f1,l1⟩:=I.m1 rfl
 obtain⟨rfl,n2,ds,f2,l2⟩:=I.m2 rfl
 obtain⟨rfl,n9,l,hll,hX,hl⟩:=I.ml rfl
 obtain rfl:=hl rfl
 exact⟨rfl,rfl,rfl,rfl,rfl,I.bel,hX,hva,OSt.start f1 f2 l1 l2 f1.lt f2.lt (f1.apart9 f2 (by decide)),hX.lt,Nat.le_refl _,n9,n1,n2⟩
end Go.Proofs.YtemjmfpcopfdbaaGreatDoor
