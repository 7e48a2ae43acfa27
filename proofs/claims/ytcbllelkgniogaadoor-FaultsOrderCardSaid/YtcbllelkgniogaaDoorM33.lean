/- The texts Fob Fct. -/
import Derived.Test.YtcbllelkgniogaaDoorM32
import Derived.Test.YtcbllelkgniogaaDoorM23
import Derived.Test.YtcbllelkgniogaaDoorM02
namespace Go.Proofs.YtcbllelkgniogaaDoor
open Go.RowKit
attribute [local go_sem] Oper.semAt_some
theorem bridges_any(m:Int)(A0 A1 A2 A3:Option Addr)(n n1 n2 n3 c0 c1 c2 c3:Nat)(w:World):
 Calls Tryd.prog 43 #[.agg #[.slice A0 n c0,.slice A1 n1 c1,.slice A2 n2 c2,.slice A3 n3 c3],.int .u8 m] w fun e w'=>e=.returned (.func (.func 55) #[] #[.pointer (some ⟨w.heap.size,0,none⟩),.pointer (some ⟨w.heap.size+1,0,none⟩)])∧Fr w' w.heap.size 39 [.slice A0 n c0,.slice A1 n1 c1,.slice A2 n2 c2,.slice A3 n3 c3]∧Fr w' (w.heap.size+1) 28 [.int .u8 m]∧BelW w w':=by
 go_enter Tryd.func43,Tryd.ntmps43
 go_wp2
 go_ret
 exact⟨rfl,(Fr.made _ _ _ rfl).alloc _,Fr.made _ _ _ (by simp),joinB (below_new (Below.refl _ _) _) (below_new (Below.refl _ _) _)⟩
set_option maxRecDepth 100000 in
set_option maxHeartbeats 4000000 in
theorem faultsOf_brg{c:Ck}{n:Nat}{L:List Int}(G:G5 c n L)(A0 A1 A2 A3:Option Addr)(n1 n2 n3 c0 c1 c2 c3 B:Nat)(m:Int)(w:World)(hB:B≤w.heap.size)(hT:Tabs w)(hc:Cir w B (.agg #[.slice A0 n c0,.slice A1 n1 c1,.slice A2 n2 c2,.slice A3 n3 c3]) c)(hm:m=2∨m=3):
 Calls Tryd.prog 25 #[.agg #[.slice A0 n c0,.slice A1 n1 c1,.slice A2 n2 c2,.slice A3 n3 c3],.int .u8 m] w fun e w'=>∃gf lb,e=.returned (.func (.func gf) #[] lb)∧BelW w w'∧(∀args V,(callFunc gf args).run Tryd.prog V=.ok (.enter gf args) V)∧∀V,BelW w' V→SeqT B (Kr B [33,48]) Fence.wide 8 5 Tryd.prog gf lb encF (brL c m) V:=by
 obtain⟨W1,HW1⟩:=named ((w.alloc (.cells #[.slice A0 n c0,.slice A1 n1 c1,.slice A2 n2 c2,.slice A3 n3 c3] 39)).alloc (.cells #[.int .u8 m] 28))
 have hb1:BelW w W1:=by rw[HW1.out];exact joinB (below_new (Below.refl _ _) _) (below_new (Below.refl _ _) _)
 have hfc:Fr W1 w.heap.size 39 [.slice A0 n c0,.slice A1 n1 c1,.slice A2 n2 c2,.slice A3 n3 c3]:=by rw[HW1.out];exact (Fr.made _ _ _ rfl).alloc _
 have hfm:Fr W1 (w.heap.size+1) 28 [.int .u8 m]:=by rw[HW1.out];exact Fr.made _ _ _ (by simp)
 have HBR:Hid (Calls Tryd.prog 43 #[.agg #[.slice A0 n c0,.slice A1 n1 c1,.slice A2 n2 c2,.slice A3 n3 c3],.int .u8 m] W1 fun e w'=>∃lb,e=.returned (.func (.func 55) #[] lb)∧BelW w w'∧∀V,BelW w' V→SeqT B (Kr B [33,48]) Fence.wide 8 5 Tryd.prog 55 lb encF (brL c m) V):=Lib.hid ((bridges_any m A0 A1 A2 A3 n n1 n2 n3 c0 c1 c2 c3 W1).mono fun e w' ⟨h1,h2,h3,h4⟩=>⟨_,h1,joinB hb1 h4,fun V hV l J W' hVW hst hY h0=>by
  have hb:BelW w W':=joinB hb1 (joinB h4 (joinB hV hVW))
  have hBW:B≤W'.heap.size:=Nat.le_trans hB (Below.size hb)
  exact brg_in G 8 B W1.heap.size (W1.heap.size+1) n1 n2 n3 c0 c1 c2 c3 l m A0 A1 A2 A3 [33,48] (by decide) hm (by decide) (by decide) (by decide) (by decide) J W' hst hBW hY (hT.below hb) (h2.below (joinB hV hVW)) (h3.below (joinB hV hVW)) (hc.below (Below.mono hb hB)) h0⟩)
 have x0:W1.cell? ⟨w.heap.size+1,0,none⟩=some (.int .u8 m):=hfm.cell 0
 have x1:W1.cell? ⟨w.heap.size,0,none⟩=some (.slice A0 n c0):=hfc.cell 0
 have x2:W1.cell? ⟨w.heap.size,1,none⟩=some (.slice A1 n1 c1):=hfc.cell 1
 have x3:W1.cell? ⟨w.heap.size,2,none⟩=some (.slice A2 n2 c2):=hfc.cell 2
 have x4:W1.cell? ⟨w.heap.size,3,none⟩=some (.slice A3 n3 c3):=hfc.cell 3
 have t0:decide (2≤m)=true:=by simp;omega
 have hm2:(2:Int)≤m:=by omega
 clear hb1 hfc hfm hc hm hT G
 go_enter Tryd.func25,Tryd.ntmps25
 go_upto_region 1 with (fail)
 rw[←HW1.out]
 go_wp2_with (first
  |(go_at_call 17;(with_reducible refine (isBridge_any _ _).mono ?_);rintro e w1 ⟨rfl,rfl⟩;rw[t0])
  |(go_at_call 43;(with_reducible refine HBR.out.mono ?_);rintro e w2 ⟨lb,rfl,h1,h2⟩;have HB2:=Lib.hid h1;have HS2:=Lib.hid h2;clear h1 h2))
 go_ret
 exact⟨_,_,rfl,HB2.out,fun _ _=>rfl,HS2.out⟩
def Fm(a9 a:Act)(D:List Tmp):Prop:=a.defers=a9.defers∧a.tmps.size=a9.tmps.size∧∀t,t ∉ D→a.tmps[t]? =a9.tmps[t]?
theorem Fm.refl(a:Act)(D:List Tmp):Fm a a D:=⟨rfl,rfl,fun _ _=>rfl⟩
theorem Fm.eval{a9 a:Act}{D:List Tmp}(h:Fm a9 a D){t:Tmp}(ht:t ∉ D):a.eval (.tmp t)=a9.eval (.tmp t):=by
 have:=h.2.2 t ht
 simp[Act.eval,this]
theorem Fm.put{a9 a:Act}{D:List Tmp}(h:Fm a9 a D){t:Tmp}(ht:t∈D)(v:Value):Fm a9 (a.put (some t) v) D:=by
 refine⟨h.1,by simpa [Act.put]using h.2.1,fun s hs=>?_⟩
 have hne:t≠s:=fun e=>hs (e▸ht)
 simp only[Act.put,Array.getElem?_setIfInBounds,hne,if_false]
 exact h.2.2 s hs
theorem eval_put_same{a:Act}{t:Tmp}{v:Value}(h:t<a.tmps.size):(a.put (some t) v).eval (.tmp t)=v:=by
 simp[Act.put,Act.eval,Array.getElem?_setIfInBounds,h]
theorem eval_put_other{a:Act}{s t:Tmp}{v:Value}(h:t≠s):(a.put (some t) v).eval (.tmp s)=a.eval (.tmp s):=by
 simp[Act.put,Act.eval,Array.getElem?_setIfInBounds,h]
def putsF:List Tmp→Nat→(Nat→Value)→Act→Act
 |[],_,_,a=>a
 |t::ts,k,v,a=>putsF ts (k+1) v (a.put (some t) (v k))
theorem Fm.puts{a:Act} :∀(D:List Tmp) (k:Nat) (v:Nat→Value) (a9:Act),Fm a9 a D→(∀i t,D[i]? =some t→t<a9.tmps.size∧a.tmps[t]? =some (v (k+i)))→a=putsF D k v a9
 |[],k,v,a9,h,_=>by
  obtain⟨h1,h2,h3⟩:=h
  obtain⟨ta,da⟩:=a
  obtain⟨tb,db⟩:=a9
  obtain rfl:da=db:=h1
  obtain rfl:ta=tb:=Array.ext_getElem? fun t=>h3 t (by simp)
  rfl
 |t::ts,k,v,a9,h,hv=>by
  refine Fm.puts ts (k+1) v _ ⟨h.1,by simpa [Act.put]using h.2.1,fun s hs=>?_⟩ fun i s hi=>?_
  ·obtain⟨h1,h2⟩:=hv 0 t rfl
   by_cases e:t=s
   ·subst e
    rw[h2]
    simp[Act.put,Array.getElem?_setIfInBounds,h1]
   ·simp only[Act.put,Array.getElem?_setIfInBounds,e,if_false]
    exact h.2.2 s (by simp;exact⟨fun g=>e g.symm,hs⟩)
  ·obtain⟨h1,h2⟩:=hv (i+1) s hi
   exact⟨by simpa [Act.put]using h1,by rw[h2,Nat.add_right_comm,Nat.add_assoc]⟩
section
variable {P:Program} {ops:Array Oper} {Q:Exit→Act→World→Prop} {md:Region.Mode} {t:Nat}
def lateOk(md:Region.Mode)(ops:Array Oper)(m:Nat):Bool:=(List.range ops.size).all fun i=>decide (i<m)||((ops[i]?).map fun o=>(List.range m).all fun j=>o.after.any fun e=>Region.binds md e&&(e.on==j||((ops[e.on]?).map fun o2=>o2.after.any fun e2=>e2.on==j&&Region.binds md e2).getD false)).getD true
def earlyC(md:Region.Mode)(ops:Array Oper):Bool:=(List.range ops.size).all fun i=>((ops[i]?).map fun o=>o.after.all fun e=> !(Region.binds md e)||decide (e.on<i)).getD true
theorem all_upC{l:Array Bool}(h:earlyC md ops=true)(hs:l.size=ops.size)(hr:Region.ready md ops l=[])(i:Nat)(hi:i<ops.size):l.getD i false=true:=by
 induction i using Nat.strongRecOn with
 |_ i ih=>
  by_cases hc:l.getD i false=true
  ·exact hc
  ·have hm:i∈Region.ready md ops l:=by
    refine mem_ready.2 ⟨?_,ops[i],Array.getElem?_eq_getElem hi,fun e he hb=>?_⟩
    ·have hi':i<l.size:=by omega
     simp[hi']at hc ⊢
     exact hc
    ·have h1:=List.all_eq_true.1 h i (List.mem_range.2 hi)
     rw[Array.getElem?_eq_getElem hi]at h1
     simp only[Option.map_some,Option.getD_some]at h1
     have h2:=Array.all_eq_true_iff_forall_mem.1 h1 e he
     rw[hb]at h2
     have h3:e.on<i:=by simpa using h2
     exact ih e.on h3 (by omega)
   rw[hr]at hm
   cases hm
structure JF(md:Region.Mode)(ops:Array Oper)(D:List Tmp)(Y:Nat→Value→World→Prop)(N:Nat)(wb:World)(a9:Act)(l:Array Bool)(a:Act)(w:World):Prop where
 size:l.size=N
 late:∀i,D.length≤i→l.getD i false=false
 fm:Fm a9 a D
 bel:Below wb.heap.size wb w
 facts:∀i t,D[i]? =some t→l.getD i false=true→Y i (a.eval (.tmp t)) w
 dep:∀k o,ops[k]? =some o→l.getD k false=true→∀e∈o.after,Region.binds md e=true→l.getD e.on false=true
theorem getD_setA{l:Array Bool}{i j:Nat}{b:Bool}(hi:i<l.size):(l.setIfInBounds i b).getD j false=if i=j then b else l.getD j false:=by
 rw[Array.getD_eq_getD_getElem?,Array.getD_eq_getD_getElem?,Array.getElem?_setIfInBounds]
 by_cases e:i=j
 ·subst e;simp[hi]
 ·simp[e]
theorem AnyX.facts(D:List Tmp)(Y:Nat→Value→World→Prop)(wb:World)(a9:Act)(hnd:D.Nodup)(hts:∀t∈D,t<a9.tmps.size)(hm:D.length≤ops.size)
 (hY:∀i v w w',Y i v w→Below w.heap.size w w'→Y i v w') (hlt:lateOk md ops D.length=true) (hea:earlyC md ops=true)
 (hstep:∀i t a w,D[i]? =some t→Fm a9 a D→Below wb.heap.size wb w→(∀o j s,ops[i]? =some o→D[j]? =some s→o.after.any (fun e=>e.on==j&&Region.binds md e)=true→Y j (a.eval (.tmp s)) w)→wpOp P ops Q i (fun a' w'=>∃v,a'=a.put (some t) v∧Below w.heap.size w w'∧Y i v w') a w)
 (hdone:∀(v:Nat→Value) w,Below wb.heap.size wb w→(∀i,i<D.length→Y i (v i) w)→AnyX P md ops Q (fun _=>True) t (ops.size-D.length) ((Array.replicate D.length true)++(Array.replicate (ops.size-D.length) false)) (putsF D 0 v a9) w):
 ∀(f:Nat) (l:Array Bool) (a:Act) (w:World),JF md ops D Y ops.size wb a9 l a w→l.toList.countP (fun b=> !b)=f→AnyX P md ops Q (fun _=>True) t f l a w:=by
 have key:∀(l:Array Bool) (a:Act) (w:World),JF md ops D Y ops.size wb a9 l a w→(∀i,i<D.length→l.getD i false=true)→l=(Array.replicate D.length true)++(Array.replicate (ops.size-D.length) false):=fun l a w h hall=>by
  apply Array.ext_getElem?
  intro i
  rw[Array.getElem?_append]
  by_cases hi:i<D.length
  ·have h1:=hall i hi
   have h2:i<l.size:=by rw[h.size];omega
   simp[hi,h2]at h1 ⊢
   exact h1
  ·have h1:=h.late i (by omega)
   by_cases h3:i<ops.size
   ·have h2:i<l.size:=by rw[h.size];exact h3
    have h4:i-D.length<ops.size-D.length:=by omega
    simp[hi,h2,h4]at h1 ⊢
    exact h1
   ·have h2:¬i<l.size:=by rw[h.size];exact h3
    have h4:¬i-D.length<ops.size-D.length:=by omega
    simp[hi,h2,h4]
 intro f
 induction f with
 |zero=>
  intro l a w h hc
  have hall:∀i,i<D.length→l.getD i false=true:=fun i hi=>by
   have h2:i<l.size:=by rw[h.size];omega
   apply Classical.byContradiction
   intro hf
   have hv:l.toList[i]'(by simpa using h2)=false:=by
    simp[h2]at hf
    simpa using hf
   have:0<l.toList.countP (fun b=> !b):=List.countP_pos_iff.2 ⟨_,List.getElem_mem (by simpa using h2),by simp[hv]⟩
   omega
  have hl:=key l a w h hall
  have hsz:ops.size-D.length=0:=by
   rw[hl]at hc
   simp at hc
   exact hc
  have hd:=hdone (fun i=>a.eval (.tmp (D.getD i 0))) w h.bel fun i hi=>by
   have:=h.facts i D[i] (List.getElem?_eq_getElem hi) (hall i hi)
   simpa [List.getD_eq_getElem?_getD,List.getElem?_eq_getElem hi]using this
  have hp:=Fm.puts D 0 (fun i=>a.eval (.tmp (D.getD i 0))) a9 h.fm fun i t hi=>by
   have hlt2:=hts t (List.mem_of_getElem? hi)
   refine⟨hlt2,?_⟩
   have h2:t<a.tmps.size:=by rw[h.fm.2.1];exact hlt2
   rw[Nat.zero_add]
   simp[List.getD_eq_getElem?_getD,hi,Act.eval,h2]
  rw[←hp,←hl,hsz]at hd
  exact hd
 |succ f ih=>
  intro l a w h hc
  by_cases hall:∀i,i<D.length→l.getD i false=true
  ·have hl:=key l a w h hall
   have hsz:ops.size-D.length=f+1:=by
    rw[hl]at hc
    simp[List.countP_replicate]at hc
    exact hc
   have hd:=hdone (fun i=>a.eval (.tmp (D.getD i 0))) w h.bel fun i hi=>by
    have:=h.facts i D[i] (List.getElem?_eq_getElem hi) (hall i hi)
    simpa [List.getD_eq_getElem?_getD,List.getElem?_eq_getElem hi]using this
   have hp:=Fm.puts D 0 (fun i=>a.eval (.tmp (D.getD i 0))) a9 h.fm fun i t hi=>by
    have hlt2:=hts t (List.mem_of_getElem? hi)
    refine⟨hlt2,?_⟩
    have h2:t<a.tmps.size:=by rw[h.fm.2.1];exact hlt2
    rw[Nat.zero_add]
    simp[List.getD_eq_getElem?_getD,hi,Act.eval,h2]
   rw[←hp,←hl,hsz]at hd
   exact hd
  ·have hready:∀i∈Region.ready md ops l,i<D.length:=fun i hi=>by
    apply Classical.byContradiction
    intro hge
    obtain⟨h0,o,ho,hdep⟩:=mem_ready.1 hi
    have hio:i<ops.size:=(Array.getElem?_eq_some_iff.1 ho).1
    have h1:=List.all_eq_true.1 hlt i (List.mem_range.2 hio)
    rw[ho]at h1
    simp only[Option.map_some,Option.getD_some,Bool.or_eq_true,decide_eq_true_eq]at h1
    rcases h1 with h1|h1
    ·exact hge h1
    ·refine hall fun j hj=>?_
     have h2:=List.all_eq_true.1 h1 j (List.mem_range.2 hj)
     rw[Array.any_eq_true']at h2
     obtain⟨e,he,hb⟩:=h2
     simp only[Bool.and_eq_true,Bool.or_eq_true,beq_iff_eq]at hb
     have h3:=hdep e he hb.1
     rcases hb.2 with h4|h4
     ·rwa [h4]at h3
     ·cases ho2:ops[e.on]? with
      |none=>rw[ho2]at h4;cases h4
      |some o2=>
       rw[ho2]at h4
       simp only[Option.map_some,Option.getD_some]at h4
       rw[Array.any_eq_true']at h4
       obtain⟨e2,he2,hb2⟩:=h4
       simp only[Bool.and_eq_true,beq_iff_eq]at hb2
       have:=h.dep e.on o2 ho2 h3 e2 he2 hb2.2
       rwa [hb2.1]at this
   refine⟨fun hr=>absurd hr ?_,fun i hi=>?_⟩
   ·intro hr
    exact hall fun i hi=>all_upC hea h.size hr i (by omega)
   ·have hid:=hready i hi
    obtain⟨h0,o,ho,hdep⟩:=mem_ready.1 hi
    have hil:i<l.size:=by rw[h.size];exact (Array.getElem?_eq_some_iff.1 ho).1
    have hDi:D[i]? =some D[i]:=List.getElem?_eq_getElem hid
    refine wpOp_mono (fun a' w' hh=>⟨fun _=>trivial,?_⟩) (hstep i D[i] a w hDi h.fm h.bel fun o' j s ho' hs hb=>?_)
    ·obtain⟨v,rfl,hbw,hv⟩:=hh
     have hlt2:=hts _ (List.mem_of_getElem? hDi)
     refine ih _ _ w' ⟨by simpa using h.size,fun k hk=>?_,h.fm.put (List.getElem_mem hid) v,h.bel.trans (hbw.mono (Below.size h.bel)),fun k s hk hup=>?_,?_⟩ ?_
     ·rw[getD_setA hil,if_neg (by omega)];exact h.late k hk
     ·rw[getD_setA hil]at hup
      by_cases e:i=k
      ·subst e
       obtain rfl:D[i]=s:=by rw[hDi]at hk;exact Option.some.inj hk
       rw[eval_put_same (by rw[h.fm.2.1];exact hlt2)]
       exact hv
      ·rw[if_neg e]at hup
       have hne:D[i]≠s:=fun e2=>by
        obtain⟨hk1,hk2⟩:=List.getElem?_eq_some_iff.1 hk
        exact e ((List.getElem_inj hnd).1 (e2.trans hk2.symm))
       rw[eval_put_other hne]
       exact hY _ _ _ _ (h.facts k s hk hup) hbw
     ·intro k ok hok hup e he hbe
      rw[getD_setA hil]at hup ⊢
      by_cases ek:i=k
      ·subst ek
       rw[ho]at hok
       obtain rfl:=Option.some.inj hok
       have:=hdep e he hbe
       split<;>first|rfl|exact this
      ·rw[if_neg ek]at hup
       have:=h.dep k ok hok hup e he hbe
       split<;>first|rfl|exact this
     ·have hv2:l.toList[i]'(by simpa using hil)=false:=by
       simpa [hil]using h0
      have hp:0<l.toList.countP (fun b=> !b):=List.countP_pos_iff.2 ⟨_,List.getElem_mem (by simpa using hil),by simp[hv2]⟩
      rw[Array.toList_setIfInBounds,List.countP_set (by simpa using hil),hv2]
      simp only[Bool.not_false,Bool.not_true,if_true,Bool.false_eq_true,if_false]
      omega
    ·rw[ho]at ho'
     obtain rfl:=Option.some.inj ho'
     refine h.facts j s hs ?_
     rw[Array.any_eq_true']at hb
     obtain⟨e,he,hb⟩:=hb
     simp only[Bool.and_eq_true,beq_iff_eq]at hb
     have:=hdep e he hb.2
     rwa [hb.1]at this
theorem AnyX.factsGo(D:List Tmp)(Y:Nat→Value→World→Prop)(wb:World)(a9:Act)(hnd:D.Nodup)(hts:∀t∈D,t<a9.tmps.size)(hm:D.length≤ops.size)
 (hY:∀i v w w',Y i v w→Below w.heap.size w w'→Y i v w') (hlt:lateOk md ops D.length=true) (hea:earlyC md ops=true)
 (hstep:∀i t a w,D[i]? =some t→Fm a9 a D→Below wb.heap.size wb w→(∀o j s,ops[i]? =some o→D[j]? =some s→o.after.any (fun e=>e.on==j&&Region.binds md e)=true→Y j (a.eval (.tmp s)) w)→wpOp P ops Q i (fun a' w'=>∃v,a'=a.put (some t) v∧Below w.heap.size w w'∧Y i v w') a w)
 (hdone:∀(v:Nat→Value) w,Below wb.heap.size wb w→(∀i,i<D.length→Y i (v i) w)→AnyX P md ops Q (fun _=>True) t (ops.size-D.length) ((Array.replicate D.length true)++(Array.replicate (ops.size-D.length) false)) (putsF D 0 v a9) w):
 AnyX P md ops Q (fun _=>True) t ops.size (Array.replicate ops.size false) a9 wb:=by
 refine AnyX.facts D Y wb a9 hnd hts hm hY hlt hea hstep hdone _ _ _ _ ⟨by simp,fun i _=>?_,Fm.refl _ _,Below.refl _ _,fun i t _ hup=>?_,fun k o _ hup=>?_⟩ (by simp[List.countP_replicate])
 ·rw[Array.getD_eq_getD_getElem?,Array.getElem?_replicate];split<;>rfl
 ·rw[Array.getD_eq_getD_getElem?,Array.getElem?_replicate]at hup
  split at hup<;>cases hup
 ·rw[Array.getD_eq_getD_getElem?,Array.getElem?_replicate]at hup
  split at hup<;>cases hup
end
end Go.Proofs.YtcbllelkgniogaaDoor
