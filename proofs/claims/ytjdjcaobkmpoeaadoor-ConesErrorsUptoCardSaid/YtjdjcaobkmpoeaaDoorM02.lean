/- The texts Fct Co1 Sli Nam. -/
import Derived.Test.YtjdjcaobkmpoeaaDoorM01
namespace Go.Proofs.YtjdjcaobkmpoeaaDoor
open Go.RowKit
def Fm(a9 a:Act)(D:List Tmp):Prop:=a.defers=a9.defers∧a.tmps.size=a9.tmps.size∧∀t,t ∉ D→a.tmps[t]? =a9.tmps[t]?
theorem Fm.refl(a:Act)(D:List Tmp):Fm a a D:=⟨rfl,rfl,fun _ _=>rfl⟩
theorem Fm.eval{a9 a:Act}{D:List Tmp}(h:Fm a9 a D){t:Tmp}(ht:t ∉ D):a.eval (.tmp t)=a9.eval (.tmp t):=by
 have:=h.2.2 t ht
 simp[Act.eval,this]
theorem Fm.put{a9 a:Act}{D:List Tmp}(h:Fm a9 a D){t:Tmp}(ht:t∈D)(v:Value):Fm a9 (a.put (some t) v) D:=by
 refine⟨h.1,by simpa [Act.put]using h.2.1,fun s hs=>?_⟩
 have hne:t≠s:=fun e=>hs (e▸ht)
 simp only[Act.put,Array.getElem?_setIfInBounds,hne,if_false]
 exact h.2.2 s hs
theorem eval_put_same{a:Act}{t:Tmp}{v:Value}(h:t<a.tmps.size):(a.put (some t) v).eval (.tmp t)=v:=by
 simp[Act.put,Act.eval,Array.getElem?_setIfInBounds,h]
theorem eval_put_other{a:Act}{s t:Tmp}{v:Value}(h:t≠s):(a.put (some t) v).eval (.tmp s)=a.eval (.tmp s):=by
 simp[Act.put,Act.eval,Array.getElem?_setIfInBounds,h]
def putsF:List Tmp→Nat→(Nat→Value)→Act→Act
 |[],_,_,a=>a
 |t::ts,k,v,a=>putsF ts (k+1) v (a.put (some t) (v k))
theorem Fm.puts{a:Act} :∀(D:List Tmp) (k:Nat) (v:Nat→Value) (a9:Act),Fm a9 a D→(∀i t,D[i]? =some t→t<a9.tmps.size∧a.tmps[t]? =some (v (k+i)))→a=putsF D k v a9
 |[],k,v,a9,h,_=>by
  obtain⟨h1,h2,h3⟩:=h
  obtain⟨ta,da⟩:=a
  obtain⟨tb,db⟩:=a9
  obtain rfl:da=db:=h1
  obtain rfl:ta=tb:=Array.ext_getElem? fun t=>h3 t (by simp)
  rfl
 |t::ts,k,v,a9,h,hv=>by
  refine Fm.puts ts (k+1) v _ ⟨h.1,by simpa [Act.put]using h.2.1,fun s hs=>?_⟩ fun i s hi=>?_
  ·obtain⟨h1,h2⟩:=hv 0 t rfl
   by_cases e:t=s
   ·subst e
    rw[h2]
    simp[Act.put,Array.getElem?_setIfInBounds,h1]
   ·simp only[Act.put,Array.getElem?_setIfInBounds,e,if_false]
    exact h.2.2 s (by simp;exact⟨fun g=>e g.symm,hs⟩)
  ·obtain⟨h1,h2⟩:=hv (i+1) s hi
   exact⟨by simpa [Act.put]using h1,by rw[h2,Nat.add_right_comm,Nat.add_assoc]⟩
section
variable {P:Program} {ops:Array Oper} {Q:Exit→Act→World→Prop} {md:Region.Mode} {t:Nat}
def lateOk(md:Region.Mode)(ops:Array Oper)(m:Nat):Bool:=(List.range ops.size).all fun i=>decide (i<m)||((ops[i]?).map fun o=>(List.range m).all fun j=>o.after.any fun e=>Region.binds md e&&(e.on==j||((ops[e.on]?).map fun o2=>o2.after.any fun e2=>e2.on==j&&Region.binds md e2).getD false)).getD true
def earlyC(md:Region.Mode)(ops:Array Oper):Bool:=(List.range ops.size).all fun i=>((ops[i]?).map fun o=>o.after.all fun e=> !(Region.binds md e)||decide (e.on<i)).getD true
theorem all_upC{l:Array Bool}(h:earlyC md ops=true)(hs:l.size=ops.size)(hr:Region.ready md ops l=[])(i:Nat)(hi:i<ops.size):l.getD i false=true:=by
 induction i using Nat.strongRecOn with
 |_ i ih=>
  by_cases hc:l.getD i false=true
  ·exact hc
  ·have hm:i∈Region.ready md ops l:=by
    refine mem_ready.2 ⟨?_,ops[i],Array.getElem?_eq_getElem hi,fun e he hb=>?_⟩
    ·have hi':i<l.size:=by omega
     simp[hi']at hc ⊢
     exact hc
    ·have h1:=List.all_eq_true.1 h i (List.mem_range.2 hi)
     rw[Array.getElem?_eq_getElem hi]at h1
     simp only[Option.map_some,Option.getD_some]at h1
     have h2:=Array.all_eq_true_iff_forall_mem.1 h1 e he
     rw[hb]at h2
     have h3:e.on<i:=by simpa using h2
     exact ih e.on h3 (by omega)
   rw[hr]at hm
   cases hm
structure JF(md:Region.Mode)(ops:Array Oper)(D:List Tmp)(Y:Nat→Value→World→Prop)(N:Nat)(wb:World)(a9:Act)(l:Array Bool)(a:Act)(w:World):Prop where
 size:l.size=N
 late:∀i,D.length≤i→l.getD i false=false
 fm:Fm a9 a D
 bel:Below wb.heap.size wb w
 facts:∀i t,D[i]? =some t→l.getD i false=true→Y i (a.eval (.tmp t)) w
 dep:∀k o,ops[k]? =some o→l.getD k false=true→∀e∈o.after,Region.binds md e=true→l.getD e.on false=true
theorem getD_setA{l:Array Bool}{i j:Nat}{b:Bool}(hi:i<l.size):(l.setIfInBounds i b).getD j false=if i=j then b else l.getD j false:=by
 rw[Array.getD_eq_getD_getElem?,Array.getD_eq_getD_getElem?,Array.getElem?_setIfInBounds]
 by_cases e:i=j
 ·subst e;simp[hi]
 ·simp[e]
theorem AnyX.facts(D:List Tmp)(Y:Nat→Value→World→Prop)(wb:World)(a9:Act)(hnd:D.Nodup)(hts:∀t∈D,t<a9.tmps.size)(hm:D.length≤ops.size)
 (hY:∀i v w w',Y i v w→Below w.heap.size w w'→Y i v w') (hlt:lateOk md ops D.length=true) (hea:earlyC md ops=true)
 (hstep:∀i t a w,D[i]? =some t→Fm a9 a D→Below wb.heap.size wb w→(∀o j s,ops[i]? =some o→D[j]? =some s→o.after.any (fun e=>e.on==j&&Region.binds md e)=true→Y j (a.eval (.tmp s)) w)→wpOp P ops Q i (fun a' w'=>∃v,a'=a.put (some t) v∧Below w.heap.size w w'∧Y i v w') a w)
 (hdone:∀(v:Nat→Value) w,Below wb.heap.size wb w→(∀i,i<D.length→Y i (v i) w)→AnyX P md ops Q (fun _=>True) t (ops.size-D.length) ((Array.replicate D.length true)++(Array.replicate (ops.size-D.length) false)) (putsF D 0 v a9) w):
 ∀(f:Nat) (l:Array Bool) (a:Act) (w:World),JF md ops D Y ops.size wb a9 l a w→l.toList.countP (fun b=> !b)=f→AnyX P md ops Q (fun _=>True) t f l a w:=by
 have key:∀(l:Array Bool) (a:Act) (w:World),JF md ops D Y ops.size wb a9 l a w→(∀i,i<D.length→l.getD i false=true)→l=(Array.replicate D.length true)++(Array.replicate (ops.size-D.length) false):=fun l a w h hall=>by
  apply Array.ext_getElem?
  intro i
  rw[Array.getElem?_append]
  by_cases hi:i<D.length
  ·have h1:=hall i hi
   have h2:i<l.size:=by rw[h.size];omega
   simp[hi,h2]at h1 ⊢
   exact h1
  ·have h1:=h.late i (by omega)
   by_cases h3:i<ops.size
   ·have h2:i<l.size:=by rw[h.size];exact h3
    have h4:i-D.length<ops.size-D.length:=by omega
    simp[hi,h2,h4]at h1 ⊢
    exact h1
   ·have h2:¬i<l.size:=by rw[h.size];exact h3
    have h4:¬i-D.length<ops.size-D.length:=by omega
    simp[hi,h2,h4]
 intro f
 induction f with
 |zero=>
  intro l a w h hc
  have hall:∀i,i<D.length→l.getD i false=true:=fun i hi=>by
   have h2:i<l.size:=by rw[h.size];omega
   apply Classical.byContradiction
   intro hf
   have hv:l.toList[i]'(by simpa using h2)=false:=by
    simp[h2]at hf
    simpa using hf
   have:0<l.toList.countP (fun b=> !b):=List.countP_pos_iff.2 ⟨_,List.getElem_mem (by simpa using h2),by simp[hv]⟩
   omega
  have hl:=key l a w h hall
  have hsz:ops.size-D.length=0:=by
   rw[hl]at hc
   simp at hc
   exact hc
  have hd:=hdone (fun i=>a.eval (.tmp (D.getD i 0))) w h.bel fun i hi=>by
   have:=h.facts i D[i] (List.getElem?_eq_getElem hi) (hall i hi)
   simpa [List.getD_eq_getElem?_getD,List.getElem?_eq_getElem hi]using this
  have hp:=Fm.puts D 0 (fun i=>a.eval (.tmp (D.getD i 0))) a9 h.fm fun i t hi=>by
   have hlt2:=hts t (List.mem_of_getElem? hi)
   refine⟨hlt2,?_⟩
   have h2:t<a.tmps.size:=by rw[h.fm.2.1];exact hlt2
   rw[Nat.zero_add]
   simp[List.getD_eq_getElem?_getD,hi,Act.eval,h2]
  rw[←hp,←hl,hsz]at hd
  exact hd
 |succ f ih=>
  intro l a w h hc
  by_cases hall:∀i,i<D.length→l.getD i false=true
  ·have hl:=key l a w h hall
   have hsz:ops.size-D.length=f+1:=by
    rw[hl]at hc
    simp[List.countP_replicate]at hc
    exact hc
   have hd:=hdone (fun i=>a.eval (.tmp (D.getD i 0))) w h.bel fun i hi=>by
    have:=h.facts i D[i] (List.getElem?_eq_getElem hi) (hall i hi)
    simpa [List.getD_eq_getElem?_getD,List.getElem?_eq_getElem hi]using this
   have hp:=Fm.puts D 0 (fun i=>a.eval (.tmp (D.getD i 0))) a9 h.fm fun i t hi=>by
    have hlt2:=hts t (List.mem_of_getElem? hi)
    refine⟨hlt2,?_⟩
    have h2:t<a.tmps.size:=by rw[h.fm.2.1];exact hlt2
    rw[Nat.zero_add]
    simp[List.getD_eq_getElem?_getD,hi,Act.eval,h2]
   rw[←hp,←hl,hsz]at hd
   exact hd
  ·have hready:∀i∈Region.ready md ops l,i<D.length:=fun i hi=>by
    apply Classical.byContradiction
    intro hge
    obtain⟨h0,o,ho,hdep⟩:=mem_ready.1 hi
    have hio:i<ops.size:=(Array.getElem?_eq_some_iff.1 ho).1
    have h1:=List.all_eq_true.1 hlt i (List.mem_range.2 hio)
    rw[ho]at h1
    simp only[Option.map_some,Option.getD_some,Bool.or_eq_true,decide_eq_true_eq]at h1
    rcases h1 with h1|h1
    ·exact hge h1
    ·refine hall fun j hj=>?_
     have h2:=List.all_eq_true.1 h1 j (List.mem_range.2 hj)
     rw[Array.any_eq_true']at h2
     obtain⟨e,he,hb⟩:=h2
     simp only[Bool.and_eq_true,Bool.or_eq_true,beq_iff_eq]at hb
     have h3:=hdep e he hb.1
     rcases hb.2 with h4|h4
     ·rwa [h4]at h3
     ·cases ho2:ops[e.on]? with
      |none=>rw[ho2]at h4;cases h4
      |some o2=>
       rw[ho2]at h4
       simp only[Option.map_some,Option.getD_some]at h4
       rw[Array.any_eq_true']at h4
       obtain⟨e2,he2,hb2⟩:=h4
       simp only[Bool.and_eq_true,beq_iff_eq]at hb2
       have:=h.dep e.on o2 ho2 h3 e2 he2 hb2.2
       rwa [hb2.1]at this
   refine⟨fun hr=>absurd hr ?_,fun i hi=>?_⟩
   ·intro hr
    exact hall fun i hi=>all_upC hea h.size hr i (by omega)
   ·have hid:=hready i hi
    obtain⟨h0,o,ho,hdep⟩:=mem_ready.1 hi
    have hil:i<l.size:=by rw[h.size];exact (Array.getElem?_eq_some_iff.1 ho).1
    have hDi:D[i]? =some D[i]:=List.getElem?_eq_getElem hid
    refine wpOp_mono (fun a' w' hh=>⟨fun _=>trivial,?_⟩) (hstep i D[i] a w hDi h.fm h.bel fun o' j s ho' hs hb=>?_)
    ·obtain⟨v,rfl,hbw,hv⟩:=hh
     have hlt2:=hts _ (List.mem_of_getElem? hDi)
     refine ih _ _ w' ⟨by simpa using h.size,fun k hk=>?_,h.fm.put (List.getElem_mem hid) v,h.bel.trans (hbw.mono (Below.size h.bel)),fun k s hk hup=>?_,?_⟩ ?_
     ·rw[getD_setA hil,if_neg (by omega)];exact h.late k hk
     ·rw[getD_setA hil]at hup
      by_cases e:i=k
      ·subst e
       obtain rfl:D[i]=s:=by rw[hDi]at hk;exact Option.some.inj hk
       rw[eval_put_same (by rw[h.fm.2.1];exact hlt2)]
       exact hv
      ·rw[if_neg e]at hup
       have hne:D[i]≠s:=fun e2=>by
        obtain⟨hk1,hk2⟩:=List.getElem?_eq_some_iff.1 hk
        exact e ((List.getElem_inj hnd).1 (e2.trans hk2.symm))
       rw[eval_put_other hne]
       exact hY _ _ _ _ (h.facts k s hk hup) hbw
     ·intro k ok hok hup e he hbe
      rw[getD_setA hil]at hup ⊢
      by_cases ek:i=k
      ·subst ek
       rw[ho]at hok
       obtain rfl:=Option.some.inj hok
       have:=hdep e he hbe
       split<;>first|rfl|exact this
      ·rw[if_neg ek]at hup
       have:=h.dep k ok hok hup e he hbe
       split<;>first|rfl|exact this
     ·have hv2:l.toList[i]'(by simpa using hil)=false:=by
       simpa [hil]using h0
      have hp:0<l.toList.countP (fun b=> !b):=List.countP_pos_iff.2 ⟨_,List.getElem_mem (by simpa using hil),by simp[hv2]⟩
      rw[Array.toList_setIfInBounds,List.countP_set (by simpa using hil),hv2]
      simp only[Bool.not_false,Bool.not_true,if_true,Bool.false_eq_true,if_false]
      omega
    ·rw[ho]at ho'
     obtain rfl:=Option.some.inj ho'
     refine h.facts j s hs ?_
     rw[Array.any_eq_true']at hb
     obtain⟨e,he,hb⟩:=hb
     simp only[Bool.and_eq_true,beq_iff_eq]at hb
     have:=hdep e he hb.2
     rwa [hb.1]at this
theorem AnyX.factsGo(D:List Tmp)(Y:Nat→Value→World→Prop)(wb:World)(a9:Act)(hnd:D.Nodup)(hts:∀t∈D,t<a9.tmps.size)(hm:D.length≤ops.size)
 (hY:∀i v w w',Y i v w→Below w.heap.size w w'→Y i v w') (hlt:lateOk md ops D.length=true) (hea:earlyC md ops=true)
 (hstep:∀i t a w,D[i]? =some t→Fm a9 a D→Below wb.heap.size wb w→(∀o j s,ops[i]? =some o→D[j]? =some s→o.after.any (fun e=>e.on==j&&Region.binds md e)=true→Y j (a.eval (.tmp s)) w)→wpOp P ops Q i (fun a' w'=>∃v,a'=a.put (some t) v∧Below w.heap.size w w'∧Y i v w') a w)
 (hdone:∀(v:Nat→Value) w,Below wb.heap.size wb w→(∀i,i<D.length→Y i (v i) w)→AnyX P md ops Q (fun _=>True) t (ops.size-D.length) ((Array.replicate D.length true)++(Array.replicate (ops.size-D.length) false)) (putsF D 0 v a9) w):
 AnyX P md ops Q (fun _=>True) t ops.size (Array.replicate ops.size false) a9 wb:=by
 refine AnyX.facts D Y wb a9 hnd hts hm hY hlt hea hstep hdone _ _ _ _ ⟨by simp,fun i _=>?_,Fm.refl _ _,Below.refl _ _,fun i t _ hup=>?_,fun k o _ hup=>?_⟩ (by simp[List.countP_replicate])
 ·rw[Array.getD_eq_getD_getElem?,Array.getElem?_replicate];split<;>rfl
 ·rw[Array.getD_eq_getD_getElem?,Array.getElem?_replicate]at hup
  split at hup<;>cases hup
 ·rw[Array.getD_eq_getD_getElem?,Array.getElem?_replicate]at hup
  split at hup<;>cases hup
end
def bat(R:List Bool)(j:Nat):Bool:=R.getD j false
inductive Rr (nx:Nat→List Int) (l:List Int):Int→Prop
 |base {x:Int} (h:x∈l):Rr nx l x
 |step {x y:Int} (h:Rr nx l x) (hy:y∈nx x.toNat):Rr nx l y
theorem Rr.trans{nx:Nat→List Int}{l k:List Int}{y:Int}(h:Rr nx k y)(hk:∀x∈k,Rr nx l x):Rr nx l y:=by
 induction h with
 |base h=>exact hk _ h
 |step _ hy ih=>exact .step ih hy
theorem Rr.mono{nx:Nat→List Int}{l k:List Int}{y:Int}(h:Rr nx l y)(hk:∀x∈l,x∈k):Rr nx k y:=h.trans fun x hx=>.base (hk x hx)
def Inr(n:Nat)(l:List Int):Prop:=∀x∈l,0≤x∧x<(n:Int)
theorem Rr.inr{n:Nat}{nx:Nat→List Int}{l:List Int}{y:Int}(h:Rr nx l y)(hl:Inr n l)(hn:∀j,Inr n (nx j)):0≤y∧y<(n:Int):=by
 cases h with
 |base h=>exact hl _ h
 |step _ hy=>exact hn _ _ hy
structure Vis(nx:Nat→List Int)(n:Nat)(R:List Bool)(l:List Int)(R':List Bool):Prop where
 len:R'.length=n
 mono:∀j,bat R j=true→bat R' j=true
 has:∀x∈l,bat R' x.toNat=true
 shut:∀j,bat R' j=true→bat R j=false→∀y∈nx j,bat R' y.toNat=true
 sound:∀j:Nat,bat R' j=true→bat R j=true∨Rr nx l (j:Int)
theorem Vis.nil{nx:Nat→List Int}{n:Nat}{R:List Bool}(h:R.length=n):Vis nx n R [] R:=
 ⟨h,fun _ h=>h,fun x hx=>(by cases hx),fun j h1 h2=>(by rw[h1]at h2;cases h2),fun j h=>.inl h⟩
theorem bat_set{R:List Bool}{i j:Nat}{b:Bool}(hi:i<R.length):bat (R.set i b) j=if j=i then b else bat R j:=by
 unfold bat
 rw[List.getD_eq_getElem?_getD,List.getD_eq_getElem?_getD,List.getElem?_set]
 by_cases h:i=j
 ·subst h;rw[if_pos rfl,if_pos hi,if_pos rfl];rfl
 ·rw[if_neg h,if_neg (fun e=>h e.symm)]
theorem bat_lt{R:List Bool}{j:Nat}(h:bat R j=true):j<R.length:=by
 rcases Nat.lt_or_ge j R.length with h1|h1
 ·exact h1
 ·unfold bat at h;rw[List.getD_eq_getElem?_getD,List.getElem?_eq_none h1]at h;cases h
theorem Vis.skip{nx:Nat→List Int}{n:Nat}{R R1:List Bool}{l:List Int}{x:Int}(h:Vis nx n R l R1)(hx:bat R1 x.toNat=true):Vis nx n R (l++[x]) R1:=
 ⟨h.len,h.mono,fun y hy=>by
  rcases List.mem_append.1 hy with hy|hy
  ·exact h.has y hy
  ·obtain rfl:y=x:=by simpa using hy
   exact hx,h.shut,fun j hj=>(h.sound j hj).imp id fun h=>h.mono fun y hy=>List.mem_append_left _ hy⟩
theorem Vis.go{nx:Nat→List Int}{n:Nat}{R R1 R2:List Bool}{l:List Int}{x:Int}(h:Vis nx n R l R1)(h0:0≤x)(hx1:x<(n:Int))(hx:bat R1 x.toNat=false)(h2:Vis nx n (R1.set x.toNat true) (nx x.toNat) R2):Vis nx n R (l++[x]) R2:=by
 have hlt:x.toNat<R1.length:=by rw[h.len];omega
 have hs:∀j,bat (R1.set x.toNat true) j=if j=x.toNat then true else bat R1 j:=fun j=>bat_set hlt
 have hm1:∀j,bat R1 j=true→bat R2 j=true:=fun j hj=>h2.mono j (by rw[hs];split<;>simp[hj])
 have hxx:bat R2 x.toNat=true:=h2.mono _ (by rw[hs,if_pos rfl])
 have e:((x.toNat:Nat):Int)=x:=Int.toNat_of_nonneg h0
 refine⟨h2.len,fun j hj=>hm1 j (h.mono j hj),fun y hy=>?_,fun j hj hn y hy=>?_,fun j hj=>?_⟩
 ·rcases List.mem_append.1 hy with hy|hy
  ·exact hm1 _ (h.has y hy)
  ·obtain rfl:y=x:=by simpa using hy
   exact hxx
 ·by_cases hj1:bat R1 j=true
  ·exact hm1 _ (h.shut j hj1 hn y hy)
  ·by_cases hjx:j=x.toNat
   ·subst hjx;exact h2.has y hy
   ·exact h2.shut j hj (by rw[hs,if_neg hjx];simpa using hj1) y hy
 ·rcases h2.sound j hj with hj|hj
  ·rw[hs]at hj
   split at hj
   ·rename_i hjx
    exact .inr (.base (by rw[hjx,e];simp))
   ·exact (h.sound j hj).imp id fun h=>h.mono fun y hy=>List.mem_append_left _ hy
  ·exact .inr (hj.trans fun y hy=>.step (.base (by simp)) hy)
def fls(R:List Bool):Nat:=R.countP fun b=> !b
theorem fls_set:∀ {R:List Bool} {i:Nat},i<R.length→bat R i=false→fls (R.set i true)+1=fls R
 |[],_,h,_=>by simp at h
 |a::R,0,_,h=>by
  have:a=false:=h
  subst this
  simp[fls]
 |a::R,i+1,h,hf=>by
  have ih:=fls_set (R:=R) (i:=i) (by simpa using h) hf
  simp only[fls,List.set_cons_succ,List.countP_cons]at ih ⊢
  omega
theorem fls_mono:∀ {R R':List Bool},R'.length=R.length→(∀j,bat R j=true→bat R' j=true)→fls R'≤fls R
 |[],[],_,_=>Nat.le_refl _
 |[],_::_,h,_=>by simp at h
 |_::_,[],h,_=>by simp at h
 |a::R,b::R',h,hm=>by
  have ih:=fls_mono (R:=R) (R':=R') (by simpa using h) fun j hj=>hm (j+1) hj
  have h0:=hm 0
  have h1:bat (a::R) 0=a:=rfl
  have h2:bat (b::R') 0=b:=rfl
  rw[h1,h2]at h0
  simp only[fls,List.countP_cons]at ih ⊢
  cases a<;>cases b<;>simp_all<;>omega
theorem bat_rep(n j:Nat):bat (List.replicate n false) j=false:=by
 unfold bat
 rw[List.getD_eq_getElem?_getD,List.getElem?_replicate]
 split<;>rfl
theorem Vis.all{nx:Nat→List Int}{n:Nat}{l:List Int}{R':List Bool}(h:Vis nx n (List.replicate n false) l R')(j:Nat):bat R' j=true↔Rr nx l (j:Int):=by
 constructor
 ·intro hj
  rcases h.sound j hj with h1|h1
  ·rw[bat_rep]at h1;cases h1
  ·exact h1
 ·intro hj
  have key:∀y:Int,Rr nx l y→bat R' y.toNat=true:=fun y hy=>by
   induction hy with
   |base hx=>exact h.has _ hx
   |step _ hy ih=>exact h.shut _ ih (bat_rep _ _) _ hy
  simpa using key _ hj
theorem ext_bat{R R':List Bool}(hl:R.length=R'.length)(h:∀j,j<R.length→(bat R j=true↔bat R' j=true)):R=R':=by
 apply List.ext_getElem hl
 intro i h1 h2
 have:=h i h1
 unfold bat at this
 rw[List.getD_eq_getElem?_getD,List.getD_eq_getElem?_getD,List.getElem?_eq_getElem h1,List.getElem?_eq_getElem h2]at this
 exact Bool.eq_iff_iff.2 this
def cloS(nx:Nat→List Int)(n:Nat)(R:List Bool):List Bool:=(List.range n).map fun(j:Nat)=>bat R j||(List.range n).any fun k=>bat R k&&(nx k).contains (j:Int)
def cloN(nx:Nat→List Int)(n:Nat)(l:List Int):Nat→List Bool
 |0=>(List.range n).map fun(j:Nat)=>l.contains (j:Int)
 |r+1=>cloS nx n (cloN nx n l r)
theorem bat_range{n j:Nat}(f:Nat→Bool)(h:j<n):bat ((List.range n).map f) j=f j:=by
 unfold bat
 rw[List.getD_eq_getElem?_getD,List.getElem?_map,List.getElem?_range h]
 rfl
theorem cloN_len(nx:Nat→List Int)(n:Nat)(l:List Int):∀r,(cloN nx n l r).length=n
 |0=>by simp[cloN]
 |r+1=>by simp[cloN,cloS]
theorem cloN_sound(nx:Nat→List Int)(n:Nat)(l:List Int):∀(r j:Nat),bat (cloN nx n l r) j=true→Rr nx l (j:Int)
 |0,j,h=>by
  have hj:=bat_lt h
  rw[cloN_len]at hj
  unfold cloN at h
  rw[bat_range _ hj,List.contains_iff_mem]at h
  exact .base h
 |r+1,j,h=>by
  have hj:=bat_lt h
  rw[cloN_len]at hj
  unfold cloN cloS at h
  rw[bat_range _ hj,Bool.or_eq_true,List.any_eq_true]at h
  rcases h with h| ⟨k,hk,h⟩
  ·exact cloN_sound nx n l r j h
  ·rw[Bool.and_eq_true,List.contains_iff_mem]at h
   exact .step (x:=(k:Int)) (cloN_sound nx n l r k h.1) (by simpa using h.2)
theorem cloN_all{nx:Nat→List Int}{n:Nat}{l:List Int}{r:Nat}(hl:Inr n l)(hn:∀j,Inr n (nx j))(h:cloS nx n (cloN nx n l r)=cloN nx n l r)(h0:∀x∈l,bat (cloN nx n l r) x.toNat=true)(j:Nat)(hj:j<n):bat (cloN nx n l r) j=true↔Rr nx l (j:Int):=by
 refine⟨cloN_sound nx n l r j,fun hr=>?_⟩
 have key:∀y:Int,Rr nx l y→bat (cloN nx n l r) y.toNat=true:=fun y hy=>by
  induction hy with
  |base hx=>exact h0 _ hx
  | @step x y hx hy ih=>
    have h1:=hx.inr hl hn
    have h2:=hn _ _ hy
    rw[←h]
    unfold cloS
    rw[bat_range _ (by omega),Bool.or_eq_true,List.any_eq_true]
    refine .inr ⟨x.toNat,List.mem_range.2 (by omega),?_⟩
    rw[Bool.and_eq_true,List.contains_iff_mem,Int.toNat_of_nonneg h2.1]
    exact⟨ih,hy⟩
 simpa using key _ hr
theorem Vis.lit{nx:Nat→List Int}{n:Nat}{l:List Int}{R':List Bool}(h:Vis nx n (List.replicate n false) l R')(hl:Inr n l)(hn:∀j,Inr n (nx j)){r:Nat}{S:List Bool}(hS:cloN nx n l r=S)(h1:cloS nx n S=S)(h0:∀x∈l,bat S x.toNat=true):R'=S:=by
 subst hS
 refine ext_bat (h.len.trans (cloN_len _ _ _ _).symm) fun j hj=>?_
 rw[h.len]at hj
 rw[h.all,cloN_all hl hn h1 h0 j hj]
def memB(R:List Bool)(k:Nat):List Int:=((List.range k).filter (bat R)).map fun(j:Nat)=>(j:Int)
theorem memB_succ(R:List Bool)(k:Nat):memB R (k+1)=memB R k++(if bat R k=true then [(k:Int)] else []):=by
 unfold memB
 rw[List.range_succ,List.filter_append,List.map_append]
 by_cases h:bat R k=true
 ·rw[if_pos h,List.filter_cons_of_pos h];rfl
 ·rw[if_neg h,List.filter_cons_of_neg h];rfl
theorem mem_memB{R:List Bool}{k:Nat}{x:Int} :x∈memB R k↔∃j:Nat,j<k∧x=(j:Int)∧bat R j=true:=by
 unfold memB
 constructor
 ·intro h
  obtain⟨j,hj,rfl⟩:=List.mem_map.1 h
  obtain⟨h1,h2⟩:=List.mem_filter.1 hj
  exact⟨j,List.mem_range.1 h1,rfl,h2⟩
 ·rintro⟨j,h1,rfl,h2⟩
  exact List.mem_map.2 ⟨j,List.mem_filter.2 ⟨List.mem_range.2 h1,h2⟩,rfl⟩
theorem memB_len(R:List Bool)(k:Nat):(memB R k).length≤k:=by
 unfold memB
 rw[List.length_map]
 exact Nat.le_trans (List.length_filter_le _ _) (by simp)
def Arr{α:Type}(d:α)(sz:Nat)(R:World→Nat→Nat→Nat→α→Prop)(w:World)(B:Nat)(v:Value)(l:List α):Prop:=
 ∃A b o c,v=.slice A l.length c∧(0<l.length→A=some ⟨b,o,none⟩)∧l.length≤c∧l.length≤maxLen∧∀k,k<l.length→b<B∧R w B b (o+k*sz) (l.getD k d)
def Stays{α:Type}(R:World→Nat→Nat→Nat→α→Prop):Prop:=
 ∀w w' B B' b p x,b<B→B≤B'→R w B b p x→(∀q:Addr,q.block<B→w'.cell? q=w.cell? q)→R w' B' b p x
theorem Arr.keep{α:Type}{d:α}{sz:Nat}{R:World→Nat→Nat→Nat→α→Prop}(hR:Stays R){w w':World}{B B':Nat}{v:Value}{l:List α}(h:Arr d sz R w B v l)(hB:B≤B')(hk:∀q:Addr,q.block<B→w'.cell? q=w.cell? q):Arr d sz R w' B' v l:=by
 obtain⟨A,b,o,c,h1,h2,h3,h4,h5⟩:=h
 exact⟨A,b,o,c,h1,h2,h3,h4,fun k hk'=>⟨Nat.lt_of_lt_of_le (h5 k hk').1 hB,hR _ _ _ _ _ _ _ (h5 k hk').1 hB (h5 k hk').2 hk⟩⟩
theorem Arr.nil{α:Type}(d:α)(sz:Nat)(R:World→Nat→Nat→Nat→α→Prop)(w:World)(B:Nat):Arr d sz R w B (.slice none 0 0) []:=
 ⟨none,0,0,0,rfl,fun h=>absurd h (by simp),by simp,by simp,fun k hk=>absurd hk (by simp)⟩
def IntAt(w:World)(_B b p:Nat)(x:Int):Prop:=w.cell? ⟨b,p,none⟩=some (.int .i64 x)
def StrAt(w:World)(_B b p:Nat)(x:ByteArray):Prop:=w.cell? ⟨b,p,none⟩=some (.string x)∧x.size≤maxLen
def Is(w:World)(B:Nat)(v:Value)(l:List Int):Prop:=Arr 0 1 IntAt w B v l
def Ss(w:World)(B:Nat)(v:Value)(l:List ByteArray):Prop:=Arr ByteArray.empty 1 StrAt w B v l
def NdAt(w:World)(B b p:Nat)(x:Nd):Prop:=
 ∃s,w.cell? ⟨b,p,none⟩=some (.int .u8 x.kind)∧w.cell? ⟨b,p+1,none⟩=some s∧w.cell? ⟨b,p+2,none⟩=some (.int .i64 x.mem)∧w.cell? ⟨b,p+3,none⟩=some (.int .i64 x.bit)∧Is w B s x.ins∧0≤x.kind∧x.kind≤255
def MmAt(w:World)(B b p:Nat)(x:Mm):Prop:=
 ∃s t,w.cell? ⟨b,p,none⟩=some s∧w.cell? ⟨b,p+1,none⟩=some t∧w.cell? ⟨b,p+2,none⟩=some (.int .i64 x.write)∧Is w B s x.addr∧Is w B t x.data
def Ns(w:World)(B:Nat)(v:Value)(l:List Nd):Prop:=Arr default 4 NdAt w B v l
def Ms(w:World)(B:Nat)(v:Value)(l:List Mm):Prop:=Arr default 3 MmAt w B v l
theorem stays_int:Stays IntAt:=fun w w' B B' b p x hb hB h hk=>(hk ⟨b,p,none⟩ hb).trans h
theorem stays_str:Stays StrAt:=fun w w' B B' b p x hb hB h hk=>⟨(hk ⟨b,p,none⟩ hb).trans h.1,h.2⟩
theorem Is.keep{w w':World}{B B':Nat}{v:Value}{l:List Int}(h:Is w B v l)(hB:B≤B')(hk:∀q:Addr,q.block<B→w'.cell? q=w.cell? q):Is w' B' v l:=Arr.keep stays_int h hB hk
theorem stays_nd:Stays NdAt:=fun w w' B B' b p x hb hB ⟨s,h0,h1,h2,h3,h4,h5,h6⟩ hk=>
 ⟨s,(hk ⟨b,p,none⟩ hb).trans h0,(hk ⟨b,p+1,none⟩ hb).trans h1,(hk ⟨b,p+2,none⟩ hb).trans h2,(hk ⟨b,p+3,none⟩ hb).trans h3,h4.keep hB hk,h5,h6⟩
theorem stays_mm:Stays MmAt:=fun w w' B B' b p x hb hB ⟨s,t,h0,h1,h2,h4,h5⟩ hk=>
 ⟨s,t,(hk ⟨b,p,none⟩ hb).trans h0,(hk ⟨b,p+1,none⟩ hb).trans h1,(hk ⟨b,p+2,none⟩ hb).trans h2,h4.keep hB hk,h5.keep hB hk⟩
theorem Ss.keep{w w':World}{B B':Nat}{v:Value}{l:List ByteArray}(h:Ss w B v l)(hB:B≤B')(hk:∀q:Addr,q.block<B→w'.cell? q=w.cell? q):Ss w' B' v l:=Arr.keep stays_str h hB hk
theorem Ns.keep{w w':World}{B B':Nat}{v:Value}{l:List Nd}(h:Ns w B v l)(hB:B≤B')(hk:∀q:Addr,q.block<B→w'.cell? q=w.cell? q):Ns w' B' v l:=Arr.keep stays_nd h hB hk
theorem Ms.keep{w w':World}{B B':Nat}{v:Value}{l:List Mm}(h:Ms w B v l)(hB:B≤B')(hk:∀q:Addr,q.block<B→w'.cell? q=w.cell? q):Ms w' B' v l:=Arr.keep stays_mm h hB hk
def Cir(w:World)(B:Nat)(v:Value)(x:Ck):Prop:=
 ∃v0 v1 v2 v3,v=.agg #[v0,v1,v2,v3]∧Ns w B v0 x.nodes∧Ss w B v1 x.names∧Ms w B v2 x.mems∧Is w B v3 x.outs
theorem Cir.keep{w w':World}{B B':Nat}{v:Value}{x:Ck}(h:Cir w B v x)(hB:B≤B')(hk:∀q:Addr,q.block<B→w'.cell? q=w.cell? q):Cir w' B' v x:=by
 obtain⟨v0,v1,v2,v3,h0,h1,h2,h3,h4⟩:=h
 exact⟨v0,v1,v2,v3,h0,h1.keep hB hk,h2.keep hB hk,h3.keep hB hk,h4.keep hB hk⟩
section
variable {w w':World} {B B':Nat} {v:Value}
theorem Is.below{l:List Int}(h:Is w B v l)(hb:Below B w w'):Is w' B v l:=h.keep (Nat.le_refl _) fun _ hp=>hb.cell hp
theorem Ss.below{l:List ByteArray}(h:Ss w B v l)(hb:Below B w w'):Ss w' B v l:=h.keep (Nat.le_refl _) fun _ hp=>hb.cell hp
theorem Ns.below{l:List Nd}(h:Ns w B v l)(hb:Below B w w'):Ns w' B v l:=h.keep (Nat.le_refl _) fun _ hp=>hb.cell hp
theorem Ms.below{l:List Mm}(h:Ms w B v l)(hb:Below B w w'):Ms w' B v l:=h.keep (Nat.le_refl _) fun _ hp=>hb.cell hp
theorem Cir.below{x:Ck}(h:Cir w B v x)(hb:Below B w w'):Cir w' B v x:=h.keep (Nat.le_refl _) fun _ hp=>hb.cell hp
theorem Is.more{l:List Int}(h:Is w B v l)(hB:B≤B'):Is w B' v l:=h.keep hB fun _ _=>rfl
theorem Ss.more{l:List ByteArray}(h:Ss w B v l)(hB:B≤B'):Ss w B' v l:=h.keep hB fun _ _=>rfl
theorem Ns.more{l:List Nd}(h:Ns w B v l)(hB:B≤B'):Ns w B' v l:=h.keep hB fun _ _=>rfl
theorem Ms.more{l:List Mm}(h:Ms w B v l)(hB:B≤B'):Ms w B' v l:=h.keep hB fun _ _=>rfl
theorem Cir.more{x:Ck}(h:Cir w B v x)(hB:B≤B'):Cir w B' v x:=h.keep hB fun _ _=>rfl
theorem Is.opens{l:List Int}(h:Is w B v l):∃A b o c,v=.slice A l.length c∧(0<l.length→A=some ⟨b,o,none⟩)∧l.length≤c∧l.length≤maxLen∧∀k,k<l.length→b<B∧w.cell? ⟨b,o+k,none⟩=some (.int .i64 (l.getD k 0)):=by
 obtain⟨A,b,o,c,h1,h2,h3,h4,h5⟩:=h
 exact⟨A,b,o,c,h1,h2,h3,h4,fun k hk=>⟨(h5 k hk).1,by have:=(h5 k hk).2;rw[Nat.mul_one]at this;exact this⟩⟩
theorem Ss.opens{l:List ByteArray}(h:Ss w B v l):∃A b o c,v=.slice A l.length c∧(0<l.length→A=some ⟨b,o,none⟩)∧l.length≤c∧l.length≤maxLen∧∀k,k<l.length→b<B∧w.cell? ⟨b,o+k,none⟩=some (.string (l.getD k ByteArray.empty))∧(l.getD k ByteArray.empty).size≤maxLen:=by
 obtain⟨A,b,o,c,h1,h2,h3,h4,h5⟩:=h
 exact⟨A,b,o,c,h1,h2,h3,h4,fun k hk=>⟨(h5 k hk).1,by have:=(h5 k hk).2;rw[Nat.mul_one]at this;exact this⟩⟩
end
def nmb(b:Int):Bool:= !(b==40||b==41||b==61||b==44||b==35)&&(decide (33≤b)&&decide (b≤126))
def nameOk(s:List UInt8):Bool:=decide (0<s.length)&&decide (s.length≤32)&&s.all fun c=>nmb (c.toNat:Int)
set_option maxHeartbeats 400000 in
theorem comb_any(k:Int)(w:World):Calls Tryd.prog 44 #[.int .u8 k] w fun e w'=>e=.returned (.bool (cmb k))∧w=w':=by
 obtain⟨y,HY⟩:=named (cmb k)
 rw[←HY.out]
 by_cases h1:1≤k
 all_goals
  go_enter Tryd.func44,Tryd.ntmps44
  go_wp2
  go_ret
  exact⟨ret_bool (by rw[HY.out];first|(simp[cmb,h1];done)|(simp[cmb,h1];omega)),rfl⟩
set_option maxHeartbeats 400000 in
theorem idx_any(i:Int)(n:Nat)(w:World):Calls Tryd.prog 75 #[.int .i64 i,.int .i64 n] w fun e w'=>e=.returned (.bool (isIdx n i))∧w=w':=by
 obtain⟨y,HY⟩:=named (isIdx n i)
 rw[←HY.out]
 by_cases h1:0≤i
 all_goals
  go_enter Tryd.func75,Tryd.ntmps75
  go_wp2
  go_ret
  exact⟨ret_bool (by rw[HY.out];first|(simp[isIdx,h1];done)|(simp[isIdx,h1];omega)),rfl⟩
set_option maxHeartbeats 400000 in
theorem nmb_any(b:Int)(w:World):Calls Tryd.prog 106 #[.int .u8 b] w fun e w'=>e=.returned (.bool (nmb b))∧w=w':=by
 obtain⟨y,HY⟩:=named (nmb b)
 rw[←HY.out]
 by_cases h1:b=40
 ·subst h1;go_enter Tryd.func106,Tryd.ntmps106
  go_wp2
  go_ret
  exact⟨ret_bool (by rw[HY.out];rfl),rfl⟩
 by_cases h2:b=41
 ·subst h2;go_enter Tryd.func106,Tryd.ntmps106
  go_wp2
  go_ret
  exact⟨ret_bool (by rw[HY.out];rfl),rfl⟩
 by_cases h3:b=61
 ·subst h3;go_enter Tryd.func106,Tryd.ntmps106
  go_wp2
  go_ret
  exact⟨ret_bool (by rw[HY.out];rfl),rfl⟩
 by_cases h4:b=44
 ·subst h4;go_enter Tryd.func106,Tryd.ntmps106
  go_wp2
  go_ret
  exact⟨ret_bool (by rw[HY.out];rfl),rfl⟩
 by_cases h5:b=35
 ·subst h5;go_enter Tryd.func106,Tryd.ntmps106
  go_wp2
  go_ret
  exact⟨ret_bool (by rw[HY.out];rfl),rfl⟩
 by_cases h6:33≤b
 all_goals
  go_enter Tryd.func106,Tryd.ntmps106
  go_wp2
  go_ret
  exact⟨ret_bool (by rw[HY.out];first|(simp[nmb,h1,h2,h3,h4,h5,h6];done)|(simp[nmb,h1,h2,h3,h4,h5,h6];omega)),rfl⟩
theorem name_no{s:List UInt8}(k:Nat)(h:k<s.length)(hf:nmb ((s.getD k 0).toNat:Int)=false):nameOk s=false:=by
 unfold nameOk
 have:(s.all fun c=>nmb (c.toNat:Int))=false:=by
  rw[List.all_eq_false]
  refine⟨s[k],List.getElem_mem h,?_⟩
  rw[List.getD_eq_getElem?_getD,List.getElem?_eq_getElem h]at hf
  simpa using hf
 rw[this,Bool.and_false]
theorem name_yes{s:List UInt8}(h0:0<s.length)(h1:s.length≤32)(h:∀k,k<s.length→nmb ((s.getD k 0).toNat:Int)=true):nameOk s=true:=by
 unfold nameOk
 have:(s.all fun c=>nmb (c.toNat:Int))=true:=by
  rw[List.all_eq_true]
  intro c hc
  obtain⟨k,hk,rfl⟩:=List.mem_iff_getElem.1 hc
  have:=h k hk
  rwa [List.getD_eq_getElem?_getD,List.getElem?_eq_getElem hk]at this
 simp[this,h1,h0]
set_option maxHeartbeats 1000000 in
theorem isName_any(s:ByteArray)(w:World):Calls Tryd.prog 99 #[.string s] w fun e w'=>e=.returned (.bool (nameOk s.data.toList))∧w=w':=by
 obtain⟨y,HY⟩:=named (nameOk s.data.toList)
 rw[←HY.out]
 have hlen:s.data.toList.length=s.size:=by simp
 have HL:=Lib.hid hlen
 clear hlen
 by_cases he:s.data.toList=[]
 ·obtain rfl:s=⟨#[]⟩:=by
   obtain⟨⟨l⟩⟩:=s
   obtain rfl:l=[]:=he
   rfl
  go_enter Tryd.func99,Tryd.ntmps99
  go_wp2
  go_ret
  exact⟨ret_bool (by rw[HY.out];rfl),rfl⟩
 ·have hpos:0<s.size:=by rw[←HL.out];exact List.length_pos_iff.2 he
  have hemp:s.toList.isEmpty=false:=by rw[ByteArray.toList_eq];simpa using he
  have hne:¬s.toList=[]:=by rw[ByteArray.toList_eq];exact he
  have HE:=Lib.hid he
  clear he
  by_cases h32:s.size≤32
  ·have h32':decide (32<(s.size:Int))=false:=by simp;omega
   go_enter Tryd.func99,Tryd.ntmps99
   go_wp2_with fail
   go_loopw [13] (fun i wr=>wr=w∧∃k:Nat,k≤s.size∧i=.int .i64 k∧∀j,j<k→nmb ((s.data.toList.getD j 0).toNat:Int)=true) (fun i _=>s.size-(intOf i).toNat)
   case atStart=>exact⟨rfl,0,Nat.zero_le _,rfl,fun j hj=>absurd hj (by omega)⟩
   case round=>
    obtain⟨rfl,k,hk,rfl,hno⟩:=hrel
    have HNO:=Lib.hid hno
    clear hno
    by_cases hlt:k<s.size
    ·have hb:(((s[k]'hlt).toNat:Nat):Int)=((s.data.toList.getD k 0).toNat:Int):=by
      rw[List.getD_eq_getElem?_getD,List.getElem?_eq_getElem (by simpa using hlt)];rfl
     have HB:=Lib.hid hb
     clear hb
     cases hv:nmb ((s[k]'hlt).toNat:Int)
     ·have HV:=Lib.hid hv
      clear hv
      go_wp2_with (go_at_call 106;(with_reducible refine (nmb_any _ _).mono ?_);rintro e w' ⟨rfl,rfl⟩;rw[HV.out])
      go_ret
      exact⟨ret_bool (by rw[HY.out];exact (name_no k (by rw[HL.out];exact hlt) (by rw[←HB.out];exact HV.out)).symm),rfl⟩
     ·have HV:=Lib.hid hv
      clear hv
      go_wp2_with (go_at_call 106;(with_reducible refine (nmb_any _ _).mono ?_);rintro e w' ⟨rfl,rfl⟩;rw[HV.out])
      go_roundw
      case rel=>
       refine⟨by trivial,k+1,by omega,by go_num,fun j hj=>?_⟩
       by_cases hjk:j=k
       ·rw[hjk,←HB.out];exact HV.out
       ·exact HNO.out j (by omega)
      case measure=>simp[intOf];omega
    ·go_wp2
     go_ret
     exact⟨ret_bool (by rw[HY.out];exact (name_yes (by rw[HL.out];exact hpos) (by rw[HL.out];exact h32) (fun j hj=>HNO.out j (by rw[HL.out]at hj;omega))).symm),rfl⟩
  ·have h32':decide (32<(s.size:Int))=true:=by simp;omega
   have hy:nameOk s.data.toList=false:=by simp[nameOk,HL.out];omega
   have HYY:=Lib.hid hy
   clear hy
   go_enter Tryd.func99,Tryd.ntmps99
   go_wp2
   go_ret
   exact⟨ret_bool (by rw[HY.out,HYY.out]),rfl⟩
end Go.Proofs.YtjdjcaobkmpoeaaDoor
