import Derived.Test.YtjdjcaobkmpoeaaDoorCo6
import Derived.Test.YtjdjcaobkmpoeaaDoorM19
import Derived.Test.YtjdjcaobkmpoeaaDoorM29
namespace Go.Proofs.YtjdjcaobkmpoeaaDoor
def srcB(gv:List Int)(i:Int):Int:=if gv.length=0 then 0 else gv.getD (i.toNat%gv.length) 0%4
def fvB(nodes:List Nd)(gv out:List Int)(i:Int):Int:=if cmb (nodes.getD i.toNat default).kind=true then evalL (nodes.getD i.toNat default).kind ((nodes.getD i.toNat default).ins.map (lat out)) else srcB gv i
def nvB(nodes:List Nd)(gv:List Int)(fz tv:Int)(out:List Int)(i:Int):Int:=if i=fz then tv else fvB nodes gv out i
theorem fvB_congr{nodes:List Nd}{gv out out':List Int}{i:Int}(h:∀x∈dep nodes i,lat out x=lat out' x):fvB nodes gv out i=fvB nodes gv out' i:=by
 unfold fvB
 by_cases hc:cmb (nodes.getD i.toNat default).kind=true
 ·rw[if_pos hc,if_pos hc]
  refine congrArg _ (List.map_congr_left fun x hx=>h x ?_)
  unfold dep depsOf
  rw[if_pos hc];exact hx
 ·rw[if_neg hc,if_neg hc]
structure SB(nodes:List Nd)(gv O:List Int)(fz tv:Int)(k:Nat)(out:List Int):Prop where
 len:out.length=nodes.length
 on:∀j,j<k→lat out (O.getD j 0)=nvB nodes gv fz tv out (O.getD j 0)
 off:∀j,k≤j→j<nodes.length→lat out (O.getD j 0)=0
section
variable {nodes:List Nd} {gv O L out:List Int} {fz tv:Int} {n k:Nat}
theorem SB.start(n:Nat)(hn:n=nodes.length)(hO:Ord5 L n O):SB nodes gv O fz tv 0 (List.replicate n 0):=⟨by rw[List.length_replicate,hn],fun j h=>absurd h (Nat.not_lt_zero j),fun j _ hj=>by
 obtain⟨x,hx,ex⟩:=hO.rg j (by omega)
 rw[ex]
 unfold lat
 rw[Int.toNat_natCast,List.getD_eq_getElem?_getD,List.getElem?_replicate]
 split<;>rfl⟩
theorem SB.step(h:SB nodes gv O fz tv k out)(hn:n=nodes.length)(hO:Ord5 L n O)(hw:Wf nodes)(hL:Lvl nodes L)(hk:k<n){x:Nat}(hx:O.getD k 0=(x:Int)):SB nodes gv O fz tv (k+1) (out.set x (nvB nodes gv fz tv out (x:Int))):=by
 have hxn:x<n:=by
  obtain⟨x',h1,h2⟩:=hO.rg k hk
  rw[hx]at h2;omega
 have hl:=h.len
 obtain⟨v,hv⟩:∃v,v=nvB nodes gv fz tv out (x:Int):=⟨_,rfl⟩
 rw[←hv]
 have hset:∀y:Int,0≤y→lat (out.set x v) y=if y=(x:Int) then v else lat out y:=fun y hy=>by
  rw[lat_set v hy]
  by_cases e:y=(x:Int)
  ·rw[if_pos e,if_pos ⟨e,by omega⟩]
  ·rw[if_neg e,if_neg fun g=>e g.1]
 have hdep:∀j,j≤k→∀y∈dep nodes (O.getD j 0),lat (out.set x v) y=lat out y:=fun j hj y hy=>by
  obtain⟨z,hz,ez⟩:=hO.rg j (by omega)
  rw[ez]at hy
  have hy2:=hw.dep (i:=(z:Int)) (by rw[Int.toNat_natCast];omega) hy
  have hlt:=hL.lt (i:=(z:Int)) (by omega) (by omega) hy
  obtain⟨m,hm,em⟩:=hO.all y ⟨hy2.1,by omega⟩
  have hmj:=hO.before (j:=m) (k:=j) hm (by omega) (by rw[em,ez];exact hlt)
  rw[hset y hy2.1,if_neg]
  intro e
  have:=hO.inj (j:=m) (k:=k) hm hk (by rw[em,hx,e])
  omega
 have hne:∀j,j<n→j≠k→O.getD j 0≠(x:Int):=fun j hj hjk e=>hjk (hO.inj hj hk (by rw[e,hx]))
 have h0:∀j,j<n→0≤O.getD j 0:=fun j hj=>by
  obtain⟨z,hz,ez⟩:=hO.rg j hj
  rw[ez];omega
 refine⟨by rw[List.length_set];exact hl,fun j hj=>?_,fun j hj hjn=>?_⟩
 ·have hfv:nvB nodes gv fz tv (out.set x v) (O.getD j 0)=nvB nodes gv fz tv out (O.getD j 0):=by
   unfold nvB
   split
   ·rfl
   ·exact fvB_congr (hdep j (by omega))
  rw[hfv,hset _ (h0 j (by omega))]
  by_cases e:j=k
  ·subst e
   rw[if_pos hx,hv,hx]
  ·rw[if_neg (hne j (by omega) e)]
   exact h.on j (by omega)
 ·rw[hset _ (h0 j (by omega)),if_neg (hne j (by omega) (by omega))]
  exact h.off j (by omega) hjn
theorem SB.keep(h:SB nodes gv O fz tv k out)(hn:n=nodes.length)(hO:Ord5 L n O)(hw:Wf nodes)(hL:Lvl nodes L)(hk:k<n){x:Nat}(hx:O.getD k 0=(x:Int))(hc:cmb (nodes.getD x default).kind=false)(hg:gv.length=0)(hf:(x:Int)≠fz):SB nodes gv O fz tv (k+1) out:=by
 have h1:=h.step hn hO hw hL hk hx
 have hv:nvB nodes gv fz tv out (x:Int)=0:=by
  unfold nvB fvB srcB
  rw[if_neg hf,Int.toNat_natCast,hc,if_neg (by decide),if_pos hg]
 have h2:=h.off k (Nat.le_refl _) (by omega)
 rw[hx]at h2
 have hxn:x<out.length:=by
  obtain⟨x',h3,h4⟩:=hO.rg k hk
  rw[hx]at h4
  have:=h.len;omega
 rw[hv]at h1
 have e:out.set x 0=out:=by
  apply List.ext_getElem (by rw[List.length_set])
  intro i h3 h4
  rw[List.getElem_set]
  split
  ·rename_i e
   subst e
   unfold lat at h2
   rw[Int.toNat_natCast,List.getD_eq_getElem?_getD,List.getElem?_eq_getElem h4]at h2
   exact h2.symm
  ·rfl
 rwa [e]at h1
theorem SB.all(h:SB nodes gv O fz tv n out)(hO:Ord5 L n O){y:Int}(hy:Nod n y):lat out y=nvB nodes gv fz tv out y:=by
 obtain⟨k,hk,e⟩:=hO.all y hy
 rw[←e]
 exact h.on k hk
end
section
variable {c:Ck} {n:Nat} {L:List Int} {gv a b T:List Int} {R:List Bool} {f tv:Int}
theorem block_pt(G:G5 c n L)(hf:Nod n f)(ha:∀y,Nod n y→lat a y=fvB c.nodes gv a y)(hb:∀y,Nod n y→lat b y=nvB c.nodes gv f tv b y){d:Int}(hk:d= -1∨lat a d=lat b d)(hs:¬Sn (fun x:Int=>rdL c.nodes x.toNat) (fun x:Int=>bat (ptB c) x.toNat=true) d f){p:Int}(hp:Nod n p)(hP:bat (ptB c) p.toNat=true):lat a p=lat b p:=by
 have hln:=G.len
 have h:=blocked (n:=n) (nx:=fun x:Int=>rdL c.nodes x.toNat) (P:=fun x:Int=>bat (ptB c) x.toNat=true) (pl:=lat L) (a:=fun x=>if x= -1 then 0 else lat a x) (b:=fun x=>if x= -1 then 0 else lat b x) (f:=f) (d:=d) (fun x hx hne hxf=>?_) (fun x hx=>G.bot x hx) (by
  rcases hk with e|e
  ·rw[e];rfl
  ·split
   ·rfl
   ·exact e) hs hp hP
 ·have h1:=hp.1
  rw[if_neg (by omega),if_neg (by omega)]at h
  exact h
 ·have hx0:=hx.1
  have hx1:=hx.2
  rw[if_neg (by omega),if_neg (by omega),ha x hx,hb x hx]at hne
  unfold nvB at hne
  rw[if_neg hxf]at hne
  apply Classical.byContradiction
  intro hno
  refine hne (fvB_congr fun y hy=>?_)
  apply Classical.byContradiction
  intro hyne
  have e:((x.toNat:Nat):Int)=x:=by omega
  have hy2:=G.depi x.toNat y (by rw[e];exact hy)
  refine hno ⟨y,hy2,mem_rdL.2 ⟨hx0,by omega,by rw[show ((y.toNat:Nat):Int)=y by have:=hy2.1;omega];exact hy⟩,G.lvl.lt hx0 (by omega) hy,?_⟩
  have h2:=hy2.1
  rw[if_neg (by omega),if_neg (by omega)]
  exact hyne
def sameL(a b l:List Int):Bool:=l.all fun p=>lat a p==lat b p
def pathL(C Q:List Int):Bool:=C.any fun x=>Q.any fun y=>x==y
theorem sameL_of(h:∀p,Nod n p→bat (ptB c) p.toNat=true→lat a p=lat b p):sameL a b (memB (ptB c) n)=true:=by
 unfold sameL
 rw[List.all_eq_true]
 intro p hp
 obtain⟨j,hj,rfl,h2⟩:=mem_memB.1 hp
 rw[beq_iff_eq]
 exact h _ ⟨by omega,by omega⟩ (by rw[Int.toNat_natCast];exact h2)
theorem block_dom(G:G5 c n L)(hf:Nod n f)(ha:∀y,Nod n y→lat a y=fvB c.nodes gv a y)(hb:∀y,Nod n y→lat b y=nvB c.nodes gv f tv b y)(hT:DomL n (fun x:Int=>rdL c.nodes x.toNat) (fun x:Int=>bat (ptB c) x.toNat=true) L f T):∀d∈T,(lat a d==lat b d)=true→sameL a b (memB (ptB c) n)=true:=fun d hd he=>by
 have hd2:=(hT.mem d (hT.nod d hd)).1 hd
 exact sameL_of fun p hp hP=>block_pt G hf ha hb (.inr (beq_iff_eq.1 he)) hd2.2.2 hp hP
theorem block_path(G:G5 c n L)(hf:Nod n f)(ha:∀y,Nod n y→lat a y=fvB c.nodes gv a y)(hb:∀y,Nod n y→lat b y=nvB c.nodes gv f tv b y)(hT:DomL n (fun x:Int=>rdL c.nodes x.toNat) (fun x:Int=>bat (ptB c) x.toNat=true) L f T)(hR:Vis (rdL c.nodes) n (List.replicate n false) [f] R)(hp:pathL (memB R n) (memB (ptB c) n)=false):sameL a b (memB (ptB c) n)=true∧T.length=0:=by
 have hno:¬Sn (fun x:Int=>rdL c.nodes x.toNat) (fun x:Int=>bat (ptB c) x.toNat=true) (-1) f:=fun h=>by
  obtain⟨x,h1,h2⟩:=sn_iff.1 h
  have hxn:=h1.nod hf G.inr
  have h3:=(rv_rr hf G.inr').1 h1
  have e:((x.toNat:Nat):Int)=x:=by have:=hxn.1;omega
  have h4:=(hR.all x.toNat).2 (by rw[e];exact h3)
  have hlt:x.toNat<n:=by have:=hxn.1;have:=hxn.2;omega
  have h5:pathL (memB R n) (memB (ptB c) n)=true:=by
   unfold pathL
   rw[List.any_eq_true]
   refine⟨x,mem_memB.2 ⟨x.toNat,hlt,e.symm,h4⟩,?_⟩
   rw[List.any_eq_true]
   exact⟨x,mem_memB.2 ⟨x.toNat,hlt,e.symm,h2⟩,by rw[beq_iff_eq]⟩
  rw[hp]at h5
  cases h5
 refine⟨sameL_of fun p hp hP=>block_pt G hf ha hb (.inl rfl) hno hp hP,?_⟩
 rw[List.length_eq_zero_iff,List.eq_nil_iff_forall_not_mem]
 intro d hd
 exact hno ((hT.mem d (hT.nod d hd)).1 hd).2.1
end
theorem ofC_pts(x:Cx){L:List Int}{n:Nat}(G:G5 (ofC x) n L)(hn:0<n)(hsz:n=sizeN x):0<(memB (ptB (ofC x)) n).length:=by
 have hm:((n-1:Nat):Int)∈memB (ptB (ofC x)) n:=mem_memB.2 ⟨n-1,by omega,rfl,(ptB_bat _ (by rw[G.len];omega)).2 (by
  unfold obsN
  refine List.mem_append_left _ (List.mem_append_left _ ?_)
  show _∈outsTo x (outsN x)++[(sizeN x:Int)-1]
  refine List.mem_append_right _ ?_
  rw[List.mem_singleton];omega)⟩
 exact List.length_pos_of_mem hm
end Go.Proofs.YtjdjcaobkmpoeaaDoor
