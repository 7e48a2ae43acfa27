import Derived.Test.YtckgnoopjapknaaDoorM41
namespace Go.Proofs.YtckgnoopjapknaaDoor
def wy(dp:Int→List Int)(s:Int):Nat→Int→Nat
 |0,_=>0
 |k+1,x=>(if x=s then 1 else 0)+((dp x).map (wy dp s k)).sum
section
variable {n:Nat} {dp:Int→List Int} {L:List Int} {s:Int}
theorem sum_map_congr{f g:Int→Nat} :∀ {l:List Int},(∀y∈l,f y=g y)→(l.map f).sum=(l.map g).sum
 |[],_=>rfl
 |y::l,h=>by
  rw[List.map_cons,List.map_cons,List.sum_cons,List.sum_cons,h y List.mem_cons_self,sum_map_congr fun z hz=>h z (List.mem_cons_of_mem _ hz)]
theorem sum_map_le{f:Int→Nat}{b:Nat} :∀ {l:List Int},(∀y∈l,f y≤b)→(l.map f).sum≤l.length*b
 |[],_=>by simp
 |y::l,h=>by
  rw[List.map_cons,List.sum_cons,List.length_cons,Nat.succ_mul]
  have:=h y List.mem_cons_self
  have:=sum_map_le (l:=l) (b:=b) fun z hz=>h z (List.mem_cons_of_mem _ hz)
  omega
theorem le_sum_map{f:Int→Nat}{y:Int} :∀ {l:List Int},y∈l→f y≤(l.map f).sum
 |z::l,h=>by
  rw[List.map_cons,List.sum_cons]
  rcases List.mem_cons.1 h with rfl|h
  ·omega
  ·have:=le_sum_map (f:=f) h;omega
structure Gr(n:Nat)(dp:Int→List Int)(L:List Int):Prop where
 inr:∀x,Nod n x→Inr n (dp x)
 lt:∀x y,Nod n x→y∈dp x→lat L y<lat L x
 bot:∀x,Nod n x→0≤lat L x
 top:∀x,Nod n x→lat L x<(n:Int)
theorem wy_same(G:Gr n dp L):∀(k m:Nat) (x:Int),Nod n x→lat L x<(k:Int)→lat L x<(m:Int)→wy dp s k x=wy dp s m x
 |0,m,x,hx,h,_=>by have:=G.bot x hx;omega
 |k+1,0,x,hx,_,h=>by have:=G.bot x hx;omega
 |k+1,m+1,x,hx,h1,h2=>by
  unfold wy
  rw[sum_map_congr fun y hy=>wy_same G k m y (G.inr x hx y hy) (by have:=G.lt x y hx hy;omega) (by have:=G.lt x y hx hy;omega)]
theorem wy_eq(G:Gr n dp L){x:Int}(hx:Nod n x):wy dp s n x=(if x=s then 1 else 0)+((dp x).map (wy dp s n)).sum:=by
 have h0:=G.bot x hx
 have h1:=G.top x hx
 rw[wy_same G n (n+1) x hx h1 (by omega)]
 conv=>lhs;unfold wy
theorem wy_le(b:Nat)(hb:∀x,(dp x).length≤b):∀(k:Nat) (x:Int),wy dp s k x≤(b+1)^k
 |0,x=>by simp[wy]
 |k+1,x=>by
  unfold wy
  have h1:=sum_map_le (l:=dp x) (f:=wy dp s k) (b:=(b+1)^k) fun y _=>wy_le b hb k y
  have h2:(dp x).length*(b+1)^k≤b*(b+1)^k:=Nat.mul_le_mul_right _ (hb x)
  have h3:1≤(b+1)^k:=Nat.pow_pos (by omega)
  have h4:(if x=s then 1 else 0)≤1:=by split<;>omega
  rw[Nat.pow_succ,Nat.mul_comm,Nat.add_mul]
  omega
end
section
variable {nodes:List Nd} {L:List Int} {s x:Int} {R:List Bool}
theorem wy_pos(G:Gr nodes.length (dep nodes) L)(hs:Nod nodes.length s):∀(m:Nat) (x:Int),Nod nodes.length x→lat L x<(m:Int)→(0<wy (dep nodes) s nodes.length x↔Rr (rdL nodes) [s] x)
 |0,x,hx,h=>by have:=G.bot x hx;omega
 |m+1,x,hx,h=>by
  rw[wy_eq G hx]
  constructor
  ·intro h2
   by_cases e:x=s
   ·exact .base (by simp[e])
   ·rw[if_neg e,Nat.zero_add]at h2
    have h3:∃y∈dep nodes x,0<wy (dep nodes) s nodes.length y:=by
     apply Classical.byContradiction
     intro h4
     have h5:=sum_map_le (l:=dep nodes x) (f:=wy (dep nodes) s nodes.length) (b:=0) fun y hy=>by
      apply Classical.byContradiction
      intro h6
      exact h4 ⟨y,hy,by omega⟩
     omega
    obtain⟨y,hy,h4⟩:=h3
    have hyn:=G.inr x hx y hy
    have h5:=(wy_pos G hs m y hyn (by have:=G.lt x y hx hy;omega)).1 h4
    have hye:((y.toNat:Nat):Int)=y:=by have:=hyn.1;omega
    have h6:x∈rdL nodes y.toNat:=(rd_dep hyn.1).2 ⟨hx.1,hx.2,hy⟩
    rw[←hye]at h5
    exact .step h5 h6
  ·intro h2
   cases h2 with
   |base h3=>rw[List.mem_singleton.1 h3,if_pos rfl];omega
   | @step y _ h3 h4=>
     have h6:Nod nodes.length y:=h3.inr (fun z hz=>by rw[List.mem_singleton.1 hz];exact hs) fun j=>rdL_inr nodes j
     have h5:=(rd_dep h6.1).1 h4
     have h7:=(wy_pos G hs m y h6 (by have:=G.lt x y hx h5.2.2;omega)).2 h3
     have h8:=le_sum_map (f:=wy (dep nodes) s nodes.length) h5.2.2
     omega
theorem pinB_cons(R:List Bool)(y:Int)(l:List Int):pinB R (y::l)=pinB R l+(if bat R y.toNat=true then 1 else 0):=by
 unfold pinB
 rw[List.countP_cons]
theorem pin_le_sum{f:Int→Nat} :∀ {l:List Int},(∀y∈l,bat R y.toNat=true→0<f y)→pinB R l≤(l.map f).sum
 |[],_=>by simp[pinB]
 |y::l,h=>by
  rw[pinB_cons,List.map_cons,List.sum_cons]
  have h1:=pin_le_sum (f:=f) (l:=l) fun z hz=>h z (List.mem_cons_of_mem _ hz)
  have h2:=h y List.mem_cons_self
  split
  ·rename_i hb
   have:=h2 hb;omega
  ·omega
theorem sum_le_pin{f:Int→Nat} :∀ {l:List Int},(∀y∈l,f y≤1∧(0<f y→bat R y.toNat=true))→(l.map f).sum≤pinB R l
 |[],_=>by simp[pinB]
 |y::l,h=>by
  rw[pinB_cons,List.map_cons,List.sum_cons]
  have h1:=sum_le_pin (f:=f) (l:=l) fun z hz=>h z (List.mem_cons_of_mem _ hz)
  obtain⟨h2,h3⟩:=h y List.mem_cons_self
  split
  ·omega
  ·rename_i hb
   have:¬0<f y:=fun g=>hb (h3 g)
   omega
theorem wy_one(G:Gr nodes.length (dep nodes) L)(hs:Nod nodes.length s)(hR:∀j:Nat,bat R j=true↔Rr (rdL nodes) [s] (j:Int))(h:∀i:Nat,i<nodes.length→¬1<pinB R (dep nodes (i:Int))):∀(m:Nat) (x:Int),Nod nodes.length x→lat L x<(m:Int)→wy (dep nodes) s nodes.length x≤1
 |0,x,hx,h2=>by have:=G.bot x hx;omega
 |m+1,x,hx,h2=>by
  rw[wy_eq G hx]
  have hxe:((x.toNat:Nat):Int)=x:=by have:=hx.1;omega
  have hp:∀y∈dep nodes x,(0<wy (dep nodes) s nodes.length y↔bat R y.toNat=true):=fun y hy=>by
   have hyn:=G.inr x hx y hy
   have hye:((y.toNat:Nat):Int)=y:=by have:=hyn.1;omega
   rw[wy_pos G hs (m+1) y hyn (by have:=G.lt x y hx hy;omega),hR,hye]
  have h3:=sum_le_pin (R:=R) (f:=wy (dep nodes) s nodes.length) (l:=dep nodes x) fun y hy=>⟨wy_one G hs hR h m y (G.inr x hx y hy) (by have:=G.lt x y hx hy;omega),(hp y hy).1⟩
  have h4:=h x.toNat (by have:=hx.1;have:=hx.2;omega)
  rw[hxe]at h4
  split
  ·rename_i e
   have h5:((dep nodes x).map (wy (dep nodes) s nodes.length)).sum≤(dep nodes x).length*0:=sum_map_le fun y hy=>by
    apply Classical.byContradiction
    intro h6
    have h7:=(wy_pos G hs (m+1) y (G.inr x hx y hy) (by have:=G.lt x y hx hy;omega)).1 (by omega)
    have h8:lat L s≤lat L y:=by
     have:∀z,Rr (rdL nodes) [s] z→lat L s≤lat L z:=fun z hz=>by
      induction hz with
      |base g=>rw[List.mem_singleton.1 g];omega
      | @step a b g hb ih=>
        have ha:Nod nodes.length a:=g.inr (fun z hz=>by rw[List.mem_singleton.1 hz];exact hs) fun j=>rdL_inr nodes j
        have g2:=(rd_dep ha.1).1 hb
        have:=G.lt b a ⟨g2.1,g2.2.1⟩ g2.2.2
        omega
     exact this y h7
    have:=G.lt x y hx hy
    rw[e]at this
    omega
   omega
  ·omega
theorem wy_two(G:Gr nodes.length (dep nodes) L)(hs:Nod nodes.length s)(hR:∀j:Nat,bat R j=true↔Rr (rdL nodes) [s] (j:Int)){x:Int}(hx:Nod nodes.length x)(h:1<pinB R (dep nodes x)):1<wy (dep nodes) s nodes.length x:=by
 rw[wy_eq G hx]
 have h1:=pin_le_sum (R:=R) (f:=wy (dep nodes) s nodes.length) (l:=dep nodes x) fun y hy hb=>by
  have hyn:=G.inr x hx y hy
  have hye:((y.toNat:Nat):Int)=y:=by have:=hyn.1;omega
  have h2:=G.top y hyn
  refine (wy_pos G hs nodes.length y hyn h2).2 ?_
  rw[←hye]
  exact (hR y.toNat).1 hb
 omega
end
structure WI(O:List Int)(n k:Nat)(s:Int)(W:Int→Nat)(Ws:List Int):Prop where
 len:Ws.length=n
 old:∀j,j<k→Ws.getD (O.getD j 0).toNat 0=(W (O.getD j 0):Int)
 new:∀j,k≤j→j<n→Ws.getD (O.getD j 0).toNat 0=if O.getD j 0=s then 1 else 0
def aw(W:Int→Nat)(s x:Int)(l:List Int)(j:Nat):Nat:=(if x=s then 1 else 0)+((l.take j).map W).sum
theorem aw_zero(W:Int→Nat)(s x:Int)(l:List Int):(aw W s x l 0:Int)=if x=s then 1 else 0:=by
 unfold aw
 rw[List.take_zero,List.map_nil,List.sum_nil,Nat.add_zero]
 split<;>rfl
theorem aw_succ{W:Int→Nat}{s x:Int}{l:List Int}{j:Nat}(hj:j<l.length):aw W s x l (j+1)=aw W s x l j+W (l.getD j 0):=by
 unfold aw
 rw[List.take_succ_eq_append_getElem hj,List.map_append,List.sum_append,List.getD_eq_getElem?_getD,List.getElem?_eq_getElem hj]
 simp
 omega
theorem aw_le{W:Int→Nat}{s x:Int}{l:List Int}{B:Nat}(h:∀y∈l,W y≤B)(j:Nat):aw W s x l j≤1+l.length*B:=by
 unfold aw
 have h1:=sum_map_le (l:=l.take j) (f:=W) (b:=B) fun y hy=>h y (List.mem_of_mem_take hy)
 have h2:(l.take j).length*B≤l.length*B:=Nat.mul_le_mul_right _ (by simp;omega)
 split<;>omega
section
variable {O L Ws:List Int} {n k:Nat} {s:Int} {W:Int→Nat}
theorem WI.start(hO:Ord5 L n O){f:Nat}(hf:f<n):WI O n 0 (f:Int) W ((List.replicate n 0).set f 1):=by
 refine⟨by simp,fun j hj=>absurd hj (Nat.not_lt_zero j),fun j _ hj=>?_⟩
 obtain⟨x,hx,ex⟩:=hO.rg j hj
 rw[ex,Int.toNat_natCast,getDI_set (by simpa using hf)]
 by_cases e:x=f
 ·rw[if_pos e,if_pos (by rw[e])]
 ·rw[if_neg e,if_neg (by omega),List.getD_eq_getElem?_getD,List.getElem?_replicate]
  simp[hx]
theorem WI.first(h:WI O n k s W Ws)(hk:k<n)(hO:Ord5 L n O)(l:List Int):Ws=Ws.set (O.getD k 0).toNat (aw W s (O.getD k 0) l 0:Int):=by
 rw[aw_zero]
 obtain⟨x,hx,ex⟩:=hO.rg k hk
 have h1:=h.new k (Nat.le_refl _) hk
 have hl:=h.len
 rw[←h1,ex,Int.toNat_natCast]
 apply List.ext_getElem?
 intro i
 rw[List.getElem?_set]
 split
 ·rename_i e
  subst e
  rw[if_pos (by omega),List.getD_eq_getElem?_getD,List.getElem?_eq_getElem (by omega)]
  rfl
 ·rfl
theorem WI.pin(h:WI O n k s W Ws)(hk:k<n)(hO:Ord5 L n O){y:Int}(hy:Nod n y)(hl:lat L y<lat L (O.getD k 0))(a:Int):(Ws.set (O.getD k 0).toNat a).getD y.toNat 0=(W y:Int):=by
 obtain⟨j,hj,ej⟩:=hO.all y hy
 obtain⟨x,hx,ex⟩:=hO.rg k hk
 have hjk:j<k:=hO.before hj hk (by rw[ej];exact hl)
 have hn:=h.len
 rw[ex,Int.toNat_natCast,getDI_set (by omega),if_neg,←ej,h.old j hjk]
 intro e
 rw[ex]at hl
 have:y=(x:Int):=by have:=hy.1;omega
 rw[this]at hl
 omega
theorem WI.step(h:WI O n k s W Ws)(hk:k<n)(hO:Ord5 L n O){a:Int}(ha:a=(W (O.getD k 0):Int)):WI O n (k+1) s W (Ws.set (O.getD k 0).toNat a):=by
 have hn:=h.len
 obtain⟨x,hx,ex⟩:=hO.rg k hk
 have hne:∀j,j<n→j≠k→(O.getD j 0).toNat≠(O.getD k 0).toNat:=fun j hj hjk e=>by
  obtain⟨z,hz,ez⟩:=hO.rg j hj
  refine hjk (hO.inj hj hk ?_)
  rw[ex,ez]at e ⊢
  rw[Int.toNat_natCast,Int.toNat_natCast]at e
  rw[e]
 refine⟨by rw[List.length_set];exact hn,fun j hj=>?_,fun j hj hjn=>?_⟩
 ·rw[getDI_set (by rw[ex,Int.toNat_natCast];omega)]
  by_cases e:j=k
  ·subst e;rw[if_pos rfl];exact ha
  ·rw[if_neg (hne j (by omega) e)];exact h.old j (by omega)
 ·rw[getDI_set (by rw[ex,Int.toNat_natCast];omega),if_neg (hne j hjn (by omega))]
  exact h.new j (by omega) hjn
theorem WI.at(h:WI O n k s W Ws){j:Nat}(hj:j<k):Ws.getD (O.getD j 0).toNat 0=(W (O.getD j 0):Int):=h.old j hj
def mxW(O:List Int)(W:Int→Nat):Nat→Nat
 |0=>1
 |k+1=>max (mxW O W k) (W (O.getD k 0))
theorem mxW_pos(O:List Int)(W:Int→Nat):∀k,1≤mxW O W k
 |0=>Nat.le_refl 1
 |k+1=>by have:=mxW_pos O W k;unfold mxW;omega
theorem mxW_one(O:List Int)(W:Int→Nat):∀k,mxW O W k=1↔∀j,j<k→W (O.getD j 0)≤1
 |0=>⟨fun _ j hj=>absurd hj (Nat.not_lt_zero j),fun _=>rfl⟩
 |k+1=>by
  have h1:=mxW_pos O W k
  have h2:=mxW_one O W k
  show max (mxW O W k) (W (O.getD k 0))=1↔_
  constructor
  ·intro h j hj
   by_cases e:j=k
   ·subst e;omega
   ·exact h2.1 (by omega) j (by omega)
  ·intro h
   have h3:=h k (by omega)
   have h4:=h2.2 fun j hj=>h j (by omega)
   omega
theorem mxW_le{O:List Int}{W:Int→Nat}{B:Nat}(hB:1≤B)(h:∀x,W x≤B):∀k,mxW O W k≤B
 |0=>hB
 |k+1=>by have:=mxW_le (O:=O) hB h k;have:=h (O.getD k 0);unfold mxW;omega
end
end Go.Proofs.YtckgnoopjapknaaDoor
