/- The texts Co3 Co4 Co5 Rlp Co7 Co8 Rfl Exp Liv. -/
import Derived.Test.YtcbllelkgniogaaDoorM15
import Derived.Test.YtcbllelkgniogaaDoorM16
import Derived.Test.YtcbllelkgniogaaDoorM10
import Derived.Test.YtcbllelkgniogaaDoorM17
import Derived.Test.YtcbllelkgniogaaDoorM02
namespace Go.Proofs.YtcbllelkgniogaaDoor
section
variable (n:Nat) (nx:Int→List Int) (P:Int→Prop)
inductive Sn (nt:Int):Int→Prop
 |pt {x:Int} (h:x≠nt) (hp:P x):Sn nt x
 |go {x y:Int} (h:x≠nt) (hy:y∈nx x) (hs:Sn nt y):Sn nt x
def Nod(x:Int):Prop:=0≤x∧x<(n:Int)
inductive InC (N:Int→Int) (d:Int):Int→Prop
 |here (h:Nod n d):InC N d d
 |next {x:Int} (h:Nod n x) (hc:InC N d (N x)):InC N d x
end
section
variable {n:Nat} {nx:Int→List Int} {P:Int→Prop} {N N':Int→Int} {pl:Int→Int} {nt d x i b:Int}
theorem Sn.ne(h:Sn nx P nt x):x≠nt:=by cases h<;>assumption
theorem Sn.free(h:Sn nx P nt x)(hn:∀x,Nod n x→Inr n (nx x))(hx:Nod n x):Sn nx P (-1) x:=by
 induction h with
 |pt _ hp=>exact .pt (by have:=hx.1;omega) hp
 |go _ hy _ ih=>exact .go (by have:=hx.1;omega) hy (ih (hn _ hx _ hy))
theorem Sn.iff(hx:x≠nt)(hp:¬P x):Sn nx P nt x↔∃y∈nx x,Sn nx P nt y:=by
 constructor
 ·intro h
  cases h with
  |pt _ h=>exact absurd h hp
  |go _ hy hs=>exact⟨_,hy,hs⟩
 ·rintro⟨y,hy,hs⟩
  exact .go hx hy hs
theorem InC.nod(h:InC n N d x):Nod n x:=by cases h<;>assumption
theorem InC.iff(hx:Nod n x):InC n N d x↔d=x∨InC n N d (N x):=by
 constructor
 ·intro h
  cases h with
  |here=>exact .inl rfl
  |next _ hc=>exact .inr hc
 ·rintro (rfl|h)
  ·exact .here hx
  ·exact .next hx h
theorem InC.exit:¬InC n N d (n:Int):=fun h=>by have:=h.nod.2;omega
structure Near(n:Nat)(nx:Int→List Int)(P:Int→Prop)(N pl:Int→Int)(x:Int):Prop where
 dead:N x= -1↔¬Sn nx P (-1) x
 ex:N x≠ -1→N x=(n:Int)∨(Nod n (N x)∧Sn nx P (-1) (N x)∧pl x<pl (N x))
 ch:Sn nx P (-1) x→∀d,Nod n d→(InC n N d x↔¬Sn nx P d x)
def Gp(n:Nat)(nx:Int→List Int)(P:Int→Prop)(N pl:Int→Int)(b:Int)(x:Int):Prop:=x=(n:Int)∨(Nod n x∧Sn nx P (-1) x∧b<pl x∧Near n nx P N pl x)
theorem InC.up(hN:∀y,Nod n y→b≤pl y→Sn nx P (-1) y→Near n nx P N pl y)(hb:b≤pl x)(hs:Sn nx P (-1) x)(h:InC n N d x):pl x≤pl d:=by
 induction h with
 |here=>exact Int.le_refl _
 | @next x h hc ih=>
   have hr:=hN x h hb hs
   by_cases h1:N x= -1
   ·exact absurd hs (hr.dead.1 h1)
   ·rcases hr.ex h1 with e| ⟨h2,h3,h4⟩
    ·rw[e]at hc;exact absurd hc InC.exit
    ·have:=ih (by omega) h3
     omega
theorem InC.congr(hN:∀y,Nod n y→b<pl y→Sn nx P (-1) y→Near n nx P N pl y)(he:∀y,Nod n y→b<pl y→N' y=N y)(hb:b<pl x)(hs:Sn nx P (-1) x)(h:InC n N d x):InC n N' d x:=by
 induction h with
 |here h=>exact .here h
 | @next x h hc ih=>
   have hr:=hN x h hb hs
   refine .next h ?_
   rw[he x h hb]
   by_cases h1:N x= -1
   ·exact absurd hs (hr.dead.1 h1)
   ·rcases hr.ex h1 with e| ⟨h2,h3,h4⟩
    ·rw[e]at hc;exact absurd hc InC.exit
    ·exact ih (by omega) h3
theorem InC.congr'(hN:∀y,Nod n y→b<pl y→Sn nx P (-1) y→Near n nx P N pl y)(he:∀y,Nod n y→b<pl y→N' y=N y)(hb:b<pl x)(hs:Sn nx P (-1) x)(h:InC n N' d x):InC n N d x:=by
 induction h with
 |here h=>exact .here h
 | @next x h hc ih=>
   have hr:=hN x h hb hs
   refine .next h ?_
   rw[he x h hb]at hc ih
   by_cases h1:N x= -1
   ·exact absurd hs (hr.dead.1 h1)
   ·rcases hr.ex h1 with e| ⟨h2,h3,h4⟩
    ·rw[e]at hc;exact absurd hc InC.exit
    ·exact ih (by omega) h3
theorem Near.congr(hN:∀y,Nod n y→b<pl y→Near n nx P N pl y)(he:∀y,Nod n y→b<pl y→N' y=N y)(hx:Nod n x)(hb:b<pl x):Near n nx P N' pl x:=by
 have hr:=hN x hx hb
 refine⟨by rw[he x hx hb];exact hr.dead,by rw[he x hx hb];exact hr.ex,fun hs d hd=>?_⟩
 rw[←hr.ch hs d hd]
 exact⟨InC.congr' (fun y h1 h2 _=>hN y h1 h2) he hb hs,InC.congr (fun y h1 h2 _=>hN y h1 h2) he hb hs⟩
structure Mt(n:Nat)(nx:Int→List Int)(P:Int→Prop)(N pl:Int→Int)(b:Int)(m:Int)(l:List Int):Prop where
 none:m= -1→∀s∈l,¬Sn nx P (-1) s
 some:m≠ -1→Gp n nx P N pl b m∧(∃s∈l,Sn nx P (-1) s)∧∀d,Nod n d→(InC n N d m↔∀s∈l,¬Sn nx P d s)
theorem Mt.start(b:Int):Mt n nx P N pl b (-1) []:=⟨fun _ s hs=>(by cases hs),fun h=>absurd rfl h⟩
theorem mem_app1{l:List Int}{s:Int}{Q:Int→Prop} :(∀x∈l++[s],Q x)↔(∀x∈l,Q x)∧Q s:=by
 constructor
 ·intro h
  exact⟨fun x hx=>h x (List.mem_append_left _ hx),h s (by simp)⟩
 ·rintro⟨h1,h2⟩ x hx
  rcases List.mem_append.1 hx with hx|hx
  ·exact h1 x hx
  ·obtain rfl:x=s:=by simpa using hx
   exact h2
theorem Mt.dead{b m s:Int}{l:List Int}(h:Mt n nx P N pl b m l)(hn:∀x,Nod n x→Inr n (nx x))(hs:Nod n s)(hd:¬Sn nx P (-1) s):Mt n nx P N pl b m (l++[s]):=by
 refine⟨fun e=>mem_app1.2 ⟨h.none e,hd⟩,fun e=>?_⟩
 obtain⟨h1,⟨t,h2,h3⟩,h4⟩:=h.some e
 refine⟨h1,⟨t,List.mem_append_left _ h2,h3⟩,fun d hd'=>?_⟩
 rw[h4 d hd',mem_app1]
 exact⟨fun g=>⟨g,fun g2=>hd (g2.free hn hs)⟩,fun g=>g.1⟩
theorem Mt.first{b s:Int}{l:List Int}(h:Mt n nx P N pl b (-1) l)(hn:∀x,Nod n x→Inr n (nx x))(hl:Inr n l)(hs:Nod n s)(hd:Sn nx P (-1) s)(hb:b<pl s)(hr:Near n nx P N pl s):Mt n nx P N pl b s (l++[s]):=by
 refine⟨fun e=>by have:=hs.1;omega,fun _=>⟨.inr ⟨hs,hd,hb,hr⟩,⟨s,by simp,hd⟩,fun d hd'=>?_⟩⟩
 rw[hr.ch hd d hd',mem_app1]
 exact⟨fun g=>⟨fun x hx g2=>h.none rfl x hx (g2.free hn (hl x hx)),g⟩,fun g=>g.2⟩
structure Two(n:Nat)(nx:Int→List Int)(P:Int→Prop)(N pl:Int→Int)(b m s m' s':Int):Prop where
 gm:Gp n nx P N pl b m'
 gs:Gp n nx P N pl b s'
 eq:∀d,Nod n d→((InC n N d m'∧InC n N d s')↔(InC n N d m∧InC n N d s))
theorem Two.start{b m s:Int}(h1:Gp n nx P N pl b m)(h2:Gp n nx P N pl b s):Two n nx P N pl b m s m s:=⟨h1,h2,fun _ _=>Iff.rfl⟩
theorem Gp.next{b x:Int}(hN:∀y,Nod n y→b<pl y→Near n nx P N pl y)(h:Nod n x)(hg:Gp n nx P N pl b x):Gp n nx P N pl b (N x):=by
 rcases hg with e| ⟨-,h2,h3,h4⟩
 ·rw[e]at h;have:=h.2;omega
 ·by_cases h1:N x= -1
  ·exact absurd h2 (h4.dead.1 h1)
  ·rcases h4.ex h1 with e| ⟨a,b1,c⟩
   ·exact .inl e
   ·exact .inr ⟨a,b1,by omega,hN _ a (by omega)⟩
theorem Two.swap{b m s m' s':Int}(h:Two n nx P N pl b m s m' s'):Two n nx P N pl b s m s' m':=⟨h.gs,h.gm,fun d hd=>⟨fun g=>((h.eq d hd).1 g.symm).symm,fun g=>((h.eq d hd).2 g.symm).symm⟩⟩
theorem Two.left{b m s m' s':Int}(h:Two n nx P N pl b m s m' s')(hN:∀y,Nod n y→b<pl y→Near n nx P N pl y)(hp:pl (n:Int)=n)(hpl:∀y,Nod n y→pl y<(n:Int))(hlt:pl m'<pl s'):Two n nx P N pl b m s (N m') s'∧Nod n m':=by
 have hm:Nod n m':=by
  rcases h.gm with e|e
  ·rw[e,hp]at hlt
   rcases h.gs with e2|e2
   ·rw[e2,hp]at hlt;omega
   ·have:=hpl _ e2.1;omega
  ·exact e.1
 refine⟨⟨Gp.next hN hm h.gm,h.gs,fun d hd=>?_⟩,hm⟩
 rw[←h.eq d hd]
 constructor
 ·rintro⟨g1,g2⟩
  exact⟨.next hm g1,g2⟩
 ·rintro⟨g1,g2⟩
  refine⟨?_,g2⟩
  rcases (InC.iff hm).1 g1 with rfl|g
  ·rcases h.gs with e| ⟨a,b1,c,-⟩
   ·rw[e]at g2;exact absurd g2 InC.exit
   ·have:=InC.up (b:=pl s') (fun y h1 h2 _=>hN y h1 (by omega)) (Int.le_refl _) b1 g2
    omega
  ·exact g
theorem Two.right{b m s m' s':Int}(h:Two n nx P N pl b m s m' s')(hN:∀y,Nod n y→b<pl y→Near n nx P N pl y)(hp:pl (n:Int)=n)(hpl:∀y,Nod n y→pl y<(n:Int))(hlt:pl s'<pl m'):Two n nx P N pl b m s m' (N s')∧Nod n s':=by
 obtain⟨h1,h2⟩:=h.swap.left hN hp hpl hlt
 exact⟨h1.swap,h2⟩
theorem near_of{b m:Int}(hN:∀y,Nod n y→b<pl y→Near n nx P N pl y)(he:∀y,Nod n y→b<pl y→N' y=N y)(hi:Nod n i)(hb:pl i=b)(hn:∀x,Nod n x→Inr n (nx x))(hp:¬P i)(h:Mt n nx P N pl b m (nx i))(hm:N' i=m):Near n nx P N' pl i:=by
 have hi1:i≠ -1:=by have:=hi.1;omega
 have hc:∀x,Nod n x→b<pl x→Sn nx P (-1) x→∀d,InC n N' d x↔InC n N d x:=fun x hx hbx hs d=>⟨InC.congr' (fun y h1 h2 _=>hN y h1 h2) he hbx hs,InC.congr (fun y h1 h2 _=>hN y h1 h2) he hbx hs⟩
 refine⟨?_,?_,fun hs d hd=>?_⟩
 ·rw[hm,Sn.iff hi1 hp]
  constructor
  ·rintro e ⟨y,hy,hs⟩
   exact h.none e y hy hs
  ·intro hno
   by_cases e:m= -1
   ·exact e
   ·obtain⟨-,⟨t,h1,h2⟩,-⟩:=h.some e
    exact absurd ⟨t,h1,h2⟩ hno
 ·rw[hm]
  intro e
  rcases (h.some e).1 with e2| ⟨a,b1,c,-⟩
  ·exact .inl e2
  ·exact .inr ⟨a,b1,by omega⟩
 ·have e:m≠ -1:=fun e=>by
   obtain⟨y,hy,h2⟩:=(Sn.iff hi1 hp).1 hs
   exact h.none e y hy h2
  obtain⟨h1,-,h5⟩:=h.some e
  rw[InC.iff hi,hm]
  have e1:InC n N' d m↔InC n N d m:=by
   rcases h1 with rfl| ⟨a,b1,c,-⟩
   ·exact⟨fun g=>absurd g InC.exit,fun g=>absurd g InC.exit⟩
   ·exact hc m a c b1 d
  rw[e1,h5 d hd]
  by_cases hdi:d=i
  ·subst hdi
   exact⟨fun _ g=>g.ne rfl,fun _=>.inl rfl⟩
  ·rw[Sn.iff (fun g=>hdi g.symm) hp]
   constructor
   ·rintro (g|g)
    ·exact absurd g hdi
    ·rintro⟨y,hy,h6⟩
     exact g y hy h6
   ·intro g
    exact .inr fun y hy h6=>g ⟨y,hy,h6⟩
theorem near_pt{b:Int}(hi:Nod n i)(hp:P i)(hm:N' i=(n:Int))(_:pl i=b):Near n nx P N' pl i:=by
 have hi1:i≠ -1:=by have:=hi.1;omega
 refine⟨?_,fun _=>.inl hm,fun _ d _=>?_⟩
 ·rw[hm]
  exact⟨fun e=>by omega,fun e=>absurd (.pt hi1 hp) e⟩
 ·rw[InC.iff hi,hm]
  by_cases hdi:d=i
  ·subst hdi
   exact⟨fun _ g=>g.ne rfl,fun _=>.inl rfl⟩
  ·constructor
   ·rintro (g|g)
    ·exact absurd g hdi
    ·exact absurd g InC.exit
   ·intro g
    exact absurd (.pt (fun e=>hdi e.symm) hp) g
end
inductive Rv (nx:Int→List Int) (nt f:Int):Int→Prop
 |base (h:f≠nt):Rv nx nt f f
 |step {x y:Int} (hx:Rv nx nt f x) (hy:y∈nx x) (h:y≠nt):Rv nx nt f y
section
variable {nx:Int→List Int} {P:Int→Prop} {nt f x y:Int}
theorem Rv.ne(h:Rv nx nt f x):x≠nt:=by cases h<;>assumption
theorem Rv.first(h:Rv nx nt f x):f≠nt:=by
 induction h with
 |base h=>exact h
 |step _ _ _ ih=>exact ih
theorem Rv.cons(h:Rv nx nt y x)(hf:f≠nt)(hy:y∈nx f):Rv nx nt f x:=by
 induction h with
 |base h=>exact .step (.base hf) hy h
 |step _ hz hn ih=>exact .step ih hz hn
theorem Rv.nod{n:Nat}(h:Rv nx nt f x)(hf:Nod n f)(hn:∀x,Nod n x→Inr n (nx x)):Nod n x:=by
 induction h with
 |base _=>exact hf
 |step _ hy _ ih=>exact hn _ ih _ hy
end
structure Rc(nx:Int→List Int)(n:Nat)(L:List Int)(nt f:Int)(r:Nat)(R:List Bool):Prop where
 len:R.length=n
 sound:∀j:Nat,bat R j=true→Rv nx nt f (j:Int)
 base:f≠nt→bat R f.toNat=true
 comp:∀j:Nat,Rv nx nt f (j:Int)→lat L j<(r:Int)→bat R j=true
structure Ri(nx:Int→List Int)(n:Nat)(nt f:Int)(R0:List Bool)(i k:Nat)(R:List Bool):Prop where
 len:R.length=n
 sound:∀j:Nat,bat R j=true→Rv nx nt f (j:Int)
 mono:∀j,bat R0 j=true→bat R j=true
 done:∀i' k':Nat,k'<n→(i'<i∨i'=i∧k'<k)→bat R0 k'=true→(i':Int)∈nx (k':Int)→(i':Int)≠nt→bat R i'=true
section
variable {nx:Int→List Int} {n:Nat} {L:List Int} {nt f:Int} {R0 R:List Bool} {r i k:Nat}
theorem Rc.start(hf:Nod n f)(hl:∀j:Nat,j<n→0≤lat L j)(hn:∀x,Nod n x→Inr n (nx x)){b:Bool}(hb:b=decide (f≠nt)):Rc nx n L nt f 0 ((List.replicate n false).set f.toNat b):=by
 have hlt:f.toNat<(List.replicate n false).length:=by rw[List.length_replicate];have:=hf.1;have:=hf.2;omega
 have hs:∀j,bat ((List.replicate n false).set f.toNat b) j=if j=f.toNat then b else false:=fun j=>by
  rw[bat_set hlt]
  split
  ·rfl
  ·exact bat_rep n j
 refine⟨by simp,fun j hj=>?_,fun h=>by rw[hs,if_pos rfl,hb];exact decide_eq_true h,fun j h hj=>?_⟩
 ·rw[hs]at hj
  split at hj
  ·rename_i e
   rw[hb]at hj
   have:(j:Int)=f:=by have:=hf.1;omega
   rw[this]
   exact .base (of_decide_eq_true hj)
  ·cases hj
 ·have:=(h.nod hf hn).2
  have:=hl j (by omega)
  omega
theorem Ri.start(h:Rc nx n L nt f r R):Ri nx n nt f R 0 0 R:=⟨h.len,h.sound,fun _ h=>h,fun i' k' _ hik=>by omega⟩
theorem Ri.row(h:Ri nx n nt f R0 i n R):Ri nx n nt f R0 (i+1) 0 R:=⟨h.len,h.sound,h.mono,fun i' k' hk hik=>h.done i' k' hk (by omega)⟩
theorem Ri.keep(h:Ri nx n nt f R0 i k R)(hno:¬(bat R k=true∧(i:Int)≠nt∧(i:Int)∈nx (k:Int))):Ri nx n nt f R0 i (k+1) R:=by
 refine⟨h.len,h.sound,h.mono,fun i' k' hk hik h1 h2 h3=>?_⟩
 by_cases e:i'=i∧k'=k
 ·obtain⟨rfl,rfl⟩:=e
  exact absurd ⟨h.mono _ h1,h3,h2⟩ hno
 ·exact h.done i' k' hk (by omega) h1 h2 h3
theorem Ri.put(h:Ri nx n nt f R0 i k R)(hi:i<n)(h1:bat R k=true)(h2:(i:Int)≠nt)(h3:(i:Int)∈nx (k:Int)):Ri nx n nt f R0 i (k+1) (R.set i true):=by
 have hs:∀j,bat (R.set i true) j=if j=i then true else bat R j:=fun j=>bat_set (by rw[h.len];exact hi)
 have hm:∀j,bat R j=true→bat (R.set i true) j=true:=fun j hj=>by rw[hs];split<;>simp[hj]
 refine⟨by rw[List.length_set];exact h.len,fun j hj=>?_,fun j hj=>hm j (h.mono j hj),fun i' k' hk hik h4 h5 h6=>?_⟩
 ·rw[hs]at hj
  split at hj
  ·rename_i e
   subst e
   exact .step (h.sound k h1) h3 h2
  ·exact h.sound j hj
 ·by_cases e:i'=i
  ·rw[hs,if_pos e]
  ·exact hm _ (h.done i' k' hk (by omega) h4 h5 h6)
theorem Ri.stop(h0:Rc nx n L nt f r R0)(hf:Nod n f)(hn:∀x,Nod n x→Inr n (nx x))(hl:∀x y:Nat,x<n→(y:Int)∈nx (x:Int)→lat L x<lat L y)(h:Ri nx n nt f R0 n 0 R):Rc nx n L nt f (r+1) R:=by
 refine⟨h.len,h.sound,fun hne=>h.mono _ (h0.base hne),fun j hj hlt=>?_⟩
 have hj2:=hj.nod hf hn
 generalize hz:(j:Int)=z at hj hj2
 cases hj with
 |base hne=>
  have e:j=f.toNat:=by omega
  rw[e]
  exact h.mono _ (h0.base hne)
 | @step x _ hx hy hne=>
   have h2:=hx.nod hf hn
   have e:((x.toNat:Nat):Int)=x:=Int.toNat_of_nonneg h2.1
   rw[←e]at hx hy
   rw[←hz]at hy hne hj2
   have h3:=hl x.toNat j (by have:=h2.2;omega) hy
   exact h.done j x.toNat (by have:=h2.2;omega) (.inl (by have:=hj2.2;omega)) (h0.comp _ hx (by omega)) hy hne
theorem Rc.all(h:Rc nx n L nt f n R)(hf:Nod n f)(hn:∀x,Nod n x→Inr n (nx x))(hl:∀j:Nat,j<n→lat L j<(n:Int))(j:Nat):bat R j=true↔Rv nx nt f (j:Int):=
 ⟨h.sound j,fun hj=>h.comp j hj (hl j (by have:=(hj.nod hf hn).2;omega))⟩
end
inductive Stm (nx:Int→List Int) (P:Int→Prop):Int→Int→Prop
 |self {i:Int} (h:P i∨(nx i).length≠1):Stm nx P i i
 |go {i r s:Int} (hp:¬P i) (hr:nx i=[r]) (h:Stm nx P r s):Stm nx P i s
section
variable {nx:Int→List Int} {P:Int→Prop} {i s t:Int}
theorem Stm.up{n:Nat}{pl:Int→Int}(h:Stm nx P i s)(hi:Nod n i)(hn:∀x,Nod n x→Inr n (nx x))(hp:∀x y,Nod n x→y∈nx x→pl x<pl y):Nod n s∧(s=i∨pl i<pl s):=by
 induction h with
 |self _=>exact⟨hi,.inl rfl⟩
 | @go i r s _ hr _ ih=>
   have h1:r∈nx i:=by rw[hr];simp
   obtain⟨a,b⟩:=ih (hn i hi r h1)
   have h2:=hp i r hi h1
   refine⟨a,.inr ?_⟩
   rcases b with rfl|b
   ·exact h2
   ·omega
end
theorem lat_nat(lv:List Int){x:Int}(h:0≤x):lat lv ((x.toNat:Nat):Int)=lat lv x:=by rw[Int.toNat_of_nonneg h]
structure RI(nodes:List Nd)(prev:List Int)(k:Nat)(l:List Int)(s:List Int×Bool):Prop where
 len:s.1.length=nodes.length
 pos:∀i:Nat,0≤lat s.1 i
 up:∀i:Nat,lat prev i≤lat s.1 i
 same:s.2=false→s.1=prev
 le:∀L,Lvl nodes L→∀i:Nat,i<nodes.length→lat s.1 i≤lat L i
 old:∀j:Nat,j<k→∀x∈dep nodes j,lat prev x+1≤lat s.1 j
 now:∀x∈l,lat prev x+1≤lat s.1 k
 chg:s.2=true→∃i:Nat,i<nodes.length∧lat prev i<lat s.1 i
theorem RI.next{nodes:List Nd}{prev:List Int}{k:Nat}{s:List Int×Bool}(h:RI nodes prev k (dep nodes k) s):RI nodes prev (k+1) [] s:=
 ⟨h.len,h.pos,h.up,h.same,h.le,fun j hj x hx=>by
  by_cases e:j=k
  ·subst e;exact h.now x hx
  ·exact h.old j (by omega) x hx,fun x hx=>absurd hx (List.not_mem_nil),h.chg⟩
structure RO(nodes:List Nd)(k:Nat)(out:List Int):Prop where
 len:out.length=nodes.length
 pos:∀i:Nat,0≤lat out i
 le:∀L,Lvl nodes L→∀i:Nat,i<nodes.length→lat out i≤lat L i
 eq:∀L,Lvl nodes L→∀i:Nat,i<nodes.length→lat L i≤(k:Int)→lat out i=lat L i
theorem RO.start(nodes:List Nd):RO nodes 0 (List.replicate nodes.length 0):=by
 have hz:∀i:Nat,lat (List.replicate nodes.length 0) i=0:=fun i=>by
  unfold lat;rw[List.getD_eq_getElem?_getD,List.getElem?_replicate];split<;>rfl
 refine⟨by simp,fun i=>(by rw[hz];exact Int.le_refl _),fun L hL i hi=>(by rw[hz];exact hL.nonneg hi),fun L hL i hi h=>?_⟩
 have:=hL.nonneg hi
 rw[hz];omega
theorem levf_ge{L:List Int}{l:List Int}{b:Int}(h0:0≤b)(h:∀x∈l,lat L x+1≤b):levf L l≤b:=by
 rcases levf_is L l with e| ⟨x,hx,e⟩
 ·omega
 ·have:=h x hx;omega
theorem RO.next{nodes:List Nd}{k:Nat}{out:List Int}{s:List Int×Bool}(hw:Wf nodes)(h:RO nodes k out)(hs:RI nodes out nodes.length [] s):RO nodes (k+1) s.1:=by
 refine⟨hs.len,hs.pos,hs.le,fun L hL i hi hlt=>?_⟩
 have h1:=hs.le L hL i hi
 have h2:lat L i=levf out (dep nodes i):=by
  rw[hL.2 i hi]
  refine levf_congr fun x hx=>?_
  have hb:=hw.dep (i:=(i:Int)) (by simpa using hi) hx
  have h3:=hL.lt (i:=(i:Int)) (by omega) (by omega) hx
  have h4:=h.eq L hL x.toNat (by omega) (by rw[lat_nat _ hb.1];omega)
  rw[lat_nat _ hb.1,lat_nat _ hb.1]at h4
  exact h4.symm
 have h3:=levf_ge (hs.pos i) (hs.old i hi)
 omega
theorem countP_lt{α:Type}{p q:α→Bool} :∀ {l:List α},(∀x∈l,p x=true→q x=true)→(∃x∈l,q x=true∧p x=false)→l.countP p+1≤l.countP q
 |[],_,⟨x,hx,_⟩=>absurd hx (List.not_mem_nil)
 |y::l,h,⟨x,hx,hq,hp⟩=>by
  have hmono:l.countP p≤l.countP q:=List.countP_mono_left fun x hx h'=>h x (List.mem_cons_of_mem _ hx) h'
  rw[List.countP_cons,List.countP_cons]
  rcases List.mem_cons.1 hx with rfl|hx
  ·rw[hq,hp];simp;omega
  ·have ih:=countP_lt (l:=l) (fun x hx=>h x (List.mem_cons_of_mem _ hx)) ⟨x,hx,hq,hp⟩
   by_cases hy:p y=true
   ·have:=h y List.mem_cons_self hy
    rw[hy,this];simp;omega
   ·have:p y=false:=by simpa using hy
    rw[this]
    simp;split<;>omega
theorem Lvl.down{nodes:List Nd}{L:List Int}(hw:Wf nodes)(h:Lvl nodes L):∀(m:Nat) (i:Nat),i<nodes.length→lat L i=(m:Int)→∀m':Nat,m'≤m→∃j:Nat,j<nodes.length∧lat L j=(m':Int)
 |0,i,hi,e,m',hm=>⟨i,hi,by rw[e];omega⟩
 |m+1,i,hi,e,m',hm=>by
  by_cases hmm:m'=m+1
  ·subst hmm;exact⟨i,hi,e⟩
  ·rcases levf_is L (dep nodes i) with e0| ⟨x,hx,e0⟩
   ·rw[←h.2 i hi]at e0;omega
   ·rw[←h.2 i hi]at e0
    have hb:=hw.dep (i:=(i:Int)) (by simpa using hi) hx
    exact Lvl.down hw h m x.toNat (by omega) (by rw[lat_nat _ hb.1];omega) m' (by omega)
theorem Lvl.bound{nodes:List Nd}{L:List Int}(hw:Wf nodes)(h:Lvl nodes L){i:Nat}(hi:i<nodes.length):lat L i<(nodes.length:Int):=by
 have h0:=h.nonneg hi
 have key:∀m:Nat,(m:Int)≤lat L i→m+1≤(List.range nodes.length).countP fun(j:Nat)=>decide (lat L j≤(m:Int)):=by
  intro m
  induction m with
  |zero=>
   intro hm
   obtain⟨j,hj,e⟩:=h.down hw (lat L i).toNat i hi (by omega) 0 (Nat.zero_le _)
   have:0<(List.range nodes.length).countP fun(j:Nat)=>decide (lat L j≤((0:Nat):Int)):=List.countP_pos_iff.2 ⟨j,List.mem_range.2 hj,by simp[e]⟩
   omega
  |succ m ih=>
   intro hm
   have h1:=ih (by omega)
   obtain⟨j,hj,e⟩:=h.down hw (lat L i).toNat i hi (by omega) (m+1) (by omega)
   have:=countP_lt (l:=List.range nodes.length) (p:=fun(j:Nat)=>decide (lat L j≤(m:Int))) (q:=fun(j:Nat)=>decide (lat L j≤((m+1:Nat):Int)))
    (fun x _ hx=>by simp at hx ⊢;omega) ⟨j,List.mem_range.2 hj,by simp[e],by simp[e];omega⟩
   omega
 have:=key (lat L i).toNat (by omega)
 have h2:(List.range nodes.length).countP (fun(j:Nat)=>decide (lat L j≤(((lat L i).toNat:Nat):Int)))≤(List.range nodes.length).length:=List.countP_le_length
 rw[List.length_range]at h2
 omega
theorem RO.more{nodes:List Nd}{k:Nat}{out:List Int}{s:List Int×Bool}(hw:Wf nodes)(h:RO nodes k out)(hs:RI nodes out nodes.length [] s)(ht:s.2=true)(hL:∃L,Lvl nodes L):k+1≤nodes.length:=by
 obtain⟨L,hL⟩:=hL
 refine Classical.byContradiction fun hk=>?_
 obtain⟨i,hi,hlt⟩:=hs.chg ht
 have h1:=hL.bound hw hi
 have h2:=h.eq L hL i hi (by omega)
 have h3:=hs.le L hL i hi
 omega
def lvIt(nodes:List Nd):Nat→List Int
 |0=>List.replicate nodes.length 0
 |m+1=>(List.range nodes.length).map fun(i:Nat)=>levf (lvIt nodes m) (dep nodes i)
theorem lvIt_at(nodes:List Nd)(m:Nat){i:Nat}(hi:i<nodes.length):lat (lvIt nodes (m+1)) i=levf (lvIt nodes m) (dep nodes i):=by
 simp[lvIt,lat,List.getD_eq_getElem?_getD,hi]
theorem lvl_of_rank{nodes:List Nd}(hw:Wf nodes)(f:List Int)(h0:∀i:Nat,0≤lat f i)(h:∀j:Nat,j<nodes.length→∀x∈dep nodes j,lat f x+1≤lat f j):∃L,Lvl nodes L:=by
 have hst:∀m:Nat,∀i:Nat,i<nodes.length→lat f i<(m:Int)→lat (lvIt nodes m) i=lat (lvIt nodes (m+1)) i:=by
  intro m
  induction m with
  |zero=>intro i hi hlt;have:=h0 i;omega
  |succ m ih=>
   intro i hi hlt
   rw[lvIt_at _ _ hi,lvIt_at _ _ hi]
   refine levf_congr fun x hx=>?_
   have hb:=hw.dep (i:=(i:Int)) (by simpa using hi) hx
   have h1:=h i hi x hx
   have h2:=ih x.toNat (by omega) (by rw[lat_nat _ hb.1];omega)
   rw[lat_nat _ hb.1,lat_nat _ hb.1]at h2
   exact h2
 have hM:∀l:List Int,∃M:Nat,∀x∈l,x<(M:Int):=by
  intro l
  induction l with
  |nil=>exact⟨0,fun x hx=>absurd hx (List.not_mem_nil)⟩
  |cons a l ih=>
   obtain⟨M,hM⟩:=ih
   refine⟨max M (a.toNat+1),fun x hx=>?_⟩
   rcases List.mem_cons.1 hx with rfl|hx
   ·omega
   ·have:=hM x hx;omega
 obtain⟨M,hM⟩:=hM f
 have hb:∀i:Nat,lat f i<((M+1:Nat):Int):=fun i=>by
  unfold lat
  by_cases hl:(i:Int).toNat<f.length
  ·rw[List.getD_eq_getElem?_getD,List.getElem?_eq_getElem hl]
   have h1:=hM _ (List.getElem_mem hl)
   show f[(i:Int).toNat]<_
   omega
  ·rw[List.getD_eq_getElem?_getD,List.getElem?_eq_none (by omega)]
   show (0:Int)<_
   omega
 refine⟨lvIt nodes (M+1),by simp[lvIt],fun i hi=>?_⟩
 rw[hst (M+1) i hi (hb i),lvIt_at _ _ hi]
theorem RO.stop{nodes:List Nd}{out:List Int}{s:List Int×Bool}(hw:Wf nodes)(hs:RI nodes out nodes.length [] s)(hf:s.2=false):Lvl nodes s.1:=by
 have e:=hs.same hf
 have hold:∀j:Nat,j<nodes.length→∀x∈dep nodes j,lat s.1 x+1≤lat s.1 j:=by rw[e];have:=hs.old;rw[e]at this;exact this
 obtain⟨L,hL⟩:=lvl_of_rank hw s.1 hs.pos hold
 have key:∀(m:Nat) (i:Nat),i<nodes.length→lat L i<(m:Int)→lat s.1 i=lat L i:=by
  intro m
  induction m with
  |zero=>intro i hi hlt;have:=hL.nonneg hi;omega
  |succ m ih=>
   intro i hi hlt
   have h1:=hs.le L hL i hi
   have h2:lat L i=levf s.1 (dep nodes i):=by
    rw[hL.2 i hi]
    refine levf_congr fun x hx=>?_
    have hb:=hw.dep (i:=(i:Int)) (by simpa using hi) hx
    have h3:=hL.lt (i:=(i:Int)) (by omega) (by omega) hx
    have h4:=ih x.toNat (by omega) (by rw[lat_nat _ hb.1];omega)
    rw[lat_nat _ hb.1,lat_nat _ hb.1]at h4
    exact h4.symm
   have h3:=levf_ge (hs.pos i) (hold i hi)
   omega
 have e2:s.1=L:=ext_lat (by rw[hs.len,hL.1]) fun i hi=>key (lat L i+1).toNat i (by rw[hs.len]at hi;exact hi) (by have:=hL.nonneg (i:=i) (by rw[hs.len]at hi;exact hi);omega)
 rw[e2];exact hL
/-! The order. -/
theorem sorted_sub{α:Type}{r:α→α→Prop}(ht:∀a b c,r a b→r b c→r a c)(hi:∀a,¬r a a):∀ {l2 l1:List α},l1.Pairwise r→l2.Pairwise r→(∀x∈l1,x∈l2)→l1.Sublist l2
 |[],l1,_,_,h=>by
  cases l1 with
  |nil=>exact List.Sublist.slnil
  |cons a l=>exact absurd (h a List.mem_cons_self) (List.not_mem_nil)
 |b::l2,[],_,_,_=>List.nil_sublist _
 |b::l2,a::t,h1,h2,h=>by
  obtain⟨h11,h12⟩:=List.pairwise_cons.1 h1
  obtain⟨h21,h22⟩:=List.pairwise_cons.1 h2
  rcases List.mem_cons.1 (h a List.mem_cons_self) with e|hm
  ·subst e
   refine List.Sublist.cons_cons _ (sorted_sub ht hi h12 h22 fun x hx=>?_)
   rcases List.mem_cons.1 (h x (List.mem_cons_of_mem _ hx)) with e|hm
   ·subst e;exact absurd (h11 _ hx) (hi _)
   ·exact hm
  ·refine List.Sublist.cons _ (sorted_sub ht hi h1 h22 fun x hx=>?_)
   rcases List.mem_cons.1 hx with e|hx'
   ·rw[e];exact hm
   ·rcases List.mem_cons.1 (h x hx) with e|hm'
    ·subst e;exact absurd (ht _ _ _ (h21 a hm) (h11 _ hx')) (hi _)
    ·exact hm'
theorem Lex.trans{L:List Int}{a b c:Int}(h:Lex L a b)(h':Lex L b c):Lex L a c:=by
 rcases h with h| ⟨h,h2⟩ <;>rcases h' with h'| ⟨h',h3⟩
 ·exact .inl (by omega)
 ·exact .inl (by omega)
 ·exact .inl (by omega)
 ·exact .inr ⟨by omega,by omega⟩
theorem Lex.irr{L:List Int}(a:Int):¬Lex L a a:=fun h=>by
 rcases h with h| ⟨-,h⟩ <;>omega
def atLv(L:List Int)(v k:Nat):List Int:=((List.range k).filter fun(i:Nat)=>lat L i==(v:Int)).map fun(i:Nat)=>(i:Int)
def ordTo(L:List Int)(n:Nat):Nat→List Int
 |0=>[]
 |m+1=>ordTo L n m++atLv L m n
theorem atLv_succ(L:List Int)(v k:Nat):atLv L v (k+1)=if (lat L k==(v:Int))=true then atLv L v k++[(k:Int)] else atLv L v k:=by
 unfold atLv
 rw[List.range_succ,List.filter_append,List.map_append]
 by_cases h:(lat L k==(v:Int))=true
 ·rw[if_pos h];simp[h]
 ·rw[if_neg h];simp[h]
theorem atLv_mem{L:List Int}{v k:Nat}{x:Int} :x∈atLv L v k↔∃i:Nat,x=(i:Int)∧i<k∧lat L i=(v:Int):=by
 unfold atLv
 simp only[List.mem_map,List.mem_filter,List.mem_range,beq_iff_eq]
 constructor
 ·rintro⟨i,⟨h1,h2⟩,rfl⟩;exact⟨i,rfl,h1,h2⟩
 ·rintro⟨i,rfl,h1,h2⟩;exact⟨i,⟨h1,h2⟩,rfl⟩
theorem ordTo_mem{L:List Int}{n:Nat}{x:Int} :∀ {m:Nat},x∈ordTo L n m↔∃i:Nat,x=(i:Int)∧i<n∧0≤lat L i∧lat L i<(m:Int)
 |0=>by
  simp only[ordTo,List.not_mem_nil,false_iff]
  rintro⟨i,_,_,h1,h2⟩;omega
 |m+1=>by
  rw[ordTo,List.mem_append,ordTo_mem (m:=m),atLv_mem]
  constructor
  ·rintro (⟨i,h1,h2,h3,h4⟩| ⟨i,h1,h2,h3⟩)
   ·exact⟨i,h1,h2,h3,by omega⟩
   ·exact⟨i,h1,h2,by omega,by omega⟩
  ·rintro⟨i,h1,h2,h3,h4⟩
   by_cases h:lat L i=(m:Int)
   ·exact .inr ⟨i,h1,h2,h⟩
   ·exact .inl ⟨i,h1,h2,h3,by omega⟩
theorem atLv_sorted(L:List Int)(v:Nat):∀k,(atLv L v k).Pairwise (Lex L)
 |0=>List.Pairwise.nil
 |k+1=>by
  rw[atLv_succ]
  split
  ·rename_i h
   refine List.pairwise_append.2 ⟨atLv_sorted L v k,List.pairwise_singleton _ _,fun a ha b hb=>?_⟩
   obtain rfl:=List.mem_singleton.1 hb
   obtain⟨i,rfl,h1,h2⟩:=atLv_mem.1 ha
   have h3:lat L k=(v:Int):=by simpa using h
   exact .inr ⟨by omega,by omega⟩
  ·exact atLv_sorted L v k
theorem ordTo_sorted(L:List Int)(n:Nat):∀m,(ordTo L n m).Pairwise (Lex L)
 |0=>List.Pairwise.nil
 |m+1=>by
  refine List.pairwise_append.2 ⟨ordTo_sorted L n m,atLv_sorted L m n,fun a ha b hb=>?_⟩
  obtain⟨i,rfl,h1,h2,h3⟩:=ordTo_mem.1 ha
  obtain⟨j,rfl,h4,h5⟩:=atLv_mem.1 hb
  exact .inl (by omega)
theorem sorted_len{L:List Int}{n:Nat}{l:List Int}(h:l.Pairwise (Lex L))(hm:∀x∈l,0≤x∧x<(n:Int)):l.length≤n:=by
 have hn:l.Nodup:=h.imp fun {a b} hab e=>by subst e;exact Lex.irr _ hab
 have key:∀(n:Nat) (l:List Int),l.Nodup→(∀x∈l,0≤x∧x<(n:Int))→l.length≤n:=by
  intro n
  induction n with
  |zero=>
   intro l _ hm
   cases l with
   |nil=>simp
   |cons a l=>have:=hm a List.mem_cons_self;omega
  |succ n ih=>
   intro l hn hm
   have h1:=ih (l.erase (n:Int)) (hn.erase _) fun x hx=>by
    have h2:=(hn.mem_erase_iff).1 hx
    have h3:=hm x h2.2
    exact⟨h3.1,by have:=h2.1;omega⟩
   have h2:=List.length_erase (a:=(n:Int)) (l:=l)
   split at h2<;>omega
 exact key n l hn hm
theorem ordTo_len(L:List Int)(n m:Nat):(ordTo L n m).length≤n:=sorted_len (ordTo_sorted L n m) fun x hx=>by
 obtain⟨i,rfl,h1,-⟩:=ordTo_mem.1 hx
 omega
theorem ord_eq{L:List Int}{n m:Nat}{R:List Int}(hR:SortTo L n n R)(hL:∀i:Nat,i<n→0≤lat L i∧lat L i<(m:Int)):R=ordTo L n m:=by
 obtain⟨S,h1,h2,-,h4,h5⟩:=hR
 have e:R=S:=by rw[h1];simp[rng]
 subst e
 have hs:R.Sublist (ordTo L n m):=sorted_sub (r:=Lex L) (fun _ _ _ h h'=>Lex.trans h h') Lex.irr h4 (ordTo_sorted L n m) fun x hx=>by
  have hb:=h5 x hx
  refine ordTo_mem.2 ⟨x.toNat,by omega,by omega,?_,?_⟩
  ·exact (hL x.toNat (by omega)).1
  ·exact (hL x.toNat (by omega)).2
 exact hs.eq_of_length_le (by rw[h2];exact ordTo_len L n m)
theorem ordTo_full{L:List Int}{n m:Nat}(hL:∀i:Nat,i<n→0≤lat L i∧lat L i<(m:Int)):(ordTo L n m).length=n:=by
 have h1:=ordTo_len L n m
 have h2:(rng 0 n).length≤(ordTo L n m).length:=by
  have hn:(rng 0 n).Nodup:=by
   unfold rng
   refine List.pairwise_map.2 (List.nodup_range.imp ?_)
   intro a b h e;simp only[Nat.zero_add]at e;omega
  have hsub:∀(l l':List Int),l.Nodup→(∀x∈l,x∈l')→l.length≤l'.length:=by
   intro l
   induction l with
   |nil=>intro l' _ _;simp
   |cons a l ih=>
    intro l' hn hm
    have h1:=List.nodup_cons.1 hn
    have h2:=ih (l'.erase a) h1.2 fun x hx=>by
     have hne:x≠a:=fun e=>h1.1 (e▸hx)
     exact (List.mem_erase_of_ne hne).2 (hm x (List.mem_cons_of_mem _ hx))
    have h3:=List.length_erase_of_mem (hm a List.mem_cons_self)
    have h4:=List.length_pos_of_mem (hm a List.mem_cons_self)
    simp only[List.length_cons];omega
  refine hsub _ _ hn fun x hx=>?_
  unfold rng at hx
  obtain⟨i,hi,rfl⟩:=List.mem_map.1 hx
  have hi':=List.mem_range.1 hi
  exact ordTo_mem.2 ⟨i,by omega,by omega,(hL i (by omega)).1,(hL i (by omega)).2⟩
 rw[rng_len]at h2
 omega
structure Ord5(L:List Int)(n:Nat)(O:List Int):Prop where
 len:O.length=n
 rg:∀k,k<n→∃x:Nat,x<n∧O.getD k 0=(x:Int)
 dif:∀j k,j<k→k<n→Lex L (O.getD j 0) (O.getD k 0)
 all:∀y:Int,Nod n y→∃k,k<n∧O.getD k 0=y
theorem ord5_of{L O:List Int}{n:Nat}(h:SortTo L n n O)(hL:∀i:Nat,i<n→0≤lat L i∧lat L i<(n:Int)):Ord5 L n O:=by
 have he:=ord_eq h hL
 obtain⟨S,h1,h2,h3,h4,h5⟩:=h
 have hR:O=S:=by rw[h1];simp[rng]
 subst hR
 have hg:∀k,(hk:k<O.length)→O.getD k 0=O[k]:=fun k hk=>by rw[List.getD_eq_getElem?_getD,List.getElem?_eq_getElem hk];rfl
 refine⟨h2,fun k hk=>?_,fun j k hj hk=>?_,fun y hy=>?_⟩
 ·have hk':k<O.length:=by omega
  have:=h5 _ (List.getElem_mem hk')
  refine⟨O[k].toNat,by omega,?_⟩
  rw[hg k hk']
  omega
 ·rw[hg j (by omega),hg k (by omega)]
  exact List.pairwise_iff_getElem.1 h4 j k (by omega) (by omega) hj
 ·have hm:y∈O:=by
   rw[he]
   exact ordTo_mem.2 ⟨y.toNat,by have:=hy.1;omega,by have:=hy.1;have:=hy.2;omega,(hL _ (by have:=hy.1;have:=hy.2;omega)).1,(hL _ (by have:=hy.1;have:=hy.2;omega)).2⟩
  obtain⟨k,hk,e⟩:=List.mem_iff_getElem.1 hm
  exact⟨k,by omega,by rw[hg k hk];exact e⟩
section
variable {L O Pl N St:List Int} {n k:Nat} {nx:Int→List Int} {P:Int→Prop}
theorem Ord5.inj(h:Ord5 L n O){j k:Nat}(hj:j<n)(hk:k<n)(e:O.getD j 0=O.getD k 0):j=k:=by
 rcases Nat.lt_trichotomy j k with a|a|a
 ·have:=h.dif j k a hk
  rw[e]at this
  unfold Lex at this;omega
 ·exact a
 ·have:=h.dif k j a hj
  rw[e]at this
  unfold Lex at this;omega
theorem Ord5.before(h:Ord5 L n O){j k:Nat}(hj:j<n)(hk:k<n)(e:lat L (O.getD j 0)<lat L (O.getD k 0)):j<k:=by
 rcases Nat.lt_trichotomy j k with a|a|a
 ·exact a
 ·subst a;omega
 ·have:=h.dif k j a hj
  unfold Lex at this;omega
structure PlI(O:List Int)(n k:Nat)(Pl:List Int):Prop where
 len:Pl.length=n+1
 at':∀j,j<k→Pl.getD (O.getD j 0).toNat 0=(j:Int)
theorem getDI_set{l:List Int}{i j:Nat}{x:Int}(hi:i<l.length):(l.set i x).getD j 0=if j=i then x else l.getD j 0:=by
 rw[List.getD_eq_getElem?_getD,List.getD_eq_getElem?_getD,List.getElem?_set]
 by_cases h:i=j
 ·subst h;rw[if_pos rfl,if_pos rfl,if_pos hi];rfl
 ·rw[if_neg h,if_neg fun e=>h e.symm]
theorem PlI.start(n:Nat):PlI O n 0 (List.replicate (n+1) 0):=⟨List.length_replicate,fun j h=>absurd h (Nat.not_lt_zero j)⟩
theorem PlI.step(h:PlI O n k Pl)(hO:Ord5 L n O)(hk:k<n):PlI O n (k+1) (Pl.set (O.getD k 0).toNat (k:Int)):=by
 obtain⟨x,hx,ex⟩:=hO.rg k hk
 have hl:=h.len
 refine⟨by rw[List.length_set];exact hl,fun j hj=>?_⟩
 rw[getDI_set (by rw[ex,Int.toNat_natCast];omega)]
 by_cases e:j=k
 ·subst e;rw[if_pos rfl]
 ·obtain⟨y,hy,ey⟩:=hO.rg j (by omega)
  rw[if_neg,h.at' j (by omega)]
  intro e2
  refine e (hO.inj (by omega) hk ?_)
  rw[ex,ey,Int.toNat_natCast,Int.toNat_natCast]at e2
  rw[ex,ey,e2]
structure Plc(O:List Int)(n:Nat)(Pl:List Int):Prop where
 len:Pl.length=n+1
 at':∀j,j<n→Pl.getD (O.getD j 0).toNat 0=(j:Int)
 ex:Pl.getD n 0=(n:Int)
theorem PlI.stop(h:PlI O n n Pl)(hO:Ord5 L n O):Plc O n (Pl.set n (n:Int)):=by
 have hl:=h.len
 refine⟨by rw[List.length_set];exact hl,fun j hj=>?_,by rw[getDI_set (by omega),if_pos rfl]⟩
 obtain⟨x,hx,e⟩:=hO.rg j hj
 rw[getDI_set (by omega),if_neg (by rw[e,Int.toNat_natCast];omega),h.at' j hj]
theorem Plc.lt(h:Plc O n Pl)(hO:Ord5 L n O){y:Int}(hy:Nod n y):0≤Pl.getD y.toNat 0∧Pl.getD y.toNat 0<(n:Int):=by
 obtain⟨k,hk,rfl⟩:=hO.all y hy
 rw[h.at' k hk]
 omega
theorem Plc.inj(h:Plc O n Pl)(hO:Ord5 L n O){x y:Int}(hx:Nod n x)(hy:Nod n y)(e:Pl.getD x.toNat 0=Pl.getD y.toNat 0):x=y:=by
 obtain⟨k,hk,rfl⟩:=hO.all y hy
 obtain⟨j,hj,rfl⟩:=hO.all x hx
 rw[h.at' k hk,h.at' j hj]at e
 obtain rfl:j=k:=by omega
 rfl
theorem Plc.up(h:Plc O n Pl)(hO:Ord5 L n O){x y:Int}(hx:Nod n x)(hy:Nod n y)(e:lat L x<lat L y):Pl.getD x.toNat 0<Pl.getD y.toNat 0:=by
 obtain⟨k,hk,rfl⟩:=hO.all y hy
 obtain⟨j,hj,rfl⟩:=hO.all x hx
 rw[h.at' k hk,h.at' j hj]
 have:=hO.before hj hk e
 omega
structure StI(nx:Int→List Int)(P:Int→Prop)(O:List Int)(n k:Nat)(St:List Int):Prop where
 len:St.length=n
 at':∀m,n≤m+k→m<n→Stm nx P (O.getD m 0) (St.getD (O.getD m 0).toNat 0)∧Nod n (St.getD (O.getD m 0).toNat 0)
theorem StI.start(h:St.length=n):StI nx P O n 0 St:=⟨h,fun m h1 h2=>by omega⟩
theorem StI.put(h:StI nx P O n k St)(hO:Ord5 L n O){j x:Nat}{s:Int}(hn:n=k+1+j)(hx:O.getD j 0=(x:Int))(hs:Stm nx P (x:Int) s)(hd:Nod n s):StI nx P O n (k+1) (St.set x s):=by
 have hl:=h.len
 obtain⟨x',hx',e'⟩:=hO.rg j (by omega)
 obtain rfl:x=x':=by rw[hx]at e';omega
 refine⟨by rw[List.length_set];exact hl,fun m h1 h2=>?_⟩
 obtain⟨y,hy,ey⟩:=hO.rg m h2
 rw[ey,Int.toNat_natCast,getDI_set (by omega)]
 by_cases e:y=x
 ·subst e;rw[if_pos rfl];exact⟨hs,hd⟩
 ·rw[if_neg e]
  have hm:m≠j:=fun e2=>e (by rw[e2,hx]at ey;omega)
  have:=h.at' m (by omega) h2
  rwa [ey,Int.toNat_natCast]at this
theorem StI.all(h:StI nx P O n n St)(hO:Ord5 L n O){i:Nat}(hi:i<n):Stm nx P (i:Int) (St.getD i 0)∧Nod n (St.getD i 0):=by
 obtain⟨m,hm,e⟩:=hO.all (i:Int) ⟨by omega,by omega⟩
 have:=h.at' m (by omega) hm
 rwa [e,Int.toNat_natCast]at this
def nrf(N:List Int)(x:Int):Int:=N.getD x.toNat 0
structure NrI(nx:Int→List Int)(P:Int→Prop)(Pl:List Int)(n k:Nat)(N:List Int):Prop where
 len:N.length=n
 near:∀y,Nod n y→(n:Int)≤nrf Pl y+(k:Int)→Near n nx P (nrf N) (nrf Pl) y
theorem NrI.start(h:N.length=n)(hP:Plc O n Pl)(hO:Ord5 L n O):NrI nx P Pl n 0 N:=⟨h,fun y hy h1=>by have:=(hP.lt hO hy).2;unfold nrf at h1;omega⟩
theorem nrf_set{N:List Int}{i y m:Int}(hi:0≤i∧i.toNat<N.length)(hy:0≤y)(h:y≠i):nrf (N.set i.toNat m) y=nrf N y:=by
 unfold nrf
 rw[getDI_set hi.2,if_neg (by omega)]
theorem NrI.put(h:NrI nx P Pl n k N)(hP:Plc O n Pl)(hO:Ord5 L n O){j x:Nat}{m:Int}(hn:n=k+1+j)(hx:O.getD j 0=(x:Int))(hnx:∀x,Nod n x→Inr n (nx x))(h1:P (x:Int)→m=(n:Int))(h2:¬P (x:Int)→Mt n nx P (nrf N) (nrf Pl) (j:Int) m (nx x)):NrI nx P Pl n (k+1) (N.set x m):=by
 have hl:=h.len
 obtain⟨x',hx',e'⟩:=hO.rg j (by omega)
 obtain rfl:x=x':=by rw[hx]at e';omega
 have hpx:nrf Pl (x:Int)=(j:Int):=by
  unfold nrf
  have:=hP.at' j (by omega)
  rwa [hx]at this
 have hnd:Nod n (x:Int):=⟨by omega,by omega⟩
 have hN:∀y,Nod n y→(j:Int)<nrf Pl y→Near n nx P (nrf N) (nrf Pl) y:=fun y hy hlt=>h.near y hy (by omega)
 have he:∀y,Nod n y→(j:Int)<nrf Pl y→nrf (N.set x m) y=nrf N y:=fun y hy hlt=>by
  have:=nrf_set (N:=N) (i:=(x:Int)) (y:=y) (m:=m) ⟨by omega,by rw[Int.toNat_natCast];omega⟩ hy.1 (fun e=>by rw[e,hpx]at hlt;omega)
  rwa [Int.toNat_natCast]at this
 have hm:nrf (N.set x m) (x:Int)=m:=by unfold nrf;rw[Int.toNat_natCast,getDI_set (by omega),if_pos rfl]
 refine⟨by rw[List.length_set];exact hl,fun y hy hle=>?_⟩
 by_cases e:y=(x:Int)
 ·subst e
  by_cases hp:P (x:Int)
  ·exact near_pt hnd hp (by rw[hm];exact h1 hp) hpx
  ·exact near_of hN he hnd hpx hnx hp (h2 hp) hm
 ·have h3:nrf Pl y≠(j:Int):=fun e2=>e (hP.inj hO hy hnd (by rw[←hpx]at e2;exact e2))
  exact Near.congr hN he hy (by omega)
theorem NrI.all(h:NrI nx P Pl n n N)(hP:Plc O n Pl)(hO:Ord5 L n O){y:Int}(hy:Nod n y):Near n nx P (nrf N) (nrf Pl) y:=h.near y hy (by have:=(hP.lt hO hy).1;unfold nrf;omega)
end
section
variable {n:Nat} {nx:Int→List Int} {P:Int→Prop} {L N:List Int} {pl:Int→Int} {nt d x y:Int}
def Cpt(n:Nat)(nx:Int→List Int)(P:Int→Prop)(pl:Int→Int)(k:Nat)(x:Int):Prop:=¬Nod n x∨(Nod n x∧Sn nx P (-1) x∧(n:Int)-pl x≤(k:Int))
section
variable {N:Int→Int}
theorem Cpt.next{k:Nat}(hN:∀y,Nod n y→Near n nx P N pl y)(hx:Nod n x)(h:Cpt n nx P pl (k+1) x):Cpt n nx P pl k (N x):=by
 rcases h with h| ⟨-,hs,hk⟩
 ·exact absurd hx h
 ·have hr:=hN x hx
  by_cases e:N x= -1
  ·exact .inl fun g=>by rw[e]at g;have:=g.1;omega
  ·rcases hr.ex e with e2| ⟨a,b,c⟩
   ·exact .inl fun g=>by rw[e2]at g;have:=g.2;omega
   ·exact .inr ⟨a,b,by omega⟩
structure DomL(n:Nat)(nx:Int→List Int)(P:Int→Prop)(L:List Int)(x:Int)(T:List Int):Prop where
 nod:∀d∈T,Nod n d
 mem:∀d,Nod n d→(d∈T↔d≠x∧Sn nx P (-1) x∧¬Sn nx P d x)
 up:T.Pairwise (fun a b=>lat L a<lat L b)
 lo:∀d∈T,lat L x<lat L d
end
theorem DomL.count{T:List Int}{R:List Bool}(h:DomL n nx P L x T)(hR:∀i:Nat,i<n→(bat R i=true↔(i:Int)≠x∧Sn nx P (-1) x∧¬Sn nx P (i:Int) x)):T.length=(memB R n).length:=by
 have e:∀d,d∈T↔d∈memB R n:=fun d=>by
  rw[mem_memB]
  constructor
  ·intro hd
   have hn:=h.nod d hd
   have h2:=hn.1
   have h3:=hn.2
   refine⟨d.toNat,by omega,by omega,(hR d.toNat (by omega)).2 ?_⟩
   rw[show ((d.toNat:Nat):Int)=d by omega]
   exact (h.mem d hn).1 hd
  ·rintro⟨j,hj,rfl,hb⟩
   exact (h.mem (j:Int) ⟨by omega,by omega⟩).2 ((hR j hj).1 hb)
 have n1:T.Nodup:=h.up.imp fun {a b} hab e=>by subst e;omega
 have n2:(memB R n).Nodup:=by
  unfold memB
  exact List.Pairwise.map _ (fun a b h e=>h (by omega)) (List.nodup_range.filter _)
 exact ((List.perm_ext_iff_of_nodup n1 n2).2 e).length_eq
end
open Go.RowKit
theorem Stk.all{w:World}{g:Nat}{v:Value}{l:List Int}(h:Stk w g v l)(hm:l.length≤maxLen):Is w w.heap.size v l:=by
 obtain⟨A,c,rfl,hle,-,-⟩:=h.form
 exact h.reads c hle hm
def Lst(w:World)(base:Nat)(v:Value)(l:List (Int×Int)):Prop:=w.ownsRow base 30 2 v l.length (lnC l)
theorem Lst.reads{w:World}{g:Nat}{v:Value}{l:List (Int×Int)}(h:Lst w g v l):Lns w w.heap.size v l:=by
 have hlt:=World.ownsRow.lt h
 rcases id h.2 with⟨rfl,hn⟩| ⟨q,cap,cur,rfl,hb,hg,hle,hm,-⟩
 ·exact⟨none,0,0,0,by rw[hn],fun h=>by omega,by omega,by simp[hn],fun k hk=>by omega⟩
 ·refine⟨some ⟨q,0,none⟩,q,0,cap,rfl,fun _=>rfl,hle,Nat.le_trans hle hm,fun k hk=>⟨(hlt q rfl).2,?_⟩⟩
  have hc:=lnC_get l k hk
  refine⟨?_,?_⟩
  ·rw[World.ownsRow.cellAt h _ (by omega),Nat.zero_add];exact hc.1
  ·rw[World.ownsRow.cellAt h _ (by omega),Nat.zero_add];exact hc.2
def exN(k2:Int)(i2:List Int):List Nd:=[⟨0,[],0,0⟩,⟨14,[3],0,0⟩,⟨k2,i2,0,0⟩,⟨5,[1,2],0,0⟩]
def exS(b:UInt8):List ByteArray:=[⟨#[97]⟩,⟨#[113]⟩,⟨#[b]⟩,⟨#[103]⟩]
def Ex:Ck:=⟨exN 4 [0],exS 110,[],[3]⟩
theorem is_of{w:World}{g:Nat}{l:List Int}(t:TypeId)(hg:w.heap[g]? =some (.cells (l.map (Value.int .i64)).toArray t (0,0)))(hm:l.length≤maxLen)(hB:g<w.heap.size):Is w w.heap.size (.slice (some ⟨g,0,none⟩) l.length l.length) l:=
 ⟨_,g,0,_,rfl,fun _=>rfl,Nat.le_refl _,hm,fun k hk=>⟨hB,by
  unfold IntAt
  rw[cell_of_row w g _ _ t _ hg]
  simp[hk,List.getD_eq_getElem?_getD]⟩⟩
theorem Is.on{w w':World}{v:Value}{l:List Int}(h:Is w w.heap.size v l)(hb:Below w.heap.size w w'):Is w' w'.heap.size v l:=(h.below hb).more hb.size
theorem Fos.on{w w':World}{v:Value}{l:List (List (Int×Int))}(h:Fos w w.heap.size v l)(hb:Below w.heap.size w w'):Fos w' w'.heap.size v l:=h.keep hb.size fun _ hp=>hb.cell hp
structure LW(w:World)(q:Nat)(A0 A1 A2 A3:Option Addr)(c0 c1 c2 c3:Nat)(wr:World):Prop where
 bel:Below w.heap.size w wr
 low:w.heap.size≤q
 tabs:Tabs wr
 cir:Cir wr q (.agg #[.slice A0 4 c0,.slice A1 4 c1,.slice A2 0 c2,.slice A3 1 c3]) Ex
 box:Fr wr q 39 [.slice A0 4 c0,.slice A1 4 c1,.slice A2 0 c2,.slice A3 1 c3]
section
variable {w w1 W:World} {q:Nat} {A0 A1 A2 A3:Option Addr} {c0 c1 c2 c3:Nat}
theorem LW.next(h:LW w q A0 A1 A2 A3 c0 c1 c2 c3 w1)(hb:Below w1.heap.size w1 W):LW w q A0 A1 A2 A3 c0 c1 c2 c3 W:=
 ⟨joinB h.bel hb,h.low,h.tabs.below hb,h.cir.below (hb.mono (Nat.le_of_lt h.box.lt)),h.box.below hb⟩
theorem LW.cells(h:LW w q A0 A1 A2 A3 c0 c1 c2 c3 w1):w1.cell? ⟨q,0,none⟩=some (.slice A0 4 c0)∧w1.cell? ⟨q,1,none⟩=some (.slice A1 4 c1)∧w1.cell? ⟨q,2,none⟩=some (.slice A2 0 c2)∧w1.cell? ⟨q,3,none⟩=some (.slice A3 1 c3):=
 ⟨h.box.cell 0,h.box.cell 1,h.box.cell 2,h.box.cell 3⟩
theorem LW.all(h:LW w q A0 A1 A2 A3 c0 c1 c2 c3 w1):Cir w1 w1.heap.size (.agg #[.slice A0 4 c0,.slice A1 4 c1,.slice A2 0 c2,.slice A3 1 c3]) Ex:=h.cir.more (Nat.le_of_lt h.box.lt)
end
end Go.Proofs.YtcbllelkgniogaaDoor
