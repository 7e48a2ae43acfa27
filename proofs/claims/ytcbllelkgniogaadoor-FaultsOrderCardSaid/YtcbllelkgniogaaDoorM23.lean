/- The texts Rlw Hel Rgb Fq9. -/
import Derived.Laws.MakeOwn
import Derived.OrdersHeld
import Derived.Deep.RegionHeld
import Derived.OrdersIn
import Derived.RangeFuncCalls
import Derived.Test.YtcbllelkgniogaaDoorM17
import Derived.Laws.BitsAllLaws
import Derived.Test.YtcbllelkgniogaaDoorM22
namespace Go.Proofs.YtcbllelkgniogaaDoor
def unitF(n a:Nat):Nat→List Nat
 |0=>List.replicate n 0
 |k+1=>(unitF n a k).set (a+k) (2^k)
theorem unitF_len(n a k:Nat):(unitF n a k).length=n:=by
 induction k with
 |zero=>simp[unitF]
 |succ k ih=>simp[unitF,ih]
def usN(us:List Nat)(i x:Nat):List Nat:=us.set i (us.getD i 0|||us.getD x 0)
def usI(rd:Nat→List Nat)(us:List Nat)(i:Nat):Nat→List Nat
 |0=>us
 |m+1=>usN (usI rd us i m) i ((rd i).getD m 0)
def usO(rd:Nat→List Nat)(us:List Nat)(ord:List Nat):Nat→List Nat
 |0=>us
 |j+1=>usI rd (usO rd us ord j) (ord.getD j 0) (rd (ord.getD j 0)).length
def udI(rd:Nat→List Nat)(ud:List Nat)(i:Nat):Nat→List Nat
 |0=>ud
 |m+1=>usN (udI rd ud i m) ((rd i).getD m 0) i
def udO(rd:Nat→List Nat)(ud:List Nat)(ord:List Nat)(n:Nat):Nat→List Nat
 |0=>ud
 |k+1=>udI rd (udO rd ud ord n k) (ord.getD (n-1-k) 0) (rd (ord.getD (n-1-k) 0)).length
inductive Rch (rd:Nat→List Nat):Nat→Nat→Prop
 |refl (a:Nat):Rch rd a a
 |step {a x b:Nat} :x∈rd a→Rch rd x b→Rch rd a b
theorem Rch.iff{rd:Nat→List Nat}{a b:Nat} :Rch rd a b↔a=b∨∃x∈rd a,Rch rd x b:=by
 constructor
 ·rintro (_| ⟨h,g⟩)
  ·exact .inl rfl
  ·exact .inr ⟨_,h,g⟩
 ·rintro (rfl| ⟨x,h,g⟩)
  ·exact .refl _
  ·exact .step h g
theorem Rch.snoc{rd:Nat→List Nat}{a b x:Nat}(h:Rch rd a b)(hx:x∈rd b):Rch rd a x:=by
 induction h with
 |refl a=>exact .step hx (.refl _)
 |step h _ ih=>exact .step h (ih hx)
theorem Rch.iff_last{rd:Nat→List Nat}{a b:Nat} :Rch rd a b↔a=b∨∃x,Rch rd a x∧b∈rd x:=by
 constructor
 ·intro h
  induction h with
  |refl a=>exact .inl rfl
  |step h _ ih=>
   rcases ih with rfl| ⟨x,h1,h2⟩
   ·exact .inr ⟨_,.refl _,h⟩
   ·exact .inr ⟨x,.step h h1,h2⟩
 ·rintro (rfl| ⟨x,h1,h2⟩)
  ·exact .refl _
  ·exact h1.snoc h2
theorem getD_setF(us:List Nat)(i j x:Nat):(us.set i x).getD j 0=if i=j∧j<us.length then x else us.getD j 0:=by
 simp only[List.getD_eq_getElem?_getD,List.getElem?_set]
 by_cases h:i=j
 ·subst h
  by_cases h2:i<us.length
  ·simp[h2]
  ·simp[h2]
 ·simp[h]
theorem usN_len(us:List Nat)(i x:Nat):(usN us i x).length=us.length:=by simp[usN]
theorem usI_len(rd:Nat→List Nat)(us:List Nat)(i m:Nat):(usI rd us i m).length=us.length:=by
 induction m with
 |zero=>rfl
 |succ m ih=>simp[usI,usN_len,ih]
theorem udI_len(rd:Nat→List Nat)(us:List Nat)(i m:Nat):(udI rd us i m).length=us.length:=by
 induction m with
 |zero=>rfl
 |succ m ih=>simp[udI,usN_len,ih]
theorem usO_len(rd:Nat→List Nat)(us ord:List Nat)(j:Nat):(usO rd us ord j).length=us.length:=by
 induction j with
 |zero=>rfl
 |succ j ih=>simp[usO,usI_len,ih]
theorem udO_len(rd:Nat→List Nat)(us ord:List Nat)(n j:Nat):(udO rd us ord n j).length=us.length:=by
 induction j with
 |zero=>rfl
 |succ j ih=>simp[udO,udI_len,ih]
theorem unitF_bit{n a m:Nat}(h:a+m≤n)(i t:Nat):((unitF n a m).getD i 0).testBit t=(decide (t<m)&&decide (i=a+t)):=by
 induction m with
 |zero=>
  have e:(List.replicate n 0).getD i 0=0:=by simp only[List.getD_eq_getElem?_getD,List.getElem?_replicate];split<;>rfl
  rw[unitF,e,Nat.zero_testBit]
  simp
 |succ m ih=>
  rw[unitF,getD_setF,unitF_len]
  by_cases h1:a+m=i∧i<n
  ·rw[if_pos h1,Nat.testBit_two_pow]
   have e:i=a+m:=h1.1.symm
   by_cases h2:m=t
   ·subst h2;simp[e]
   ·have:¬i=a+t:=by omega
    simp[h2,this]
  ·rw[if_neg h1,ih (by omega)]
   by_cases h2:t=m
   ·subst h2
    have:¬i=a+t:=by omega
    simp[this]
   ·have:(t<m+1)=(t<m):=by apply propext;omega
    simp[this]
theorem usI_bit{rd:Nat→List Nat}{us:List Nat}{i:Nat}(hi:i<us.length)(hni:∀x∈rd i,x≠i)(j t:Nat):∀m,m≤(rd i).length→(((usI rd us i m).getD j 0).testBit t=true↔(us.getD j 0).testBit t=true∨(j=i∧∃q,q<m∧(us.getD ((rd i).getD q 0) 0).testBit t=true)):=by
 intro m
 induction m generalizing j with
 |zero=>intro _;simp[usI]
 |succ m ih=>
  intro hm
  have hx:(rd i).getD m 0≠i:=hni _ (by
   rw[List.getD_eq_getElem?_getD,List.getElem?_eq_getElem (by omega)]
   exact List.getElem_mem _)
  rw[usI,usN,getD_setF,usI_len]
  by_cases h1:i=j∧j<us.length
  ·obtain⟨rfl,-⟩:=h1
   rw[if_pos ⟨rfl,hi⟩,Nat.testBit_or,Bool.or_eq_true,ih i (by omega),ih _ (by omega)]
   constructor
   ·rintro ((h| ⟨-,q,hq,h⟩)|(h| ⟨e,-⟩))
    ·exact .inl h
    ·exact .inr ⟨rfl,q,by omega,h⟩
    ·exact .inr ⟨rfl,m,by omega,h⟩
    ·exact absurd e hx
   ·rintro (h| ⟨-,q,hq,h⟩)
    ·exact .inl (.inl h)
    ·rcases Nat.lt_succ_iff_lt_or_eq.1 hq with h2|rfl
     ·exact .inl (.inr ⟨rfl,q,h2,h⟩)
     ·exact .inr (.inl h)
  ·rw[if_neg h1,ih _ (by omega)]
   have hne:j≠i:=fun e=>h1 ⟨e.symm,e▸hi⟩
   simp[hne]
theorem udI_bit{rd:Nat→List Nat}{us:List Nat}{i:Nat}(hr:∀x∈rd i,x<us.length)(hni:∀x∈rd i,x≠i)(j t:Nat):∀m,m≤(rd i).length→(((udI rd us i m).getD j 0).testBit t=true↔(us.getD j 0).testBit t=true∨((∃q,q<m∧(rd i).getD q 0=j)∧(us.getD i 0).testBit t=true)):=by
 intro m
 induction m generalizing j with
 |zero=>intro _;simp[udI]
 |succ m ih=>
  intro hm
  have hmem:(rd i).getD m 0∈rd i:=by
   rw[List.getD_eq_getElem?_getD,List.getElem?_eq_getElem (by omega)]
   exact List.getElem_mem _
  have hx:=hni _ hmem
  have hxl:=hr _ hmem
  have hnn:¬∃q,q<m∧(rd i).getD q 0=i:=by
   rintro⟨q,hq,e⟩
   refine hni ((rd i).getD q 0) ?_ e
   rw[List.getD_eq_getElem?_getD,List.getElem?_eq_getElem (by omega)]
   exact List.getElem_mem _
  rw[udI,usN,getD_setF,udI_len]
  by_cases h1:(rd i).getD m 0=j∧j<us.length
  ·rw[if_pos h1,Nat.testBit_or,Bool.or_eq_true,ih _ (by omega),ih _ (by omega)]
   obtain⟨rfl,-⟩:=h1
   constructor
   ·rintro ((h| ⟨⟨q,hq,e⟩,h⟩)|(h| ⟨h,-⟩))
    ·exact .inl h
    ·exact .inr ⟨⟨q,by omega,e⟩,h⟩
    ·exact .inr ⟨⟨m,by omega,rfl⟩,h⟩
    ·exact absurd h hnn
   ·rintro (h| ⟨-,h⟩)
    ·exact .inl (.inl h)
    ·exact .inr (.inl h)
  ·rw[if_neg h1,ih _ (by omega)]
   have hne:(rd i).getD m 0≠j:=fun e=>h1 ⟨e,e▸hxl⟩
   constructor
   ·rintro (h| ⟨⟨q,hq,e⟩,h⟩)
    ·exact .inl h
    ·exact .inr ⟨⟨q,by omega,e⟩,h⟩
   ·rintro (h| ⟨⟨q,hq,e⟩,h⟩)
    ·exact .inl h
    ·rcases Nat.lt_succ_iff_lt_or_eq.1 hq with h2|rfl
     ·exact .inr ⟨⟨q,h2,e⟩,h⟩
     ·exact absurd e hne
structure OrdF(rd:Nat→List Nat)(n:Nat)(ord:List Nat):Prop where
 len:ord.length=n
 lt:∀j,j<n→ord.getD j 0<n
 inj:∀j k,j<n→k<n→ord.getD j 0=ord.getD k 0→j=k
 onto:∀i,i<n→∃j,j<n∧ord.getD j 0=i
 rdlt:∀i,i<n→∀x∈rd i,x<n
 up:∀j k,j<n→k<n→ord.getD k 0∈rd (ord.getD j 0)→k<j
theorem mem_getD{l:List Nat}{x:Nat} :x∈l↔∃q,q<l.length∧l.getD q 0=x:=by
 constructor
 ·intro h
  obtain⟨q,hq,e⟩:=List.mem_iff_getElem.1 h
  exact⟨q,hq,by rw[List.getD_eq_getElem?_getD,List.getElem?_eq_getElem hq];exact e⟩
 ·rintro⟨q,hq,rfl⟩
  rw[List.getD_eq_getElem?_getD,List.getElem?_eq_getElem hq]
  exact List.getElem_mem _
theorem OrdF.irr{rd:Nat→List Nat}{n:Nat}{ord:List Nat}(h:OrdF rd n ord){i:Nat}(hi:i<n):∀x∈rd i,x≠i:=by
 rintro x hx rfl
 obtain⟨j,hj,e⟩:=h.onto x hi
 rw[←e]at hx
 exact Nat.lt_irrefl _ (h.up j j hj hj hx)
theorem uses_bit{rd:Nat→List Nat}{n a m:Nat}{ord:List Nat}(h:OrdF rd n ord)(ham:a+m≤n)(t:Nat)(ht:t<m):
 ∀j,j≤n→∀k,k<n→(((usO rd (unitF n a m) ord j).getD (ord.getD k 0) 0).testBit t=true↔if k<j then Rch rd (ord.getD k 0) (a+t) else ord.getD k 0=a+t):=by
 intro j
 induction j with
 |zero=>
  intro _ k hk
  rw[usO,unitF_bit ham]
  simp only[ht,decide_true,Bool.true_and,decide_eq_true_eq,Nat.not_lt_zero,if_false]
 |succ j ih=>
  intro hj k hk
  have hjn:j<n:=by omega
  rw[usO,usI_bit (by rw[usO_len,unitF_len];exact h.lt j hjn) (h.irr (h.lt j hjn)) _ _ _ (Nat.le_refl _),ih (by omega) k hk]
  by_cases hkj:k=j
  ·subst hkj
   rw[if_neg (Nat.lt_irrefl _),if_pos (Nat.lt_succ_self _),Rch.iff]
   refine or_congr Iff.rfl ?_
   constructor
   ·rintro⟨-,q,hq,hb⟩
    refine⟨(rd (ord.getD k 0)).getD q 0,mem_getD.2 ⟨q,hq,rfl⟩,?_⟩
    have hm:(rd (ord.getD k 0)).getD q 0∈rd (ord.getD k 0):=mem_getD.2 ⟨q,hq,rfl⟩
    obtain⟨y,hy,e⟩:=h.onto _ (h.rdlt _ (h.lt k hk) _ hm)
    rw[←e]at hb hm ⊢
    have hyk:=h.up k y hk hy hm
    have:=(ih (by omega) y hy).1 hb
    rwa [if_pos hyk]at this
   ·rintro⟨x,hm,hr⟩
    obtain⟨q,hq,e2⟩:=mem_getD.1 hm
    obtain⟨y,hy,e⟩:=h.onto x (h.rdlt _ (h.lt k hk) _ hm)
    refine⟨rfl,q,hq,?_⟩
    rw[e2,←e]
    rw[←e]at hm hr
    have hyk:=h.up k y hk hy hm
    exact (ih (by omega) y hy).2 (by rwa [if_pos hyk])
  ·have hne:ord.getD k 0≠ord.getD j 0:=fun e=>hkj (h.inj k j hk hjn e)
   have e:(k<j+1)=(k<j):=by apply propext;omega
   simp only[e,hne,false_and,or_false]
theorem used_bit{rd:Nat→List Nat}{n a m:Nat}{ord:List Nat}(h:OrdF rd n ord)(ham:a+m≤n)(t:Nat)(ht:t<m):
 ∀j,j≤n→∀x,x<n→(((udO rd (unitF n a m) ord n j).getD x 0).testBit t=true↔a+t=x∨∃k,n-j≤k∧k<n∧x∈rd (ord.getD k 0)∧Rch rd (a+t) (ord.getD k 0)):=by
 intro j
 induction j with
 |zero=>
  intro _ x hx
  simp only[udO,unitF_bit ham,ht,decide_true,Bool.true_and,decide_eq_true_eq]
  constructor
  ·intro e;exact .inl e.symm
  ·rintro (e| ⟨k,h1,h2,-⟩)
   ·exact e.symm
   ·omega
 |succ j ih=>
  intro hj x hx
  obtain⟨p,hp⟩:∃p,p=n-1-j:=⟨_,rfl⟩
  have hpn:p<n:=by omega
  rw[udO,←hp,udI_bit (fun x hx=>by rw[udO_len,unitF_len];exact h.rdlt _ (h.lt p hpn) x hx) (h.irr (h.lt p hpn)) _ _ _ (Nat.le_refl _),ih (by omega) x hx,ih (by omega) _ (h.lt p hpn),←mem_getD]
  have hR:(a+t=ord.getD p 0∨∃k,n-j≤k∧k<n∧ord.getD p 0∈rd (ord.getD k 0)∧Rch rd (a+t) (ord.getD k 0))↔Rch rd (a+t) (ord.getD p 0):=by
   constructor
   ·rintro (e| ⟨k,-,-,h1,h2⟩)
    ·rw[e];exact .refl _
    ·exact h2.snoc h1
   ·intro hr
    rcases Rch.iff_last.1 hr with e| ⟨y,h1,h2⟩
    ·exact .inl e
    ·have hyn:y<n:=by
      clear h2 hr
      have:∀ {u v:Nat},Rch rd u v→u<n→v<n:=by
       intro u v h3
       induction h3 with
       |refl a=>exact id
       |step g _ ih=>exact fun hu=>ih (h.rdlt _ hu _ g)
      exact this h1 (by omega)
     obtain⟨k,hk,rfl⟩:=h.onto y hyn
     have:=h.up k p hk hpn h2
     exact .inr ⟨k,by omega,hk,h2,h1⟩
  rw[hR]
  clear hR
  constructor
  ·rintro ((e| ⟨k,h1,h2,h3,h4⟩)| ⟨h1,h2⟩)
   ·exact .inl e
   ·exact .inr ⟨k,by omega,h2,h3,h4⟩
   ·exact .inr ⟨p,by omega,hpn,h1,h2⟩
  ·rintro (e| ⟨k,h1,h2,h3,h4⟩)
   ·exact .inl (.inl e)
   ·by_cases hk:k=p
    ·subst hk;exact .inr ⟨h3,h4⟩
    ·exact .inl (.inr ⟨k,by omega,h2,h3,h4⟩)
def usF(us ud:List Nat):Nat→List Nat
 |0=>us
 |k+1=>(usF us ud k).set k ((usF us ud k).getD k 0|||ud.getD k 0)
theorem usF_len(us ud:List Nat)(k:Nat):(usF us ud k).length=us.length:=by
 induction k with
 |zero=>rfl
 |succ k ih=>simp[usF,ih]
theorem usF_at(us ud:List Nat):∀k,k≤us.length→∀i,i<us.length→(usF us ud k).getD i 0=if i<k then us.getD i 0|||ud.getD i 0 else us.getD i 0:=by
 intro k
 induction k with
 |zero=>intro _ i _;simp[usF]
 |succ k ih=>
  intro hk i hi
  rw[usF,getD_setF,usF_len]
  by_cases h:k=i
  ·subst h
   rw[if_pos ⟨rfl,hi⟩,ih (by omega) k hi,if_neg (Nat.lt_irrefl _),if_pos (Nat.lt_succ_self _)]
  ·rw[if_neg (fun e=>h e.1),ih (by omega) i hi]
   have:(i<k+1)=(i<k):=by apply propext;omega
   simp only[this]
def relW(rd:Nat→List Nat)(ord:List Nat)(n a e:Nat):List Nat:=
 usF (usO rd (unitF n a (e-a)) ord n) (udO rd (unitF n a (e-a)) ord n n) n
theorem relW_len(rd:Nat→List Nat)(ord:List Nat)(n a e:Nat):(relW rd ord n a e).length=n:=by
 rw[relW,usF_len,usO_len,unitF_len]
theorem relW_bit{rd:Nat→List Nat}{n a e:Nat}{ord:List Nat}(h:OrdF rd n ord)(hae:a≤e)(hen:e≤n)(t:Nat)(ht:a+t<e)(x:Nat)(hx:x<n):
 ((relW rd ord n a e).getD x 0).testBit t=true↔Rch rd x (a+t)∨Rch rd (a+t) x:=by
 obtain⟨k,hk,rfl⟩:=h.onto x hx
 have h1:=uses_bit h (show a+(e-a)≤n by omega) t (by omega) n (Nat.le_refl _) k hk
 rw[if_pos hk]at h1
 have h2:=used_bit h (show a+(e-a)≤n by omega) t (by omega) n (Nat.le_refl _) _ hx
 rw[relW,usF_at _ _ _ (by rw[usO_len,unitF_len];exact Nat.le_refl _) _ (by rw[usO_len,unitF_len];exact hx),if_pos hx,Nat.testBit_or,Bool.or_eq_true,h1,h2]
 refine or_congr Iff.rfl ?_
 rw[Rch.iff_last]
 refine or_congr Iff.rfl ?_
 constructor
 ·rintro⟨k,-,-,g1,g2⟩;exact⟨_,g2,g1⟩
 ·rintro⟨y,g1,g2⟩
  have hyn:y<n:=by
   have:∀ {u v:Nat},Rch rd u v→u<n→v<n:=by
    intro u v h3
    induction h3 with
    |refl a=>exact id
    |step g _ ih=>exact fun hu=>ih (h.rdlt _ hu _ g)
   exact this g1 (by omega)
  obtain⟨k,hk,rfl⟩:=h.onto y hyn
  exact⟨k,by omega,hk,g2,g1⟩
theorem lm_set{m:Nat}{us:List Nat}(h:∀i,us.getD i 0<2^m)(i x:Nat)(hx:x<2^m)(j:Nat):(us.set i x).getD j 0<2^m:=by
 rw[getD_setF]
 split
 ·exact hx
 ·exact h j
theorem lm_unitF(n a:Nat){k m:Nat}(hk:k≤m):∀j,(unitF n a k).getD j 0<2^m:=by
 induction k with
 |zero=>
  intro j
  have e:(List.replicate n 0).getD j 0=0:=by simp only[List.getD_eq_getElem?_getD,List.getElem?_replicate];split<;>rfl
  rw[unitF,e]
  exact Nat.two_pow_pos m
 |succ k ih=>exact lm_set (ih (by omega)) _ _ (Nat.pow_lt_pow_right (by decide) (by omega))
theorem lm_usN{m:Nat}{us:List Nat}(h:∀i,us.getD i 0<2^m)(i x:Nat):∀j,(usN us i x).getD j 0<2^m:=
 lm_set h _ _ (Nat.or_lt_two_pow (h i) (h x))
theorem lm_usI{m:Nat}{rd:Nat→List Nat}{us:List Nat}(h:∀i,us.getD i 0<2^m)(i k:Nat):∀j,(usI rd us i k).getD j 0<2^m:=by
 induction k with
 |zero=>exact h
 |succ k ih=>exact lm_usN ih _ _
theorem lm_udI{m:Nat}{rd:Nat→List Nat}{us:List Nat}(h:∀i,us.getD i 0<2^m)(i k:Nat):∀j,(udI rd us i k).getD j 0<2^m:=by
 induction k with
 |zero=>exact h
 |succ k ih=>exact lm_usN ih _ _
theorem lm_usO{m:Nat}{rd:Nat→List Nat}{us ord:List Nat}(h:∀i,us.getD i 0<2^m)(k:Nat):∀j,(usO rd us ord k).getD j 0<2^m:=by
 induction k with
 |zero=>exact h
 |succ k ih=>exact lm_usI ih _ _
theorem lm_udO{m n:Nat}{rd:Nat→List Nat}{us ord:List Nat}(h:∀i,us.getD i 0<2^m)(k:Nat):∀j,(udO rd us ord n k).getD j 0<2^m:=by
 induction k with
 |zero=>exact h
 |succ k ih=>exact lm_udI ih _ _
theorem lm_usF{m:Nat}{us ud:List Nat}(h:∀i,us.getD i 0<2^m)(h2:∀i,ud.getD i 0<2^m)(k:Nat):∀j,(usF us ud k).getD j 0<2^m:=by
 induction k with
 |zero=>exact h
 |succ k ih=>exact lm_set ih _ _ (Nat.or_lt_two_pow (ih k) (h2 k))
theorem relW_lt(rd:Nat→List Nat)(ord:List Nat)(n a e j:Nat):(relW rd ord n a e).getD j 0<2^(e-a):=
 lm_usF (lm_usO (lm_unitF n a (Nat.le_refl _)) _) (lm_udO (lm_unitF n a (Nat.le_refl _)) _) _ _
theorem relW_one{rd:Nat→List Nat}{n a:Nat}{ord:List Nat}(h:OrdF rd n ord)(ha:a<n)(x:Nat)(hx:x<n):
 (relW rd ord n a (a+1)).getD x 0≠0↔Rch rd x a∨Rch rd a x:=by
 have h1:=relW_bit h (a:=a) (e:=a+1) (by omega) (by omega) 0 (by omega) x hx
 have h2:=relW_lt rd ord n a (a+1) x
 rw[show a+1-a=1 by omega]at h2
 generalize (relW rd ord n a (a+1)).getD x 0=v at h1 h2
 rw[Nat.add_zero]at h1
 rw[←h1]
 obtain rfl|rfl:v=0∨v=1:=by omega
 ·decide
 ·decide
section
variable {P:Program} {ops:Array Oper} {Q:Exit→Act→World→Prop} {md:Region.Mode} {S:World→Prop} {t:Nat}
def AnyX(P:Program)(md:Region.Mode)(ops:Array Oper)(Q:Exit→Act→World→Prop)(S:World→Prop)(t:Nat):Nat→Array Bool→Act→World→Prop
 |0,listed,a,w=>Region.ready md ops listed=[]∧Q .normal a w
 |f+1,listed,a,w=>(Region.ready md ops listed=[]→Q .normal a w)∧∀i∈Region.ready md ops listed,wpOp P ops Q i (fun a' w'=>(i≠t→S w')∧AnyX P md ops Q S t f (listed.setIfInBounds i true) a' w') a w
theorem AnyX.any:∀ {f:Nat} {listed:Array Bool} {a:Act} {w:World},AnyX P md ops Q S t f listed a w→wpAny P md ops Q f listed a w
 |0,_,_,_,h=>h
 |_+1,_,_,_,h=>⟨h.1,fun i hi=>wpOp_mono (fun _ _ h'=>AnyX.any h'.2) (h.2 i hi)⟩
theorem AnyX.start{id:Nat}{a:Act}{w:World}(hm:P.follows .mixedOrders=true)(h:AnyX P .any ops Q S t ops.size (Array.replicate ops.size false) a w.drew):(Code.region id ops true).wp P Q a w:=
 wp_region_any hm h.any
theorem not_ready{ot:Oper}{i:Nat}{l:Array Bool}(ho:ops[t]? =some ot)(hw:ot.after.any (fun e=>e.on==i&&Region.binds md e)=true)(hl:l.getD i true=false):t ∉ Region.ready md ops l:=fun hr=>by
 obtain⟨-,o',ho',hall⟩:=mem_ready.1 hr
 obtain rfl:=Option.some.inj (ho.symm.trans ho')
 obtain⟨e,he,hb⟩:=Array.any_eq_true'.1 hw
 rw[Bool.and_eq_true,beq_iff_eq]at hb
 have h1:=hall e he hb.2
 rw[hb.1]at h1
 rcases Nat.lt_or_ge i l.size with h|h
 ·simp[Array.getD,h]at hl h1
  rw[hl]at h1;cases h1
 ·simp[Array.getD,Nat.not_lt.2 h]at hl
theorem AnyX.first{i:Nat}{oi:Oper}{v:Value}(hi:ops[i]? =some oi)(hsel:∀(j:Nat) (o:Oper) cs b,ops[j]? =some o→o.op≠ .select cs b)(hQ:∀c a w,Q (.panic c) (a.put oi.dst v) w→Q (.panic c) a w)
 (ht:∀l:Array Bool,l.getD i true=false→t ∉ Region.ready md ops l):∀(f:Nat) (listed:Array Bool) (a:Act) (w:World),
   (∀j oj,ops[j]? =some oj→j≠i→listed.getD j true=false→(∀e∈oj.after,Region.binds md e=true→e.on≠i)→oi.apart ops oj=true)→
   i∈Region.ready md ops listed→YieldsIf P ops S oi v a→S w→AnyX P md ops Q S t f (listed.setIfInBounds i true) (a.put oi.dst v) w→AnyX P md ops Q S t (f+1) listed a w:=by
 intro f
 induction f with
 |zero=>
  intro listed a w _ hr hy hS H
  refine⟨fun h=>absurd (h▸hr) (by simp),fun j hj=>?_⟩
  by_cases e:j=i
  ·subst e;exact hy.wpOp hi hS ⟨fun _=>hS,H⟩
  ·exact absurd (H.1▸ready_mono hj e) (by simp)
 |succ f ih=>
  intro listed a w hfree hr hy hS H
  refine⟨fun h=>absurd (h▸hr) (by simp),fun j hj=>?_⟩
  by_cases e:j=i
  ·subst e;exact hy.wpOp hi hS ⟨fun _=>hS,H⟩
  ·obtain⟨hju,oj,hoj,hall⟩:=mem_ready.1 hj
   have hiu:=(mem_ready.1 hr).1
   have hjt:j≠t:=fun h=>ht listed hiu (h▸hj)
   have hno:∀x∈oj.after,Region.binds md x=true→x.on≠i:=fun x hx hb he=>by
    have h1:=hall x hx hb
    rw[he]at h1
    rcases Nat.lt_or_ge i listed.size with h'|h'
    ·simp[h']at hiu h1;rw[hiu]at h1;cases h1
    ·simp[Array.getElem?_eq_none h']at h1
   have step:=wpOp_putIf hoj (hfree j oj hoj e hju hno) (fun cs b=>hsel i oi cs b hi) (fun cs b=>hsel j oj cs b hoj) hQ hy (H.2 j (ready_mono hj e))
   refine wpOp_mono (fun a' w' hh=>⟨fun _=>hh.2.1 hjt,ih _ a' w' (fun k ok hk hki hun hn=>hfree k ok hk hki ?_ hn) (ready_mono hr (Ne.symm e)) hh.1 (hh.2.1 hjt) ?_⟩) step
   ·by_cases hjk:j=k
    ·subst hjk;exact hju
    ·rw[getD_set_ne true hjk]at hun;exact hun
   ·rw[Array.setIfInBounds_comm _ _ e]
    exact hh.2.2
theorem AnyX.take{i:Nat}{oi ot:Oper}{v:Value}{f:Nat}{listed:Array Bool}{a:Act}{w:World}(hi:ops[i]? =some oi)(ho:ops[t]? =some ot)(hw:ot.after.any (fun e=>e.on==i&&Region.binds md e)=true)
 (hs:Region.noSelect ops=true) (hf:Region.free md ops listed i=true) (hr:(Region.ready md ops listed).contains i=true)
 (hQ:∀c a w,Q (.panic c) (a.put oi.dst v) w→Q (.panic c) a w) (hy:YieldsIf P ops S oi v a) (hS:S w)
 (h:AnyX P md ops Q S t f (listed.setIfInBounds i true) (a.put oi.dst v) w):AnyX P md ops Q S t (f+1) listed a w:=
 AnyX.first hi (Region.noSelect_spec hs) hQ (fun _ hl=>not_ready ho hw hl) f listed a w (Region.free_spec hi hf) (by simpa using hr) hy hS h
theorem AnyX.one{i:Nat}{o:Oper}{f:Nat}{listed:Array Bool}{a:Act}{w:World}(hr:Region.ready md ops listed=[i])(ho:ops[i]? =some o)
 (h:∀K':Act→World→Prop,(∀a' w',(i≠t→S w')→AnyX P md ops Q S t f (listed.setIfInBounds i true) a' w'→K' a' w')→if Region.wanted o (yielded ops a.tmps)=true then Oper.wp P o a w K' Q else K' (a.put o.dst undef) w):AnyX P md ops Q S t (f+1) listed a w:=by
 refine⟨fun h0=>absurd (hr.symm.trans h0) (by simp),fun j hj=>?_⟩
 rw[hr]at hj
 obtain rfl:=List.mem_singleton.1 hj
 exact wpOp_step ho (fun K' hK=>h K' fun a' w' h1 h2=>hK a' w' ⟨h1,h2⟩)
theorem AnyX.done{listed:Array Bool}{a:Act}{w:World}(hr:Region.ready md ops listed=[])(h:Q .normal a w):∀f,AnyX P md ops Q S t f listed a w
 |0=>⟨hr,h⟩
 |_+1=>⟨fun _=>h,by rw[hr];simp⟩
end
open Go.RowKit
section
variable {P:Program} {ops:Array Oper} {Q:Exit→Act→World→Prop} {md:Region.Mode} {S:World→Prop} {t l n:Nat}
def noDefer(ops:Array Oper):Bool:=ops.all fun o=>match o.op with| .defer _=>false|_=>true
theorem noDefer_at{i:Nat}{o:Oper}(h:noDefer ops=true)(hi:ops[i]? =some o):∀c,o.op≠ .defer c:=fun c hc=>by
 unfold noDefer at h
 obtain⟨hlt,he⟩:=Array.getElem?_eq_some_iff.1 hi
 have:=Array.all_eq_true.1 h i hlt
 rw[he,hc]at this
 cases this
theorem opIn_of{o:Oper}{a:Act}{w:World}{K:Act→World→Prop}(hd:∀c,o.op≠ .defer c)(h:Oper.wp P o a w K Q):Oper.wpIn (Fence.wide.inRound l) n P o a w K Q:=by
 refine⟨fun _ _=>trivial,?_⟩
 rw[Oper.semAt_eq _ _ _ hd]
 unfold Oper.wp at h
 generalize (execOp a.eval o).run P w=r at*
 cases r with
 |ok x w'=>
  cases x<;>simp only[Oper.upon,Oper.uponIn]at h ⊢
  case value v=>exact h
  case skip=>exact h
  case defer d=>exact h
  case enter f args=>exact⟨fun e=>by simp[Fence.wide,Fence.inRound]at e,CallsIn.inRound l (callsIn_wide.2 h)⟩
  case row row args=>exact⟨fun e=>by simp[Fence.wide,Fence.inRound]at e,fun c cs _=>let ⟨v,w2,r,s⟩:=h c cs;⟨v,w2,r,stepsIn_wide.2 s⟩⟩
 |halt x w'=>cases x<;>simp only[Oper.upon,Oper.uponIn]at h ⊢;exact h
theorem wpOpIn_of(hd:noDefer ops=true)(hL:∀a w,¬Q .outgrown a w){i:Nat}{a:Act}{w:World}{K K':Act→World→Prop}(hK:∀a w,K a w→K' a w)(h:wpOp P ops Q i K a w):wpOpIn (Fence.wide.inRound l) n P ops Q i K' a w:=by
 unfold wpOp at h
 unfold wpOpIn
 cases hi:ops[i]? with
 |none=>simp only[hi]at h;exact hK _ _ h
 |some o=>
  simp only[hi]at h ⊢
  by_cases hw:Region.wanted o (yielded ops a.tmps)=true
  ·rw[if_pos hw]at h ⊢
   rcases h with h| ⟨-,a',w',h⟩
   ·exact Oper.wpIn_mono hK (opIn_of (noDefer_at hd hi) h)
   ·exact absurd h (hL a' w')
  ·rw[if_neg hw]at h ⊢
   exact⟨fun _ _=>trivial,hK _ _ h⟩
theorem anyIn_of(hd:noDefer ops=true)(hL:∀a w,¬Q .outgrown a w):∀(f:Nat) (listed:Array Bool) (a:Act) (w:World),wpAny P md ops Q f listed a w→wpAnyIn (Fence.wide.inRound l) n P md ops Q f listed a w
 |0,_,_,_,h=>h
 |f+1,_,_,_,h=>⟨h.1,fun i hi=>wpOpIn_of hd hL (fun a w h=>anyIn_of hd hL f _ a w h) (h.2 i hi)⟩
theorem AnyX.startIn{id:Nat}{a:Act}{w:World}(hm:P.follows .mixedOrders=true)(hd:noDefer ops=true)(hL:∀a w,¬Q .outgrown a w)(h:AnyX P .any ops Q S t ops.size (Array.replicate ops.size false) a w.drew):(Code.region id ops true).wpIn (Fence.wide.inRound l) n P Q a w:=
 wpIn_region_any hm (anyIn_of hd hL _ _ _ _ h.any)
end
attribute [local go_sem] Oper.semAt_some
theorem mkF_run{t e:TypeId}{ti:TypeInfo}{z:Value}(h1: Tryd.prog.underlying t=some (.slice e))(h2: Tryd.prog.info? e=some ti)(h3:ti.zero=some z)(n:Nat)(hb:ti.bytes*n≤281474976710656)(hn:n≤1000000)(w:World):
 (Instr.makeSlice t (.int .i64 (n:Int)) (.int .i64 (n:Int))).run Tryd.prog w=.ok (.slice (some ⟨w.heap.size,0,none⟩) n n) (w.alloc (.cells (madeCells z.cells (n*ti.size)) e)):=by
 have key:=run_make (P:=Tryd.prog) w t e ti z h1 h2 h3 .i64 .i64 (n:Int) (n:Int) (by omega) (by omega) (by have:=Int.ofNat_le.2 hb;rwa [Int.natCast_mul]at this) (by omega)
 simpa using key
theorem infoF_u64:(Tryd.prog.info? 97).map (fun i=>(i.zero,i.size,i.bytes))=some (some (.int .u64 0),1,8):=by kernel_rfl
theorem infoF_parts{o:Option TypeInfo}{z:Option Value}{s b:Nat}(h:o.map (fun i=>(i.zero,i.size,i.bytes))=some (z,s,b)):∃i,o=some i∧i.zero=z∧i.size=s∧i.bytes=b:=by
 cases o with
 |none=>simp at h
 |some i=>
  simp only[Option.map_some,Option.some.injEq,Prod.mk.injEq]at h
  exact⟨i,rfl,h.1,h.2.1,h.2.2⟩
def zU(n:Nat):List Value:=(madeCells (Value.int .u64 0).cells n).toList
def U64(l:List Nat):List Value:=l.map fun x:Nat=>.int .u64 (x:Int)
theorem U64_set(l:List Nat)(i x:Nat):U64 (l.set i x)=(U64 l).set i (.int .u64 (x:Int)):=by simp[U64,List.map_set]
theorem zU_eq(n:Nat):zU n=U64 (unitF n 0 0):=by
 have e1:(Value.int .u64 0).cells= #[.int .u64 0]:=rfl
 apply List.ext_getElem
 ·simp[zU,U64,unitF,madeCells]
 ·intro i h1 h2
  simp[zU,U64,unitF,madeCells,e1,Nat.mod_one]
structure RelF(w0:World)(n g1 g2 g3:Nat)(us ud:List Value)(w:World):Prop where
 bel:BelW w0 w
 l1:w0.heap.size≤g1
 l2:w0.heap.size≤g2
 l3:w0.heap.size≤g3
 d12:g1≠g2
 d13:g1≠g3
 d23:g2≠g3
 r1:Fr w g1 97 us
 r2:Fr w g2 97 ud
 r3:Fr w g3 98 [.slice (some ⟨g2,0,none⟩) n n]
theorem RelF.set1{w0 w:World}{n g1 g2 g3:Nat}{us ud:List Nat}(h:RelF w0 n g1 g2 g3 (U64 us) (U64 ud) w)(p x:Nat):RelF w0 n g1 g2 g3 (U64 (us.set p x)) (U64 ud) (w.setCell ⟨g1,p,none⟩ (.int .u64 (x:Int))):=
 ⟨Below.setCell h.bel h.l1 _,h.l1,h.l2,h.l3,h.d12,h.d13,h.d23,by rw[U64_set];exact h.r1.set p _,h.r2.other h.d12 _,h.r3.other h.d13 _⟩
theorem RelF.set2{w0 w:World}{n g1 g2 g3:Nat}{us ud:List Nat}(h:RelF w0 n g1 g2 g3 (U64 us) (U64 ud) w)(p x:Nat):RelF w0 n g1 g2 g3 (U64 us) (U64 (ud.set p x)) (w.setCell ⟨g2,p,none⟩ (.int .u64 (x:Int))):=
 ⟨Below.setCell h.bel h.l2 _,h.l1,h.l2,h.l3,h.d12,h.d13,h.d23,h.r1.other h.d12.symm _,by rw[U64_set];exact h.r2.set p _,h.r3.other h.d23 _⟩
theorem RelF.drew{w0 w:World}{n g1 g2 g3:Nat}{us ud:List Value}(h:RelF w0 n g1 g2 g3 us ud w):RelF w0 n g1 g2 g3 us ud w.drew:=
 ⟨Below.drew h.bel,h.l1,h.l2,h.l3,h.d12,h.d13,h.d23,h.r1.drew,h.r2.drew,h.r3.drew⟩
theorem pow_u64(k:Nat)(h:k<64):IntKind.u64.wrap ((2:Int)^k)=((2^k:Nat):Int):=by
 have h1:2^k<2^64:=Nat.pow_lt_pow_right (by decide) h
 have h2:(2:Int)^k=((2^k:Nat):Int):=by simp
 have key:∀m:Nat,m<2^64→IntKind.u64.wrap (m:Int)=(m:Int):=fun m hm=>by rw[IntKind.wrap_u64];omega
 rw[h2]
 exact key _ h1
theorem fr3a(W:World)(o p:Obj)(cs:List Value)(t:TypeId):Fr (((W.alloc o).alloc p).alloc (.cells cs.toArray t)).drew (W.heap.size+1+1) t cs:=Fr.drew (Fr.made _ _ _ (by simp))
theorem fr3b(W:World)(o p:Obj)(cs:List Value)(t:TypeId):Fr (((W.alloc o).alloc (.cells cs.toArray t)).alloc p).drew (W.heap.size+1) t cs:=Fr.drew ((Fr.made _ _ _ (by simp)).alloc _)
theorem fr3c(W:World)(o p:Obj)(cs:List Value)(t:TypeId):Fr (((W.alloc (.cells cs.toArray t)).alloc o).alloc p).drew W.heap.size t cs:=Fr.drew (((Fr.made _ _ _ rfl).alloc _).alloc _)
structure L64(n:Nat)(us:List Nat):Prop where
 len:us.length=n
 lt:∀i,us.getD i 0<18446744073709551616
theorem L64.set{n:Nat}{us:List Nat}(h:L64 n us)(i x:Nat)(hx:x<18446744073709551616):L64 n (us.set i x):=by
 refine⟨by simp[h.len],fun j=>?_⟩
 have:=h.lt j
 rw[List.getD_eq_getElem?_getD]at*
 rw[List.getElem?_set]
 by_cases h1:i=j
 ·subst h1
  by_cases h2:i<us.length
  ·simp[h2,hx]
  ·simp[h2]
 ·simpa [h1]using this
theorem L64.usN{n:Nat}{us:List Nat}(h:L64 n us)(i x:Nat):L64 n (usN us i x):=
 h.set _ _ (Nat.or_lt_two_pow (n:=64) (h.lt i) (h.lt x))
theorem L64.usI{n:Nat}{us:List Nat}{rd:Nat→List Nat}(h:L64 n us)(i m:Nat):L64 n (usI rd us i m):=by
 induction m with
 |zero=>exact h
 |succ m ih=>exact ih.usN _ _
theorem L64.usO{n:Nat}{us:List Nat}{rd:Nat→List Nat}{ord:List Nat}(h:L64 n us)(j:Nat):L64 n (usO rd us ord j):=by
 induction j with
 |zero=>exact h
 |succ j ih=>exact ih.usI _ _
theorem unitF_64(n a k:Nat)(hk:k≤64):L64 n (unitF n a k):=by
 induction k with
 |zero=>exact⟨unitF_len _ _ _,fun i=>by simp[unitF,List.getD_eq_getElem?_getD,List.getElem?_replicate];split<;>simp⟩
 |succ k ih=>exact (ih (by omega)).set _ _ (Nat.pow_lt_pow_right (by decide) hk)
theorem U64_at{us:List Nat}{p:Nat}(h:p<us.length):(U64 us)[p]? =some (.int .u64 ((us.getD p 0:Nat):Int)):=by
 simp[U64,List.getD_eq_getElem?_getD,List.getElem?_eq_getElem h]
theorem L64.udI{n:Nat}{us:List Nat}{rd:Nat→List Nat}(h:L64 n us)(i m:Nat):L64 n (udI rd us i m):=by
 induction m with
 |zero=>exact h
 |succ m ih=>exact ih.usN _ _
theorem L64.udO{n:Nat}{us:List Nat}{rd:Nat→List Nat}{ord:List Nat}(h:L64 n us)(j:Nat):L64 n (udO rd us ord n j):=by
 induction j with
 |zero=>exact h
 |succ j ih=>exact ih.udI _ _
theorem RelF.next{w0 w w':World}{n g1 g2 g3:Nat}{us ud:List Value}(h:RelF w0 n g1 g2 g3 us ud w)(hb:BelW w w'):RelF w0 n g1 g2 g3 us ud w':=
 ⟨joinB h.bel hb,h.l1,h.l2,h.l3,h.d12,h.d13,h.d23,h.r1.below hb,h.r2.below hb,h.r3.below hb⟩
theorem RelF.kept{w0 w w':World}{n g1 g2 g3 B:Nat}{row:Option Nat}{us ud:List Value}(h:RelF w0 n g1 g2 g3 us ud w)(hg:w.grownBy w' row)(hr:∀r,row=some r→B≤r)(hB:w0.heap.size≤B∧g1<B∧g2<B∧g3<B):RelF w0 n g1 g2 g3 us ud w':=by
 have hne:∀g,g<B→some g≠row:=fun g hgB e=>by have:=hr g e.symm;omega
 exact⟨Below.grown h.bel hg (Below.size h.bel) (fun r e=>Nat.le_trans hB.1 (hr r e)),h.l1,h.l2,h.l3,h.d12,h.d13,h.d23,h.r1.kept hg (hne _ hB.2.1),h.r2.kept hg (hne _ hB.2.2.1),h.r3.kept hg (hne _ hB.2.2.2)⟩
theorem reads_inF(F:Fence)(u:Nat)(kd mm bt:Int)(A:Option Addr)(m c:Nat)(w:World)(hf:F.fn 61)(hro:F.round=none):
 CallsIn F u Tryd.prog 61 #[.agg #[.int .u8 kd,.slice A m c,.int .i64 mm,.int .i64 bt]] w fun e w'=>e=.returned (if kd=14 then .slice none 0 0 else .slice A m c)∧BelW w w':=by
 by_cases h:kd=14
 ·have t0:(kd==14)=true:=by simpa using h
  have H:=Lib.hid h
  clear h
  refine callsIn_of_wp Tryd.func61 rfl hf ?_ hro
  simp only[Tryd.ntmps61,List.size_toArray,List.length_cons,List.length_nil,Nat.reduceAdd,Nat.reduceSub,Array.replicate_succ,Array.replicate_zero,List.push_toArray,List.append_toArray,List.nil_append,List.cons_append]
  gi_wp2
  go_ret
  exact⟨by first|rfl|(rw[if_pos H.out];rfl),below_new (Below.refl _ _) _⟩
 ·have t0:(kd==14)=false:=by simpa using h
  have H:=Lib.hid h
  clear h
  refine callsIn_of_wp Tryd.func61 rfl hf ?_ hro
  simp only[Tryd.ntmps61,List.size_toArray,List.length_cons,List.length_nil,Nat.reduceAdd,Nat.reduceSub,Array.replicate_succ,Array.replicate_zero,List.push_toArray,List.append_toArray,List.nil_append,List.cons_append]
  gi_wp2
  go_ret
  exact⟨by first|rfl|(rw[if_neg H.out];rfl),below_new (Below.refl _ _) _⟩
end Go.Proofs.YtcbllelkgniogaaDoor
