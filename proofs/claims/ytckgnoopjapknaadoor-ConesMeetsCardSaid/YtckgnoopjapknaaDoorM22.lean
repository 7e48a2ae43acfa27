/- The texts Co8 Rfl Exp Int Liv Lsc. -/
import Derived.Test.YtckgnoopjapknaaDoorM21
import Derived.Test.YtckgnoopjapknaaDoorM10
import Derived.Test.YtckgnoopjapknaaDoorM09
import Derived.Test.YtckgnoopjapknaaDoorM14
import Derived.Test.YtckgnoopjapknaaDoorM02
import Derived.Test.YtckgnoopjapknaaDoorM15
import Derived.Test.YtckgnoopjapknaaDoorM01
namespace Go.Proofs.YtckgnoopjapknaaDoor
def snF(nx:Int→List Int)(P:Int→Bool)(nt:Int):Nat→Int→Bool
 |0,_=>false
 |k+1,x=> !(x==nt)&&(P x||(nx x).any (snF nx P nt k))
section
variable {n:Nat} {nx:Int→List Int} {P:Int→Prop} {L N:List Int} {pl:Int→Int} {nt d x y:Int}
theorem snF_iff{P:Int→Bool}(hn:∀x,Nod n x→Inr n (nx x))(hl:∀x y,Nod n x→y∈nx x→lat L x<lat L y)(h1:∀y,Nod n y→lat L y<(n:Int)):∀(k:Nat) (x:Int),Nod n x→(n:Int)-lat L x≤(k:Int)→(snF nx P nt k x=true↔Sn nx (fun x=>P x=true) nt x)
 |0,x,hx,h=>by have:=h1 x hx;omega
 |k+1,x,hx,h=>by
  unfold snF
  rw[Bool.and_eq_true,Bool.or_eq_true,List.any_eq_true]
  have ih:∀y∈nx x,(snF nx P nt k y=true↔Sn nx (fun x=>P x=true) nt y):=fun y hy=>snF_iff hn hl h1 k y (hn x hx y hy) (by have:=hl x y hx hy;omega)
  constructor
  ·rintro⟨h2,h3⟩
   have hne:x≠nt:=by simpa using h2
   rcases h3 with h3| ⟨y,hy,h3⟩
   ·exact .pt hne h3
   ·exact .go hne hy ((ih y hy).1 h3)
  ·intro h2
   cases h2 with
   |pt hne hp=>exact⟨by simpa using hne,.inl hp⟩
   |go hne hy hs=>exact⟨by simpa using hne,.inr ⟨_,hy,(ih _ hy).2 hs⟩⟩
theorem Sn.pass(h:Sn nx P (-1) x)(hx:Nod n x)(hn:∀x,Nod n x→Inr n (nx x))(hl:∀x y,Nod n x→y∈nx x→lat L x<lat L y)(hd:¬Sn nx P d x):d=x∨lat L x<lat L d:=by
 induction h with
 | @pt x _ hp=>
   by_cases e:x=d
   ·exact .inl e.symm
   ·exact absurd (.pt e hp) hd
 | @go x y _ hy _ ih=>
   by_cases e:x=d
   ·exact .inl e.symm
   ·have h2:=hl x y hx hy
    rcases ih (hn x hx y hy) (fun g=>hd (.go e hy g)) with rfl|h
    ·exact .inr h2
    ·exact .inr (by omega)
def chF(N:Int→Int)(n:Nat):Nat→Int→List Int
 |0,_=>[]
 |k+1,x=>if 0≤x∧x<(n:Int) then x::chF N n k (N x) else []
def Cpt(n:Nat)(nx:Int→List Int)(P:Int→Prop)(pl:Int→Int)(k:Nat)(x:Int):Prop:=¬Nod n x∨(Nod n x∧Sn nx P (-1) x∧(n:Int)-pl x≤(k:Int))
section
variable {N:Int→Int}
theorem Cpt.next{k:Nat}(hN:∀y,Nod n y→Near n nx P N pl y)(hx:Nod n x)(h:Cpt n nx P pl (k+1) x):Cpt n nx P pl k (N x):=by
 rcases h with h| ⟨-,hs,hk⟩
 ·exact absurd hx h
 ·have hr:=hN x hx
  by_cases e:N x= -1
  ·exact .inl fun g=>by rw[e]at g;have:=g.1;omega
  ·rcases hr.ex e with e2| ⟨a,b,c⟩
   ·exact .inl fun g=>by rw[e2]at g;have:=g.2;omega
   ·exact .inr ⟨a,b,by omega⟩
theorem chF_nod:∀(k:Nat) (x:Int),∀d∈chF N n k x,Nod n d
 |0,_,d,h=>by cases h
 |k+1,x,d,h=>by
  unfold chF at h
  split at h
  ·rename_i hx
   rcases List.mem_cons.1 h with rfl|h
   ·exact hx
   ·exact chF_nod k _ d h
  ·cases h
theorem chF_out{k:Nat}(h:¬Nod n x):chF N n k x=[]:=by
 cases k with
 |zero=>rfl
 |succ k=>unfold chF;exact if_neg h
theorem chF_mem(hN:∀y,Nod n y→Near n nx P N pl y)(hp:∀y,Nod n y→pl y<(n:Int)):∀(k:Nat) (x:Int),Cpt n nx P pl k x→∀d,d∈chF N n k x↔InC n N d x
 |0,x,h,d=>by
  rcases h with h| ⟨h,-,h2⟩
  ·exact⟨fun g=>(by cases g),fun g=>absurd g.nod h⟩
  ·have:=hp x h;omega
 |k+1,x,h,d=>by
  unfold chF
  by_cases hx:0≤x∧x<(n:Int)
  ·rw[if_pos hx,List.mem_cons,InC.iff hx,chF_mem hN hp k _ (Cpt.next hN hx h) d]
  ·rw[if_neg hx]
   exact⟨fun g=>(by cases g),fun g=>absurd g.nod hx⟩
theorem chF_up(hN:∀y,Nod n y→Near n nx P N pl y)(hp:∀y,Nod n y→pl y<(n:Int))(hn:∀x,Nod n x→Inr n (nx x))(hl:∀x y,Nod n x→y∈nx x→lat L x<lat L y):∀(k:Nat) (x:Int),Cpt n nx P pl k x→(chF N n k x).Pairwise (fun a b=>lat L a<lat L b)∧(Nod n x→∀d∈chF N n k x,d=x∨lat L x<lat L d)
 |0,x,h=>⟨List.Pairwise.nil,fun _ d h=>by cases h⟩
 |k+1,x,h=>by
  unfold chF
  by_cases hx:0≤x∧x<(n:Int)
  ·rw[if_pos hx]
   have hc:=Cpt.next hN hx h
   obtain⟨h1,h2⟩:=chF_up hN hp hn hl k _ hc
   have hs:Sn nx P (-1) x:=by
    rcases h with h|h
    ·exact absurd hx h
    ·exact h.2.1
   have h3:∀d∈chF N n k (N x),lat L x<lat L d:=fun d hd=>by
    have hin:=(chF_mem hN hp k _ hc d).1 hd
    have hr:=hN x hx
    have h4:=(hr.ch hs d (chF_nod _ _ d hd)).1 (.next hx hin)
    rcases hs.pass hx hn hl h4 with e|e
    ·exfalso
     have h5:pl x<pl d:=by
      by_cases e2:N x= -1
      ·exact absurd hs (hr.dead.1 e2)
      ·rcases hr.ex e2 with e3| ⟨a,b,c⟩
       ·rw[e3]at hin;exact absurd hin InC.exit
       ·have:=InC.up (b:=pl (N x)) (fun y h1 _ _=>hN y h1) (Int.le_refl _) b hin
        omega
     rw[e]at h5;omega
    ·exact e
   refine⟨List.pairwise_cons.2 ⟨h3,h1⟩,fun _ d hd=>?_⟩
   rcases List.mem_cons.1 hd with e|hd
   ·exact .inl e
   ·exact .inr (h3 d hd)
  ·rw[if_neg hx]
   exact⟨List.Pairwise.nil,fun _ d h=>by cases h⟩
structure DomL(n:Nat)(nx:Int→List Int)(P:Int→Prop)(L:List Int)(x:Int)(T:List Int):Prop where
 nod:∀d∈T,Nod n d
 mem:∀d,Nod n d→(d∈T↔d≠x∧Sn nx P (-1) x∧¬Sn nx P d x)
 up:T.Pairwise (fun a b=>lat L a<lat L b)
 lo:∀d∈T,lat L x<lat L d
theorem domL_of(hN:∀y,Nod n y→Near n nx P N pl y)(hp:∀y,Nod n y→0≤pl y∧pl y<(n:Int))(hn:∀x,Nod n x→Inr n (nx x))(hl:∀x y,Nod n x→y∈nx x→lat L x<lat L y)(hx:Nod n x):DomL n nx P L x (chF N n n (N x))∧Cpt n nx P pl n (N x):=by
 have hr:=hN x hx
 have hp2:∀y,Nod n y→pl y<(n:Int):=fun y hy=>(hp y hy).2
 have hc:Cpt n nx P pl n (N x):=by
  by_cases e:N x= -1
  ·exact .inl fun g=>by rw[e]at g;have:=g.1;omega
  ·rcases hr.ex e with e2| ⟨a,b,c⟩
   ·exact .inl fun g=>by rw[e2]at g;have:=g.2;omega
   ·exact .inr ⟨a,b,by have:=(hp _ a).1;omega⟩
 have hlo:∀d∈chF N n n (N x),Sn nx P (-1) x∧d≠x∧lat L x<lat L d∧¬Sn nx P d x:=fun d hd=>by
  have hin:=(chF_mem hN hp2 n _ hc d).1 hd
  have hs:Sn nx P (-1) x:=by
   apply Classical.byContradiction
   intro hs
   rw[hr.dead.2 hs]at hin
   have:=hin.nod.1;omega
  have h4:=(hr.ch hs d (chF_nod _ _ d hd)).1 (.next hx hin)
  have h5:pl x<pl d:=by
   by_cases e2:N x= -1
   ·exact absurd hs (hr.dead.1 e2)
   ·rcases hr.ex e2 with e3| ⟨a,b,c⟩
    ·rw[e3]at hin;exact absurd hin InC.exit
    ·have:=InC.up (b:=pl (N x)) (fun y h1 _ _=>hN y h1) (Int.le_refl _) b hin
     omega
  have hne:d≠x:=fun e=>by rw[e]at h5;omega
  rcases hs.pass hx hn hl h4 with e|e
  ·exact absurd e hne
  ·exact⟨hs,hne,e,h4⟩
 refine⟨⟨chF_nod _ _,fun d hd=>⟨fun h=>⟨(hlo d h).2.1,(hlo d h).1,(hlo d h).2.2.2⟩,?_⟩,(chF_up hN hp2 hn hl _ _ hc).1,fun d h=>(hlo d h).2.2.1⟩,hc⟩
 rintro⟨h1,h2,h3⟩
 refine (chF_mem hN hp2 n _ hc d).2 ?_
 rcases (InC.iff hx).1 ((hr.ch h2 d hd).2 h3) with e|e
 ·exact absurd e h1
 ·exact e
end
theorem asc_eq{f:Int→Int} :∀(l m:List Int),l.Pairwise (fun a b=>f a<f b)→m.Pairwise (fun a b=>f a<f b)→(∀d,d∈l↔d∈m)→l=m
 |[],[],_,_,_=>rfl
 |[],b::m,_,_,h=>by have:=(h b).2 List.mem_cons_self;cases this
 |a::l,[],_,_,h=>by have:=(h a).1 List.mem_cons_self;cases this
 |a::l,b::m,h1,h2,h=>by
  obtain⟨h1a,h1b⟩:=List.pairwise_cons.1 h1
  obtain⟨h2a,h2b⟩:=List.pairwise_cons.1 h2
  obtain rfl:a=b:=by
   rcases List.mem_cons.1 ((h a).1 List.mem_cons_self) with e|e
   ·exact e
   ·rcases List.mem_cons.1 ((h b).2 List.mem_cons_self) with e2|e2
    ·exact e2.symm
    ·have:=h2a a e;have:=h1a b e2;omega
  rw[asc_eq l m h1b h2b fun d=>⟨fun hd=>?_,fun hd=>?_⟩]
  ·rcases List.mem_cons.1 ((h d).1 (List.mem_cons_of_mem _ hd)) with e|e
   ·subst e;have:=h1a d hd;omega
   ·exact e
  ·rcases List.mem_cons.1 ((h d).2 (List.mem_cons_of_mem _ hd)) with e|e
   ·subst e;have:=h2a d hd;omega
   ·exact e
theorem DomL.count{T:List Int}{R:List Bool}(h:DomL n nx P L x T)(hR:∀i:Nat,i<n→(bat R i=true↔(i:Int)≠x∧Sn nx P (-1) x∧¬Sn nx P (i:Int) x)):T.length=(memB R n).length:=by
 have e:∀d,d∈T↔d∈memB R n:=fun d=>by
  rw[mem_memB]
  constructor
  ·intro hd
   have hn:=h.nod d hd
   have h2:=hn.1
   have h3:=hn.2
   refine⟨d.toNat,by omega,by omega,(hR d.toNat (by omega)).2 ?_⟩
   rw[show ((d.toNat:Nat):Int)=d by omega]
   exact (h.mem d hn).1 hd
  ·rintro⟨j,hj,rfl,hb⟩
   exact (h.mem (j:Int) ⟨by omega,by omega⟩).2 ((hR j hj).1 hb)
 have n1:T.Nodup:=h.up.imp fun {a b} hab e=>by subst e;omega
 have n2:(memB R n).Nodup:=by
  unfold memB
  exact List.Pairwise.map _ (fun a b h e=>h (by omega)) (List.nodup_range.filter _)
 exact ((List.perm_ext_iff_of_nodup n1 n2).2 e).length_eq
end
open Go.RowKit
theorem Stk.all{w:World}{g:Nat}{v:Value}{l:List Int}(h:Stk w g v l)(hm:l.length≤maxLen):Is w w.heap.size v l:=by
 obtain⟨A,c,rfl,hle,-,-⟩:=h.form
 exact h.reads c hle hm
set_option maxHeartbeats 1000000 in
theorem refIs_any(c:Ck)(x:Int)(v:Value)(w:World)(B:Nat)(hc:Cir w B v c):
 Calls Tryd.prog 13 #[v,.int .i64 x] w fun e w'=>e=.returned (.bool (isIdx c.nodes.length x))∧Below w.heap.size w w':=by
 obtain⟨v0,v1,v2,v3,rfl,hns,hss,hms,hos⟩:=hc
 obtain⟨A0,b,o,c0,rfl,-⟩:=id hns
 obtain⟨A1,b1,o1,c1,rfl,-⟩:=id hss
 obtain⟨A2,b2,o2,c2,rfl,-⟩:=id hms
 obtain⟨A3,b3,o3,c3,rfl,-⟩:=id hos
 have hbW:Below w.heap.size w (w.alloc (.cells #[.slice A0 c.nodes.length c0,.slice A1 c.names.length c1,.slice A2 c.mems.length c2,.slice A3 c.outs.length c3] 27)):=(Below.refl _ _).alloc (Nat.le_refl _) _
 have HBW:=Lib.hid hbW
 clear hbW hns hss hms hos
 generalize c.names.length=n1 at HBW ⊢
 generalize c.mems.length=n2 at HBW ⊢
 generalize c.outs.length=n3 at HBW ⊢
 generalize c.nodes.length=n at HBW ⊢
 obtain⟨y,HY⟩:=named (isIdx n x)
 rw[←HY.out]
 by_cases h0:0≤x
 ·by_cases h1:x<(n:Int)
  ·have hy:y=true:=by rw[HY.out];simp[isIdx,h0,h1]
   subst hy
   clear HY
   go_enter Tryd.func13,Tryd.ntmps13
   go_wp2
   go_ret
   exact⟨ret_bool (by first|(simp;done)|(simp;omega)),HBW.out⟩
  ·have hy:y=false:=by rw[HY.out];simp[isIdx,h0];omega
   subst hy
   clear HY
   go_enter Tryd.func13,Tryd.ntmps13
   go_wp2
   go_ret
   exact⟨ret_bool (by first|(simp;done)|(simp;omega)),HBW.out⟩
 ·have hy:y=false:=by rw[HY.out];simp[isIdx];omega
  subst hy
  clear HY
  go_enter Tryd.func13,Tryd.ntmps13
  go_wp2
  go_ret
  exact⟨ret_bool (by first|(simp;done)|(simp;omega)),HBW.out⟩
def Lst(w:World)(base:Nat)(v:Value)(l:List (Int×Int)):Prop:=w.ownsRow base 100 2 v l.length (lnC l)
theorem Lst.reads{w:World}{g:Nat}{v:Value}{l:List (Int×Int)}(h:Lst w g v l):Lns w w.heap.size v l:=by
 have hlt:=World.ownsRow.lt h
 rcases id h.2 with⟨rfl,hn⟩| ⟨q,cap,cur,rfl,hb,hg,hle,hm,-⟩
 ·exact⟨none,0,0,0,by rw[hn],fun h=>by omega,by omega,by simp[hn],fun k hk=>by omega⟩
 ·refine⟨some ⟨q,0,none⟩,q,0,cap,rfl,fun _=>rfl,hle,Nat.le_trans hle hm,fun k hk=>⟨(hlt q rfl).2,?_⟩⟩
  have hc:=lnC_get l k hk
  refine⟨?_,?_⟩
  ·rw[World.ownsRow.cellAt h _ (by omega),Nat.zero_add];exact hc.1
  ·rw[World.ownsRow.cellAt h _ (by omega),Nat.zero_add];exact hc.2
def exN(k2:Int)(i2:List Int):List Nd:=[⟨0,[],0,0⟩,⟨14,[3],0,0⟩,⟨k2,i2,0,0⟩,⟨5,[1,2],0,0⟩]
def exS(b:UInt8):List ByteArray:=[⟨#[97]⟩,⟨#[113]⟩,⟨#[b]⟩,⟨#[103]⟩]
def Ex:Ck:=⟨exN 4 [0],exS 110,[],[3]⟩
theorem is_of{w:World}{g:Nat}{l:List Int}(t:TypeId)(hg:w.heap[g]? =some (.cells (l.map (Value.int .i64)).toArray t (0,0)))(hm:l.length≤maxLen)(hB:g<w.heap.size):Is w w.heap.size (.slice (some ⟨g,0,none⟩) l.length l.length) l:=
 ⟨_,g,0,_,rfl,fun _=>rfl,Nat.le_refl _,hm,fun k hk=>⟨hB,by
  unfold IntAt
  rw[cell_of_row w g _ _ t _ hg]
  simp[hk,List.getD_eq_getElem?_getD]⟩⟩
def intsR(l l':List Int)(c:Nat):Int:=if l=l'∧c≤l.length then 0 else 1
theorem list_eq_of{l l':List Int}(hl:l.length=l'.length)(h:∀j,j<l.length→l.getD j 0=l'.getD j 0):l=l':=by
 apply List.ext_getElem hl
 intro j h1 h2
 have:=h j h1
 simpa [List.getD_eq_getElem?_getD,List.getElem?_eq_getElem h1,List.getElem?_eq_getElem h2]using this
set_option maxHeartbeats 1000000 in
theorem ints_any(l l':List Int)(A:Option Addr)(c:Nat)(s':Value)(w:World)(B B':Nat)(h:Is w B (.slice A l.length c) l)(h':Is w B' s' l'):
 Calls Tryd.prog 20 #[.slice A l.length c,s'] w fun e w'=>e=.returned (.int .i64 (intsR l l' c))∧∃n,w'=w.drewN n:=by
 obtain⟨y,HY⟩:=named (intsR l l' c)
 rw[←HY.out]
 obtain⟨A1,b,o,c1,e,hA,hcc,hm,hc⟩:=h.opens
 simp only[Value.slice.injEq,true_and]at e
 obtain⟨rfl,rfl⟩:=e
 obtain⟨A',b',o',c',rfl,hA',-,hm',hc'⟩:=h'.opens
 unfold maxLen at hm hm'
 have HC:=Lib.hid hc
 have HC':=Lib.hid hc'
 have HAA:=Lib.hid hA
 have HAA':=Lib.hid hA'
 clear hc hc' hA hA' h h'
 obtain⟨n,hn⟩:∃n,n=l.length:=⟨_,rfl⟩
 obtain⟨n',hn'⟩:∃n',n'=l'.length:=⟨_,rfl⟩
 rw[←hn]at hm hcc
 rw[←hn']at hm'
 rw[←hn,←hn']
 have HN:=Lib.hid hn
 have HN':=Lib.hid hn'
 clear hn hn'
 by_cases hnn:n=n'
 rotate_left
 ·have hv:y=1:=by rw[HY.out,intsR,if_neg (fun h=>hnn (by rw[HN.out,HN'.out,h.1]))]
  have hb:((n:Int) != (n':Int))=true:=by rw[bne_iff_ne];omega
  have HV:=Lib.hid hv
  clear hv hnn
  go_enter Tryd.func20,Tryd.ntmps20
  go_wp2
  go_ret
  exact⟨ret_int (by rw[HV.out]),0,rfl⟩
 subst hnn
 by_cases hcn:n<c
 ·have hv:y=1:=by rw[HY.out,intsR,if_neg (fun h=>by have:=h.2;rw[←HN.out]at this;omega)]
  have HV:=Lib.hid hv
  clear hv
  go_enter Tryd.func20,Tryd.ntmps20
  go_wp2
  go_ret
  exact⟨ret_int (by rw[HV.out]),0,rfl⟩
 go_enter Tryd.func20,Tryd.ntmps20
 go_wp2
 go_loopw [5] (fun i wr=>∃k m:Nat,k≤n∧i=.int .i64 k∧wr=w.drewN m∧∀j,j<k→l.getD j 0=l'.getD j 0) (fun i _=>n-(intOf i).toNat)
 case atStart=>exact⟨0,0,Nat.zero_le _,rfl,rfl,fun j hj=>absurd hj (by omega)⟩
 case round=>
  obtain⟨k,m,hk,rfl,rfl,hno⟩:=hrel
  have HNO:=Lib.hid hno
  clear hno
  by_cases hlt:k<n
  ·obtain rfl:=HAA.out (by rw[←HN.out];omega)
   obtain rfl:=HAA'.out (by rw[←HN'.out];omega)
   have h1:=(HC.out k (by rw[←HN.out];omega)).2
   have h2:=(HC'.out k (by rw[←HN'.out];omega)).2
   obtain⟨x,HX⟩:=named (l.getD k 0)
   obtain⟨x',HX'⟩:=named (l'.getD k 0)
   rw[←HX.out]at h1
   rw[←HX'.out]at h2
   cases hv:(x != x')
   ·have HV:=Lib.hid hv
    go_wp2
    go_quiet (fail)
    go_wp2
    go_roundw
    case rel=>
     refine⟨k+1,m+nq,by omega,by go_num,by first|rfl|rw[World.drewN_drewN],fun j hj=>?_⟩
     by_cases hjk:j=k
     ·rw[hjk,←HX.out,←HX'.out];simpa using HV.out
     ·exact HNO.out j (by omega)
    case measure=>simp[intOf];omega
   ·have hy1:y=1:=by
     rw[HY.out,intsR,if_neg (fun h=>?_)]
     have e:=h.1
     have:x=x':=by rw[HX.out,HX'.out,e]
     simp[this]at hv
    have HV:=Lib.hid hy1
    clear hy1
    go_wp2
    go_quiet (fail)
    go_wp2
    go_ret
    exact⟨ret_int (by rw[HV.out]),m+nq,by first|rfl|rw[World.drewN_drewN]⟩
  ·have hkn:k=n:=by omega
   go_wp2
   go_ret
   exact⟨ret_int (by rw[HY.out,intsR,if_pos ⟨list_eq_of (HN.out.symm.trans HN'.out) (fun j hj=>HNO.out j (by rw[←HN.out]at hj;omega)),by rw[←HN.out];omega⟩]),m,rfl⟩
theorem Is.on{w w':World}{v:Value}{l:List Int}(h:Is w w.heap.size v l)(hb:Below w.heap.size w w'):Is w' w'.heap.size v l:=(h.below hb).more hb.size
theorem Fos.on{w w':World}{v:Value}{l:List (List (Int×Int))}(h:Fos w w.heap.size v l)(hb:Below w.heap.size w w'):Fos w' w'.heap.size v l:=h.keep hb.size fun _ hp=>hb.cell hp
structure LW(w:World)(q:Nat)(A0 A1 A2 A3:Option Addr)(c0 c1 c2 c3:Nat)(wr:World):Prop where
 bel:Below w.heap.size w wr
 low:w.heap.size≤q
 tabs:Tabs wr
 cir:Cir wr q (.agg #[.slice A0 4 c0,.slice A1 4 c1,.slice A2 0 c2,.slice A3 1 c3]) Ex
 box:Fr wr q 27 [.slice A0 4 c0,.slice A1 4 c1,.slice A2 0 c2,.slice A3 1 c3]
section
variable {w w1 W:World} {q:Nat} {A0 A1 A2 A3:Option Addr} {c0 c1 c2 c3:Nat}
theorem LW.next(h:LW w q A0 A1 A2 A3 c0 c1 c2 c3 w1)(hb:Below w1.heap.size w1 W):LW w q A0 A1 A2 A3 c0 c1 c2 c3 W:=
 ⟨joinB h.bel hb,h.low,h.tabs.below hb,h.cir.below (hb.mono (Nat.le_of_lt h.box.lt)),h.box.below hb⟩
theorem LW.cells(h:LW w q A0 A1 A2 A3 c0 c1 c2 c3 w1):w1.cell? ⟨q,0,none⟩=some (.slice A0 4 c0)∧w1.cell? ⟨q,1,none⟩=some (.slice A1 4 c1)∧w1.cell? ⟨q,2,none⟩=some (.slice A2 0 c2)∧w1.cell? ⟨q,3,none⟩=some (.slice A3 1 c3):=
 ⟨h.box.cell 0,h.box.cell 1,h.box.cell 2,h.box.cell 3⟩
theorem LW.all(h:LW w q A0 A1 A2 A3 c0 c1 c2 c3 w1):Cir w1 w1.heap.size (.agg #[.slice A0 4 c0,.slice A1 4 c1,.slice A2 0 c2,.slice A3 1 c3]) Ex:=h.cir.more (Nat.le_of_lt h.box.lt)
end
structure LC(c:Ck)(w:World)(q:Nat)(A0 A1 A2 A3:Option Addr)(n0 n1 n2 n3 c0 c1 c2 c3:Nat)(wr:World):Prop where
 bel:Below w.heap.size w wr
 low:w.heap.size≤q
 tabs:Tabs wr
 cir:Cir wr q (.agg #[.slice A0 n0 c0,.slice A1 n1 c1,.slice A2 n2 c2,.slice A3 n3 c3]) c
 box:Fr wr q 27 [.slice A0 n0 c0,.slice A1 n1 c1,.slice A2 n2 c2,.slice A3 n3 c3]
section
variable {c:Ck} {w w1 W:World} {q:Nat} {A0 A1 A2 A3:Option Addr} {n0 n1 n2 n3 c0 c1 c2 c3:Nat}
theorem LC.next(h:LC c w q A0 A1 A2 A3 n0 n1 n2 n3 c0 c1 c2 c3 w1)(hb:Below w1.heap.size w1 W):LC c w q A0 A1 A2 A3 n0 n1 n2 n3 c0 c1 c2 c3 W:=
 ⟨joinB h.bel hb,h.low,h.tabs.below hb,h.cir.below (hb.mono (Nat.le_of_lt h.box.lt)),h.box.below hb⟩
theorem LC.cells(h:LC c w q A0 A1 A2 A3 n0 n1 n2 n3 c0 c1 c2 c3 w1):w1.cell? ⟨q,0,none⟩=some (.slice A0 n0 c0)∧w1.cell? ⟨q,1,none⟩=some (.slice A1 n1 c1)∧w1.cell? ⟨q,2,none⟩=some (.slice A2 n2 c2)∧w1.cell? ⟨q,3,none⟩=some (.slice A3 n3 c3):=
 ⟨h.box.cell 0,h.box.cell 1,h.box.cell 2,h.box.cell 3⟩
theorem LC.all(h:LC c w q A0 A1 A2 A3 n0 n1 n2 n3 c0 c1 c2 c3 w1):Cir w1 w1.heap.size (.agg #[.slice A0 n0 c0,.slice A1 n1 c1,.slice A2 n2 c2,.slice A3 n3 c3]) c:=h.cir.more (Nat.le_of_lt h.box.lt)
theorem LC.start(hT:Tabs w)(hc:Cir w w.heap.size (.agg #[.slice A0 n0 c0,.slice A1 n1 c1,.slice A2 n2 c2,.slice A3 n3 c3]) c):
 LC c w w.heap.size A0 A1 A2 A3 n0 n1 n2 n3 c0 c1 c2 c3 (w.alloc (.cells #[.slice A0 n0 c0,.slice A1 n1 c1,.slice A2 n2 c2,.slice A3 n3 c3] 27)):=
 ⟨below_new (Below.refl _ _) _,Nat.le_refl _,hT.below (below_new (Below.refl _ _) _),hc.below (below_new (Below.refl _ _) _),heap_alloc_new _ _⟩
end
end Go.Proofs.YtckgnoopjapknaaDoor
