/- The texts Srt. -/
import Derived.Test.YtcbllelkgniogaaDoorM13
import Derived.BigRegion
namespace Go.Proofs.YtcbllelkgniogaaDoor
open Go.RowKit
def cmpI(x y:Int):Int:=if x<y then-1 else if y<x then 1 else 0
theorem cmpI_neg(x y:Int):decide (cmpI x y<0)=decide (x<y):=by
 unfold cmpI
 by_cases h:x<y
 ·simp[h]
 ·by_cases h':y<x
  ·simp[h,h']
  ·simp[h,h']
set_option maxHeartbeats 400000 in
theorem nan_any(x:Int)(w:World):Calls Tryd.prog 46 #[.int .i64 x] w fun e w'=>e=.returned (.bool false)∧w=w':=by
 go_enter Tryd.func46,Tryd.ntmps46
 go_wp2
 go_ret
 exact⟨ret_bool (by simp),rfl⟩
set_option maxHeartbeats 400000 in
theorem compare_any(x y:Int)(w:World):Calls Tryd.prog 29 #[.int .i64 x,.int .i64 y] w fun e w'=>e=.returned (.int .i64 (cmpI x y))∧w=w':=by
 obtain⟨z,HZ⟩:=named (cmpI x y)
 rw[←HZ.out]
 by_cases h:x<y
 ·have hv:z= -1:=by rw[HZ.out,cmpI,if_pos h]
  have HV:=Lib.hid hv
  clear hv
  go_enter Tryd.func29,Tryd.ntmps29
  go_wp2_with (go_at_call 46;(with_reducible refine (nan_any _ _).mono ?_);rintro e w' ⟨rfl,rfl⟩)
  go_ret
  exact⟨ret_int (by rw[HV.out]),rfl⟩
 ·by_cases h':y<x
  ·have hv:z=1:=by rw[HZ.out,cmpI,if_neg h,if_pos h']
   have HV:=Lib.hid hv
   clear hv
   go_enter Tryd.func29,Tryd.ntmps29
   go_wp2_with (go_at_call 46;(with_reducible refine (nan_any _ _).mono ?_);rintro e w' ⟨rfl,rfl⟩)
   go_ret
   exact⟨ret_int (by rw[HV.out]),rfl⟩
  ·have hv:z=0:=by rw[HZ.out,cmpI,if_neg h,if_neg h']
   have HV:=Lib.hid hv
   clear hv
   go_enter Tryd.func29,Tryd.ntmps29
   go_wp2_with (go_at_call 46;(with_reducible refine (nan_any _ _).mono ?_);rintro e w' ⟨rfl,rfl⟩)
   go_ret
   exact⟨ret_int (by rw[HV.out]),rfl⟩
set_option maxHeartbeats 1000000 in
theorem order1_any(L:List Int)(a b:Nat)(ha:a<L.length)(hb:b<L.length)(hL:L.length≤1000000)(g q:Nat)(w:World)(hr:Row w g L)(hq:w.cell? ⟨q,0,none⟩=some (.slice (some ⟨g,0,none⟩) L.length L.length)):
 Calls Tryd.prog 60 #[.int .i64 a,.int .i64 b,.pointer (some ⟨q,0,none⟩)] w fun e w'=>e=.returned (.int .i64 (cmpI (lat L a) (lat L b)))∧∃n,w'=w.drewN n:=by
 have h1:=hr.cell ha
 have h2:=hr.cell hb
 obtain⟨x,HX⟩:=named (lat L a)
 obtain⟨y,HY⟩:=named (lat L b)
 rw[←HX.out]at h1 ⊢
 rw[←HY.out]at h2 ⊢
 obtain⟨n,HN⟩:=named L.length
 rw[←HN.out]at hq ha hb hL
 obtain⟨z,HZ⟩:=named (cmpI x y)
 have hC:=fun w=>compare_any x y w
 rw[←HZ.out]at hC
 rw[←HZ.out]
 have HC:=Lib.hid hC
 have ha':(a:Int)<(n:Int):=by omega
 have hb':(b:Int)<(n:Int):=by omega
 clear hC hr
 go_enter Tryd.func60,Tryd.ntmps60
 go_wp2
 go_quiet ((go_at_call 29;exact Calls.quiet_of_same ((HC.out _).mono fun _ _ h=>⟨h.1,h.2.symm⟩)))
 go_wp2
 go_ret
 exact⟨rfl,_,rfl⟩
def Lex(L:List Int)(x y:Int):Prop:=lat L x<lat L y∨(lat L x=lat L y∧x<y)
def rng(i n:Nat):List Int:=(List.range (n-i)).map fun k=>((i+k:Nat):Int)
theorem rng_cons{i n:Nat}(h:i<n):rng i n=(i:Int)::rng (i+1) n:=by
 unfold rng
 rw[show n-i=(n-(i+1))+1 by omega,List.range_succ_eq_map]
 simp only[List.map_cons,List.map_map,Nat.add_zero]
 congr 1
 apply List.map_congr_left
 intro k _
 simp only[Function.comp]
 congr 1
 omega
theorem rng_len(i n:Nat):(rng i n).length=n-i:=by simp[rng]
def SortTo(L:List Int)(n i:Nat)(R:List Int):Prop:=
 ∃S,R=S++rng i n∧S.length=i∧i≤n∧S.Pairwise (Lex L)∧∀x∈S,0≤x∧x<(i:Int)
def Mid(L:List Int)(n i j:Nat)(R:List Int):Prop:=
 ∃P S,R=P++(i:Int)::(S++rng (i+1) n)∧P.length=j∧P.length+S.length=i∧i<n∧(P++S).Pairwise (Lex L)∧(∀x∈P++S,0≤x∧x<(i:Int))∧∀x∈S,Lex L i x
theorem Mid.start{L:List Int}{n i:Nat}{R:List Int}(h:SortTo L n i R)(hi:i<n):Mid L n i i R:=by
 obtain⟨S,h1,h2,h3,h4,h5⟩:=h
 exact⟨S,[],by rw[h1,rng_cons hi];rfl,h2,by simpa using h2,hi,by simpa using h4,by simpa using h5,fun x hx=>by cases hx⟩
theorem Mid.stop{L:List Int}{n i j:Nat}{R:List Int}(h:Mid L n i j R)(hs:j=0∨¬lat L i<lat L (R.getD (j-1) 0)):SortTo L n (i+1) R:=by
 obtain⟨P,S,h1,h2,h3,h4,h5,h6,h7⟩:=h
 have hP:∀x∈P,Lex L x i:=by
  rcases hs with rfl|hs
  ·obtain rfl:P=[]:=List.eq_nil_of_length_eq_zero h2
   intro x hx;cases hx
  ·by_cases hP0:P=[]
   ·subst hP0;intro x hx;cases hx
   ·obtain⟨Q,y,rfl⟩:=snoc_of hP0
    have hy:R.getD (j-1) 0=y:=by
     rw[h1,←h2,List.getD_eq_getElem?_getD,List.getElem?_append_left (by simp)]
     simp
    rw[hy]at hs
    have hyi:=h6 y (by simp)
    have hly:Lex L y i:=by
     rcases Int.lt_or_eq_of_le (Int.not_lt.1 hs) with h|h
     ·exact .inl h
     ·exact .inr ⟨h,hyi.2⟩
    intro x hx
    rcases List.mem_append.1 hx with hx|hx
    ·have hxy:Lex L x y:=by
      have:=List.pairwise_append.1 ((List.pairwise_append.1 h5).1)
      exact this.2.2 x hx y (by simp)
     rcases hxy with a| ⟨a,a'⟩ <;>rcases hly with b| ⟨b,b'⟩
     ·exact .inl (by omega)
     ·exact .inl (by omega)
     ·exact .inl (by omega)
     ·exact .inr ⟨by omega,by omega⟩
    ·obtain rfl:x=y:=by simpa using hx
     exact hly
 have h5':=List.pairwise_append.1 h5
 refine⟨P++(i:Int)::S,by rw[h1];simp,by simp;omega,by omega,?_,fun x hx=>?_⟩
 ·refine List.pairwise_append.2 ⟨h5'.1,List.pairwise_cons.2 ⟨h7,h5'.2.1⟩,fun x hx y hy=>?_⟩
  rcases List.mem_cons.1 hy with rfl|hy
  ·exact hP x hx
  ·exact h5'.2.2 x hx y hy
 ·rcases List.mem_append.1 hx with hx|hx
  ·have:=h6 x (List.mem_append_left _ hx);omega
  ·rcases List.mem_cons.1 hx with rfl|hx
   ·omega
   ·have:=h6 x (List.mem_append_right _ hx);omega
theorem Mid.swap{L:List Int}{n i j:Nat}{R:List Int}(h:Mid L n i (j+1) R)(hs:lat L i<lat L (R.getD j 0)):
 Mid L n i j ((R.set (j+1) (R.getD j 0)).set j (i:Int))∧R.getD (j+1) 0=(i:Int):=by
 obtain⟨P,S,h1,h2,h3,h4,h5,h6,h7⟩:=h
 have hP0:P≠[]:=fun e=>by rw[e]at h2;simp at h2
 obtain⟨Q,y,rfl⟩:=snoc_of hP0
 have hQ:Q.length=j:=by simpa using h2
 have hy:R.getD j 0=y:=by
  rw[h1,←hQ,List.getD_eq_getElem?_getD,List.getElem?_append_left (by simp)]
  simp
 have hi:R.getD (j+1) 0=(i:Int):=by
  rw[h1,List.getD_eq_getElem?_getD,List.getElem?_append_right (by simp;omega)]
  simp[hQ]
 rw[hy]at hs
 refine⟨⟨Q,y::S,?_,hQ,by simp at h3 ⊢;omega,h4,by simpa using h5,fun x hx=>h6 x (by simpa using hx),fun x hx=>?_⟩,hi⟩
 ·rw[hy,h1]
  rw[List.append_assoc,List.set_append_right _ _ (by omega),List.set_append_right _ _ (by omega)]
  rw[show j+1-Q.length=1 by omega,show j-Q.length=0 by omega]
  rfl
 ·rcases List.mem_cons.1 hx with rfl|hx
  ·exact .inl hs
  ·exact h7 x hx
theorem Mid.at{L:List Int}{n i j:Nat}{R:List Int}(h:Mid L n i j R):R.getD j 0=(i:Int):=by
 obtain⟨P,S,h1,h2,-⟩:=h
 rw[h1,List.getD_eq_getElem?_getD,List.getElem?_append_right (by omega),h2]
 simp
theorem Mid.prev{L:List Int}{n i j:Nat}{R:List Int}(h:Mid L n i (j+1) R):0≤R.getD j 0∧R.getD j 0<(i:Int):=by
 obtain⟨P,S,h1,h2,h3,h4,h5,h6,h7⟩:=h
 have hj:j<P.length:=by omega
 have:R.getD j 0∈P:=by
  rw[h1,List.getD_eq_getElem?_getD,List.getElem?_append_left hj,List.getElem?_eq_getElem hj]
  exact List.getElem_mem hj
 exact h6 _ (List.mem_append_left _ this)
theorem Row.otherS{w:World}{g:Nat}{l:List Int}(h:Row w g l){a:Addr}(ha:a.block≠g)(v:Value):Row (w.setCell a v) g l:=
 h.kept (row:=some a.block) ⟨rfl,rfl,rfl,by simp[World.setCell],fun i _ hne=>Below.heap_setCell _ _ _ _ (fun e=>hne (by rw[e]))⟩ (fun e=>ha (by injection e with e;exact e.symm))
structure SW(w:World)(B d g q n:Nat)(L R:List Int)(wr:World):Prop where
 bel:Below B w wr
 size:wr.heap.size=w.heap.size
 row:Row wr d R
 lev:Row wr g L
 cell:wr.cell? ⟨q,0,none⟩=some (.slice (some ⟨g,0,none⟩) n n)
theorem SW.drewN{w:World}{B d g q n:Nat}{L R:List Int}{wr:World}(h:SW w B d g q n L R wr)(k:Nat):SW w B d g q n L R (wr.drewN k):=⟨below_drewN h.bel k,h.size,h.row,h.lev,h.cell⟩
theorem SW.drew{w:World}{B d g q n:Nat}{L R:List Int}{wr:World}(h:SW w B d g q n L R wr):SW w B d g q n L R wr.drew:=⟨h.bel.drew,h.size,h.row,h.lev,h.cell⟩
theorem SW.set{w:World}{B d g q n:Nat}{L R:List Int}{wr:World}(h:SW w B d g q n L R wr)(hd:B≤d)(hg:d≠g)(hq:d≠q)(j:Nat)(x:Int):SW w B d g q n L (R.set j x) (wr.setCell ⟨d,j,none⟩ (.int .i64 x)):=
 ⟨h.bel.setCell hd _,by rw[World.size_setCell];exact h.size,h.row.set j x,h.lev.otherS hg _,by rw[World.cell?_setCell_other _ _ _ _ (by simp[hq])];exact h.cell⟩
set_option maxRecDepth 100000 in
set_option maxHeartbeats 4000000 in
theorem insert_any(L:List Int)(n d g q B:Nat)(w:World)(hd:B≤d)(hg:d≠g)(hq:d≠q)(hL:L.length=n)(hn:n≤1000000)(hw:SW w B d g q n L (rng 0 n) w):
 Calls Tryd.prog 94 #[.slice (some ⟨d,0,none⟩) n n,.int .i64 0,.int .i64 n,.func (.func 60) #[] #[.pointer (some ⟨q,0,none⟩)]] w fun e w'=>e=.returned (.tuple #[])∧∃R,SortTo L n n R∧SW w B d g q n L R w':=by
 have HW:=Lib.hid hw
 have HLL:=Lib.hid hL
 clear hw hL
 go_enter Tryd.func94,Tryd.ntmps94
 go_wp2
 go_loopw [8] (fun i wr=>∃(k:Nat) (R:List Int),i=.int .i64 k∧1≤k∧k≤n+1∧SW w B d g q n L R wr∧SortTo L n (min k n) R) (fun i _=>n+1-(intOf i).toNat)
 case atStart=>
  refine⟨1,rng 0 n,rfl,Nat.le_refl _,by omega,HW.out,?_⟩
  by_cases h0:n=0
  ·subst h0
   exact⟨[],rfl,rfl,Nat.le_refl _,List.Pairwise.nil,fun x hx=>by cases hx⟩
  ·rw[show min 1 n=1 by omega]
   exact⟨[0],by rw[rng_cons (by omega)];rfl,rfl,by omega,by simp,fun x hx=>by simp at hx;omega⟩
 case round=>
  clear HW
  obtain⟨k,R,rfl,hk1,hk2,hsw,hso⟩:=hrel
  have HSO:=Lib.hid hso
  have HSW:=Lib.hid hsw
  clear hso hsw
  by_cases hlt:k<n
  ·have hltz:(k:Int)<(n:Int):=by omega
   have hmid:=Mid.start (by have:=HSO.out;rwa [show min k n=k by omega]at this) hlt
   have HMID:=Lib.hid hmid
   clear hmid
   go_wp2
   go_loopg [9] k (fun g2 vj wr2=>∃(j:Nat) (R2:List Int),vj=.int .i64 j∧j≤g2∧j≤k∧SW w B d g q n L R2 wr2∧Mid L n k j R2)
   case atStart=>exact⟨k,R,rfl,Nat.le_refl _,Nat.le_refl _,HSW.out,HMID.out⟩
   case round=>
    clear HSW HMID HSO
    obtain⟨j,R2,rfl,hjg,hjk,hsw,hmid⟩:=hrel
    have HSW:=Lib.hid hsw
    have HMID:=Lib.hid hmid
    have hlen:R2.length=n:=by
     obtain⟨P,S,h1,h2,h3,h4,-⟩:=hmid
     rw[h1];simp[rng_len];omega
    clear hsw hmid
    by_cases hj0:j=0
    ·subst hj0
     have hdec:decide ((0:Int)<((0:Nat):Int))=false:=by simp
     have hstop:=HMID.out.stop (.inl rfl)
     have HST:=Lib.hid hstop
     clear hstop
     go_wp2
     go_quiet (fail)
     go_wp2
     go_roundw
     case rel=>
      refine⟨k+1,R2,by go_num,by omega,by omega,HSW.out.drewN _,?_⟩
      rw[show min (k+1) n=k+1 by omega];exact HST.out
     case measure=>simp[intOf];omega
    ·obtain⟨jp,rfl⟩:∃jp,j=jp+1:=⟨j-1,by omega⟩
     have c1:=HSW.out.row.cell (j:=jp+1) (by omega)
     have c0:=HSW.out.row.cell (j:=jp) (by omega)
     have f1:=HSW.out.row.frozen (jp+1)
     have f0:=HSW.out.row.frozen jp
     have hat:=HMID.out.at
     obtain⟨hp0,hp1⟩:=HMID.out.prev
     obtain⟨yn,hyn⟩:=Int.eq_ofNat_of_zero_le hp0
     have l1:lat R2 ((jp+1:Nat):Int)=(k:Int):=hat
     have l0:lat R2 (jp:Int)=(yn:Int):=hyn
     rw[l1]at c1
     rw[l0]at c0
     have hyk:yn<n:=by omega
     have hc:=fun m=>order1_any L k yn (by rw[HLL.out];exact hlt) (by rw[HLL.out];exact hyk) (by rw[HLL.out];exact hn) g q (wr.drewN m) HSW.out.lev (by rw[HLL.out];exact HSW.out.cell)
     obtain⟨z,HZ⟩:=named (cmpI (lat L k) (lat L yn))
     rw[←HZ.out]at hc
     have hzd:=cmpI_neg (lat L k) (lat L yn)
     rw[←HZ.out]at hzd
     have HZD:=Lib.hid hzd
     have HYN:=Lib.hid hyn
     have hwp:IntKind.i64.wrap (jp:Int)=(jp:Int):=by rw[IntKind.wrap_i64];omega
     have jz:(jp:Int)+1<(n:Int):=by omega
     have jz1:(jp:Int)<(n:Int):=by omega
     have hjaz':(0:Int)<(jp:Int)+1:=by omega
     have p0:(0:Int)≤(jp:Int)+1:=by omega
     have e0:((jp:Int)+1).toNat=jp+1:=by omega
     clear hat hp0 hp1 l1 l0 hzd hyn
     generalize hwq:wr=wq at c1 c0 f1 f0 hc HSW ⊢
     clear hwq
     by_cases hlv:z<0
     ·go_wp2_with fail
      go_quiet ((go_at_call 60;refine Calls.quiet_of (hc _)))
      go_wp2_with fail
      have hlv':decide (z<0)=true:=by simpa using hlv
      have hsw2:=HMID.out.swap (by
       rw[HYN.out]
       have:=HZD.out
       rw[hlv']at this
       simpa using this.symm)
      have HSW2:=Lib.hid hsw2
      have HS2:=Lib.hid (HSW.out.drewN nq)
      have c1':(wq.drewN nq).cell? ⟨d,jp+1,none⟩=some (.int .i64 (k:Int)):=c1
      have c0':(wq.drewN nq).cell? ⟨d,jp,none⟩=some (.int .i64 (yn:Int)):=c0
      have f1':(wq.drewN nq).frozen? ⟨d,jp+1,none⟩=false:=f1
      have f0':(wq.drewN nq).frozen? ⟨d,jp,none⟩=false:=f0
      clear c1 c0 f1 f0 hc hsw2
      generalize wq.drewN nq=wq2 at HS2 c1' c0' f1' f0' ⊢
      obtain⟨j1,hj1⟩:∃j1,j1=jp+1:=⟨_,rfl⟩
      rw[←hj1]at c1' f1' e0
      have J1:=Lib.hid hj1
      clear hj1
      go_big_region
      all_goals
       go_wp2
       go_roundg jp
       case measure=>omega
       case rel=>
        refine⟨jp,_,by first|rfl|go_num|(congr 1;omega),Nat.le_refl _,by omega,?_,HSW2.out.1⟩
        rw[HYN.out,←J1.out]
        exact ((HS2.out.set hd hg hq j1 (yn:Int)).set hd hg hq jp (k:Int)).drew
     ·have hlv':decide (z<0)=false:=by simpa using hlv
      have hstop:=HMID.out.stop (.inr (by
       rw[show jp+1-1=jp by omega,HYN.out]
       have:=HZD.out
       rw[hlv']at this
       simpa using this.symm))
      have HST:=Lib.hid hstop
      clear hstop
      go_wp2_with fail
      go_quiet ((go_at_call 60;refine Calls.quiet_of (hc _)))
      go_wp2
      go_roundw
      case rel=>
       refine⟨k+1,R2,by go_num,by omega,by omega,HSW.out.drewN _,?_⟩
       rw[show min (k+1) n=k+1 by omega];exact HST.out
      case measure=>simp[intOf];omega
  ·have hkn:min k n=n:=by omega
   have h2:=HSO.out
   rw[hkn]at h2
   go_wp2
   go_end0
   exact⟨rfl,R,h2,HSW.out⟩
end Go.Proofs.YtcbllelkgniogaaDoor
