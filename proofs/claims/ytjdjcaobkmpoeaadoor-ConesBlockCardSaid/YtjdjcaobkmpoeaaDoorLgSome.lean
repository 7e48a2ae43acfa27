/- . -/
import Derived.Test.YtjdjcaobkmpoeaaDoorLgScal
import Derived.BigQuiet
import Derived.Deep.Draws
import Derived.WalkSmall
namespace Go.Proofs.YtjdjcaobkmpoeaaDoor.Lg
open Go.RowKit
def Vs(w:World)(B:Nat)(v:Value)(l:List Int):Prop:=
 ∃b o c,(v=.slice (some ⟨b,o,none⟩) l.length c∨(l=[]∧∃A,v=.slice A 0 c))∧l.length≤maxLen∧∀k,k<l.length→b<B∧w.cell? ⟨b,o+k,none⟩=some (.int .u8 (l.getD k 0))
section
variable {w w':World} {B B':Nat} {v:Value} {l:List Int}
theorem Vs.keep(h:Vs w B v l)(hk:∀p:Addr,p.block<B→w'.cell? p=w.cell? p):Vs w' B v l:=by
 obtain⟨b,o,c,h1,h2,h3⟩:=h
 exact⟨b,o,c,h1,h2,fun k hk'=>⟨(h3 k hk').1,(hk _ (h3 k hk').1).trans (h3 k hk').2⟩⟩
theorem Vs.more(h:Vs w B v l)(hB:B≤B'):Vs w B' v l:=by
 obtain⟨b,o,c,h1,h2,h3⟩:=h
 exact⟨b,o,c,h1,h2,fun k hk'=>⟨Nat.lt_of_lt_of_le (h3 k hk').1 hB,(h3 k hk').2⟩⟩
theorem Vs.below(h:Vs w B v l)(hb:Below B w w'):Vs w' B v l:=h.keep fun _ hp=>hb.cell hp
theorem Vs.drewN(h:Vs w B v l)(k:Nat):Vs (w.drewN k) B v l:=h.keep fun _ _=>rfl
theorem Vs.drew(h:Vs w B v l):Vs w.drew B v l:=h.keep fun _ _=>rfl
theorem Vs.alloc(h:Vs w B v l)(hB:B≤w.heap.size)(o:Obj):Vs (w.alloc o) B v l:=h.keep fun p hp=>World.cell?_alloc_lt w o p (by omega)
theorem Vs.nil(w:World)(B:Nat)(A:Option Addr)(c:Nat):Vs w B (.slice A 0 c) []:=⟨0,0,c,.inr ⟨rfl,A,rfl⟩,by simp,fun k hk=>absurd hk (by simp)⟩
end
def Takes(f:Value)(g:Int→Int):Prop:=(f=.func (.func 65) #[] #[]∧g=rd)∨(f=.func (.func 91) #[] #[]∧g=cln)
set_option maxHeartbeats 400000 in
theorem some1_any(f:Value)(g:Int→Int)(hf:Takes f g)(v x:Int)(p q:Addr)(w:World)(h1:w.cell? p=some f)(h2:w.cell? q=some (.int .u8 x)):
 Calls Tryd.prog 103 #[.int .u8 v,.pointer (some p),.pointer (some q)] w fun e w'=>e=.returned (.bool (g v==x))∧∃n,w'=w.drewN n:=by
 rcases hf with⟨rfl,rfl⟩| ⟨rfl,rfl⟩
 ·go_enter Tryd.func103,Tryd.ntmps103
  go_wp2
  go_quiet ((go_at_call 65;exact Calls.quiet_of_same ((read_any _ _).mono fun _ _ h=>⟨h.1,h.2.symm⟩)))
  go_wp2
  go_ret
  exact⟨rfl,_,rfl⟩
 ·go_enter Tryd.func103,Tryd.ntmps103
  go_wp2
  go_quiet ((go_at_call 91;exact Calls.quiet_of_same ((clean_any _ _).mono fun _ _ h=>⟨h.1,h.2.symm⟩)))
  go_wp2
  go_ret
  exact⟨rfl,_,rfl⟩
def IdxPost(b:Bool)(w:World)(e:Ending)(w':World):Prop:=∃i:Int,e=.returned (.int .i64 i)∧(0≤i↔b=true)∧∃n,w'=w.drewN n
set_option maxHeartbeats 1000000 in
theorem index_any(f:Value)(g:Int→Int)(hf:Takes f g)(x:Int)(l:List Int)(s:Value)(p q:Addr)(w:World)(B:Nat)(hs:Vs w B s l)(h1:w.cell? p=some f)(h2:w.cell? q=some (.int .u8 x)):
 Calls Tryd.prog 108 #[s,.func (.func 103) #[] #[.pointer (some p),.pointer (some q)]] w (IdxPost (anyIs g x l) w):=by
 have hs0:=hs
 obtain⟨b,o,c,hv,hm,hc⟩:=hs
 unfold maxLen at hm
 have key:∀A,(0<l.length→A=some ⟨b,o,none⟩)→Calls Tryd.prog 108 #[.slice A l.length c,.func (.func 103) #[] #[.pointer (some p),.pointer (some q)]] w (IdxPost (anyIs g x l) w):=by
  intro A hA
  have HC:=Lib.hid hc
  have HF:=Lib.hid hf
  have HAA:=Lib.hid hA
  have H1:=Lib.hid h1
  have H2:=Lib.hid h2
  clear hc hf hA h1 h2 hv hs0
  obtain⟨n,hn⟩:∃n,n=l.length:=⟨_,rfl⟩
  rw[←hn]at hm
  rw[←hn]
  have HN:=Lib.hid hn
  clear hn
  go_enter Tryd.func108,Tryd.ntmps108
  go_wp2
  go_loopw [8] (fun i wr=>∃k:Nat,k≤n∧i=.int .i64 k∧(∀j,j<k→(g (l.getD j 0)==x)=false)∧∃m,wr=w.drewN m) (fun i _=>n-(intOf i).toNat)
  case atStart=>exact⟨0,Nat.zero_le _,rfl,fun j hj=>absurd hj (by omega),0,rfl⟩
  case round=>
   obtain⟨k,hk,rfl,hno,m,rfl⟩:=hrel
   have HNO:=Lib.hid hno
   clear hno
   by_cases hlt:k<n
   ·obtain rfl:=HAA.out (by rw[←HN.out];omega)
    have hcell:=(HC.out k (by rw[←HN.out];omega)).2
    go_wp2_with (go_at_call 103;refine (some1_any f g HF.out _ x p q _ (by simpa using H1.out) (by simpa using H2.out)).mono ?_;rintro e w' ⟨rfl,m',rfl⟩)
    ·go_ret
     exact⟨k,rfl,⟨fun _=>anyIs_yes k (by rw[←HN.out];omega) (by assumption),fun _=>by omega⟩,_,rfl⟩
    ·have hge:(g (l.getD k 0)==x)=false:=by assumption
     go_roundw
     case rel=>
      refine⟨k+1,by omega,by go_num,fun j hj=>?_,m+m',rfl⟩
      by_cases hjk:j=k
      ·rw[hjk];exact hge
      ·exact HNO.out j (by omega)
     case measure=>simp[intOf];omega
   ·have hkn:k=n:=by omega
    subst hkn
    go_wp2
    go_ret
    exact⟨-1,rfl,⟨fun h=>absurd h (by omega),fun h=>by rw[anyIs_no (fun j hj=>HNO.out j (by rw[HN.out];exact hj))]at h;cases h⟩,_,rfl⟩
 rcases hv with rfl| ⟨rfl,A,rfl⟩
 ·exact key _ fun _=>rfl
 ·exact key _ fun h=>absurd h (by simp)
set_option maxHeartbeats 400000 in
theorem contains_any(f:Value)(g:Int→Int)(hf:Takes f g)(x:Int)(l:List Int)(s:Value)(p q:Addr)(w:World)(B:Nat)(hs:Vs w B s l)(h1:w.cell? p=some f)(h2:w.cell? q=some (.int .u8 x)):
 Calls Tryd.prog 102 #[s,.func (.func 103) #[] #[.pointer (some p),.pointer (some q)]] w fun e w'=>e=.returned (.bool (anyIs g x l))∧∃n,w'=w.drewN n:=by
 obtain⟨y,HY⟩:=named (anyIs g x l)
 rw[←HY.out]
 have HS:=Lib.hid hs
 have HF:=Lib.hid hf
 have H1:=Lib.hid h1
 have H2:=Lib.hid h2
 clear hs hf h1 h2
 go_enter Tryd.func102,Tryd.ntmps102
 go_wp2_with (go_at_call 108;refine (index_any f g HF.out x l _ p q _ B HS.out H1.out H2.out).mono ?_;rintro e w' ⟨i,rfl,hi,n,rfl⟩;have HI:=Lib.hid hi;clear hi)
 go_ret
 exact⟨ret_bool (by rw[HY.out];exact Bool.eq_iff_iff.2 (by simpa using HI.out)),_,rfl⟩
theorem two_cells(w:World)(a b:Value)(t u:TypeId):
 ((w.alloc (.cells #[a] t)).alloc (.cells #[b] u)).cell? ⟨w.heap.size+1,0,none⟩=some b∧((w.alloc (.cells #[a] t)).alloc (.cells #[b] u)).cell? ⟨w.heap.size,0,none⟩=some a:=by
 refine⟨?_,?_⟩
 ·rw[World.cell?_alloc_at _ _ _ _ (by simp)];rfl
 ·rw[World.cell?_alloc_past _ _ _ (by simp),World.cell?_alloc_at _ _ _ _ rfl];rfl
set_option maxHeartbeats 400000 in
theorem some_any(f:Value)(g:Int→Int)(hf:Takes f g)(x:Int)(l:List Int)(s:Value)(w:World)(B:Nat)(hB:B≤w.heap.size)(hs:Vs w B s l):
 Calls Tryd.prog 90 #[s,.int .u8 x,f] w fun e w'=>e=.returned (.bool (anyIs g x l))∧Below w.heap.size w w':=by
 have hmf:∀(fn:Fn) (first cap:Array Value) (w:World),(Instr.makeFunc fn first cap).run Tryd.prog w=.ok (.func fn first cap) w:=fun _ _ _ _=>rfl
 have HS:=Lib.hid hs
 have HB:=Lib.hid hB
 clear hs hB
 have hf':=hf
 have HF:=Lib.hid hf'
 clear hf'
 obtain⟨y,HY⟩:=named (anyIs g x l)
 rw[←HY.out]
 rcases hf with⟨rfl,rfl⟩| ⟨rfl,rfl⟩
 all_goals
  go_enter Tryd.func90,Tryd.ntmps90
  go_wp2_with (go_at_call 102;refine (contains_any _ _ HF.out x l _ _ _ _ B ((HS.out.alloc HB.out _).alloc (by have:=HB.out;simp;omega) _) (two_cells _ _ _ _ _).1 (two_cells _ _ _ _ _).2).mono ?_;rintro e w' ⟨rfl,n,rfl⟩)
  go_ret
  exact⟨ret_bool HY.out.symm,below_drewN (((Below.refl _ _).alloc (Nat.le_refl _) _).alloc (by simp) _) _⟩
end Go.Proofs.YtjdjcaobkmpoeaaDoor.Lg
