/- The texts LgSome LgGate LgEval. -/
import Derived.Test.YtemjmfpcopfdbaaGreatDoorM13
import Derived.BigQuiet
import Derived.Deep.Draws
import Derived.WalkSmall
namespace Go.Proofs.YtemjmfpcopfdbaaGreatDoor.Lg
open Go.RowKit
def Vs(w:World)(B:Nat)(v:Value)(l:List Int):Prop:=
 ∃b o c,(v=.slice (some ⟨b,o,none⟩) l.length c∨(l=[]∧∃A,v=.slice A 0 c))∧l.length≤maxLen∧∀k,k<l.length→b<B∧w.cell? ⟨b,o+k,none⟩=some (.int .u8 (l.getD k 0))
section
variable {w w':World} {B B':Nat} {v:Value} {l:List Int}
theorem Vs.keep(h:Vs w B v l)(hk:∀p:Addr,p.block<B→w'.cell? p=w.cell? p):Vs w' B v l:=by
 obtain⟨b,o,c,h1,h2,h3⟩:=h
 exact⟨b,o,c,h1,h2,fun k hk'=>⟨(h3 k hk').1,(hk _ (h3 k hk').1).trans (h3 k hk').2⟩⟩
theorem Vs.below(h:Vs w B v l)(hb:Below B w w'):Vs w' B v l:=h.keep fun _ hp=>hb.cell hp
theorem Vs.alloc(h:Vs w B v l)(hB:B≤w.heap.size)(o:Obj):Vs (w.alloc o) B v l:=h.keep fun p hp=>World.cell?_alloc_lt w o p (by omega)
end
def Takes(f:Value)(g:Int→Int):Prop:=(f=.func (.func 112) #[] #[]∧g=rd)∨(f=.func (.func 94) #[] #[]∧g=cln)
set_option maxHeartbeats 400000 in
theorem some1_any(f:Value)(g:Int→Int)(hf:Takes f g)(v x:Int)(p q:Addr)(w:World)(h1:w.cell? p=some f)(h2:w.cell? q=some (.int .u8 x)):
 Calls Tryz.prog 149 #[.int .u8 v,.pointer (some p),.pointer (some q)] w fun e w'=>e=.returned (.bool (g v==x))∧∃n,w'=w.drewN n:=by
 rcases hf with⟨rfl,rfl⟩| ⟨rfl,rfl⟩
 ·go_enter Tryz.func149,Tryz.ntmps149
  go_wp2
  go_quiet ((go_at_call 112;exact Calls.quiet_of_same ((read_any _ _).mono fun _ _ h=>⟨h.1,h.2.symm⟩)))
  go_wp2
  go_ret
  exact⟨rfl,_,rfl⟩
 ·go_enter Tryz.func149,Tryz.ntmps149
  go_wp2
  go_quiet ((go_at_call 94;exact Calls.quiet_of_same ((clean_any _ _).mono fun _ _ h=>⟨h.1,h.2.symm⟩)))
  go_wp2
  go_ret
  exact⟨rfl,_,rfl⟩
def IdxPost(b:Bool)(w:World)(e:Ending)(w':World):Prop:=∃i:Int,e=.returned (.int .i64 i)∧(0≤i↔b=true)∧∃n,w'=w.drewN n
set_option maxHeartbeats 1000000 in
theorem index_any(f:Value)(g:Int→Int)(hf:Takes f g)(x:Int)(l:List Int)(s:Value)(p q:Addr)(w:World)(B:Nat)(hs:Vs w B s l)(h1:w.cell? p=some f)(h2:w.cell? q=some (.int .u8 x)):
 Calls Tryz.prog 125 #[s,.func (.func 149) #[] #[.pointer (some p),.pointer (some q)]] w (IdxPost (anyIs g x l) w):=by
 have hs0:=hs
 obtain⟨b,o,c,hv,hm,hc⟩:=hs
 unfold maxLen at hm
 have key:∀A,(0<l.length→A=some ⟨b,o,none⟩)→Calls Tryz.prog 125 #[.slice A l.length c,.func (.func 149) #[] #[.pointer (some p),.pointer (some q)]] w (IdxPost (anyIs g x l) w):=by
  intro A hA
  have HC:=Lib.hid hc
  have HF:=Lib.hid hf
  have HAA:=Lib.hid hA
  have H1:=Lib.hid h1
  have H2:=Lib.hid h2
  clear hc hf hA h1 h2 hv hs0
  obtain⟨n,hn⟩:∃n,n=l.length:=⟨_,rfl⟩
  rw[←hn]at hm
  rw[←hn]
  have HN:=Lib.hid hn
  clear hn
  go_enter Tryz.func125,Tryz.ntmps125
  go_wp2
  go_loopw [8] (fun i wr=>∃k:Nat,k≤n∧i=.int .i64 k∧(∀j,j<k→(g (l.getD j 0)==x)=false)∧∃m,wr=w.drewN m) (fun i _=>n-(intOf i).toNat)
  case atStart=>exact⟨0,Nat.zero_le _,rfl,fun j hj=>absurd hj (by omega),0,rfl⟩
  case round=>
   obtain⟨k,hk,rfl,hno,m,rfl⟩:=hrel
   have HNO:=Lib.hid hno
   clear hno
   by_cases hlt:k<n
   ·obtain rfl:=HAA.out (by rw[←HN.out];omega)
    have hcell:=(HC.out k (by rw[←HN.out];omega)).2
    go_wp2_with (go_at_call 149;refine (some1_any f g HF.out _ x p q _ (by simpa using H1.out) (by simpa using H2.out)).mono ?_;rintro e w' ⟨rfl,m',rfl⟩)
    ·go_ret
     exact⟨k,rfl,⟨fun _=>anyIs_yes k (by rw[←HN.out];omega) (by assumption),fun _=>by omega⟩,_,rfl⟩
    ·have hge:(g (l.getD k 0)==x)=false:=by assumption
     go_roundw
     case rel=>
      refine⟨k+1,by omega,by go_num,fun j hj=>?_,m+m',rfl⟩
      by_cases hjk:j=k
      ·rw[hjk];exact hge
      ·exact HNO.out j (by omega)
     case measure=>simp[intOf];omega
   ·have hkn:k=n:=by omega
    subst hkn
    go_wp2
    go_ret
    exact⟨-1,rfl,⟨fun h=>absurd h (by omega),fun h=>by rw[anyIs_no (fun j hj=>HNO.out j (by rw[HN.out];exact hj))]at h;cases h⟩,_,rfl⟩
 rcases hv with rfl| ⟨rfl,A,rfl⟩
 ·exact key _ fun _=>rfl
 ·exact key _ fun h=>absurd h (by simp)
set_option maxHeartbeats 400000 in
theorem contains_any(f:Value)(g:Int→Int)(hf:Takes f g)(x:Int)(l:List Int)(s:Value)(p q:Addr)(w:World)(B:Nat)(hs:Vs w B s l)(h1:w.cell? p=some f)(h2:w.cell? q=some (.int .u8 x)):
 Calls Tryz.prog 81 #[s,.func (.func 149) #[] #[.pointer (some p),.pointer (some q)]] w fun e w'=>e=.returned (.bool (anyIs g x l))∧∃n,w'=w.drewN n:=by
 obtain⟨y,HY⟩:=named (anyIs g x l)
 rw[←HY.out]
 have HS:=Lib.hid hs
 have HF:=Lib.hid hf
 have H1:=Lib.hid h1
 have H2:=Lib.hid h2
 clear hs hf h1 h2
 go_enter Tryz.func81,Tryz.ntmps81
 go_wp2_with (go_at_call 125;refine (index_any f g HF.out x l _ p q _ B HS.out H1.out H2.out).mono ?_;rintro e w' ⟨i,rfl,hi,n,rfl⟩;have HI:=Lib.hid hi;clear hi)
 go_ret
 exact⟨ret_bool (by rw[HY.out];exact Bool.eq_iff_iff.2 (by simpa using HI.out)),_,rfl⟩
theorem two_cells(w:World)(a b:Value)(t u:TypeId):
 ((w.alloc (.cells #[a] t)).alloc (.cells #[b] u)).cell? ⟨w.heap.size+1,0,none⟩=some b∧((w.alloc (.cells #[a] t)).alloc (.cells #[b] u)).cell? ⟨w.heap.size,0,none⟩=some a:=by
 refine⟨?_,?_⟩
 ·rw[World.cell?_alloc_at _ _ _ _ (by simp)];rfl
 ·rw[World.cell?_alloc_past _ _ _ (by simp),World.cell?_alloc_at _ _ _ _ rfl];rfl
set_option maxHeartbeats 400000 in
theorem some_any(f:Value)(g:Int→Int)(hf:Takes f g)(x:Int)(l:List Int)(s:Value)(w:World)(B:Nat)(hB:B≤w.heap.size)(hs:Vs w B s l):
 Calls Tryz.prog 133 #[s,.int .u8 x,f] w fun e w'=>e=.returned (.bool (anyIs g x l))∧Below w.heap.size w w':=by
 have hmf:∀(fn:Fn) (first cap:Array Value) (w:World),(Instr.makeFunc fn first cap).run Tryz.prog w=.ok (.func fn first cap) w:=fun _ _ _ _=>rfl
 have HS:=Lib.hid hs
 have HB:=Lib.hid hB
 clear hs hB
 have hf':=hf
 have HF:=Lib.hid hf'
 clear hf'
 obtain⟨y,HY⟩:=named (anyIs g x l)
 rw[←HY.out]
 rcases hf with⟨rfl,rfl⟩| ⟨rfl,rfl⟩
 all_goals
  go_enter Tryz.func133,Tryz.ntmps133
  go_wp2_with (go_at_call 81;refine (contains_any _ _ HF.out x l _ _ _ _ B ((HS.out.alloc HB.out _).alloc (by have:=HB.out;simp;omega) _) (two_cells _ _ _ _ _).1 (two_cells _ _ _ _ _).2).mono ?_;rintro e w' ⟨rfl,n,rfl⟩)
  go_ret
  exact⟨ret_bool HY.out.symm,below_drewN (((Below.refl _ _).alloc (Nat.le_refl _) _).alloc (by simp) _) _⟩
theorem rel{P:Program}{f:FuncId}{args:Array Value}{w0 w:World}{v:Value}(h:Calls P f args w fun e w'=>e=.returned v∧Below w.heap.size w w')(hb:Below w0.heap.size w0 w):
 Calls P f args w fun e w'=>e=.returned v∧Below w0.heap.size w0 w':=h.mono fun _ _ ⟨he,h'⟩=>⟨he,hb.trans (h'.mono hb.size)⟩
theorem someR{w0:World}{B:Nat}{s:Value}{l:List Int}(hB:B≤w0.heap.size)(hs:Vs w0 B s l)(x:Int)(w:World)(hb:Below w0.heap.size w0 w):
 Calls Tryz.prog 133 #[s,.int .u8 x,.func (.func 112) #[] #[]] w fun e w'=>e=.returned (.bool (anyIs rd x l))∧Below w0.heap.size w0 w':=
 rel (some_any _ rd (.inl ⟨rfl,rfl⟩) x l s w B (Nat.le_trans hB hb.size) (hs.below (hb.mono hB))) hb
theorem someC{w0:World}{B:Nat}{s:Value}{l:List Int}(hB:B≤w0.heap.size)(hs:Vs w0 B s l)(x:Int)(w:World)(hb:Below w0.heap.size w0 w):
 Calls Tryz.prog 133 #[s,.int .u8 x,.func (.func 94) #[] #[]] w fun e w'=>e=.returned (.bool (anyIs cln x l))∧Below w0.heap.size w0 w':=
 rel (some_any _ cln (.inr ⟨rfl,rfl⟩) x l s w B (Nat.le_trans hB hb.size) (hs.below (hb.mono hB))) hb
set_option maxHeartbeats 400000 in
theorem and_any{w:World}{B:Nat}{s:Value}{l:List Int}(hB:B≤w.heap.size)(hs:Vs w B s l):
 Calls Tryz.prog 114 #[s] w fun e w'=>e=.returned (.int .u8 (andL l))∧Below w.heap.size w w':=by
 have HS:=Lib.hid hs
 have HB:=Lib.hid hB
 clear hs hB
 have hb0:=Below.refl w.heap.size w
 obtain⟨y,HY⟩:=named (andL l)
 rw[←HY.out]
 cases h0:anyIs rd 0 l<;>cases h2:anyIs rd 2 l
 all_goals
  go_enter Tryz.func114,Tryz.ntmps114
  go_wp2_with (go_at_call 133;refine (someR HB.out HS.out _ _ (by assumption)).mono ?_;rintro e w' ⟨rfl,hb⟩)
  go_ret
  exact⟨ret_int (by rw[HY.out];simp[andL,h0,h2]),by assumption⟩
set_option maxHeartbeats 400000 in
theorem or_any{w:World}{B:Nat}{s:Value}{l:List Int}(hB:B≤w.heap.size)(hs:Vs w B s l):
 Calls Tryz.prog 115 #[s] w fun e w'=>e=.returned (.int .u8 (orL l))∧Below w.heap.size w w':=by
 have HS:=Lib.hid hs
 have HB:=Lib.hid hB
 clear hs hB
 have hb0:=Below.refl w.heap.size w
 obtain⟨y,HY⟩:=named (orL l)
 rw[←HY.out]
 cases h0:anyIs rd 1 l<;>cases h2:anyIs rd 2 l
 all_goals
  go_enter Tryz.func115,Tryz.ntmps115
  go_wp2_with (go_at_call 133;refine (someR HB.out HS.out _ _ (by assumption)).mono ?_;rintro e w' ⟨rfl,hb⟩)
  go_ret
  exact⟨ret_int (by rw[HY.out];simp[orL,h0,h2]),by assumption⟩
set_option maxHeartbeats 400000 in
theorem conflict_any{w:World}{B:Nat}{s:Value}{l:List Int}(hB:B≤w.heap.size)(hs:Vs w B s l):
 Calls Tryz.prog 134 #[s] w fun e w'=>e=.returned (.bool (conL l))∧Below w.heap.size w w':=by
 have HS:=Lib.hid hs
 have HB:=Lib.hid hB
 clear hs hB
 have hb0:=Below.refl w.heap.size w
 obtain⟨y,HY⟩:=named (conL l)
 rw[←HY.out]
 cases h0:anyIs cln 0 l<;>cases h2:anyIs cln 1 l
 all_goals
  go_enter Tryz.func134,Tryz.ntmps134
  go_wp2_with (go_at_call 133;refine (someC HB.out HS.out _ _ (by assumption)).mono ?_;rintro e w' ⟨rfl,hb⟩)
  go_ret
  exact⟨ret_bool (by rw[HY.out];simp[conL,h0,h2]),by assumption⟩
theorem conflict_rel{w0:World}{B:Nat}{s:Value}{l:List Int}(hB:B≤w0.heap.size)(hs:Vs w0 B s l)(w:World)(hb:Below w0.heap.size w0 w):
 Calls Tryz.prog 134 #[s] w fun e w'=>e=.returned (.bool (conL l))∧Below w0.heap.size w0 w':=
 rel (conflict_any (Nat.le_trans hB hb.size) (hs.below (hb.mono hB))) hb
set_option maxHeartbeats 400000 in
theorem bus_any{w:World}{B:Nat}{s:Value}{l:List Int}(hB:B≤w.heap.size)(hs:Vs w B s l):
 Calls Tryz.prog 119 #[s] w fun e w'=>e=.returned (.int .u8 (busL l))∧Below w.heap.size w w':=by
 have HS:=Lib.hid hs
 have HB:=Lib.hid hB
 clear hs hB
 have hb0:=Below.refl w.heap.size w
 obtain⟨y,HY⟩:=named (busL l)
 rw[←HY.out]
 cases hx:anyIs cln 2 l<;>cases hc:conL l<;>cases h0:anyIs cln 0 l<;>cases h1:anyIs cln 1 l
 all_goals
  go_enter Tryz.func119,Tryz.ntmps119
  go_wp2_with (first
   |(go_at_call 133;refine (someC HB.out HS.out _ _ (by assumption)).mono ?_;rintro e w' ⟨rfl,hb⟩)
   |(go_at_call 134;refine (conflict_rel HB.out HS.out _ (by assumption)).mono ?_;rintro e w' ⟨rfl,hb⟩))
  go_ret
  exact⟨ret_int (by rw[HY.out];simp[busL,hx,hc,h0,h1]),by assumption⟩
set_option maxHeartbeats 1000000 in
theorem xor_any{w:World}{B:Nat}{s:Value}{l:List Int}(hB:B≤w.heap.size)(hs:Vs w B s l):
 Calls Tryz.prog 116 #[s] w fun e w'=>e=.returned (.int .u8 (xorL l))∧Below w.heap.size w w':=by
 have HS:=Lib.hid hs
 have HB:=Lib.hid hB
 have hb0:=Below.refl w.heap.size w
 obtain⟨y,HY⟩:=named (xorL l)
 rw[←HY.out]
 cases h2:anyIs rd 2 l
 ·obtain⟨b,o,c,hv,hm,hc⟩:=hs
  unfold maxLen at hm
  have key:∀A,(0<l.length→A=some ⟨b,o,none⟩)→s=.slice A l.length c→Calls Tryz.prog 116 #[s] w fun e w'=>e=.returned (.int .u8 y)∧Below w.heap.size w w':=by
   intro A hA hsA
   have HA:=Lib.hid hA
   have HC:=Lib.hid hc
   obtain⟨n,hn⟩:∃n,n=l.length:=⟨_,rfl⟩
   rw[←hn]at hm hsA
   have HN:=Lib.hid hn
   subst hsA
   clear hA hc hv hB hn
   go_enter Tryz.func116,Tryz.ntmps116
   go_wp2_with (go_at_call 133;refine (someR HB.out HS.out _ _ (by assumption)).mono ?_;rintro e w1 ⟨rfl,hb⟩)
   clear hb0
   have H2:=Lib.hid h2
   clear h2
   go_loop [3,10] (fun r i=>∃k:Nat,k≤n∧i=.int .i64 k∧r=.int .u8 (par (l.take k))) (fun _ i=>n-(intOf i).toNat)
   case atStart=>exact⟨0,Nat.zero_le _,rfl,rfl⟩
   case round=>
    obtain⟨k,hk,rfl,rfl⟩:=hrel
    by_cases hlt:k<n
    ·obtain rfl:=HA.out (by rw[←HN.out];omega)
     have hk':k<l.length:=by rw[←HN.out];omega
     have hcell:w1.cell? ⟨b,o+k,none⟩=some (.int .u8 (l.getD k 0)):=(hb.cell (p:=⟨b,o+k,none⟩) (Nat.lt_of_lt_of_le (HC.out k hk').1 HB.out)).trans (HC.out k hk').2
     have HP:=Lib.hid (par_take l k hk')
     have hp:=par_cases (l.take k)
     have hv:=bit_of_any H2.out k hk'
     clear hk'
     generalize hg:l.getD k 0=v at hcell hv
     have HG:=Lib.hid hg
     generalize hg':par (l.take k)=q at hp
     have HG':=Lib.hid hg'
     clear hg hg'
     rcases hp with rfl|rfl<;>rcases hv with rfl|rfl
     all_goals
      go_wp2
      go_round
      case rel=>exact⟨k+1,by omega,by go_num,by rw[HP.out,HG.out,HG'.out];rfl⟩
      case measure=>simp[intOf];omega
    ·have hkn:k=n:=by omega
     subst hkn
     go_wp2
     go_ret
     exact⟨ret_int (by rw[HY.out,xorL,if_neg (by rw[H2.out];decide),List.take_of_length_le (by rw[HN.out];exact Nat.le_refl _)]),hb⟩
  rcases hv with rfl| ⟨rfl,A,rfl⟩
  ·exact key _ (fun _=>rfl) rfl
  ·exact key _ (fun h=>absurd h (by simp)) rfl
 ·clear hs hB
  go_enter Tryz.func116,Tryz.ntmps116
  go_wp2_with (go_at_call 133;refine (someR HB.out HS.out _ _ (by assumption)).mono ?_;rintro e w' ⟨rfl,hb⟩)
  go_ret
  exact⟨ret_int (by rw[HY.out];simp[xorL,h2]),by assumption⟩
def Tabs (w : World) : Prop := 2 ≤ w.heap.size ∧ (∀ k, k < 32 → w.cell? ⟨1, k, none⟩ = some (.int .i64 (spansL.getD k 0))) ∧ (∀ k, k < 4 → w.cell? ⟨0, k, none⟩ = some (.int .u8 (charsL.getD k 0)))
theorem Tabs.below{w w':World}(h:Tabs w)(hb:Below w.heap.size w w'):Tabs w':=by
 obtain⟨h1,h2,h3⟩:=h
 refine⟨Nat.le_trans h1 hb.size,fun k hk=>?_,fun k hk=>?_⟩
 · rw [← h2 k hk]; exact hb.cell (p := ⟨1, k, none⟩) (Nat.lt_of_lt_of_le (show _ < 2 by simp) h1)
 · rw [← h3 k hk]; exact hb.cell (p := ⟨0, k, none⟩) (Nat.lt_of_lt_of_le (show _ < 2 by simp) h1)
theorem kinds{k:Int}(h0:0≤k)(h1:¬15<k):k=0∨k=1∨k=2∨k=3∨k=4∨k=5∨k=6∨k=7∨k=8∨k=9∨k=10∨k=11∨k=12∨k=13∨k=14∨k=15:=by omega
set_option maxHeartbeats 1000000 in
theorem fanin_any(k:Int)(h0:0≤k)(w:World)(ht:Tabs w):
 Calls Tryz.prog 111 #[.int .u8 k] w fun e w'=>e=.returned (.tuple #[.int .i64 (lo k),.int .i64 (hi k)])∧∃n,w'=w.drewN n:=by
 by_cases hk:15<k
 ·have e1:lo k=0:=by simp[lo,hk]
  have e2:hi k= -1:=by simp[hi,hk]
  rw[e1,e2]
  clear e1 e2 ht
  go_enter Tryz.func111,Tryz.ntmps111
  go_wp2
  go_ret2
  exact⟨rfl,0,rfl⟩
 ·obtain⟨-,ht,-⟩:=ht
  rcases kinds h0 hk with rfl|rfl|rfl|rfl|rfl|rfl|rfl|rfl|rfl|rfl|rfl|rfl|rfl|rfl|rfl|rfl
  ·have c0:=ht 0 (by decide)
   have c1:=ht 1 (by decide)
   simp only[spansL,List.getD_cons_zero,List.getD_cons_succ]at c0 c1
   clear ht
   go_enter Tryz.func111,Tryz.ntmps111
   go_wp2
   go_quiet (fail)
   go_wp2
   go_ret2
   exact⟨rfl,_,rfl⟩
  ·have c0:=ht 2 (by decide)
   have c1:=ht 3 (by decide)
   simp only[spansL,List.getD_cons_zero,List.getD_cons_succ]at c0 c1
   clear ht
   go_enter Tryz.func111,Tryz.ntmps111
   go_wp2
   go_quiet (fail)
   go_wp2
   go_ret2
   exact⟨rfl,_,rfl⟩
  ·have c0:=ht 4 (by decide)
   have c1:=ht 5 (by decide)
   simp only[spansL,List.getD_cons_zero,List.getD_cons_succ]at c0 c1
   clear ht
   go_enter Tryz.func111,Tryz.ntmps111
   go_wp2
   go_quiet (fail)
   go_wp2
   go_ret2
   exact⟨rfl,_,rfl⟩
  ·have c0:=ht 6 (by decide)
   have c1:=ht 7 (by decide)
   simp only[spansL,List.getD_cons_zero,List.getD_cons_succ]at c0 c1
   clear ht
   go_enter Tryz.func111,Tryz.ntmps111
   go_wp2
   go_quiet (fail)
   go_wp2
   go_ret2
   exact⟨rfl,_,rfl⟩
  ·have c0:=ht 8 (by decide)
   have c1:=ht 9 (by decide)
   simp only[spansL,List.getD_cons_zero,List.getD_cons_succ]at c0 c1
   clear ht
   go_enter Tryz.func111,Tryz.ntmps111
   go_wp2
   go_quiet (fail)
   go_wp2
   go_ret2
   exact⟨rfl,_,rfl⟩
  ·have c0:=ht 10 (by decide)
   have c1:=ht 11 (by decide)
   simp only[spansL,List.getD_cons_zero,List.getD_cons_succ]at c0 c1
   clear ht
   go_enter Tryz.func111,Tryz.ntmps111
   go_wp2
   go_quiet (fail)
   go_wp2
   go_ret2
   exact⟨rfl,_,rfl⟩
  ·have c0:=ht 12 (by decide)
   have c1:=ht 13 (by decide)
   simp only[spansL,List.getD_cons_zero,List.getD_cons_succ]at c0 c1
   clear ht
   go_enter Tryz.func111,Tryz.ntmps111
   go_wp2
   go_quiet (fail)
   go_wp2
   go_ret2
   exact⟨rfl,_,rfl⟩
  ·have c0:=ht 14 (by decide)
   have c1:=ht 15 (by decide)
   simp only[spansL,List.getD_cons_zero,List.getD_cons_succ]at c0 c1
   clear ht
   go_enter Tryz.func111,Tryz.ntmps111
   go_wp2
   go_quiet (fail)
   go_wp2
   go_ret2
   exact⟨rfl,_,rfl⟩
  ·have c0:=ht 16 (by decide)
   have c1:=ht 17 (by decide)
   simp only[spansL,List.getD_cons_zero,List.getD_cons_succ]at c0 c1
   clear ht
   go_enter Tryz.func111,Tryz.ntmps111
   go_wp2
   go_quiet (fail)
   go_wp2
   go_ret2
   exact⟨rfl,_,rfl⟩
  ·have c0:=ht 18 (by decide)
   have c1:=ht 19 (by decide)
   simp only[spansL,List.getD_cons_zero,List.getD_cons_succ]at c0 c1
   clear ht
   go_enter Tryz.func111,Tryz.ntmps111
   go_wp2
   go_quiet (fail)
   go_wp2
   go_ret2
   exact⟨rfl,_,rfl⟩
  ·have c0:=ht 20 (by decide)
   have c1:=ht 21 (by decide)
   simp only[spansL,List.getD_cons_zero,List.getD_cons_succ]at c0 c1
   clear ht
   go_enter Tryz.func111,Tryz.ntmps111
   go_wp2
   go_quiet (fail)
   go_wp2
   go_ret2
   exact⟨rfl,_,rfl⟩
  ·have c0:=ht 22 (by decide)
   have c1:=ht 23 (by decide)
   simp only[spansL,List.getD_cons_zero,List.getD_cons_succ]at c0 c1
   clear ht
   go_enter Tryz.func111,Tryz.ntmps111
   go_wp2
   go_quiet (fail)
   go_wp2
   go_ret2
   exact⟨rfl,_,rfl⟩
  ·have c0:=ht 24 (by decide)
   have c1:=ht 25 (by decide)
   simp only[spansL,List.getD_cons_zero,List.getD_cons_succ]at c0 c1
   clear ht
   go_enter Tryz.func111,Tryz.ntmps111
   go_wp2
   go_quiet (fail)
   go_wp2
   go_ret2
   exact⟨rfl,_,rfl⟩
  ·have c0:=ht 26 (by decide)
   have c1:=ht 27 (by decide)
   simp only[spansL,List.getD_cons_zero,List.getD_cons_succ]at c0 c1
   clear ht
   go_enter Tryz.func111,Tryz.ntmps111
   go_wp2
   go_quiet (fail)
   go_wp2
   go_ret2
   exact⟨rfl,_,rfl⟩
  ·have c0:=ht 28 (by decide)
   have c1:=ht 29 (by decide)
   simp only[spansL,List.getD_cons_zero,List.getD_cons_succ]at c0 c1
   clear ht
   go_enter Tryz.func111,Tryz.ntmps111
   go_wp2
   go_quiet (fail)
   go_wp2
   go_ret2
   exact⟨rfl,_,rfl⟩
  ·have c0:=ht 30 (by decide)
   have c1:=ht 31 (by decide)
   simp only[spansL,List.getD_cons_zero,List.getD_cons_succ]at c0 c1
   clear ht
   go_enter Tryz.func111,Tryz.ntmps111
   go_wp2
   go_quiet (fail)
   go_wp2
   go_ret2
   exact⟨rfl,_,rfl⟩
end Go.Proofs.YtemjmfpcopfdbaaGreatDoor.Lg
