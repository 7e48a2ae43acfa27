/- The texts LgApr LgEvr Unp. -/
import Derived.Test.YtemjmfpcopfdbaaGreatDoorM30
import Derived.Test.YtemjmfpcopfdbaaGreatDoorM26
namespace Go.Proofs.YtemjmfpcopfdbaaGreatDoor.Lg
open Go.RowKit
theorem pre_form{w:World}{s:Value}{m:List Int}(h:Pre w s m)(h1:1≤m.length):∃g c,s=.slice (some ⟨g,0,none⟩) m.length c∧g<w.heap.size∧∀j,j<m.length→w.cell? ⟨g,0+j,none⟩=some (.int .i64 (m.getD j 0)):=by
 rcases h with⟨rfl,-⟩| ⟨g,c,hs,-,hg,-,hc⟩
 ·simp at h1
 ·refine⟨g,c,hs,hg,fun j hj=>?_⟩
  have h:=hc j (.int .i64 (m.getD j 0)) (by rw[List.getElem?_map,List.getElem?_eq_getElem hj,List.getD_eq_getElem?_getD,List.getElem?_eq_getElem hj];rfl)
  rw[add_flat]at h
  exact h
theorem Pre.vi{w:World}{s:Value}{m:List Int}(h:Pre w s m)(h3:m.length≤3):Vi w w.heap.size s m:=by
 by_cases h1:1≤m.length
 ·obtain⟨g,c,rfl,hg,hc⟩:=pre_form h h1
  exact⟨g,0,c,.inl rfl,by unfold maxLen;omega,fun j hj=>⟨hg,hc j hj⟩⟩
 ·rcases h with⟨rfl,rfl⟩| ⟨_,_,_,h',_⟩
  ·exact⟨0,0,0,.inr ⟨rfl,none,rfl⟩,by simp,fun k hk=>absurd hk (by simp)⟩
  ·exact absurd h' h1
theorem fun_ok1:FunOk 1 0:=fun m s w hm hp=>by
 have hv:=hp.vi (by omega)
 rcases hp with⟨rfl,rfl⟩| ⟨_,_,_,h',_⟩
 ·exact fun_k1 [] _ _ _ _ rfl w _ hv (by simp)
 ·omega
theorem fun_ok2:FunOk 2 0:=fun m s w hm hp=>by
 have hv:=hp.vi (by omega)
 rcases hp with⟨rfl,rfl⟩| ⟨_,_,_,h',_⟩
 ·exact fun_k2 [] _ _ _ _ rfl w _ hv (by simp)
 ·omega
theorem fun_ok3:FunOk 3 1:=fun m s w hm hp=>by
 have hv:=hp.vi (by omega)
 obtain⟨g,c,rfl,-,hc⟩:=pre_form hp (by omega)
 exact fun_k3 m _ _ _ _ rfl w _ hv (by omega) (by omega) g 0 rfl (hc 0 (by omega))
theorem fun_ok4:FunOk 4 1:=fun m s w hm hp=>by
 have hv:=hp.vi (by omega)
 obtain⟨g,c,rfl,-,hc⟩:=pre_form hp (by omega)
 exact fun_k4 m _ _ _ _ rfl w _ hv (by omega) (by omega) g 0 rfl (hc 0 (by omega))
theorem fun_ok11:FunOk 11 3:=fun m s w hm hp=>by
 have hv:=hp.vi (by omega)
 obtain⟨g,c,rfl,-,hc⟩:=pre_form hp (by omega)
 exact fun_k11 m _ _ _ _ rfl w _ hv (by omega) (by omega) g 0 rfl (hc 0 (by omega)) (hc 1 (by omega)) (hc 2 (by omega))
theorem fun_ok12:FunOk 12 2:=fun m s w hm hp=>by
 have hv:=hp.vi (by omega)
 obtain⟨g,c,rfl,-,hc⟩:=pre_form hp (by omega)
 exact fun_k12 m _ _ _ _ rfl w _ hv (by omega) (by omega) g 0 rfl (hc 0 (by omega)) (hc 1 (by omega))
def ResK(q:Int)(n:Nat):Prop:=(q=1∧n=0)∨(q=2∧n=0)∨(q=3∧n=1)∨(q=4∧n=1)∨(q=11∧n=3)∨(q=12∧n=2)
def resL(q:Int)(l:List Int):Int:=
 if q=1 then 0 else if q=2 then 1 else if q=3 then rd (l.getD 0 0) else if q=4 then nt (l.getD 0 0) else if q=11 then mx (l.getD 0 0) (l.getD 1 0) (l.getD 2 0) else tr (l.getD 0 0) (l.getD 1 0)
def Four(y:Int):Prop:=y=0∨y=1∨y=2∨y=3
instance (y:Int):Decidable (Four y):=by unfold Four;infer_instance
theorem list1{l:List Int}(h:l.length=1):∃a,l=[a]:=by
 match l,h with
 |[a],_=>exact⟨a,rfl⟩
theorem list2{l:List Int}(h:l.length=2):∃a b,l=[a,b]:=by
 match l,h with
 |[a,b],_=>exact⟨a,b,rfl⟩
theorem list3{l:List Int}(h:l.length=3):∃a b c,l=[a,b,c]:=by
 match l,h with
 |[a,b,c],_=>exact⟨a,b,c,rfl⟩
theorem four_1(q:Int)(hq:q=3∨q=4)(v:Int):Four ((resD q [v] []).getD 0 0):=by
 rcases hq with rfl|rfl<;>rcases v_ways v with rfl|rfl| ⟨h,-⟩
 all_goals (try unfold resD);(try rw[h]);decide
theorem four_12(a b:Int):Four ((resD 12 [a,b] []).getD 0 0):=by
 rw[res_two]
 rcases v_ways a with rfl|rfl| ⟨h,-⟩ <;>rcases v_ways b with rfl|rfl| ⟨h',-⟩
 all_goals (try rw[h]);(try rw[h']);decide
theorem four_11(a b c:Int):Four ((resD 11 [a,b,c] []).getD 0 0):=by
 rw[res_three]
 rcases v_ways a with rfl|rfl| ⟨h,-⟩ <;>rcases v_ways b with rfl|rfl| ⟨h',-⟩ <;>rcases v_ways c with rfl|rfl| ⟨h'',-⟩
 all_goals (try rw[h]);(try rw[h']);(try rw[h'']);decide
theorem res_facts(q:Int)(l:List Int)(hq:ResK q l.length):FunOk q l.length∧apL (resD q l [])=resL q l∧Four ((resD q l []).getD 0 0):=by
 rcases hq with⟨rfl,h⟩| ⟨rfl,h⟩| ⟨rfl,h⟩| ⟨rfl,h⟩| ⟨rfl,h⟩| ⟨rfl,h⟩
 ·obtain rfl:=List.length_eq_zero_iff.1 h;exact⟨fun_ok1,by decide,by decide⟩
 ·obtain rfl:=List.length_eq_zero_iff.1 h;exact⟨fun_ok2,by decide,by decide⟩
 ·obtain⟨a,rfl⟩:=list1 h;exact⟨fun_ok3,ap_buf a,four_1 3 (.inl rfl) a⟩
 ·obtain⟨a,rfl⟩:=list1 h;exact⟨fun_ok4,ap_not a,four_1 4 (.inr rfl) a⟩
 ·obtain⟨a,b,c,rfl⟩:=list3 h;exact⟨fun_ok11,ap_mux a b c,four_11 a b c⟩
 ·obtain⟨a,b,rfl⟩:=list2 h;exact⟨fun_ok12,ap_tri a b,four_12 a b⟩
set_option maxHeartbeats 1000000 in
set_option maxRecDepth 100000 in
theorem res_apply(q:Int)(l:List Int)(n c b o:Nat)(A:Option Addr)(hA:0<n→A=some ⟨b,o,none⟩)(w:World)(hn:n=l.length)(hq:ResK q n)
 (hc:∀k,k<n→b<w.heap.size∧w.cell? ⟨b,o+k,none⟩=some (.int .u8 (l.getD k 0))):
 Calls Tryz.prog 129 #[.int .u8 q,.slice A n c] w fun e w'=>e=.returned (.int .u8 (resL q l))∧Below w.heap.size w w':=by
 obtain⟨hF,hE,hy⟩:=res_facts q l (by rw[←hn];exact hq)
 rw[←hE]
 clear hE
 have h3:n≤3:=by unfold ResK at hq;omega
 have h13:(q==13)=false:=by unfold ResK at hq;simp;omega
 have HRS:Hid (∀w',Below w.heap.size w w'→Calls Tryz.prog 148 #[.int .u8 q,.slice A n c,.slice none 0 0] w' (ResPost (resD q l []) w')):=
  Lib.hid fun w' hb=>results_any q h13 l n c b o A hA hn h3 (by rw[hn];exact hF) n [] (.slice none 0 0) w' (by simp) (.inl ⟨rfl,rfl⟩) (fun k hk=>⟨Nat.lt_of_lt_of_le (hc k hk).1 hb.size,(hb.cell (p:=⟨b,o+k,none⟩) (hc k hk).1).trans (hc k hk).2⟩)
 have HP:Hid (1≤(resD q l []).length∧(resD q l []).length≤2187):=Lib.hid ⟨resD_pos _ _ _,Nat.le_trans (resD_len _ _ _) (Nat.le_trans (Nat.pow_le_pow_right (by omega) (show l.length≤3 by omega)) (by decide))⟩
 obtain⟨L,HL⟩:=named (resD q l [])
 rw[←HL.out]at HRS HP hy
 rw[←HL.out]
 obtain⟨y,HY⟩:=named (apL L)
 rw[←HY.out]
 obtain⟨y0,HY0⟩:=named (L.getD 0 0)
 rw[←HY0.out]at hy
 obtain⟨N,HNN⟩:=named L.length
 rw[←HNN.out]at HP
 have hN1:1≤N:=HP.out.1
 have hN2:N≤2187:=HP.out.2
 have HYY:=Lib.hid hy
 have HB0:Hid (Below w.heap.size w (w.alloc (.cells #[] 3))):=Lib.hid (below_new (Below.refl _ _) _)
 have hw:(decide (5≤q)=false∧(q==13)=false)∨(decide (5≤q)=true∧decide (q≤10)=false∧(q==13)=false):=by
  unfold ResK at hq
  by_cases h:5≤q
  ·exact .inr ⟨decide_eq_true h,decide_eq_false (by omega),h13⟩
  ·exact .inl ⟨decide_eq_false h,h13⟩
 clear hn hF hc hA hy h13 hq
 rcases hw with⟨t1,t2⟩| ⟨t1,t2,t3⟩
 all_goals
  go_enter Tryz.func129,Tryz.ntmps129
  go_wp2_with (go_at_call 148;(with_reducible refine (HRS.out _ HB0.out).mono ?_);rintro e w1 ⟨gv,cv,rfl,hb1,hgv,hnews⟩)
  rw[←HNN.out]
  have HB1:Hid (Below w.heap.size w w1):=Lib.hid (join HB0.out hb1)
  have HCV:Hid (∀k,k<N→w1.cell? ⟨gv,k,none⟩=some (.int .i64 (L.getD k 0))):=Lib.hid fun k hk=>by
   have hk':k<L.length:=by rw[←HNN.out];exact hk
   have h:=hnews k (.int .i64 (L.getD k 0)) (by rw[List.getElem?_map,List.getElem?_eq_getElem hk',List.getD_eq_getElem?_getD,List.getElem?_eq_getElem hk'];rfl)
   rw[add_flat,Nat.zero_add]at h
   exact h
  clear hnews hb1 hgv
  have h00:w1.cell? ⟨gv,0,none⟩=some (.int .i64 y0):=by rw[HY0.out];exact HCV.out 0 (by omega)
  have h0N:(0:Int)<(N:Int):=by omega
  have h0N':0<N:=by omega
  go_wp2_with fail
  go_loopw [6] (fun i wr=>∃k:Nat,k≤N∧i=.int .i64 k∧(∀j,j<k→(L.getD j 0==y0)=true)∧∃z,wr=w1.drewN z) (fun i _=>N-(intOf i).toNat)
  case atStart=>exact⟨0,Nat.zero_le _,rfl,fun j hj=>absurd hj (by omega),0,rfl⟩
  case round=>
   obtain⟨k,hk,rfl,hall,z,rfl⟩:=hrel
   have HALL:=Lib.hid hall
   clear hall
   by_cases hkN:k<N
   ·have hck:=HCV.out k hkN
    obtain⟨x,HX⟩:=named (L.getD k 0)
    rw[←HX.out]at hck
    cases hxy:(x==y0)
    ·have hne:(x != y0)=true:=by simp only[bne,hxy];rfl
     go_wp2_with fail
     go_quiet (fail)
     go_wp2_with fail
     go_ret
     exact⟨ret_int (by rw[HY.out,apL,if_neg (by rw[allEq_no k (by rw[←HNN.out];exact hkN) (by rw[←HX.out,←HY0.out];exact hxy)];decide)]),below_drewN (below_drewN HB1.out _) _⟩
    ·have hne:(x != y0)=false:=by simp only[bne,hxy];rfl
     go_wp2_with fail
     go_quiet (fail)
     go_wp2_with fail
     go_roundw
     case rel=>
      refine⟨k+1,by omega,by go_num,fun j hj=>?_,_,rfl⟩
      by_cases hjk:j=k
      ·rw[hjk,←HX.out];exact hxy
      ·exact HALL.out j (by omega)
     case measure=>simp[intOf];omega
   ·obtain rfl:N=k:=by omega
    have HE:Hid (y=tabI y0):=Lib.hid (by rw[HY.out,apL,if_pos (allEq_yes fun j hj=>by rw[←HY0.out];exact HALL.out j (by rw[HNN.out];exact hj)),HY0.out])
    have h00':∀o,((w1.drewN z).alloc o).cell? ⟨gv,0,none⟩=some (.int .i64 y0):=fun o=>(World.cell?_alloc_lt _ _ _ (cell_lt h00)).trans h00
    have h00'':∀o,(w1.alloc o).cell? ⟨gv,0,none⟩=some (.int .i64 y0):=fun o=>(World.cell?_alloc_lt _ _ _ (cell_lt h00)).trans h00
    have hn0:∀t:Nat,((w1.drewN z).alloc (.cells #[.int .u8 0,.int .u8 1,.int .u8 3,.int .u8 2] t)).cell? ⟨w1.heap.size,0,none⟩=some (.int .u8 0):=fun t=>(World.cell?_alloc_at _ t _ _ rfl).trans rfl
    have hn1:∀t:Nat,((w1.drewN z).alloc (.cells #[.int .u8 0,.int .u8 1,.int .u8 3,.int .u8 2] t)).cell? ⟨w1.heap.size,1,none⟩=some (.int .u8 1):=fun t=>(World.cell?_alloc_at _ t _ _ rfl).trans rfl
    have hn2:∀t:Nat,((w1.drewN z).alloc (.cells #[.int .u8 0,.int .u8 1,.int .u8 3,.int .u8 2] t)).cell? ⟨w1.heap.size,2,none⟩=some (.int .u8 3):=fun t=>(World.cell?_alloc_at _ t _ _ rfl).trans rfl
    have hn3:∀t:Nat,((w1.drewN z).alloc (.cells #[.int .u8 0,.int .u8 1,.int .u8 3,.int .u8 2] t)).cell? ⟨w1.heap.size,3,none⟩=some (.int .u8 2):=fun t=>(World.cell?_alloc_at _ t _ _ rfl).trans rfl
    rcases HYY.out with rfl|rfl|rfl|rfl
    all_goals
     go_wp2_with fail
     go_ret
     exact⟨ret_int (by rw[HE.out];rfl),by first|exact below_drewN (below_new HB1.out _) _|exact below_new (below_drewN HB1.out _) _⟩
def allowL(q N:Int):Bool:=
 if q=1∨q=2 then N==0 else if q=3∨q=4 then N==1 else if q=11 then N==3 else if q=12 then N==2
 else if q=13 then decide (1≤N)&&decide (N≤16) else decide (5≤q)&&decide (q≤10)&&decide (2≤N)&&decide (N≤16)
set_option maxHeartbeats 1000000 in
theorem allowed_any(q N:Int)(w:World):
 Calls Tryz.prog 128 #[.int .u8 q,.int .i64 N] w fun e w'=>e=.returned (.bool (allowL q N))∧w=w':=by
 by_cases h:q=1∨q=2∨q=3∨q=4∨q=11∨q=12
 ·rcases h with rfl|rfl|rfl|rfl|rfl|rfl
  all_goals
   go_enter Tryz.func128,Tryz.ntmps128
   go_wp2_with fail
   go_ret
   exact⟨by rfl,rfl⟩
 ·by_cases h13:q=13
  ·subst h13
   have e:allowL 13 N=(decide (1≤N)&&decide (N≤16)):=rfl
   rw[e]
   clear e h
   cases h1:decide (1≤N)<;>cases h2:decide (N≤16)
   all_goals
    go_enter Tryz.func128,Tryz.ntmps128
    go_wp2_with fail
    go_ret
    exact⟨by rfl,rfl⟩
  ·have e:allowL q N=(decide (5≤q)&&decide (q≤10)&&decide (2≤N)&&decide (N≤16)):=by
    unfold allowL
    rw[if_neg (by omega),if_neg (by omega),if_neg (by omega),if_neg (by omega),if_neg h13]
   rw[e]
   have q1:(q==1)=false:=by simp;omega
   have q2:(q==2)=false:=by simp;omega
   have q3:(q==3)=false:=by simp;omega
   have q4:(q==4)=false:=by simp;omega
   have q11:(q==11)=false:=by simp;omega
   have q12:(q==12)=false:=by simp;omega
   have q13:(q==13)=false:=by simp;omega
   clear e h h13
   cases t1:decide (5≤q)<;>cases t2:decide (q≤10)<;>cases h1:decide (2≤N)<;>cases h2:decide (N≤16)
   all_goals
    go_enter Tryz.func128,Tryz.ntmps128
    go_wp2_with fail
    go_ret
    exact⟨by rfl,rfl⟩
theorem allow_span{q N:Int}(h1:1≤q)(h:q≤13)(hN:0≤N):allowL q N=(decide (lo q≤N)&&decide (N≤hi q)):=by
 rw[Bool.eq_iff_iff]
 have hq:q=1∨q=2∨q=3∨q=4∨q=5∨q=6∨q=7∨q=8∨q=9∨q=10∨q=11∨q=12∨q=13:=by omega
 rcases hq with rfl|rfl|rfl|rfl|rfl|rfl|rfl|rfl|rfl|rfl|rfl|rfl|rfl
 all_goals
  simp[allowL,lo,hi,spansL]
  try omega
theorem allow_not{q N:Int}(h:q<1∨13<q):allowL q N=false:=by
 unfold allowL
 rw[if_neg (by omega),if_neg (by omega),if_neg (by omega),if_neg (by omega),if_neg (by omega)]
 by_cases h5:5≤q
 ·rw[decide_eq_false (by omega:¬q≤10)];simp
 ·rw[decide_eq_false h5];simp
def refL(q:Int)(l:List Int):Int:=if allowL q l.length=true then (if (5≤q∧q≤10)∨q=13 then cntL q l else resL q l) else 2
theorem ref_eval(q:Int)(h0:0≤q)(l:List Int):refL q l=evalL q l:=by
 unfold refL evalL
 by_cases h:1≤q∧q≤13
 ·rw[allow_span h.1 h.2 (by omega)]
  by_cases h1:(l.length:Int)<lo q∨hi q<l.length
  ·rw[if_pos h1,if_neg]
   rw[Bool.and_eq_true,decide_eq_true_eq,decide_eq_true_eq];omega
  ·rw[if_neg h1,if_pos (by rw[Bool.and_eq_true,decide_eq_true_eq,decide_eq_true_eq];omega)]
   have hq:q=1∨q=2∨q=3∨q=4∨q=5∨q=6∨q=7∨q=8∨q=9∨q=10∨q=11∨q=12∨q=13:=by omega
   rcases hq with rfl|rfl|rfl|rfl|rfl|rfl|rfl|rfl|rfl|rfl|rfl|rfl|rfl<;>rfl
 ·rw[allow_not (by omega),if_neg (by decide)]
  split
  ·rfl
  ·unfold funL
   rw[if_neg (by omega),if_neg (by omega),if_neg (by omega),if_neg (by omega),if_neg (by omega),if_neg (by omega),if_neg (by omega),if_neg (by omega),if_neg (by omega),if_neg (by omega),if_neg (by omega),if_neg (by omega),if_neg (by omega)]
theorem allow_res{q:Int}{n:Nat}(h:allowL q n=true)(hk:¬((5≤q∧q≤10)∨q=13)):ResK q n:=by
 by_cases h13:1≤q∧q≤13
 ·have hq:q=1∨q=2∨q=3∨q=4∨q=11∨q=12:=by omega
  unfold ResK
  rcases hq with rfl|rfl|rfl|rfl|rfl|rfl
  all_goals
   simp[allowL]at h
   omega
 ·rw[allow_not (by omega)]at h;cases h
set_option maxHeartbeats 1000000 in
theorem ref_any(q:Int)(h0:0≤q)(l:List Int)(n c b o:Nat)(A:Option Addr)(hA:0<n→A=some ⟨b,o,none⟩)(w:World)(hn:n=l.length)(h7:allowL q n=true→n≤7)(hp:∀v∈l,0≤v)
 (hc:∀k,k<n→b<w.heap.size∧w.cell? ⟨b,o+k,none⟩=some (.int .u8 (l.getD k 0))):
 Calls Tryz.prog 89 #[.int .u8 q,.slice A n c] w fun e w'=>e=.returned (.int .u8 (evalL q l))∧Below w.heap.size w w':=by
 rw[←ref_eval q h0 l]
 unfold refL
 rw[←hn]
 cases ha:allowL q n
 ·rw[if_neg (by decide)]
  clear h7 hp hc hA hn
  go_enter Tryz.func89,Tryz.ntmps89
  go_wp2_with (go_at_call 128;(with_reducible refine (allowed_any _ _ _).mono ?_);rintro e w' ⟨rfl,rfl⟩)
  go_ret
  exact⟨rfl,Below.refl _ _⟩
 ·rw[if_pos rfl]
  have HAP:Hid (Calls Tryz.prog 129 #[.int .u8 q,.slice A n c] w fun e w'=>e=.returned (.int .u8 (if (5≤q∧q≤10)∨q=13 then cntL q l else resL q l))∧Below w.heap.size w w'):=Lib.hid (by
   by_cases hk:(5≤q∧q≤10)∨q=13
   ·rw[if_pos hk]
    exact count_apply q (by unfold Counts;omega) l _ n c b o A rfl hA w hn (h7 ha) hp hc
   ·rw[if_neg hk]
    exact res_apply q l n c b o A hA w hn (allow_res ha hk) hc)
  obtain⟨y,HY⟩:=named (if (5≤q∧q≤10)∨q=13 then cntL q l else resL q l)
  rw[←HY.out]at HAP
  rw[←HY.out]
  clear h7 hp hc hA hn
  go_enter Tryz.func89,Tryz.ntmps89
  go_wp2_with (first
   |(go_at_call 128;(with_reducible refine (allowed_any _ _ _).mono ?_);rintro e w' ⟨rfl,rfl⟩)
   |(go_at_call 129;(with_reducible refine HAP.out.mono ?_);rintro e w' ⟨rfl,hb⟩))
  go_ret
  exact⟨rfl,by assumption⟩
end Go.Proofs.YtemjmfpcopfdbaaGreatDoor.Lg
namespace Go.Proofs.YtemjmfpcopfdbaaGreatDoor
theorem asg_cons(out:List Int)(x:Int)(l:List Int)(v:Int)(vs:List Int):asg out (x::l) (v::vs)=asg (out.set x.toNat v) l vs:=rfl
theorem asg_off:∀(l vs out:List Int) (i:Nat),(∀y∈l,0≤y∧y≠(i:Int))→lat (asg out l vs) i=lat out i:=by
 intro l
 induction l with
 |nil=>intro vs out i _;rfl
 |cons x l ih=>
  intro vs out i h
  cases vs with
  |nil=>rfl
  |cons v vs=>
   rw[asg_cons,ih _ _ _ fun y hy=>h y (List.mem_cons_of_mem _ hy),lat_set _ (by omega),if_neg (fun e=>(h x List.mem_cons_self).2 (by have:=(h x List.mem_cons_self).1;omega))]
theorem asg_on:∀(l vs out:List Int),l.Pairwise (·< ·)→(∀y∈l,0≤y∧y<(out.length:Int))→l.length=vs.length→∀k,k<l.length→lat (asg out l vs) (l.getD k 0)=vs.getD k 0:=by
 intro l
 induction l with
 |nil=>intro vs out _ _ _ k hk;exact absurd hk (by simp)
 |cons x l ih=>
  intro vs out hp hr hl k hk
  cases vs with
  |nil=>cases hl
  |cons v vs=>
   have hx:=hr x List.mem_cons_self
   rw[asg_cons]
   cases k with
   |zero=>
    obtain⟨j,rfl⟩:=Int.eq_ofNat_of_zero_le hx.1
    show lat _ (j:Int)=v
    rw[asg_off l vs _ j fun y hy=>⟨(hr y (List.mem_cons_of_mem _ hy)).1,fun e=>by have:=(List.pairwise_cons.1 hp).1 y hy;omega⟩,lat_set _ (by omega),if_pos ⟨by omega,by omega⟩]
   |succ k=>
    show lat _ (l.getD k 0)=vs.getD k 0
    exact ih vs _ (List.pairwise_cons.1 hp).2 (fun y hy=>by rw[List.length_set];exact hr y (List.mem_cons_of_mem _ hy)) (by simpa using hl) k (by simpa using hk)
theorem ofTo_pair(nodes:List Nd)(kl:List Int)(n:Nat):(ofTo nodes kl n).Pairwise (·< ·):=by
 unfold ofTo
 rw[List.pairwise_map]
 exact (List.pairwise_lt_range.filter _).imp fun h=>by omega
theorem ofTo_at{nodes:List Nd}{kl:List Int} :∀(n:Nat) {i:Nat},i<n→isK kl (nodes.getD i default).kind=true→(ofTo nodes kl i).length<(ofTo nodes kl n).length∧(ofTo nodes kl n).getD (ofTo nodes kl i).length 0=(i:Int):=by
 intro n
 induction n with
 |zero=>intro i hi;exact absurd hi (by omega)
 |succ n ih=>
  intro i hi hk
  rw[ofTo_succ]
  by_cases e:i=n
  ·subst e
   rw[if_pos hk]
   refine⟨by simp,?_⟩
   simp[List.getD_eq_getElem?_getD]
  ·obtain⟨h1,h2⟩:=ih (i:=i) (by omega) hk
   refine⟨by rw[List.length_append];omega,?_⟩
   rw[List.getD_eq_getElem?_getD,List.getElem?_append_left h1,←List.getD_eq_getElem?_getD]
   exact h2
theorem base_in{nodes:List Nd}{n:Nat}{pin pst:List Int}(hi:(ofTo nodes [0] n).length=pin.length){i:Nat}(hn:i<n)(hk:(nodes.getD i default).kind=0):
 lat (baseV n (ofTo nodes [0] n) (ofTo nodes [14] n) pin pst) i=pin.getD (ofTo nodes [0] i).length 0:=by
 have hat:=ofTo_at n hn (kl:=[0]) (nodes:=nodes) (by rw[isK_one,hk];rfl)
 unfold baseV
 rw[asg_off _ _ _ i fun y hy=>?_,←hat.2]
 ·exact asg_on _ _ _ (ofTo_pair _ _ _) (fun y hy=>by have:=ofTo_in hy;simp;omega) hi _ hat.1
 ·obtain⟨j,rfl,hj,hj2⟩:=ofTo_mem hy
  refine⟨by omega,fun e=>?_⟩
  have:j=i:=by omega
  subst this
  rw[isK_one,hk]at hj2
  simp at hj2
theorem base_st{nodes:List Nd}{n:Nat}{pin pst:List Int}(hs:(ofTo nodes [14] n).length=pst.length){i:Nat}(hn:i<n)(hk:(nodes.getD i default).kind=14):
 lat (baseV n (ofTo nodes [0] n) (ofTo nodes [14] n) pin pst) i=pst.getD (ofTo nodes [14] i).length 0:=by
 have hat:=ofTo_at n hn (kl:=[14]) (nodes:=nodes) (by rw[isK_one,hk];rfl)
 unfold baseV
 rw[←hat.2]
 exact asg_on _ _ _ (ofTo_pair _ _ _) (fun y hy=>by have:=ofTo_in hy;simp[asg_len];omega) hs _ hat.1
theorem rd_in(a:Int):0≤rd a∧rd a≤3:=by rcases rd_cases a with h|h|h<;>omega
theorem nt_in(a:Int):0≤nt a∧nt a≤3:=by unfold nt;split<;>(try split)<;>omega
theorem mx_in(a b d:Int):0≤mx a b d∧mx a b d≤3:=by
 have h1:=rd_in b
 have h2:=rd_in d
 unfold mx
 split
 ·exact h1
 split
 ·exact h2
 split
 ·exact h1
 ·omega
theorem tr_in(a b:Int):0≤tr a b∧tr a b≤3:=by
 have h1:=rd_in b
 unfold tr
 split
 ·omega
 split
 ·exact h1
 ·omega
theorem xor_in(l:List Int):0≤xorL l∧xorL l≤3:=by
 unfold xorL
 split
 ·omega
 ·rcases par_cases l with h|h<;>omega
theorem and_in(l:List Int):0≤andL l∧andL l≤3:=by unfold andL;split<;>(try split)<;>omega
theorem or_in(l:List Int):0≤orL l∧orL l≤3:=by unfold orL;split<;>(try split)<;>omega
theorem bus_in(l:List Int):0≤busL l∧busL l≤3:=by unfold busL;split<;>(try split)<;>(try split)<;>omega
theorem evalL_in(k:Int)(l:List Int):0≤evalL k l∧evalL k l≤3:=by
 have h1:=rd_in (l.getD 0 0)
 have h2:=nt_in (l.getD 0 0)
 have h5:=and_in l
 have h6:=or_in l
 have h7:=xor_in l
 have h8:=bus_in l
 have h9:=mx_in (l.getD 0 0) (l.getD 1 0) (l.getD 2 0)
 have h10:=tr_in (l.getD 0 0) (l.getD 1 0)
 have h11:=nt_in (andL l)
 have h12:=nt_in (orL l)
 have h13:=nt_in (xorL l)
 unfold evalL
 split
 ·omega
 unfold funL
 repeat' split
 all_goals omega
theorem asg_in{l vs out:List Int}(hv:∀y∈vs,0≤y∧y≤3)(ho:∀y∈out,0≤y∧y≤3):∀y∈asg out l vs,0≤y∧y≤3:=by
 unfold asg
 induction l generalizing vs out with
 |nil=>exact ho
 |cons x l ih=>
  cases vs with
  |nil=>exact ho
  |cons v vs=>
   exact ih (vs:=vs) (out:=out.set x.toNat v) (fun y hy=>hv y (List.mem_cons_of_mem _ hy)) fun y hy=>by
    rcases List.mem_or_eq_of_mem_set hy with h|rfl
    ·exact ho y h
    ·exact hv _ List.mem_cons_self
end Go.Proofs.YtemjmfpcopfdbaaGreatDoor
