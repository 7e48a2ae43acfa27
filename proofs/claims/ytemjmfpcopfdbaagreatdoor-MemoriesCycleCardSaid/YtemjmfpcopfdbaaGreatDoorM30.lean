/- The texts LgResp LgRes. -/
import Derived.Test.YtemjmfpcopfdbaaGreatDoorM29
namespace Go.Proofs.YtemjmfpcopfdbaaGreatDoor.Lg
def resD(q:Int):List Int→List Int→List Int
 |[],m=>[fn q m]
 |v::r,m=>(chc v false).flatMap fun x=>resD q r (m++[x])
def resI(q:Int)(v:Int)(r m:List Int)(i:Nat):List Int:=((chc v false).take i).flatMap fun x=>resD q r (m++[x])
theorem resI_zero(q v:Int)(r m:List Int):resI q v r m 0=[]:=rfl
theorem resI_succ(q v:Int)(r m:List Int)(i:Nat)(h:i<(chc v false).length):resI q v r m (i+1)=resI q v r m i++resD q r (m++[(chc v false).getD i 0]):=by
 unfold resI
 rw[take_succ_getD _ i h,List.flatMap_append];simp
theorem resI_all(q v:Int)(r m:List Int):resI q v r m (chc v false).length=resD q (v::r) m:=by
 unfold resI
 rw[List.take_length];rfl
theorem chc_two(v:Int):(chc v false).length≤2∧1≤(chc v false).length:=by
 by_cases h0:v=0
 ·subst h0;decide
 ·by_cases h1:v=1
  ·subst h1;decide
  ·rw[chc_f h0 h1];decide
theorem resI_len(q v:Int)(r m:List Int)(B:Nat)(hB:∀m,(resD q r m).length≤B)(i:Nat)(h:i≤(chc v false).length):(resI q v r m i).length≤i*B:=by
 induction i with
 |zero=>simp[resI_zero]
 |succ i ih=>
  rw[resI_succ q v r m i (by omega),List.length_append,Nat.add_mul,Nat.one_mul]
  have:=ih (by omega)
  have:=hB (m++[(chc v false).getD i 0])
  omega
theorem resD_len(q:Int)(r m:List Int):(resD q r m).length≤2^r.length:=by
 induction r generalizing m with
 |nil=>exact Nat.le_refl _
 |cons v r ih=>
  rw[←resI_all]
  refine Nat.le_trans (resI_len q v r m _ ih _ (Nat.le_refl _)) ?_
  rw[List.length_cons,Nat.pow_succ,Nat.mul_comm]
  exact Nat.mul_le_mul_left _ (chc_two v).1
theorem resD_pos(q:Int)(r m:List Int):1≤(resD q r m).length:=by
 induction r generalizing m with
 |nil=>exact Nat.le_refl _
 |cons v r ih=>
  have h:=(chc_two v).2
  rw[←resI_all]
  obtain⟨k,hk⟩:∃k,(chc v false).length=k+1:=⟨(chc v false).length-1,by omega⟩
  rw[hk,resI_succ q v r m k (by omega),List.length_append]
  have:=ih (m++[(chc v false).getD k 0])
  omega
theorem v_ways(v:Int):v=0∨v=1∨(chc v false=[0,1]∧rd v=2):=by
 rcases knw_cases v with⟨h,_⟩| ⟨h,_⟩| ⟨h0,h1,_,h⟩
 ·exact .inl h
 ·exact .inr (.inl h)
 ·exact .inr (.inr ⟨chc_f h0 h1,h⟩)
theorem ap_buf(v:Int):apL (resD 3 [v] [])=rd v:=by
 rcases v_ways v with rfl|rfl| ⟨h,e⟩
 ·decide
 ·decide
 ·rw[e];unfold resD;rw[h];decide
theorem ap_not(v:Int):apL (resD 4 [v] [])=nt v:=by
 rcases v_ways v with rfl|rfl| ⟨h,e⟩
 ·decide
 ·decide
 ·unfold nt;rw[e];unfold resD;rw[h];decide
theorem res_two(q a b:Int):resD q [a,b] []=(chc a false).flatMap fun x=>(chc b false).flatMap fun y=>[fn q [x,y]]:=rfl
theorem res_three(q a b c:Int):resD q [a,b,c] []=(chc a false).flatMap fun x=>(chc b false).flatMap fun y=>(chc c false).flatMap fun z=>[fn q [x,y,z]]:=rfl
theorem ap_tri(a b:Int):apL (resD 12 [a,b] [])=tr a b:=by
 rw[res_two]
 unfold tr
 rcases v_ways a with rfl|rfl| ⟨h,e⟩ <;>rcases v_ways b with rfl|rfl| ⟨h',e'⟩
 all_goals (try rw[h]);(try rw[h']);(try rw[e]);(try rw[e']);decide
theorem ap_mux(a b c:Int):apL (resD 11 [a,b,c] [])=mx a b c:=by
 rw[res_three]
 unfold mx
 rcases v_ways a with rfl|rfl| ⟨h,e⟩ <;>rcases v_ways b with rfl|rfl| ⟨h',e'⟩ <;>rcases v_ways c with rfl|rfl| ⟨h'',e''⟩
 all_goals (try rw[h]);(try rw[h']);(try rw[h'']);(try rw[e]);(try rw[e']);(try rw[e'']);decide
open Go.RowKit
theorem step_int{P:Program}{ops:Array Oper}{o:Oper}{a:Act}{w:World}{K:Act→World→Prop}{Q:Exit→Act→World→Prop}{E:Prop}(hgd:o.guard=none)(s x:Operand)(t:TypeId)
 (ho:o.op=.call { callee:=.builtin .append,args:=#[s,x],argTypes:=#[t,t] })
 (base:Nat) (e:TypeId) (i:TypeInfo) (z:Value) (ht:P.underlying t=some (.slice e)) (hi:P.info? e=some i) (hz:i.zero=some z) (hsize:i.size=1) (hby:i.bytes=8) (hzs:z.cells.size=1)
 (v:Value) (n:Nat) (xs:List Value) (hs:a.eval s=v) (hown:w.ownsRow base e 1 v n xs) (ad:Addr) (m c:Nat) (news:List Value) (hx:a.eval x=.slice (some ad) m c)
 (hl:news.length=m) (hnews:∀j u,news[j]? =some u→w.cell? (ad.add j)=some u) (h1:∀u∈news,u.oneCell'=true) (hnm:n+m≤1000) (hbase:base≤w.heap.size)
 (h:∀v' w',w'.ownsRow base e 1 v' (n+m) (xs++news)→w.grownBy w' v.ownBlock→K (a.put o.dst v') w'):
 if Region.wanted o (yielded ops a.tmps)=true then Oper.wp P o a w K Q else E:=by
 have hw:Region.wanted o (yielded ops a.tmps)=true:=by simp[Region.wanted,hgd]
 rw[if_pos hw]
 exact wp_append_own w s x t ho base e i z 1 8 ht hi hz hsize hby hzs (by decide) v n xs hs hown ad m c news hx (by rw[hl,Nat.mul_one]) hnews h1 (by unfold maxLen;omega) (by omega) hbase fun v' w' h2 h3 _=>h v' w' h2 h3
theorem one_ints(l:List Int):∀u∈l.map (Value.int .i64),u.oneCell'=true:=by
 intro u hu
 obtain⟨x,-,rfl⟩:=List.mem_map.1 hu
 rfl
theorem own_below{g:Nat}{Y w w':World}(h:Own g Y w)(hb:Below w.heap.size w w'):Own g Y w':=⟨h.below.trans (hb.mono h.size),Nat.le_trans h.size hb.size⟩
def Pre(w:World)(s:Value)(m:List Int):Prop:=
 (m=[]∧s=.slice none 0 0)∨∃g c,s=.slice (some ⟨g,0,none⟩) m.length c∧1≤m.length∧g<w.heap.size∧m.length≤c∧∀(j:Nat) u,(m.map (Value.int .i64))[j]? =some u→w.cell? ((⟨g,0,none⟩:Addr).add j)=some u
def ResPost(L:List Int)(w:World)(e:Ending)(w':World):Prop:=
 ∃gv cv,e=.returned (.slice (some ⟨gv,0,none⟩) L.length cv)∧Below w.heap.size w w'∧gv<w'.heap.size∧∀(j:Nat) u,(L.map (Value.int .i64))[j]? =some u→w'.cell? ((⟨gv,0,none⟩:Addr).add j)=some u
theorem Pre.of_own{w:World}{base n:Nat}{v:Value}{m:List Int}(h:w.ownsRow base 3 1 v n (m.map (Value.int .i64)))(hn:1≤m.length):Pre w v m∧n=m.length:=by
 have hl:n=m.length:=by have:=h.1;simp at this;omega
 subst hl
 refine⟨.inr ?_,rfl⟩
 obtain⟨g,cap,rfl,-,hg,hc⟩:=own_form h (by omega)
 refine⟨g,cap,rfl,hn,hg,hc,fun j u hu=>?_⟩
 have hj:j<m.length:=by
  rcases Nat.lt_or_ge j m.length with h|h
  ·exact h
  ·rw[List.getElem?_eq_none (by simpa using h)]at hu;cases hu
 rw[add_flat,Nat.zero_add,h.cellAt j (by omega)]
 exact hu
def FunOk(q:Int)(n:Nat):Prop:=∀(m:List Int) (s:Value) (w:World),m.length=n→Pre w s m→
 Calls Tryz.prog 159 #[.int .u8 q,s] w fun e w'=>e=.returned (.int .i64 (fn q m))∧w=w'
set_option maxHeartbeats 2000000 in
set_option maxRecDepth 100000 in
theorem results_any(q:Int)(hq:(q==13)=false)(l:List Int)(n c b o:Nat)(A:Option Addr)(hA:0<n→A=some ⟨b,o,none⟩)(hn:n=l.length)(h3:n≤3)(hF:FunOk q n)(d:Nat):
 ∀(m:List Int) (s:Value) (w:World),m.length+d=n→Pre w s m→(∀k,k<n→b<w.heap.size∧w.cell? ⟨b,o+k,none⟩=some (.int .u8 (l.getD k 0)))→
  Calls Tryz.prog 148 #[.int .u8 q,.slice A n c,s] w (ResPost (resD q (l.drop m.length) m) w):=by
 induction d with
 |zero=>
  intro m s w hm hpre hc
  have HM:=Lib.hid hm
  have HP:=Lib.hid hpre
  have HF:=Lib.hid hF
  have HE:Hid (resD q (l.drop m.length) m=[fn q m]):=Lib.hid (by rw[List.drop_eq_nil_of_le (by omega)];rfl)
  rw[HE.out]
  have HFN:Hid (∀w',w'=w→Calls Tryz.prog 159 #[.int .u8 q,s] w' fun e w''=>e=.returned (.int .i64 (fn q m))∧w'=w''):=Lib.hid fun w' e=>by rw[e];exact hF m s w (by omega) hpre
  have hsv:∃A' c',s=.slice A' n c':=by
   rcases hpre with⟨rfl,rfl⟩| ⟨g,c',rfl,-⟩
   ·simp at hm;subst hm;exact⟨_,_,rfl⟩
   ·exact⟨some ⟨g,0,none⟩,c',by rw[show n=m.length by omega]⟩
  obtain⟨A',c',rfl⟩:=hsv
  clear hm hpre hF hc hA hn
  obtain⟨y,HY⟩:=named (fn q m)
  rw[←HY.out]
  go_enter Tryz.func148,Tryz.ntmps148
  go_wp2_with (go_at_call 159;(with_reducible refine (HFN.out _ rfl).mono ?_);rintro e w' ⟨rfl,rfl⟩)
  rw[←HY.out]
  go_wp2_with fail
  go_ret
  refine⟨w.heap.size,1,rfl,below_new (Below.refl _ _) _,by simp,one_new _ _ _⟩
 |succ d ih=>
  intro m s w hm hpre hc
  obtain⟨ii,hji,hy0,hy1,hy2⟩:=info_parts info_int
  have HJ:=Lib.hid hji
  have HY0:=Lib.hid hy0
  have HY1:=Lib.hid hy1
  have HY2:=Lib.hid hy2
  clear hji hy0 hy1 hy2
  have hlt:m.length<n:=by omega
  obtain rfl:=hA (by omega)
  have HE:Hid (resD q (l.drop m.length) m=resI q (l.getD m.length 0) (l.drop (m.length+1)) m (chc (l.getD m.length 0) false).length):=Lib.hid (by
   rw[resI_all,List.drop_eq_getElem_cons (by omega),List.getD_eq_getElem?_getD,List.getElem?_eq_getElem (by omega)];rfl)
  rw[HE.out]
  have HC:=Lib.hid hc
  have HIH0:Hid (∀(x:Int) s' w',Pre w' s' (m++[x])→Below w.heap.size w w'→Calls Tryz.prog 148 #[.int .u8 q,.slice (some ⟨b,o,none⟩) n c,s'] w' (ResPost (resD q (l.drop (m.length+1)) (m++[x])) w')):=
   Lib.hid fun x s' w' hp hb=>by
    have h:=ih (m++[x]) s' w' (by rw[List.length_append,List.length_singleton];omega) hp (fun k hk=>⟨Nat.lt_of_lt_of_le (hc k hk).1 hb.size,(hb.cell (p:=⟨b,o+k,none⟩) (hc k hk).1).trans (hc k hk).2⟩)
    rw[List.length_append,List.length_singleton]at h
    exact h
  have hcell:=(hc m.length hlt).2
  have hbw:=(hc m.length hlt).1
  obtain⟨v,HV⟩:=named (l.getD m.length 0)
  rw[←HV.out]at hcell HE
  rw[←HV.out]
  obtain⟨R,HR⟩:=named (l.drop (m.length+1))
  rw[←HR.out]at HIH0 HE
  rw[←HR.out]
  have hR:R.length≤2:=by rw[HR.out,List.length_drop];omega
  have HCH:Hid (∀w',Calls Tryz.prog 91 #[.int .u8 v,.bool false] w' fun e w''=>e=.returned (.slice (some ⟨w'.heap.size,0,none⟩) (chc v false).length (chc v false).length)∧w''=w'.alloc (.cells ((chc v false).map (Value.int .i64)).toArray 3)):=Lib.hid fun w'=>choices_any v false w'
  have HSU:Hid (∀i,i<(chc v false).length→resI q v R m (i+1)=resI q v R m i++resD q R (m++[(chc v false).getD i 0])):=Lib.hid fun i h=>resI_succ q v R m i h
  have h4:2^R.length≤4:=Nat.le_trans (Nat.pow_le_pow_right (by omega) hR) (by decide)
  have HDL:Hid (∀m',(resD q R m').length≤4):=Lib.hid fun m'=>Nat.le_trans (resD_len q R m') h4
  have HIL:Hid (∀i,i≤(chc v false).length→(resI q v R m i).length≤i*4):=Lib.hid fun i h=>resI_len q v R m 4 HDL.out i h
  have hal:=chc_two v
  obtain⟨al,HAL⟩:=named (chc v false)
  rw[←HAL.out]at HCH HSU HIL hal HE
  rw[←HAL.out]
  obtain⟨k,HK⟩:=named m.length
  rw[←HK.out]at hcell hm hlt
  have hk2:k≤2:=by omega
  have HP:=Lib.hid hpre
  have hsv:∃A' c',s=.slice A' k c':=by
   rcases hpre with⟨rfl,rfl⟩| ⟨g,c',rfl,-⟩
   ·rw[HK.out];exact⟨_,_,rfl⟩
   ·exact⟨some ⟨g,0,none⟩,c',by rw[HK.out]⟩
  obtain⟨A',c',rfl⟩:=hsv
  have dk:((k:Int)==(n:Int))=false:=by simp;omega
  have dk':(k:Int)<(n:Int):=by omega
  obtain⟨ga,hga⟩:∃ga,ga=w.heap.size:=⟨_,rfl⟩
  have HGA:=Lib.hid hga
  clear hpre hc hga ih hF hA hn
  go_enter Tryz.func148,Tryz.ntmps148
  go_wp2_with (go_at_call 91;(with_reducible refine (HCH.out _).mono ?_);rintro e w1 ⟨rfl,hw1⟩)
  rw[←HGA.out]
  have HW1:=Lib.hid hw1
  clear hw1
  obtain⟨X,rfl⟩:∃X:World,X=w1:=⟨_,rfl⟩
  obtain⟨gx,hgx⟩:∃gx,gx=X.heap.size:=⟨_,rfl⟩
  have HGX:=Lib.hid hgx
  have HBX:Hid (Below w.heap.size w X):=Lib.hid (by rw[HW1.out];exact below_new (Below.refl _ _) _)
  have HGAX:Hid (ga<X.heap.size):=Lib.hid (by rw[HW1.out,HGA.out];simp)
  have HCX:Hid (∀j,j<al.length→X.cell? ⟨ga,j,none⟩=some (.int .i64 (al.getD j 0))):=Lib.hid fun j hj=>by
   rw[HW1.out,HGA.out,World.cell?_alloc_at _ _ _ _ rfl]
   simp[List.getElem?_map,List.getElem?_eq_getElem hj]
  clear hgx
  rw[←HW1.out]
  go_loopw [7,9] (fun u i wr=>∃j:Nat,j≤al.length∧i=.int .i64 j∧Own gx X wr∧wr.ownsRow gx 3 1 u (resI q v R m j).length ((resI q v R m j).map (Value.int .i64))) (fun _ i _=>al.length-(intOf i).toNat)
  case atStart=>exact⟨0,Nat.zero_le _,rfl,⟨Below.refl _ _,by rw[HGX.out];exact Nat.le_refl _⟩,rfl,.inl ⟨rfl,rfl⟩⟩
  case round=>
   obtain⟨j,hj,rfl,hown0,hown⟩:=hrel
   have HXE:=Lib.hid hown0
   have HO:=Lib.hid hown
   clear hown0 hown
   by_cases hjl:j<al.length
   ·have HSJ:=Lib.hid (HSU.out j hjl)
    have hcx:=HCX.out j hjl
    obtain⟨x,HX⟩:=named (al.getD j 0)
    rw[←HX.out]at hcx HSJ
    have hDL:=HDL.out (m++[x])
    have hIL:=HIL.out j hj
    have HIH1:=Lib.hid (HIH0.out x)
    obtain⟨D,HD⟩:=named (resD q R (m++[x]))
    rw[←HD.out]at HSJ hDL HIH1
    obtain⟨PI,HPI⟩:=named (resI q v R m j)
    rw[←HPI.out]at HSJ hIL HO
    obtain⟨Y,rfl⟩:∃Y:World,Y=wr:=⟨_,rfl⟩
    obtain⟨gy,hgy⟩:∃gy,gy=Y.heap.size:=⟨_,rfl⟩
    have HGY:=Lib.hid hgy
    clear hgy
    have hy0:Own gy Y Y:=⟨Below.refl _ _,by rw[HGY.out];exact Nat.le_refl _⟩
    have HXD:Hid (∀w',Own gx X w'→Own gx X w'∧w'.cell? ⟨ga,j,none⟩=some (.int .i64 x)):=Lib.hid fun w' h=>⟨h,(h.below.cell (p:=⟨ga,j,none⟩) (by rw[HGX.out];exact HGAX.out)).trans hcx⟩
    have HXC:Hid (∀w',Own gy Y w'→Own gx X w'∧w'.cell? ⟨ga,j,none⟩=some (.int .i64 x)):=Lib.hid fun w' h=>HXD.out w' (own_trans HXE.out h HGY.out)
    have HBY:Hid (∀w',Own gy Y w'→Below w.heap.size w w'):=Lib.hid fun w' h=>join HBX.out (by have h':=(own_trans HXE.out h HGY.out).below;rw[HGX.out]at h';exact h')
    have HNIL:Hid (∀w':World,w'.ownsRow gy 3 1 (.slice none 0 0) 0 []):=Lib.hid fun _=>⟨rfl,.inl ⟨rfl,rfl⟩⟩
    have HLD:Hid ((D.map (Value.int .i64)).length=D.length):=Lib.hid (List.length_map _)
    have HOD:=Lib.hid (one_ints D)
    have HO1:=Lib.hid (one_ints m)
    have HO2:=Lib.hid (one_ints [x])
    have hj2:j≤1:=by omega
    have hdl:PI.length+D.length≤1000:=by omega
    have hstart:=HXC.out _ hy0
    have hcy:=hstart.2
    rcases HP.out with⟨hm0,hs0⟩| ⟨g,c2,hs0,hm1,hgw,-,hms⟩
    ·have hk0:k=0:=by rw[HK.out,hm0];rfl
     simp only[Value.slice.injEq]at hs0
     obtain⟨rfl,-,rfl⟩:=hs0
     subst hk0
     have HIH:Hid (∀v2 w2,w2.ownsRow gy 3 1 v2 (0+1) ([]++[.int .i64 x])→Own gy Y w2→Calls Tryz.prog 148 #[.int .u8 q,.slice (some ⟨b,o,none⟩) n c,v2] w2 (ResPost D w2)):=
      Lib.hid fun v2 w2 h1 h2=>HIH1.out v2 w2 (Pre.of_own (base:=gy) (n:=0+1) (by rw[hm0];exact h1) (by simp)).1 (HBY.out w2 h2)
     go_wp2_with fail
     go_region_held3 (fun w'=>Own gx X w'∧w'.cell? ⟨ga,j,none⟩=some (.int .i64 x)) ((first|assumption|(exact HXC.out _ (by first|exact Own.drew hy0|exact Own.alloc (Own.drew hy0) _|exact Own.drew (Own.alloc hy0 _)|exact Own.alloc hy0 _|exact hy0))|(exact HXD.out _ (by first|exact Own.drew (And.left (by assumption))|exact Own.alloc (And.left (by assumption)) _))))
      (first
        |(refine step_int rfl (.tmp 37) (.tmp 42) 37 rfl gy 3 ii (.int .i64 0) Tryz.underlying37 HJ.out HY0.out HY1.out HY2.out rfl (.slice none 0 0) 0 _ rfl (HNIL.out _) _ 1 1 [.int .i64 x] rfl rfl (by first|exact one_new _ _ _) HO2.out (by omega) (Own.size (by first|exact Own.drew hy0|exact Own.alloc (Own.drew hy0) _|exact Own.drew (Own.alloc hy0 _)|exact Own.alloc hy0 _|exact hy0)) ?_
          intro v2 w2 ho2 hg2
          have hy2:Own gy Y w2:=Own.grown (by first|exact Own.drew hy0|exact Own.alloc (Own.drew hy0) _|exact Own.drew (Own.alloc hy0 _)|exact Own.alloc hy0 _|exact hy0) hg2 (fun q hq=>by cases hq)
          have hs2:=HXC.out _ hy2)
        |(go_at_call 148;(with_reducible refine (HIH.out _ _ ho2 hy2).mono ?_);rintro e w3 ⟨gr,cr,rfl,hb3,hgr,hnews⟩;have hy3:Own gy Y w3:=own_below hy2 hb3;have hs3:=HXC.out _ hy3)
        |(refine step_int rfl (.tmp 33) (.tmp 44) 37 rfl gx 3 ii (.int .i64 0) Tryz.underlying37 HJ.out HY0.out HY1.out HY2.out rfl _ PI.length _ rfl (own_keep HO.out (by have h:=hy3.below;rw[HGY.out]at h;exact h)) ⟨gr,0,none⟩ D.length cr (D.map (Value.int .i64)) rfl HLD.out hnews HOD.out (by omega) (Own.size hs3.1) ?_
          intro v4 w4 ho4 hg4
          have hs4:=HXD.out _ (Own.grown hs3.1 hg4 (fun q hq=>own_from HO.out hq))))
     all_goals
      go_wp2_with fail
      go_roundw
      case rel=>first
       |exact⟨j+1,by omega,by go_num,hs4.1,by rw[HSJ.out,List.map_append,List.length_append];exact ho4⟩
       |(refine⟨_,_,_,_,_,_,_,_,_,_,_,_,_,_,_,_,_,_,_,_,_,?_,rfl⟩
         exact⟨j+1,by omega,by go_num,hs4.1,by rw[HSJ.out,List.map_append,List.length_append];exact ho4⟩)
      case measure=>simp[intOf];omega
    ·simp only[Value.slice.injEq]at hs0
     obtain⟨rfl,-,rfl⟩:=hs0
     have HLM:Hid ((m.map (Value.int .i64)).length=k):=Lib.hid (by rw[List.length_map,HK.out])
     have HN1:Hid (∀w',Own gy Y w'→∀(j:Nat) u,(m.map (Value.int .i64))[j]? =some u→w'.cell? ((⟨g,0,none⟩:Addr).add j)=some u):=Lib.hid fun w' h j u hu=>by
      have h1:=hms j u hu
      rw[add_flat]at h1 ⊢
      rw[(HBY.out w' h).cell (p:=⟨g,0+j,none⟩) hgw];exact h1
     have HIH:Hid (∀v2 w2,w2.ownsRow gy 3 1 v2 (0+k+1) ([]++m.map (Value.int .i64)++[.int .i64 x])→Own gy Y w2→Calls Tryz.prog 148 #[.int .u8 q,.slice (some ⟨b,o,none⟩) n c,v2] w2 (ResPost D w2)):=
      Lib.hid fun v2 w2 h1 h2=>HIH1.out v2 w2 (Pre.of_own (base:=gy) (n:=0+k+1) (by rw[List.map_append];exact h1) (by simp)).1 (HBY.out w2 h2)
     clear hms hgw
     go_wp2_with fail
     go_region_held3 (fun w'=>Own gx X w'∧w'.cell? ⟨ga,j,none⟩=some (.int .i64 x)) ((first|assumption|(exact HXC.out _ (by first|exact Own.drew hy0|exact Own.alloc (Own.drew hy0) _|exact Own.drew (Own.alloc hy0 _)|exact Own.alloc hy0 _|exact hy0))|(exact HXD.out _ (by first|exact Own.drew (And.left (by assumption))|exact Own.alloc (And.left (by assumption)) _))))
      (first
        |(refine step_int rfl (.const (.slice none 0 0)) (.tmp 36) 37 rfl gy 3 ii (.int .i64 0) Tryz.underlying37 HJ.out HY0.out HY1.out HY2.out rfl (.slice none 0 0) 0 _ rfl (HNIL.out _) ⟨g,0,none⟩ k c' (m.map (Value.int .i64)) rfl HLM.out (HN1.out _ (by first|exact Own.drew hy0|exact Own.alloc (Own.drew hy0) _|exact Own.drew (Own.alloc hy0 _)|exact Own.alloc hy0 _|exact hy0)) HO1.out (by omega) (Own.size (by first|exact Own.drew hy0|exact Own.alloc (Own.drew hy0) _|exact Own.drew (Own.alloc hy0 _)|exact Own.alloc hy0 _|exact hy0)) ?_
          intro v1 w1 ho1 hg1
          have hy1:Own gy Y w1:=Own.grown (by first|exact Own.drew hy0|exact Own.alloc (Own.drew hy0) _|exact Own.drew (Own.alloc hy0 _)|exact Own.alloc hy0 _|exact hy0) hg1 (fun q hq=>by cases hq)
          have hs1:=HXC.out _ hy1)
        |(refine step_int rfl (.tmp 37) (.tmp 42) 37 rfl gy 3 ii (.int .i64 0) Tryz.underlying37 HJ.out HY0.out HY1.out HY2.out rfl v1 (0+k) _ rfl (by first|exact ho1|exact ho1.alloc _) _ 1 1 [.int .i64 x] rfl rfl (by first|exact one_new _ _ _|exact one_kept' (w:=Y) hg1 rfl rfl) HO2.out (by omega) (Own.size (by first|exact hy1|exact Own.alloc hy1 _)) ?_
          intro v2 w2 ho2 hg2
          have hy2:Own gy Y w2:=Own.grown (by first|exact hy1|exact Own.alloc hy1 _) hg2 (fun q hq=>own_from ho1 hq)
          have hs2:=HXC.out _ hy2)
        |(go_at_call 148;(with_reducible refine (HIH.out _ _ ho2 hy2).mono ?_);rintro e w3 ⟨gr,cr,rfl,hb3,hgr,hnews⟩;have hy3:Own gy Y w3:=own_below hy2 hb3;have hs3:=HXC.out _ hy3)
        |(refine step_int rfl (.tmp 33) (.tmp 44) 37 rfl gx 3 ii (.int .i64 0) Tryz.underlying37 HJ.out HY0.out HY1.out HY2.out rfl _ PI.length _ rfl (own_keep HO.out (by have h:=hy3.below;rw[HGY.out]at h;exact h)) ⟨gr,0,none⟩ D.length cr (D.map (Value.int .i64)) rfl HLD.out hnews HOD.out (by omega) (Own.size hs3.1) ?_
          intro v4 w4 ho4 hg4
          have hs4:=HXD.out _ (Own.grown hs3.1 hg4 (fun q hq=>own_from HO.out hq))))
     all_goals
      go_wp2_with fail
      go_roundw
      case rel=>first
       |exact⟨j+1,by omega,by go_num,hs4.1,by rw[HSJ.out,List.map_append,List.length_append];exact ho4⟩
       |(refine⟨_,_,_,_,_,_,_,_,_,_,_,_,_,_,_,_,_,_,_,_,_,?_,rfl⟩
         exact⟨j+1,by omega,by go_num,hs4.1,by rw[HSJ.out,List.map_append,List.length_append];exact ho4⟩)
      case measure=>simp[intOf];omega
   ·obtain rfl:al.length=j:=by omega
    obtain⟨L,HL⟩:=named (resI q v R m al.length)
    rw[←HL.out]at HO
    have hL1:1≤L.length:=by rw[HL.out,←HE.out];exact resD_pos _ _ _
    obtain⟨gv,cv,rfl,-,hgv,hcv⟩:=own_form HO.out (by omega)
    go_wp2_with fail
    go_ret
    refine⟨gv,cv,by rw[←HL.out];rfl,join HBX.out (by have h:=HXE.out.below;rw[HGX.out]at h;exact h),hgv,fun i u hu=>?_⟩
    rw[←HL.out]at hu
    have hi:i<L.length:=by
     rcases Nat.lt_or_ge i L.length with h|h
     ·exact h
     ·rw[List.getElem?_eq_none (by simpa using h)]at hu;cases hu
    rw[add_flat,Nat.zero_add,HO.out.cellAt i (by omega)]
    exact hu
end Go.Proofs.YtemjmfpcopfdbaaGreatDoor.Lg
