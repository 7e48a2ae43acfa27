/- The texts Rsa Own. -/
import Derived.Test.YtemjmfpcopfdbaaGreatDoorM03
import Derived.Test.YtemjmfpcopfdbaaGreatDoorM06
import Derived.Test.YtemjmfpcopfdbaaGreatDoorM07
import Derived.Deep.DeepCutAuto
import Derived.Deep.CutBlock
namespace Go.Proofs.YtemjmfpcopfdbaaGreatDoor
open Go.RowKit
def alw(k n:Int):Bool:=if k=1∨k=2 then n==0 else if k=3∨k=4 then n==1 else if k=11 then n==3 else if k=12 then n==2 else if k=13 then decide (1≤n)&&decide (n≤16) else decide (5≤k)&&decide (k≤10)&&decide (2≤n)&&decide (n≤16)
def rinp(k n:Int):Bool:=if k=0∨k=15 then n==0 else (k==14&&n==1)||alw k n
theorem rinp_iff{k n:Int}(h0:0≤k)(h1:¬15<k)(hn:0≤n):rinp k n=true↔lo k≤n∧n≤hi k:=by
 rcases kinds h0 h1 with rfl|rfl|rfl|rfl|rfl|rfl|rfl|rfl|rfl|rfl|rfl|rfl|rfl|rfl|rfl|rfl<;>simp[rinp,alw,lo,hi,spansL]<;>omega
set_option maxHeartbeats 4000000 in
theorem allowed_any(k:Int)(n:Nat)(h0:0≤k)(h1:k≤15)(hn:n≤9223372036854775807)(w:World):
 Calls Tryz.prog 128 #[.int .u8 k,.int .i64 n] w fun e w'=>e=.returned (.bool (alw k n))∧w=w':=by
 rcases kinds h0 (by omega) with rfl|rfl|rfl|rfl|rfl|rfl|rfl|rfl|rfl|rfl|rfl|rfl|rfl|rfl|rfl|rfl
 ·skip
  go_enter Tryz.func128,Tryz.ntmps128
  go_wp2
  go_ret
  exact⟨ret_bool (by simp[alw]),rfl⟩
 ·skip
  go_enter Tryz.func128,Tryz.ntmps128
  go_wp2
  go_ret
  exact⟨ret_bool (by simp[alw]),rfl⟩
 ·skip
  go_enter Tryz.func128,Tryz.ntmps128
  go_wp2
  go_ret
  exact⟨ret_bool (by simp[alw]),rfl⟩
 ·skip
  go_enter Tryz.func128,Tryz.ntmps128
  go_wp2
  go_ret
  exact⟨ret_bool (by simp[alw]),rfl⟩
 ·skip
  go_enter Tryz.func128,Tryz.ntmps128
  go_wp2
  go_ret
  exact⟨ret_bool (by simp[alw]),rfl⟩
 ·skip
  by_cases q1:2≤n
  ·by_cases q2:n≤16
   ·skip
    go_enter Tryz.func128,Tryz.ntmps128
    go_wp2
    go_ret
    exact⟨ret_bool (by simp[alw]<;>omega),rfl⟩
   ·skip
    go_enter Tryz.func128,Tryz.ntmps128
    go_wp2
    go_ret
    exact⟨ret_bool (by simp[alw]<;>omega),rfl⟩
  ·skip
   go_enter Tryz.func128,Tryz.ntmps128
   go_wp2
   go_ret
   exact⟨ret_bool (by simp[alw]<;>omega),rfl⟩
 ·skip
  by_cases q1:2≤n
  ·by_cases q2:n≤16
   ·skip
    go_enter Tryz.func128,Tryz.ntmps128
    go_wp2
    go_ret
    exact⟨ret_bool (by simp[alw]<;>omega),rfl⟩
   ·skip
    go_enter Tryz.func128,Tryz.ntmps128
    go_wp2
    go_ret
    exact⟨ret_bool (by simp[alw]<;>omega),rfl⟩
  ·skip
   go_enter Tryz.func128,Tryz.ntmps128
   go_wp2
   go_ret
   exact⟨ret_bool (by simp[alw]<;>omega),rfl⟩
 ·skip
  by_cases q1:2≤n
  ·by_cases q2:n≤16
   ·skip
    go_enter Tryz.func128,Tryz.ntmps128
    go_wp2
    go_ret
    exact⟨ret_bool (by simp[alw]<;>omega),rfl⟩
   ·skip
    go_enter Tryz.func128,Tryz.ntmps128
    go_wp2
    go_ret
    exact⟨ret_bool (by simp[alw]<;>omega),rfl⟩
  ·skip
   go_enter Tryz.func128,Tryz.ntmps128
   go_wp2
   go_ret
   exact⟨ret_bool (by simp[alw]<;>omega),rfl⟩
 ·skip
  by_cases q1:2≤n
  ·by_cases q2:n≤16
   ·skip
    go_enter Tryz.func128,Tryz.ntmps128
    go_wp2
    go_ret
    exact⟨ret_bool (by simp[alw]<;>omega),rfl⟩
   ·skip
    go_enter Tryz.func128,Tryz.ntmps128
    go_wp2
    go_ret
    exact⟨ret_bool (by simp[alw]<;>omega),rfl⟩
  ·skip
   go_enter Tryz.func128,Tryz.ntmps128
   go_wp2
   go_ret
   exact⟨ret_bool (by simp[alw]<;>omega),rfl⟩
 ·skip
  by_cases q1:2≤n
  ·by_cases q2:n≤16
   ·skip
    go_enter Tryz.func128,Tryz.ntmps128
    go_wp2
    go_ret
    exact⟨ret_bool (by simp[alw]<;>omega),rfl⟩
   ·skip
    go_enter Tryz.func128,Tryz.ntmps128
    go_wp2
    go_ret
    exact⟨ret_bool (by simp[alw]<;>omega),rfl⟩
  ·skip
   go_enter Tryz.func128,Tryz.ntmps128
   go_wp2
   go_ret
   exact⟨ret_bool (by simp[alw]<;>omega),rfl⟩
 ·skip
  by_cases q1:2≤n
  ·by_cases q2:n≤16
   ·skip
    go_enter Tryz.func128,Tryz.ntmps128
    go_wp2
    go_ret
    exact⟨ret_bool (by simp[alw]<;>omega),rfl⟩
   ·skip
    go_enter Tryz.func128,Tryz.ntmps128
    go_wp2
    go_ret
    exact⟨ret_bool (by simp[alw]<;>omega),rfl⟩
  ·skip
   go_enter Tryz.func128,Tryz.ntmps128
   go_wp2
   go_ret
   exact⟨ret_bool (by simp[alw]<;>omega),rfl⟩
 ·skip
  go_enter Tryz.func128,Tryz.ntmps128
  go_wp2
  go_ret
  exact⟨ret_bool (by simp[alw]),rfl⟩
 ·skip
  go_enter Tryz.func128,Tryz.ntmps128
  go_wp2
  go_ret
  exact⟨ret_bool (by simp[alw]),rfl⟩
 ·skip
  by_cases q1:1≤n
  ·by_cases q2:n≤16
   ·skip
    go_enter Tryz.func128,Tryz.ntmps128
    go_wp2
    go_ret
    exact⟨ret_bool (by simp[alw]<;>omega),rfl⟩
   ·skip
    go_enter Tryz.func128,Tryz.ntmps128
    go_wp2
    go_ret
    exact⟨ret_bool (by simp[alw]<;>omega),rfl⟩
  ·skip
   go_enter Tryz.func128,Tryz.ntmps128
   go_wp2
   go_ret
   exact⟨ret_bool (by simp[alw]<;>omega),rfl⟩
 ·skip
  go_enter Tryz.func128,Tryz.ntmps128
  go_wp2
  go_ret
  exact⟨ret_bool (by simp[alw]),rfl⟩
 ·skip
  go_enter Tryz.func128,Tryz.ntmps128
  go_wp2
  go_ret
  exact⟨ret_bool (by simp[alw]),rfl⟩
set_option maxHeartbeats 4000000 in
theorem inputs_r(k:Int)(n:Nat)(h0:0≤k)(h1:k≤15)(hn:n≤9223372036854775807)(w:World):
 Calls Tryz.prog 132 #[.int .u8 k,.int .i64 n] w fun e w'=>e=.returned (.bool (rinp k n))∧w=w':=by
 obtain⟨y,HY⟩:=named (rinp k n)
 rw[←HY.out]
 have HA:=Lib.hid (fun w=>allowed_any k n h0 h1 hn w)
 by_cases e0:k=0
 ·subst e0
  have hy:y=((n:Int)==0):=by rw[HY.out];simp[rinp]
  have HYY:=Lib.hid hy
  clear hy
  go_enter Tryz.func132,Tryz.ntmps132
  go_wp2
  go_ret
  exact⟨ret_bool HYY.out.symm,rfl⟩
 by_cases e1:k=15
 ·subst e1
  have hy:y=((n:Int)==0):=by rw[HY.out];simp[rinp]
  have HYY:=Lib.hid hy
  clear hy
  go_enter Tryz.func132,Tryz.ntmps132
  go_wp2
  go_ret
  exact⟨ret_bool HYY.out.symm,rfl⟩
 by_cases e2:k=14
 ·subst e2
  by_cases e3:n=1
  ·subst e3
   have hy:y=true:=by rw[HY.out];simp[rinp]
   have HYY:=Lib.hid hy
   clear hy
   go_enter Tryz.func132,Tryz.ntmps132
   go_wp2
   go_ret
   exact⟨ret_bool HYY.out.symm,rfl⟩
  ·have t1:((n:Int)==1)=false:=by rw[beq_eq_false_iff_ne];omega
   have hy:y=alw 14 n:=by rw[HY.out];simp[rinp,t1]
   have HYY:=Lib.hid hy
   clear hy
   obtain⟨z,HZ⟩:=named (alw 14 (n:Int))
   rw[←HZ.out]at HA HYY
   go_enter Tryz.func132,Tryz.ntmps132
   go_wp2_with (go_at_call 128;(with_reducible refine (HA.out _).mono ?_);rintro e w' ⟨rfl,rfl⟩)
   go_ret
   exact⟨ret_bool HYY.out.symm,rfl⟩
 ·have t0:(k==0)=false:=by rw[beq_eq_false_iff_ne];exact e0
  have t1:(k==15)=false:=by rw[beq_eq_false_iff_ne];exact e1
  have t2:(k==14)=false:=by rw[beq_eq_false_iff_ne];exact e2
  have hy:y=alw k n:=by rw[HY.out];simp[rinp,e0,e1,t2]
  have HYY:=Lib.hid hy
  clear hy
  obtain⟨z,HZ⟩:=named (alw k (n:Int))
  rw[←HZ.out]at HA HYY
  go_enter Tryz.func132,Tryz.ntmps132
  go_wp2_with (go_at_call 128;(with_reducible refine (HA.out _).mono ?_);rintro e w' ⟨rfl,rfl⟩)
  go_ret
  exact⟨ret_bool HYY.out.symm,rfl⟩
set_option maxHeartbeats 2000000 in
theorem rall_any(c:Ck)(l:List Int)(v s:Value)(w:World)(B B':Nat)(hB:B≤w.heap.size)(hB':B'≤w.heap.size)(hc:Cir w B v c)(hs:Is w B' s l):
 Calls Tryz.prog 107 #[v,s] w fun e w'=>e=.returned (.bool (areIdx c.nodes.length l))∧Below w.heap.size w w':=by
 obtain⟨y,HY⟩:=named (areIdx c.nodes.length l)
 rw[←HY.out]
 have HIS:=Lib.hid (fun(x:Int) (w1:World) (hb:Below w.heap.size w w1)=>refIs_any c x v w1 B (hc.below (hb.mono hB)))
 obtain⟨v0,v1,v2,v3,rfl,hns,hss,hms,hos⟩:=hc
 obtain⟨A0,b0,o0,c0,rfl,-⟩:=hns
 obtain⟨A1,b1,o1,c1,rfl,-⟩:=hss
 obtain⟨A2,b2,o2,c2,rfl,-⟩:=hms
 obtain⟨A3,b3,o3,c3,rfl,-⟩:=hos
 obtain⟨A4,b4,o4,c4,rfl,hA4,-,hm4,hc4⟩:=hs.opens
 have HA4:=Lib.hid hA4
 have HC4:=Lib.hid hc4
 unfold maxLen at hm4
 clear hA4 hc4 hs
 obtain⟨n,HN⟩:=named c.nodes.length
 rw[←HN.out]at HIS HY
 rw[←HN.out]
 generalize c.names.length=n1 at HIS ⊢
 generalize c.mems.length=n2 at HIS ⊢
 generalize c.outs.length=n3 at HIS ⊢
 obtain⟨m,HM⟩:=named l.length
 rw[←HM.out]at HA4 HC4 hm4
 rw[←HM.out]
 obtain⟨W1,HW1⟩:=named (w.alloc (.cells #[.slice A0 n c0,.slice A1 n1 c1,.slice A2 n2 c2,.slice A3 n3 c3] 39))
 have hb1:Below w.heap.size w W1:=by rw[HW1.out];exact below_new (Below.refl _ _) _
 have hfa:Fr W1 w.heap.size 39 [.slice A0 n c0,.slice A1 n1 c1,.slice A2 n2 c2,.slice A3 n3 c3]:=by rw[HW1.out];exact Fr.made _ _ _ rfl
 have HFA:=Lib.hid hfa
 have HB1:=Lib.hid hb1
 clear hfa hb1
 go_enter Tryz.func107,Tryz.ntmps107
 go_wp2
 rw[←HW1.out]
 go_loopw [5] (fun i wr=>Below W1.heap.size W1 wr∧∃k:Nat,k≤m∧i=.int .i64 k∧∀j,j<k→isIdx n (l.getD j 0)=true) (fun i _=>m-(intOf i).toNat)
 case atStart=>exact⟨Below.refl _ _,0,Nat.zero_le _,rfl,fun j hj=>absurd hj (by omega)⟩
 case round=>
  obtain⟨hbr,k,hk,rfl,hno⟩:=hrel
  have HNO:=Lib.hid hno
  have HBR:=Lib.hid hbr
  clear hno
  by_cases hlt:k<m
  ·obtain rfl:=HA4.out (by omega)
   obtain⟨hlb,hx⟩:=HC4.out k hlt
   obtain⟨xv,HXV⟩:=named (l.getD k 0)
   rw[←HXV.out]at hx
   have ca0:∀xx:Beh wr,xx.x.cell? ⟨w.heap.size,0,none⟩=some (.slice A0 n c0):=fun xx=>(HFA.out.below (joinB HBR.out xx.below)).cell 0
   have ca1:∀xx:Beh wr,xx.x.cell? ⟨w.heap.size,1,none⟩=some (.slice A1 n1 c1):=fun xx=>(HFA.out.below (joinB HBR.out xx.below)).cell 1
   have ca2:∀xx:Beh wr,xx.x.cell? ⟨w.heap.size,2,none⟩=some (.slice A2 n2 c2):=fun xx=>(HFA.out.below (joinB HBR.out xx.below)).cell 2
   have ca3:∀xx:Beh wr,xx.x.cell? ⟨w.heap.size,3,none⟩=some (.slice A3 n3 c3):=fun xx=>(HFA.out.below (joinB HBR.out xx.below)).cell 3
   have cx:∀xx:Beh wr,xx.x.cell? ⟨b4,o4+k,none⟩=some (.int .i64 xv):=fun xx=>((joinB HB1.out (joinB HBR.out xx.below)).cell (p:=⟨b4,o4+k,none⟩) (by show b4<w.heap.size;omega)).trans hx
   have HCL:Hid (∀xx:Beh wr,Calls Tryz.prog 108 #[.agg #[.slice A0 n c0,.slice A1 n1 c1,.slice A2 n2 c2,.slice A3 n3 c3],.int .i64 xv] xx.x fun e w'=>e=.returned (.bool (isIdx n xv))∧Below wr.heap.size wr w'):=Lib.hid fun xx=>rel (HIS.out xv xx.x (joinB HB1.out (joinB HBR.out xx.below))) xx.below
   clear hx hbr
   cases hv:isIdx n xv
   ·have hy:y=false:=by
     rw[HY.out]
     unfold areIdx
     rw[anyP_yes k (by rw[←HM.out];exact hlt) (by rw[←HXV.out,hv];rfl)]
     rfl
    have HYF:=Lib.hid hy
    rw[hv]at HCL
    clear hy
    go_upto_region 4 with (fail)
    refine region_class (w0:=wr) (Below.refl _ _) (by kernel_rfl) (by kernel_rfl) ?_
    repeat (first
     |go_big_quiet_skip
     |(go_big_quiet_want;go_big_quiet_op;first
      |go_big_quiet_on
      |(apply Exists.intro
        refine⟨fun xx=>?_,?_⟩
        focus first
         |(go_at_call 108;with_reducible exact beh_of (HCL.out xx))
        go_big_quiet_on)))
    refine wpQuiet_nil ?_
    rintro w9 ⟨⟨wz,hz⟩,rfl⟩
    go_wp2
    go_ret
    exact⟨ret_bool (by rw[HYF.out]),joinB HB1.out (joinB HBR.out hz)⟩
   ·rw[hv]at HCL
    have HV:=Lib.hid hv
    go_upto_region 4 with (fail)
    refine region_class (w0:=wr) (Below.refl _ _) (by kernel_rfl) (by kernel_rfl) ?_
    repeat (first
     |go_big_quiet_skip
     |(go_big_quiet_want;go_big_quiet_op;first
      |go_big_quiet_on
      |(apply Exists.intro
        refine⟨fun xx=>?_,?_⟩
        focus first
         |(go_at_call 108;with_reducible exact beh_of (HCL.out xx))
        go_big_quiet_on)))
    refine wpQuiet_nil ?_
    rintro w9 ⟨⟨wz,hz⟩,rfl⟩
    have HBZ:=Lib.hid (joinB HBR.out hz)
    clear hz ca0 ca1 ca2 ca3 cx hv
    go_wp2
    go_roundw
    case rel=>
     refine⟨HBZ.out,k+1,by omega,by go_num,fun j hj=>?_⟩
     by_cases hjk:j=k
     ·rw[hjk,←HXV.out];exact HV.out
     ·exact HNO.out j (by omega)
    case measure=>simp[intOf];omega
  ·obtain rfl:m=k:=by omega
   have hy:y=true:=by
    rw[HY.out]
    unfold areIdx
    rw[anyP_no (fun j hj=>by rw[HNO.out j (by rw[HM.out];exact hj)];rfl)]
    rfl
   have HYF:=Lib.hid hy
   clear hy
   go_wp2
   go_ret
   exact⟨ret_bool (by rw[HYF.out]),joinB HB1.out HBR.out⟩
structure Fit(x:Ck):Prop where
 n:x.nodes.length≤maxLen
 s:x.names.length≤maxLen
 m:x.mems.length≤maxLen
 o:x.outs.length≤maxLen
 k:∀i,i<x.nodes.length→0≤(x.nodes.getD i default).kind∧(x.nodes.getD i default).kind≤255∧(x.nodes.getD i default).ins.length≤maxLen
 t:∀i,i<x.names.length→(x.names.getD i ByteArray.empty).size≤maxLen
 a:∀i,i<x.mems.length→(x.mems.getD i default).addr.length≤maxLen∧(x.mems.getD i default).data.length≤maxLen
theorem Arr.len{α:Type}{d:α}{sz:Nat}{R:World→Nat→Nat→Nat→α→Prop}{w:World}{B:Nat}{v:Value}{l:List α}(h:Arr d sz R w B v l):l.length≤maxLen:=by
 obtain⟨_,_,_,_,-,-,-,h4,-⟩:=h
 exact h4
theorem Cir.fit{w:World}{B:Nat}{v:Value}{x:Ck}(h:Cir w B v x):Fit x:=by
 obtain⟨v0,v1,v2,v3,-,h1,h2,h3,h4⟩:=h
 refine⟨Arr.len h1,Arr.len h2,Arr.len h3,Arr.len h4,fun i hi=>?_,fun i hi=>?_,fun i hi=>?_⟩
 ·obtain⟨A,b,o,c,-,-,-,-,hc⟩:=h1
  obtain⟨-,s,-,-,-,-,hi',hk⟩:=hc i hi
  exact⟨hk.1,hk.2,Arr.len hi'⟩
 ·obtain⟨A,b,o,c,-,-,-,-,hc⟩:=h2
  exact (hc i hi).2.2
 ·obtain⟨A,b,o,c,-,-,-,-,hc⟩:=h3
  obtain⟨-,s,t,-,-,-,ha,hd⟩:=hc i hi
  exact⟨Arr.len ha,Arr.len hd⟩
def ownV(x:Ck)(g0 g1 g2 g3:Nat):Value:=
 .agg #[.slice (some ⟨g0,0,none⟩) x.nodes.length x.nodes.length,.slice (some ⟨g1,0,none⟩) x.names.length x.names.length,.slice (some ⟨g2,0,none⟩) x.mems.length x.mems.length,.slice (some ⟨g3,0,none⟩) x.outs.length x.outs.length]
section
variable {x:Ck} {G g0 g1 g2 g3:Nat} {h ha hd:Nat→Nat} {w w':World}
theorem getD_set{α:Type}(l:List α)(k i:Nat)(a d:α)(hk:k<l.length):(l.set k a).getD i d=if i=k then a else l.getD i d:=by
 rw[List.getD_eq_getElem?_getD,List.getD_eq_getElem?_getD,List.getElem?_set]
 by_cases e:k=i
 ·subst e;simp[hk]
 ·rw[if_neg e,if_neg (fun q=>e q.symm)]
end
end Go.Proofs.YtemjmfpcopfdbaaGreatDoor
