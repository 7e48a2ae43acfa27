/- . -/
import Derived.Test.YtjdjcaobkmpoeaaDoorM04
import Derived.Test.YtjdjcaobkmpoeaaDoorM12
import Derived.Test.YtjdjcaobkmpoeaaDoorM19
import Derived.Deep.DeepCutAuto
import Derived.Deep.CutBlock
namespace Go.Proofs.YtjdjcaobkmpoeaaDoor
open Go.RowKit
def alw(k n:Int):Bool:=if k=1∨k=2 then n==0 else if k=3∨k=4 then n==1 else if k=11 then n==3 else if k=12 then n==2 else if k=13 then decide (1≤n)&&decide (n≤16) else decide (5≤k)&&decide (k≤10)&&decide (2≤n)&&decide (n≤16)
def rinp(k n:Int):Bool:=if k=0∨k=15 then n==0 else (k==14&&n==1)||alw k n
theorem rinp_iff{k n:Int}(h0:0≤k)(h1:¬15<k)(hn:0≤n):rinp k n=true↔lo k≤n∧n≤hi k:=by
 rcases kinds h0 h1 with rfl|rfl|rfl|rfl|rfl|rfl|rfl|rfl|rfl|rfl|rfl|rfl|rfl|rfl|rfl|rfl<;>simp[rinp,alw,lo,hi,spansL]<;>omega
set_option maxHeartbeats 4000000 in
theorem allowed_any(k:Int)(n:Nat)(h0:0≤k)(h1:k≤15)(hn:n≤9223372036854775807)(w:World):
 Calls Tryd.prog 93 #[.int .u8 k,.int .i64 n] w fun e w'=>e=.returned (.bool (alw k n))∧w=w':=by
 rcases kinds h0 (by omega) with rfl|rfl|rfl|rfl|rfl|rfl|rfl|rfl|rfl|rfl|rfl|rfl|rfl|rfl|rfl|rfl
 ·skip
  go_enter Tryd.func93,Tryd.ntmps93
  go_wp2
  go_ret
  exact⟨ret_bool (by simp[alw]),rfl⟩
 ·skip
  go_enter Tryd.func93,Tryd.ntmps93
  go_wp2
  go_ret
  exact⟨ret_bool (by simp[alw]),rfl⟩
 ·skip
  go_enter Tryd.func93,Tryd.ntmps93
  go_wp2
  go_ret
  exact⟨ret_bool (by simp[alw]),rfl⟩
 ·skip
  go_enter Tryd.func93,Tryd.ntmps93
  go_wp2
  go_ret
  exact⟨ret_bool (by simp[alw]),rfl⟩
 ·skip
  go_enter Tryd.func93,Tryd.ntmps93
  go_wp2
  go_ret
  exact⟨ret_bool (by simp[alw]),rfl⟩
 ·skip
  by_cases q1:2≤n
  ·by_cases q2:n≤16
   ·skip
    go_enter Tryd.func93,Tryd.ntmps93
    go_wp2
    go_ret
    exact⟨ret_bool (by simp[alw]<;>omega),rfl⟩
   ·skip
    go_enter Tryd.func93,Tryd.ntmps93
    go_wp2
    go_ret
    exact⟨ret_bool (by simp[alw]<;>omega),rfl⟩
  ·skip
   go_enter Tryd.func93,Tryd.ntmps93
   go_wp2
   go_ret
   exact⟨ret_bool (by simp[alw]<;>omega),rfl⟩
 ·skip
  by_cases q1:2≤n
  ·by_cases q2:n≤16
   ·skip
    go_enter Tryd.func93,Tryd.ntmps93
    go_wp2
    go_ret
    exact⟨ret_bool (by simp[alw]<;>omega),rfl⟩
   ·skip
    go_enter Tryd.func93,Tryd.ntmps93
    go_wp2
    go_ret
    exact⟨ret_bool (by simp[alw]<;>omega),rfl⟩
  ·skip
   go_enter Tryd.func93,Tryd.ntmps93
   go_wp2
   go_ret
   exact⟨ret_bool (by simp[alw]<;>omega),rfl⟩
 ·skip
  by_cases q1:2≤n
  ·by_cases q2:n≤16
   ·skip
    go_enter Tryd.func93,Tryd.ntmps93
    go_wp2
    go_ret
    exact⟨ret_bool (by simp[alw]<;>omega),rfl⟩
   ·skip
    go_enter Tryd.func93,Tryd.ntmps93
    go_wp2
    go_ret
    exact⟨ret_bool (by simp[alw]<;>omega),rfl⟩
  ·skip
   go_enter Tryd.func93,Tryd.ntmps93
   go_wp2
   go_ret
   exact⟨ret_bool (by simp[alw]<;>omega),rfl⟩
 ·skip
  by_cases q1:2≤n
  ·by_cases q2:n≤16
   ·skip
    go_enter Tryd.func93,Tryd.ntmps93
    go_wp2
    go_ret
    exact⟨ret_bool (by simp[alw]<;>omega),rfl⟩
   ·skip
    go_enter Tryd.func93,Tryd.ntmps93
    go_wp2
    go_ret
    exact⟨ret_bool (by simp[alw]<;>omega),rfl⟩
  ·skip
   go_enter Tryd.func93,Tryd.ntmps93
   go_wp2
   go_ret
   exact⟨ret_bool (by simp[alw]<;>omega),rfl⟩
 ·skip
  by_cases q1:2≤n
  ·by_cases q2:n≤16
   ·skip
    go_enter Tryd.func93,Tryd.ntmps93
    go_wp2
    go_ret
    exact⟨ret_bool (by simp[alw]<;>omega),rfl⟩
   ·skip
    go_enter Tryd.func93,Tryd.ntmps93
    go_wp2
    go_ret
    exact⟨ret_bool (by simp[alw]<;>omega),rfl⟩
  ·skip
   go_enter Tryd.func93,Tryd.ntmps93
   go_wp2
   go_ret
   exact⟨ret_bool (by simp[alw]<;>omega),rfl⟩
 ·skip
  by_cases q1:2≤n
  ·by_cases q2:n≤16
   ·skip
    go_enter Tryd.func93,Tryd.ntmps93
    go_wp2
    go_ret
    exact⟨ret_bool (by simp[alw]<;>omega),rfl⟩
   ·skip
    go_enter Tryd.func93,Tryd.ntmps93
    go_wp2
    go_ret
    exact⟨ret_bool (by simp[alw]<;>omega),rfl⟩
  ·skip
   go_enter Tryd.func93,Tryd.ntmps93
   go_wp2
   go_ret
   exact⟨ret_bool (by simp[alw]<;>omega),rfl⟩
 ·skip
  go_enter Tryd.func93,Tryd.ntmps93
  go_wp2
  go_ret
  exact⟨ret_bool (by simp[alw]),rfl⟩
 ·skip
  go_enter Tryd.func93,Tryd.ntmps93
  go_wp2
  go_ret
  exact⟨ret_bool (by simp[alw]),rfl⟩
 ·skip
  by_cases q1:1≤n
  ·by_cases q2:n≤16
   ·skip
    go_enter Tryd.func93,Tryd.ntmps93
    go_wp2
    go_ret
    exact⟨ret_bool (by simp[alw]<;>omega),rfl⟩
   ·skip
    go_enter Tryd.func93,Tryd.ntmps93
    go_wp2
    go_ret
    exact⟨ret_bool (by simp[alw]<;>omega),rfl⟩
  ·skip
   go_enter Tryd.func93,Tryd.ntmps93
   go_wp2
   go_ret
   exact⟨ret_bool (by simp[alw]<;>omega),rfl⟩
 ·skip
  go_enter Tryd.func93,Tryd.ntmps93
  go_wp2
  go_ret
  exact⟨ret_bool (by simp[alw]),rfl⟩
 ·skip
  go_enter Tryd.func93,Tryd.ntmps93
  go_wp2
  go_ret
  exact⟨ret_bool (by simp[alw]),rfl⟩
set_option maxHeartbeats 4000000 in
theorem inputs_r(k:Int)(n:Nat)(h0:0≤k)(h1:k≤15)(hn:n≤9223372036854775807)(w:World):
 Calls Tryd.prog 73 #[.int .u8 k,.int .i64 n] w fun e w'=>e=.returned (.bool (rinp k n))∧w=w':=by
 obtain⟨y,HY⟩:=named (rinp k n)
 rw[←HY.out]
 have HA:=Lib.hid (fun w=>allowed_any k n h0 h1 hn w)
 by_cases e0:k=0
 ·subst e0
  have hy:y=((n:Int)==0):=by rw[HY.out];simp[rinp]
  have HYY:=Lib.hid hy
  clear hy
  go_enter Tryd.func73,Tryd.ntmps73
  go_wp2
  go_ret
  exact⟨ret_bool HYY.out.symm,rfl⟩
 by_cases e1:k=15
 ·subst e1
  have hy:y=((n:Int)==0):=by rw[HY.out];simp[rinp]
  have HYY:=Lib.hid hy
  clear hy
  go_enter Tryd.func73,Tryd.ntmps73
  go_wp2
  go_ret
  exact⟨ret_bool HYY.out.symm,rfl⟩
 by_cases e2:k=14
 ·subst e2
  by_cases e3:n=1
  ·subst e3
   have hy:y=true:=by rw[HY.out];simp[rinp]
   have HYY:=Lib.hid hy
   clear hy
   go_enter Tryd.func73,Tryd.ntmps73
   go_wp2
   go_ret
   exact⟨ret_bool HYY.out.symm,rfl⟩
  ·have t1:((n:Int)==1)=false:=by rw[beq_eq_false_iff_ne];omega
   have hy:y=alw 14 n:=by rw[HY.out];simp[rinp,t1]
   have HYY:=Lib.hid hy
   clear hy
   obtain⟨z,HZ⟩:=named (alw 14 (n:Int))
   rw[←HZ.out]at HA HYY
   go_enter Tryd.func73,Tryd.ntmps73
   go_wp2_with (go_at_call 93;(with_reducible refine (HA.out _).mono ?_);rintro e w' ⟨rfl,rfl⟩)
   go_ret
   exact⟨ret_bool HYY.out.symm,rfl⟩
 ·have t0:(k==0)=false:=by rw[beq_eq_false_iff_ne];exact e0
  have t1:(k==15)=false:=by rw[beq_eq_false_iff_ne];exact e1
  have t2:(k==14)=false:=by rw[beq_eq_false_iff_ne];exact e2
  have hy:y=alw k n:=by rw[HY.out];simp[rinp,e0,e1,t2]
  have HYY:=Lib.hid hy
  clear hy
  obtain⟨z,HZ⟩:=named (alw k (n:Int))
  rw[←HZ.out]at HA HYY
  go_enter Tryd.func73,Tryd.ntmps73
  go_wp2_with (go_at_call 93;(with_reducible refine (HA.out _).mono ?_);rintro e w' ⟨rfl,rfl⟩)
  go_ret
  exact⟨ret_bool HYY.out.symm,rfl⟩
set_option maxHeartbeats 2000000 in
theorem rall_any(c:Ck)(l:List Int)(v s:Value)(w:World)(B B':Nat)(hB:B≤w.heap.size)(hB':B'≤w.heap.size)(hc:Cir w B v c)(hs:Is w B' s l):
 Calls Tryd.prog 48 #[v,s] w fun e w'=>e=.returned (.bool (areIdx c.nodes.length l))∧Below w.heap.size w w':=by
 obtain⟨y,HY⟩:=named (areIdx c.nodes.length l)
 rw[←HY.out]
 have HIS:=Lib.hid (fun(x:Int) (w1:World) (hb:Below w.heap.size w w1)=>refIs_any c x v w1 B (hc.below (hb.mono hB)))
 obtain⟨v0,v1,v2,v3,rfl,hns,hss,hms,hos⟩:=hc
 obtain⟨A0,b0,o0,c0,rfl,-⟩:=hns
 obtain⟨A1,b1,o1,c1,rfl,-⟩:=hss
 obtain⟨A2,b2,o2,c2,rfl,-⟩:=hms
 obtain⟨A3,b3,o3,c3,rfl,-⟩:=hos
 obtain⟨A4,b4,o4,c4,rfl,hA4,-,hm4,hc4⟩:=hs.opens
 have HA4:=Lib.hid hA4
 have HC4:=Lib.hid hc4
 unfold maxLen at hm4
 clear hA4 hc4 hs
 obtain⟨n,HN⟩:=named c.nodes.length
 rw[←HN.out]at HIS HY
 rw[←HN.out]
 generalize c.names.length=n1 at HIS ⊢
 generalize c.mems.length=n2 at HIS ⊢
 generalize c.outs.length=n3 at HIS ⊢
 obtain⟨m,HM⟩:=named l.length
 rw[←HM.out]at HA4 HC4 hm4
 rw[←HM.out]
 obtain⟨W1,HW1⟩:=named (w.alloc (.cells #[.slice A0 n c0,.slice A1 n1 c1,.slice A2 n2 c2,.slice A3 n3 c3] 27))
 have hb1:Below w.heap.size w W1:=by rw[HW1.out];exact below_new (Below.refl _ _) _
 have hfa:Fr W1 w.heap.size 27 [.slice A0 n c0,.slice A1 n1 c1,.slice A2 n2 c2,.slice A3 n3 c3]:=by rw[HW1.out];exact Fr.made _ _ _ rfl
 have HFA:=Lib.hid hfa
 have HB1:=Lib.hid hb1
 clear hfa hb1
 go_enter Tryd.func48,Tryd.ntmps48
 go_wp2
 rw[←HW1.out]
 go_loopw [5] (fun i wr=>Below W1.heap.size W1 wr∧∃k:Nat,k≤m∧i=.int .i64 k∧∀j,j<k→isIdx n (l.getD j 0)=true) (fun i _=>m-(intOf i).toNat)
 case atStart=>exact⟨Below.refl _ _,0,Nat.zero_le _,rfl,fun j hj=>absurd hj (by omega)⟩
 case round=>
  obtain⟨hbr,k,hk,rfl,hno⟩:=hrel
  have HNO:=Lib.hid hno
  have HBR:=Lib.hid hbr
  clear hno
  by_cases hlt:k<m
  ·obtain rfl:=HA4.out (by omega)
   obtain⟨hlb,hx⟩:=HC4.out k hlt
   obtain⟨xv,HXV⟩:=named (l.getD k 0)
   rw[←HXV.out]at hx
   have ca0:∀xx:Beh wr,xx.x.cell? ⟨w.heap.size,0,none⟩=some (.slice A0 n c0):=fun xx=>(HFA.out.below (joinB HBR.out xx.below)).cell 0
   have ca1:∀xx:Beh wr,xx.x.cell? ⟨w.heap.size,1,none⟩=some (.slice A1 n1 c1):=fun xx=>(HFA.out.below (joinB HBR.out xx.below)).cell 1
   have ca2:∀xx:Beh wr,xx.x.cell? ⟨w.heap.size,2,none⟩=some (.slice A2 n2 c2):=fun xx=>(HFA.out.below (joinB HBR.out xx.below)).cell 2
   have ca3:∀xx:Beh wr,xx.x.cell? ⟨w.heap.size,3,none⟩=some (.slice A3 n3 c3):=fun xx=>(HFA.out.below (joinB HBR.out xx.below)).cell 3
   have cx:∀xx:Beh wr,xx.x.cell? ⟨b4,o4+k,none⟩=some (.int .i64 xv):=fun xx=>((joinB HB1.out (joinB HBR.out xx.below)).cell (p:=⟨b4,o4+k,none⟩) (by show b4<w.heap.size;omega)).trans hx
   have HCL:Hid (∀xx:Beh wr,Calls Tryd.prog 8 #[.agg #[.slice A0 n c0,.slice A1 n1 c1,.slice A2 n2 c2,.slice A3 n3 c3],.int .i64 xv] xx.x fun e w'=>e=.returned (.bool (isIdx n xv))∧Below wr.heap.size wr w'):=Lib.hid fun xx=>rel (HIS.out xv xx.x (joinB HB1.out (joinB HBR.out xx.below))) xx.below
   clear hx hbr
   cases hv:isIdx n xv
   ·have hy:y=false:=by
     rw[HY.out]
     unfold areIdx
     rw[anyP_yes k (by rw[←HM.out];exact hlt) (by rw[←HXV.out,hv];rfl)]
     rfl
    have HYF:=Lib.hid hy
    rw[hv]at HCL
    clear hy
    go_upto_region 4 with (fail)
    refine region_class (w0:=wr) (Below.refl _ _) (by kernel_rfl) (by kernel_rfl) ?_
    repeat (first
     |go_big_quiet_skip
     |(go_big_quiet_want;go_big_quiet_op;first
      |go_big_quiet_on
      |(apply Exists.intro
        refine⟨fun xx=>?_,?_⟩
        focus first
         |(go_at_call 8;with_reducible exact beh_of (HCL.out xx))
        go_big_quiet_on)))
    refine wpQuiet_nil ?_
    rintro w9 ⟨⟨wz,hz⟩,rfl⟩
    go_wp2
    go_ret
    exact⟨ret_bool (by rw[HYF.out]),joinB HB1.out (joinB HBR.out hz)⟩
   ·rw[hv]at HCL
    have HV:=Lib.hid hv
    go_upto_region 4 with (fail)
    refine region_class (w0:=wr) (Below.refl _ _) (by kernel_rfl) (by kernel_rfl) ?_
    repeat (first
     |go_big_quiet_skip
     |(go_big_quiet_want;go_big_quiet_op;first
      |go_big_quiet_on
      |(apply Exists.intro
        refine⟨fun xx=>?_,?_⟩
        focus first
         |(go_at_call 8;with_reducible exact beh_of (HCL.out xx))
        go_big_quiet_on)))
    refine wpQuiet_nil ?_
    rintro w9 ⟨⟨wz,hz⟩,rfl⟩
    have HBZ:=Lib.hid (joinB HBR.out hz)
    clear hz ca0 ca1 ca2 ca3 cx hv
    go_wp2
    go_roundw
    case rel=>
     refine⟨HBZ.out,k+1,by omega,by go_num,fun j hj=>?_⟩
     by_cases hjk:j=k
     ·rw[hjk,←HXV.out];exact HV.out
     ·exact HNO.out j (by omega)
    case measure=>simp[intOf];omega
  ·obtain rfl:m=k:=by omega
   have hy:y=true:=by
    rw[HY.out]
    unfold areIdx
    rw[anyP_no (fun j hj=>by rw[HNO.out j (by rw[HM.out];exact hj)];rfl)]
    rfl
   have HYF:=Lib.hid hy
   clear hy
   go_wp2
   go_ret
   exact⟨ret_bool (by rw[HYF.out]),joinB HB1.out HBR.out⟩
end Go.Proofs.YtjdjcaobkmpoeaaDoor
