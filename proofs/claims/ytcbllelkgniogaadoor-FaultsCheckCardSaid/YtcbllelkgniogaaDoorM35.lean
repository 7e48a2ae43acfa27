/- The texts Cbr Lb5 Fo2. -/
import Derived.Test.YtcbllelkgniogaaDoorM34
import Derived.Test.YtcbllelkgniogaaDoorM32
import Derived.Test.YtcbllelkgniogaaDoorM30
import Derived.Test.YtcbllelkgniogaaDoorM18
import Derived.Test.YtcbllelkgniogaaDoorM15
import Derived.Test.YtcbllelkgniogaaDoorM17
import Derived.Test.YtcbllelkgniogaaDoorM09
import Derived.Deep.AppendLies
import Derived.Deep.Upon
import Derived.Test.YtcbllelkgniogaaDoorM29
import Derived.Sort.CutIn
import Derived.Test.YtcbllelkgniogaaDoorM22
import Derived.Test.YtcbllelkgniogaaDoorM21
namespace Go.Proofs.YtcbllelkgniogaaDoor
open Go.RowKit
attribute [local go_sem] Oper.semAt_some
def cbF(c:Ck)(md a pn vl ot:Int):Int:=
 if pn≠ -1∨¬(0≤ot∧ot<(c.nodes.length:Int))∨a=ot then 1
 else if (md=2∧ot<a)∨((hiB md:Nat):Int)<vl then 1
 else if (triC c a.toNat||triC c ot.toNat)=true then 7
 else if relC c a.toNat ot.toNat=true then 6 else 0
set_option maxHeartbeats 8000000 in
theorem cbr_any{c:Ck}{n:Nat}{L:List Int}(G:G5 c n L)(A0 A1 A2 A3:Option Addr)(n1 n2 n3 c0 c1 c2 c3:Nat)(md pn vl ot:Int)(a:Nat)(w:World)(hT:Tabs w)(hc:Cir w w.heap.size (.agg #[.slice A0 n c0,.slice A1 n1 c1,.slice A2 n2 c2,.slice A3 n3 c3]) c)(hmd:md=2∨md=3)(han:a<n):
 Calls Tryd.prog 18 #[.agg #[.slice A0 n c0,.slice A1 n1 c1,.slice A2 n2 c2,.slice A3 n3 c3],.agg #[.int .u8 md,.int .i64 (a:Int),.int .i64 pn,.int .u8 vl,.int .i64 ot]] w fun e w'=>e=.returned (.int .i64 (cbF c md (a:Int) pn vl ot))∧BelW w w':=by
 obtain⟨W1,HW1⟩:=named ((w.alloc (.cells #[.slice A0 n c0,.slice A1 n1 c1,.slice A2 n2 c2,.slice A3 n3 c3] 39)).alloc (.cells #[.int .u8 md,.int .i64 (a:Int),.int .i64 pn,.int .u8 vl,.int .i64 ot] 33))
 have hb1:BelW w W1:=by rw[HW1.out];exact joinB (below_new (Below.refl _ _) _) (below_new (Below.refl _ _) _)
 have hfc:Fr W1 w.heap.size 39 [.slice A0 n c0,.slice A1 n1 c1,.slice A2 n2 c2,.slice A3 n3 c3]:=by rw[HW1.out];exact (Fr.made _ _ _ rfl).alloc _
 have hfl:Fr W1 (w.heap.size+1) 33 [.int .u8 md,.int .i64 (a:Int),.int .i64 pn,.int .u8 vl,.int .i64 ot]:=by rw[HW1.out];exact Fr.made _ _ _ (by simp)
 have HR:Hid (∀W,BelW W1 W→W.cell? ⟨w.heap.size,0,none⟩=some (.slice A0 n c0)∧W.cell? ⟨w.heap.size,1,none⟩=some (.slice A1 n1 c1)∧W.cell? ⟨w.heap.size,2,none⟩=some (.slice A2 n2 c2)∧W.cell? ⟨w.heap.size,3,none⟩=some (.slice A3 n3 c3)∧W.cell? ⟨w.heap.size+1,0,none⟩=some (.int .u8 md)∧W.cell? ⟨w.heap.size+1,1,none⟩=some (.int .i64 (a:Int))∧W.cell? ⟨w.heap.size+1,2,none⟩=some (.int .i64 pn)∧W.cell? ⟨w.heap.size+1,3,none⟩=some (.int .u8 vl)∧W.cell? ⟨w.heap.size+1,4,none⟩=some (.int .i64 ot)):=Lib.hid fun W h=>⟨(hfc.below h).cell 0,(hfc.below h).cell 1,(hfc.below h).cell 2,(hfc.below h).cell 3,(hfl.below h).cell 0,(hfl.below h).cell 1,(hfl.below h).cell 2,(hfl.below h).cell 3,(hfl.below h).cell 4⟩
 have HB1:=Lib.hid hb1
 have hce:∀V,BelW W1 V→Cir V V.heap.size (.agg #[.slice A0 n c0,.slice A1 n1 c1,.slice A2 n2 c2,.slice A3 n3 c3]) c:=fun V h=>(hc.below (joinB hb1 h)).more (Below.size (joinB hb1 h))
 have HNX:Hid (∀V,BelW W1 V→Calls Tryd.prog 34 #[.agg #[.slice A0 n c0,.slice A1 n1 c1,.slice A2 n2 c2,.slice A3 n3 c3],.int .i64 ot] V fun e w'=>e=.returned (.bool (decide (0≤ot∧ot<(n:Int))))∧BelW V w'):=Lib.hid fun V _=>isNode_any A0 A1 A2 A3 n n1 n2 n3 c0 c1 c2 c3 ot V
 have HTRI:Hid (∀V k,BelW W1 V→k<n→Calls Tryd.prog 36 #[.agg #[.slice A0 n c0,.slice A1 n1 c1,.slice A2 n2 c2,.slice A3 n3 c3],.int .i64 (k:Int)] V fun e w'=>e=.returned (.bool (triC c k))∧BelW V w'):=Lib.hid fun V k h hk=>isTri_any c A0 A1 A2 A3 n n1 n2 n3 c0 c1 c2 c3 k V (hce V h) hk
 have HHI:Hid (∀xx:Beh W1,Calls Tryd.prog 35 #[.int .u8 md] xx.x fun e w'=>e=.returned (.int .u8 ((hiB md:Nat):Int))∧Below W1.heap.size W1 w'):=Lib.hid fun xx=>(highest_any md xx.x).mono fun e w' ⟨h1,h2⟩=>⟨by rw[h1];unfold hiB;split<;>rfl,h2▸xx.below⟩
 have HRELX:Hid (∀(b:Nat),b<n→∀V,BelW W1 V→Calls Tryd.prog 37 #[.agg #[.slice A0 n c0,.slice A1 n1 c1,.slice A2 n2 c2,.slice A3 n3 c3],.int .i64 (a:Int),.int .i64 (b:Int)] V fun e w'=>e=.returned (.bool (relC c a b))∧BelW V w'):=Lib.hid fun b hb V h=>(isRelated_any G A0 A1 A2 A3 n1 n2 n3 c0 c1 c2 c3 V (hT.below (joinB hb1 h)) (hce V h) a b han hb).mono fun e w' ⟨h1,h2⟩=>⟨by rw[h1];unfold relC;rw[G.len],h2⟩
 obtain⟨v,HV⟩:=named (cbF c md (a:Int) pn vl ot)
 have hv:=HV.out
 rw[←HV.out]
 unfold cbF at hv
 rw[G.len]at hv
 clear HV hb1 hfc hfl hc hce hT G
 go_enter Tryd.func18,Tryd.ntmps18
 go_upto_region 1 with (fail)
 rw[←HW1.out]
 obtain⟨x0,x1,x2,x3,x4,x5,x6,x7,x8⟩:=HR.out W1 (Below.refl _ _)
 go_quiet (fail)
 rename_i nq
 have HBQ:Hid (BelW W1 (W1.drewN nq)):=Lib.hid (below_drewN (Below.refl _ _) _)
 clear x0 x1 x2 x3 x4 x5 x6 x7 x8
 obtain⟨x0,x1,x2,x3,x4,x5,x6,x7,x8⟩:=HR.out (W1.drewN nq) HBQ.out
 by_cases hpn:pn= -1
 ·have t0:(pn != -1)=false:=by simp[hpn]
  by_cases hot:0≤ot∧ot<(n:Int)
  ·have HNO:Hid (Calls Tryd.prog 34 #[.agg #[.slice A0 n c0,.slice A1 n1 c1,.slice A2 n2 c2,.slice A3 n3 c3],.int .i64 ot] (W1.drewN nq) fun e w'=>e=.returned (.bool true)∧BelW W1 w'):=Lib.hid ((HNX.out _ HBQ.out).mono fun e w' ⟨h1,h2⟩=>⟨by rw[h1,decide_eq_true hot],joinB HBQ.out h2⟩)
   obtain⟨b,rfl⟩:∃b:Nat,ot=(b:Int):=⟨ot.toNat,(Int.toNat_of_nonneg hot.1).symm⟩
   have hbn:b<n:=by omega
   rw[Int.toNat_natCast,Int.toNat_natCast]at hv
   by_cases hab:a=b
   ·have t2:((a:Int)==(b:Int))=true:=by simp[hab]
    rw[if_pos (.inr (.inr (by omega)))]at hv
    clear hot
    go_wp2_with (go_at_call 34;(with_reducible refine HNO.out.mono ?_);rintro e w2 ⟨rfl,h1⟩;have HB2:Hid (BelW W1 w2):=Lib.hid h1;clear h1 x0 x1 x2 x3 x4 x5 x6 x7 x8;obtain⟨x0,x1,x2,x3,x4,x5,x6,x7,x8⟩:=HR.out w2 HB2.out)
    go_ret
    exact⟨by first|(rw[hv];done)|(rw[hv];rfl)|rfl,joinB HB1.out HB2.out⟩
   ·have t2:((a:Int)==(b:Int))=false:=by simp;omega
    rw[if_neg (fun h=>by rcases h with h|h|h;exact h hpn;exact h hot;omega)]at hv
    have HREL:=Lib.hid (HRELX.out b hbn)
    clear hot hab
    go_upto_region 4 with (go_at_call 34;(with_reducible refine HNO.out.mono ?_);rintro e w2 ⟨rfl,h1⟩;have HB2:Hid (BelW W1 w2):=Lib.hid h1;clear h1 x0 x1 x2 x3 x4 x5 x6 x7 x8;obtain⟨x0,x1,x2,x3,x4,x5,x6,x7,x8⟩:=HR.out w2 HB2.out)
    clear t0 t2 hpn HRELX HNO HNX HBQ
    have q4:∀xx:Beh W1,xx.x.cell? ⟨w.heap.size+1,0,none⟩=some (.int .u8 md):=fun xx=>(HR.out _ xx.below).2.2.2.2.1
    have q7:∀xx:Beh W1,xx.x.cell? ⟨w.heap.size+1,3,none⟩=some (.int .u8 vl):=fun xx=>(HR.out _ xx.below).2.2.2.2.2.2.2.1
    clear x0 x1 x2 x3 x4 x5 x6 x7 x8
    rcases hmd with rfl|rfl
    ·have HHI2:Hid (∀xx:Beh W1,Calls Tryd.prog 35 #[.int .u8 2] xx.x fun e w'=>e=.returned (.int .u8 1)∧Below W1.heap.size W1 w'):=HHI
     by_cases hba:b<a
     ·have u0:(b:Int)<(a:Int):=by omega
      have u1:decide ((a:Int)>(b:Int))=true:=by simp;omega
      rw[if_pos (.inl ⟨rfl,u0⟩)]at hv
      go_upto_region 4 with (fail)
      refine region_class (w0:=W1) HB2.out (by kernel_rfl) (by kernel_rfl) ?_
      repeat (first
       |go_big_quiet_skip
       |(go_big_quiet_want;go_big_quiet_op;first
        |go_big_quiet_on
        |(apply Exists.intro
          refine⟨fun xx=>?_,?_⟩
          focus first
           |(go_at_call 35;with_reducible exact beh_of (HHI2.out xx))
          go_big_quiet_on)))
      refine wpQuiet_nil ?_
      rintro w3 ⟨⟨wz,hz3⟩,rfl⟩
      have HB3:Hid (BelW W1 w3):=Lib.hid hz3
      clear hz3
      go_wp2
      go_ret
      exact⟨by first|(rw[hv];done)|(rw[hv];rfl)|rfl,joinB HB1.out HB3.out⟩
     ·have u0:¬(b:Int)<(a:Int):=by omega
      have u1:decide ((a:Int)>(b:Int))=false:=by simp;omega
      by_cases hvl:(1:Int)<vl
      ·have u2:decide (vl>1)=true:=by simp;omega
       rw[if_pos (.inr hvl)]at hv
       go_upto_region 4 with (fail)
       refine region_class (w0:=W1) HB2.out (by kernel_rfl) (by kernel_rfl) ?_
       repeat (first
        |go_big_quiet_skip
        |(go_big_quiet_want;go_big_quiet_op;first
         |go_big_quiet_on
         |(apply Exists.intro
           refine⟨fun xx=>?_,?_⟩
           focus first
            |(go_at_call 35;with_reducible exact beh_of (HHI2.out xx))
           go_big_quiet_on)))
       refine wpQuiet_nil ?_
       rintro w3 ⟨⟨wz,hz3⟩,rfl⟩
       have HB3:Hid (BelW W1 w3):=Lib.hid hz3
       clear hz3
       go_wp2
       go_ret
       exact⟨by first|(rw[hv];done)|(rw[hv];rfl)|rfl,joinB HB1.out HB3.out⟩
      ·have u2:decide (vl>1)=false:=by simp;omega
       rw[if_neg (fun h=>by rcases h with h|h;exact u0 h.2;exact hvl h)]at hv
       have HV:=Lib.hid hv
       clear hv
       go_upto_region 4 with (fail)
       refine region_class (w0:=W1) HB2.out (by kernel_rfl) (by kernel_rfl) ?_
       repeat (first
        |go_big_quiet_skip
        |(go_big_quiet_want;go_big_quiet_op;first
         |go_big_quiet_on
         |(apply Exists.intro
           refine⟨fun xx=>?_,?_⟩
           focus first
            |(go_at_call 35;with_reducible exact beh_of (HHI2.out xx))
           go_big_quiet_on)))
       refine wpQuiet_nil ?_
       rintro w3 ⟨⟨wz,hz3⟩,rfl⟩
       have HB3:Hid (BelW W1 w3):=Lib.hid hz3
       clear hz3
       obtain⟨x0,x1,x2,x3,x4,x5,x6,x7,x8⟩:=HR.out w3 HB3.out
       have HTA:=Lib.hid (HTRI.out w3 a HB3.out han)
       obtain⟨ta,HTAB⟩:=named (triC c a)
       rw[←HTAB.out]at HTA HV
       cases ta
       ·obtain⟨tb,HTBB⟩:=named (triC c b)
        rw[←HTBB.out]at HV
        have HTB:Hid (∀V,BelW W1 V→Calls Tryd.prog 36 #[.agg #[.slice A0 n c0,.slice A1 n1 c1,.slice A2 n2 c2,.slice A3 n3 c3],.int .i64 (b:Int)] V fun e w'=>e=.returned (.bool tb)∧BelW V w'):=Lib.hid fun V h=>by rw[HTBB.out];exact HTRI.out V b h hbn
        cases tb
        ·obtain⟨tr,HTR⟩:=named (relC c a b)
         rw[←HTR.out]at HV
         have HRL:Hid (∀V,BelW W1 V→Calls Tryd.prog 37 #[.agg #[.slice A0 n c0,.slice A1 n1 c1,.slice A2 n2 c2,.slice A3 n3 c3],.int .i64 (a:Int),.int .i64 (b:Int)] V fun e w'=>e=.returned (.bool tr)∧BelW V w'):=Lib.hid fun V h=>by rw[HTR.out];exact HREL.out V h
         go_upto_region 8 with (first
          |(go_at_call 36;(with_reducible refine HTA.out.mono ?_);rintro e w4 ⟨rfl,h1⟩;have HB4:Hid (BelW W1 w4):=Lib.hid (joinB HB3.out h1);clear h1 x0 x1 x2 x3 x4 x5 x6 x7 x8;obtain⟨x0,x1,x2,x3,x4,x5,x6,x7,x8⟩:=HR.out w4 HB4.out)
          |(go_at_call 36;(with_reducible refine (HTB.out _ HB4.out).mono ?_);rintro e w5 ⟨rfl,h1⟩;have HB5:Hid (BelW W1 w5):=Lib.hid (joinB HB4.out h1);clear h1 x0 x1 x2 x3 x4 x5 x6 x7 x8;obtain⟨x0,x1,x2,x3,x4,x5,x6,x7,x8⟩:=HR.out w5 HB5.out))
         cases tr
         ·go_wp2_with (go_at_call 37;(with_reducible refine (HRL.out _ HB5.out).mono ?_);rintro e w6 ⟨rfl,h1⟩;have HB6:Hid (BelW W1 w6):=Lib.hid (joinB HB5.out h1);clear h1 x0 x1 x2 x3 x4 x5 x6 x7 x8)
          go_ret
          exact⟨by(rw[HV.out];try rfl),joinB HB1.out HB6.out⟩
         ·go_wp2_with (go_at_call 37;(with_reducible refine (HRL.out _ HB5.out).mono ?_);rintro e w6 ⟨rfl,h1⟩;have HB6:Hid (BelW W1 w6):=Lib.hid (joinB HB5.out h1);clear h1 x0 x1 x2 x3 x4 x5 x6 x7 x8)
          go_ret
          exact⟨by(rw[HV.out];try rfl),joinB HB1.out HB6.out⟩
        ·go_wp2_with (first
          |(go_at_call 36;(with_reducible refine HTA.out.mono ?_);rintro e w4 ⟨rfl,h1⟩;have HB4:Hid (BelW W1 w4):=Lib.hid (joinB HB3.out h1);clear h1 x0 x1 x2 x3 x4 x5 x6 x7 x8;obtain⟨x0,x1,x2,x3,x4,x5,x6,x7,x8⟩:=HR.out w4 HB4.out)
          |(go_at_call 36;(with_reducible refine (HTB.out _ HB4.out).mono ?_);rintro e w5 ⟨rfl,h1⟩;have HB5:Hid (BelW W1 w5):=Lib.hid (joinB HB4.out h1);clear h1 x0 x1 x2 x3 x4 x5 x6 x7 x8))
         go_ret
         exact⟨by(rw[HV.out];try rfl),joinB HB1.out HB5.out⟩
       ·go_wp2_with (go_at_call 36;(with_reducible refine HTA.out.mono ?_);rintro e w4 ⟨rfl,h1⟩;have HB4:Hid (BelW W1 w4):=Lib.hid (joinB HB3.out h1);clear h1 x0 x1 x2 x3 x4 x5 x6 x7 x8)
        go_ret
        exact⟨by(rw[HV.out];try rfl),joinB HB1.out HB4.out⟩
    ·have HHI2:Hid (∀xx:Beh W1,Calls Tryd.prog 35 #[.int .u8 3] xx.x fun e w'=>e=.returned (.int .u8 0)∧Below W1.heap.size W1 w'):=HHI
     by_cases hvl:(0:Int)<vl
     ·have u2:decide (vl>0)=true:=by simp;omega
      rw[if_pos (.inr hvl)]at hv
      go_upto_region 4 with (fail)
      refine region_class (w0:=W1) HB2.out (by kernel_rfl) (by kernel_rfl) ?_
      repeat (first
       |go_big_quiet_skip
       |(go_big_quiet_want;go_big_quiet_op;first
        |go_big_quiet_on
        |(apply Exists.intro
          refine⟨fun xx=>?_,?_⟩
          focus first
           |(go_at_call 35;with_reducible exact beh_of (HHI2.out xx))
          go_big_quiet_on)))
      refine wpQuiet_nil ?_
      rintro w3 ⟨⟨wz,hz3⟩,rfl⟩
      have HB3:Hid (BelW W1 w3):=Lib.hid hz3
      clear hz3
      go_wp2
      go_ret
      exact⟨by first|(rw[hv];done)|(rw[hv];rfl)|rfl,joinB HB1.out HB3.out⟩
     ·have u2:decide (vl>0)=false:=by simp;omega
      rw[if_neg (fun h=>by rcases h with h|h;exact absurd h.1 (by decide);exact hvl h)]at hv
      have HV:=Lib.hid hv
      clear hv
      go_upto_region 4 with (fail)
      refine region_class (w0:=W1) HB2.out (by kernel_rfl) (by kernel_rfl) ?_
      repeat (first
       |go_big_quiet_skip
       |(go_big_quiet_want;go_big_quiet_op;first
        |go_big_quiet_on
        |(apply Exists.intro
          refine⟨fun xx=>?_,?_⟩
          focus first
           |(go_at_call 35;with_reducible exact beh_of (HHI2.out xx))
          go_big_quiet_on)))
      refine wpQuiet_nil ?_
      rintro w3 ⟨⟨wz,hz3⟩,rfl⟩
      have HB3:Hid (BelW W1 w3):=Lib.hid hz3
      clear hz3
      obtain⟨x0,x1,x2,x3,x4,x5,x6,x7,x8⟩:=HR.out w3 HB3.out
      have HTA:=Lib.hid (HTRI.out w3 a HB3.out han)
      obtain⟨ta,HTAB⟩:=named (triC c a)
      rw[←HTAB.out]at HTA HV
      cases ta
      ·obtain⟨tb,HTBB⟩:=named (triC c b)
       rw[←HTBB.out]at HV
       have HTB:Hid (∀V,BelW W1 V→Calls Tryd.prog 36 #[.agg #[.slice A0 n c0,.slice A1 n1 c1,.slice A2 n2 c2,.slice A3 n3 c3],.int .i64 (b:Int)] V fun e w'=>e=.returned (.bool tb)∧BelW V w'):=Lib.hid fun V h=>by rw[HTBB.out];exact HTRI.out V b h hbn
       cases tb
       ·obtain⟨tr,HTR⟩:=named (relC c a b)
        rw[←HTR.out]at HV
        have HRL:Hid (∀V,BelW W1 V→Calls Tryd.prog 37 #[.agg #[.slice A0 n c0,.slice A1 n1 c1,.slice A2 n2 c2,.slice A3 n3 c3],.int .i64 (a:Int),.int .i64 (b:Int)] V fun e w'=>e=.returned (.bool tr)∧BelW V w'):=Lib.hid fun V h=>by rw[HTR.out];exact HREL.out V h
        go_upto_region 8 with (first
         |(go_at_call 36;(with_reducible refine HTA.out.mono ?_);rintro e w4 ⟨rfl,h1⟩;have HB4:Hid (BelW W1 w4):=Lib.hid (joinB HB3.out h1);clear h1 x0 x1 x2 x3 x4 x5 x6 x7 x8;obtain⟨x0,x1,x2,x3,x4,x5,x6,x7,x8⟩:=HR.out w4 HB4.out)
         |(go_at_call 36;(with_reducible refine (HTB.out _ HB4.out).mono ?_);rintro e w5 ⟨rfl,h1⟩;have HB5:Hid (BelW W1 w5):=Lib.hid (joinB HB4.out h1);clear h1 x0 x1 x2 x3 x4 x5 x6 x7 x8;obtain⟨x0,x1,x2,x3,x4,x5,x6,x7,x8⟩:=HR.out w5 HB5.out))
        cases tr
        ·go_wp2_with (go_at_call 37;(with_reducible refine (HRL.out _ HB5.out).mono ?_);rintro e w6 ⟨rfl,h1⟩;have HB6:Hid (BelW W1 w6):=Lib.hid (joinB HB5.out h1);clear h1 x0 x1 x2 x3 x4 x5 x6 x7 x8)
         go_ret
         exact⟨by(rw[HV.out];try rfl),joinB HB1.out HB6.out⟩
        ·go_wp2_with (go_at_call 37;(with_reducible refine (HRL.out _ HB5.out).mono ?_);rintro e w6 ⟨rfl,h1⟩;have HB6:Hid (BelW W1 w6):=Lib.hid (joinB HB5.out h1);clear h1 x0 x1 x2 x3 x4 x5 x6 x7 x8)
         go_ret
         exact⟨by(rw[HV.out];try rfl),joinB HB1.out HB6.out⟩
       ·go_wp2_with (first
         |(go_at_call 36;(with_reducible refine HTA.out.mono ?_);rintro e w4 ⟨rfl,h1⟩;have HB4:Hid (BelW W1 w4):=Lib.hid (joinB HB3.out h1);clear h1 x0 x1 x2 x3 x4 x5 x6 x7 x8;obtain⟨x0,x1,x2,x3,x4,x5,x6,x7,x8⟩:=HR.out w4 HB4.out)
         |(go_at_call 36;(with_reducible refine (HTB.out _ HB4.out).mono ?_);rintro e w5 ⟨rfl,h1⟩;have HB5:Hid (BelW W1 w5):=Lib.hid (joinB HB4.out h1);clear h1 x0 x1 x2 x3 x4 x5 x6 x7 x8))
        go_ret
        exact⟨by(rw[HV.out];try rfl),joinB HB1.out HB5.out⟩
      ·go_wp2_with (go_at_call 36;(with_reducible refine HTA.out.mono ?_);rintro e w4 ⟨rfl,h1⟩;have HB4:Hid (BelW W1 w4):=Lib.hid (joinB HB3.out h1);clear h1 x0 x1 x2 x3 x4 x5 x6 x7 x8)
       go_ret
       exact⟨by(rw[HV.out];try rfl),joinB HB1.out HB4.out⟩
  ·have HNO:Hid (Calls Tryd.prog 34 #[.agg #[.slice A0 n c0,.slice A1 n1 c1,.slice A2 n2 c2,.slice A3 n3 c3],.int .i64 ot] (W1.drewN nq) fun e w'=>e=.returned (.bool false)∧BelW W1 w'):=Lib.hid ((HNX.out _ HBQ.out).mono fun e w' ⟨h1,h2⟩=>⟨by rw[h1,decide_eq_false hot],joinB HBQ.out h2⟩)
   rw[if_pos (.inr (.inl hot))]at hv
   go_wp2_with (go_at_call 34;(with_reducible refine HNO.out.mono ?_);rintro e w2 ⟨rfl,h1⟩;have HB2:Hid (BelW W1 w2):=Lib.hid h1;clear h1 x0 x1 x2 x3 x4 x5 x6 x7 x8;obtain⟨x0,x1,x2,x3,x4,x5,x6,x7,x8⟩:=HR.out w2 HB2.out)
   go_ret
   exact⟨by first|(rw[hv];done)|(rw[hv];rfl)|rfl,joinB HB1.out HB2.out⟩
 ·have t0:(pn != -1)=true:=by simp[hpn]
  rw[if_pos (.inl hpn)]at hv
  go_wp2
  go_ret
  exact⟨by first|(rw[hv];done)|(rw[hv];rfl)|rfl,joinB HB1.out HBQ.out⟩
def BStk(w:World)(base:Nat)(v:Value)(l:List Bool):Prop:=w.ownsRow base 4 1 v l.length (l.map Value.bool)
theorem BStk.nil(w:World)(base:Nat):BStk w base (.slice none 0 0) []:=World.ownsRow_nil w base _ _
theorem BStk.kept{w w':World}{base:Nat}{v:Value}{l:List Bool}{row:Option Nat}(h:BStk w base v l)(hg:w.grownBy w' row)(hne:∀q,row=some q→q<base):BStk w' base v l:=by
 refine World.ownsRow.kept h hg ?_
 rcases ho:v.ownBlock with _|q
 ·exact .inl rfl
 ·refine .inr fun e=>?_
  have:=(World.ownsRow.lt h q ho).1
  have:=hne q e.symm
  omega
theorem BStk.below{w w':World}{base:Nat}{v:Value}{l:List Bool}(h:BStk w base v l)(hb:Below w.heap.size w w'):BStk w' base v l:=
 h.kept (row:=none) ⟨hb.os,hb.tape,hb.output,hb.size,fun i hi _=>hb.block i hi⟩ (by simp)
theorem BStk.shape{w:World}{base:Nat}{v:Value}{l:List Bool}(h:BStk w base v l):∃A c,v=.slice A l.length c∧l.length≤c∧c≤maxLen∧(0<l.length→∃q,A=some ⟨q,0,none⟩∧base≤q∧q<w.heap.size):=by
 have hlt:=World.ownsRow.lt h
 rcases h.2 with⟨rfl,hn⟩| ⟨g,cap,cur,rfl,hb,hg,hle,hm,-⟩
 ·exact⟨none,0,by rw[hn],by omega,by simp,fun h=>by omega⟩
 ·exact⟨_,cap,rfl,hle,hm,fun _=>⟨g,rfl,hb,(hlt g rfl).2⟩⟩
theorem BStk.cell{w:World}{base q c:Nat}{l:List Bool}(h:BStk w base (.slice (some ⟨q,0,none⟩) l.length c) l){j:Nat}(hj:j<l.length):w.cell? ⟨q,j,none⟩=some (.bool (l.getD j false)):=by
 rw[World.ownsRow.cellAt h j (by omega),List.getElem?_map,List.getElem?_eq_getElem hj]
 simp[List.getD_eq_getElem?_getD,List.getElem?_eq_getElem hj]
theorem ord5_to{L:List Int}{n:Nat}(hL:∀i:Nat,i<n→0≤lat L i∧lat L i<(n:Int)):Ord5 L n (ordTo L n n):=
 ord5_of ⟨ordTo L n n,by simp[rng],ordTo_full hL,Nat.le_refl _,ordTo_sorted L n n,fun x hx=>by
  obtain⟨j,rfl,hj,-⟩:=ordTo_mem.1 hx
  exact⟨by omega,by omega⟩⟩ hL
section
variable {P:Program} {ops:Array Oper} {Q:Exit→Act→World→Prop} {i:Nat} {o:Oper} {d:Tmp} {Y:Value→World→Prop} {a:Act} {w:World}
end
end Go.Proofs.YtcbllelkgniogaaDoor
