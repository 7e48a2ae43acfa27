/- The texts Fck. -/
import Derived.Test.YtcbllelkgniogaaDoorM35
namespace Go.Proofs.YtcbllelkgniogaaDoor
open Go.RowKit
attribute [local go_sem] Oper.semAt_some
def chkV(c:Ck)(md nd pn vl ot:Int):Int:=
 if 3<md∨1<vl∨¬(0≤nd∧nd<(c.nodes.length:Int)∧ -1≤pn∧pn<((c.nodes.getD nd.toNat default).ins.length:Int)) then 1
 else if 2≤md then cbF c md nd pn vl ot
 else if ot=0 then 0 else 1
set_option maxHeartbeats 8000000 in
theorem fcheck_ok{c:Ck}{n:Nat}{L:List Int}(G:G5 c n L)(A0 A1 A2 A3:Option Addr)(n1 n2 n3 c0 c1 c2 c3:Nat)(md nd pn vl ot:Int)(w:World)(hT:Tabs w)(hc:Cir w w.heap.size (.agg #[.slice A0 n c0,.slice A1 n1 c1,.slice A2 n2 c2,.slice A3 n3 c3]) c)(hk:ckF c=0):
 Calls Tryd.prog 8 #[.agg #[.slice A0 n c0,.slice A1 n1 c1,.slice A2 n2 c2,.slice A3 n3 c3],.agg #[.int .u8 md,.int .i64 nd,.int .i64 pn,.int .u8 vl,.int .i64 ot]] w fun e w'=>e=.returned (.int .i64 (chkV c md nd pn vl ot))∧BelW w w':=by
 obtain⟨W1,HW1⟩:=named ((w.alloc (.cells #[.slice A0 n c0,.slice A1 n1 c1,.slice A2 n2 c2,.slice A3 n3 c3] 39)).alloc (.cells #[.int .u8 md,.int .i64 nd,.int .i64 pn,.int .u8 vl,.int .i64 ot] 33))
 have hb1:BelW w W1:=by rw[HW1.out];exact joinB (below_new (Below.refl _ _) _) (below_new (Below.refl _ _) _)
 have hfc:Fr W1 w.heap.size 39 [.slice A0 n c0,.slice A1 n1 c1,.slice A2 n2 c2,.slice A3 n3 c3]:=by rw[HW1.out];exact (Fr.made _ _ _ rfl).alloc _
 have hfl:Fr W1 (w.heap.size+1) 33 [.int .u8 md,.int .i64 nd,.int .i64 pn,.int .u8 vl,.int .i64 ot]:=by rw[HW1.out];exact Fr.made _ _ _ (by simp)
 have HR:Hid (∀W,BelW W1 W→W.cell? ⟨w.heap.size,0,none⟩=some (.slice A0 n c0)∧W.cell? ⟨w.heap.size,1,none⟩=some (.slice A1 n1 c1)∧W.cell? ⟨w.heap.size,2,none⟩=some (.slice A2 n2 c2)∧W.cell? ⟨w.heap.size,3,none⟩=some (.slice A3 n3 c3)∧W.cell? ⟨w.heap.size+1,0,none⟩=some (.int .u8 md)∧W.cell? ⟨w.heap.size+1,1,none⟩=some (.int .i64 nd)∧W.cell? ⟨w.heap.size+1,2,none⟩=some (.int .i64 pn)∧W.cell? ⟨w.heap.size+1,3,none⟩=some (.int .u8 vl)∧W.cell? ⟨w.heap.size+1,4,none⟩=some (.int .i64 ot)):=Lib.hid fun W h=>⟨(hfc.below h).cell 0,(hfc.below h).cell 1,(hfc.below h).cell 2,(hfc.below h).cell 3,(hfl.below h).cell 0,(hfl.below h).cell 1,(hfl.below h).cell 2,(hfl.below h).cell 3,(hfl.below h).cell 4⟩
 have HB1:=Lib.hid hb1
 have hce:∀V,BelW W1 V→Cir V V.heap.size (.agg #[.slice A0 n c0,.slice A1 n1 c1,.slice A2 n2 c2,.slice A3 n3 c3]) c:=fun V h=>(hc.below (joinB hb1 h)).more (Below.size (joinB hb1 h))
 have HCK:=Lib.hid (fck_any c A0 A1 A2 A3 n n1 n2 n3 c0 c1 c2 c3 W1 (hT.below hb1) (hce W1 (Below.refl _ _)))
 rw[hk]at HCK
 have HLNX:Hid (∀V,BelW W1 V→Calls Tryd.prog 16 #[.agg #[.slice A0 n c0,.slice A1 n1 c1,.slice A2 n2 c2,.slice A3 n3 c3],.agg #[.int .i64 nd,.int .i64 pn]] V fun e w'=>e=.returned (.bool (decide (0≤nd∧nd<(n:Int)∧ -1≤pn∧pn<((c.nodes.getD nd.toNat default).ins.length:Int))))∧BelW V w'):=Lib.hid fun V h=>isLine_any c A0 A1 A2 A3 n n1 n2 n3 c0 c1 c2 c3 nd pn V (hce V h)
 have HBRX:Hid (∀V,Calls Tryd.prog 17 #[.int .u8 md] V fun e w'=>e=.returned (.bool (decide (2≤md)))∧V=w'):=Lib.hid fun V=>isBridge_any md V
 have HXBX:Hid (∀(a:Nat) V,BelW W1 V→(md=2∨md=3)→a<n→Calls Tryd.prog 18 #[.agg #[.slice A0 n c0,.slice A1 n1 c1,.slice A2 n2 c2,.slice A3 n3 c3],.agg #[.int .u8 md,.int .i64 (a:Int),.int .i64 pn,.int .u8 vl,.int .i64 ot]] V fun e w'=>e=.returned (.int .i64 (cbF c md (a:Int) pn vl ot))∧BelW V w'):=Lib.hid fun a V h h1 h2=>cbr_any G A0 A1 A2 A3 n1 n2 n3 c0 c1 c2 c3 md pn vl ot a V (hT.below (joinB hb1 h)) (hce V h) h1 h2
 obtain⟨v,HV⟩:=named (chkV c md nd pn vl ot)
 have hv:=HV.out
 rw[←HV.out]
 unfold chkV at hv
 rw[G.len]at hv
 clear HV hb1 hfc hfl hc hce hT G hk
 obtain⟨x0,x1,x2,x3,x4,x5,x6,x7,x8⟩:=HR.out W1 (Below.refl _ _)
 by_cases h1:3<md
 ·have t1:decide (md>3)=true:=by simp[h1]
  rw[if_pos (.inl h1)]at hv
  go_enter Tryd.func8,Tryd.ntmps8
  go_upto_region 1 with (fail)
  rw[←HW1.out]
  go_wp2_with (first
   |(go_at_call 15;(with_reducible refine HCK.out.mono ?_);rintro e w2 ⟨rfl,h1⟩;have HB2:Hid (BelW W1 w2):=Lib.hid h1;clear h1 x0 x1 x2 x3 x4 x5 x6 x7 x8;obtain⟨x0,x1,x2,x3,x4,x5,x6,x7,x8⟩:=HR.out w2 HB2.out))
  go_ret
  exact⟨by first|rfl|(rw[hv];done)|(rw[hv];rfl),joinB HB1.out HB2.out⟩
 ·have t1:decide (md>3)=false:=by simp;omega
  by_cases h2:1<vl
  ·have t2:decide (vl>1)=true:=by simp[h2]
   rw[if_pos (.inr (.inl h2))]at hv
   go_enter Tryd.func8,Tryd.ntmps8
   go_upto_region 1 with (fail)
   rw[←HW1.out]
   go_wp2_with (first
    |(go_at_call 15;(with_reducible refine HCK.out.mono ?_);rintro e w2 ⟨rfl,h1⟩;have HB2:Hid (BelW W1 w2):=Lib.hid h1;clear h1 x0 x1 x2 x3 x4 x5 x6 x7 x8;obtain⟨x0,x1,x2,x3,x4,x5,x6,x7,x8⟩:=HR.out w2 HB2.out))
   go_ret
   exact⟨by first|rfl|(rw[hv];done)|(rw[hv];rfl),joinB HB1.out HB2.out⟩
  ·have t2:decide (vl>1)=false:=by simp;omega
   by_cases h3:0≤nd∧nd<(n:Int)∧ -1≤pn∧pn<((c.nodes.getD nd.toNat default).ins.length:Int)
   ·have HLN:Hid (∀V,BelW W1 V→Calls Tryd.prog 16 #[.agg #[.slice A0 n c0,.slice A1 n1 c1,.slice A2 n2 c2,.slice A3 n3 c3],.agg #[.int .i64 nd,.int .i64 pn]] V fun e w'=>e=.returned (.bool true)∧BelW V w'):=Lib.hid fun V h=>(HLNX.out V h).mono fun e w' ⟨g1,g2⟩=>⟨by rw[g1,decide_eq_true h3],g2⟩
    rw[if_neg (fun h=>by rcases h with h|h|h;exact h1 h;exact h2 h;exact h h3)]at hv
    by_cases h4:2≤md
    ·have HBR:Hid (∀V,Calls Tryd.prog 17 #[.int .u8 md] V fun e w'=>e=.returned (.bool true)∧V=w'):=Lib.hid fun V=>(HBRX.out V).mono fun e w' ⟨g1,g2⟩=>⟨by rw[g1,decide_eq_true h4],g2⟩
     rw[if_pos h4]at hv
     obtain⟨a,rfl⟩:∃a:Nat,nd=(a:Int):=⟨nd.toNat,(Int.toNat_of_nonneg h3.1).symm⟩
     have HXB:=Lib.hid (fun V h=>HXBX.out a V h (by omega) (by omega))
     rw[←hv]at HXB
     clear HXBX HLNX HBRX h1 h2 h3 h4 hv
     have hv:v=v:=rfl
     go_enter Tryd.func8,Tryd.ntmps8
     go_upto_region 1 with (fail)
     rw[←HW1.out]
     go_wp2_with (first
      |(go_at_call 15;(with_reducible refine HCK.out.mono ?_);rintro e w2 ⟨rfl,h1⟩;have HB2:Hid (BelW W1 w2):=Lib.hid h1;clear h1 x0 x1 x2 x3 x4 x5 x6 x7 x8;obtain⟨x0,x1,x2,x3,x4,x5,x6,x7,x8⟩:=HR.out w2 HB2.out)
      |(go_at_call 16;(with_reducible refine (HLN.out _ HB2.out).mono ?_);rintro e w3 ⟨rfl,h1⟩;have HB3:Hid (BelW W1 w3):=Lib.hid (joinB HB2.out h1);clear h1 x0 x1 x2 x3 x4 x5 x6 x7 x8;obtain⟨x0,x1,x2,x3,x4,x5,x6,x7,x8⟩:=HR.out w3 HB3.out)
      |(go_at_call 17;(with_reducible refine (HBR.out _).mono ?_);rintro e w4 ⟨rfl,rfl⟩)
      |(go_at_call 18;(with_reducible refine (HXB.out _ HB3.out).mono ?_);rintro e w5 ⟨rfl,h1⟩;have HB5:Hid (BelW W1 w5):=Lib.hid (joinB HB3.out h1);clear h1 x0 x1 x2 x3 x4 x5 x6 x7 x8))
     go_ret
     exact⟨by first|rfl|(rw[hv];done)|(rw[hv];rfl),joinB HB1.out HB5.out⟩
    ·have HBR:Hid (∀V,Calls Tryd.prog 17 #[.int .u8 md] V fun e w'=>e=.returned (.bool false)∧V=w'):=Lib.hid fun V=>(HBRX.out V).mono fun e w' ⟨g1,g2⟩=>⟨by rw[g1,decide_eq_false h4],g2⟩
     rw[if_neg h4]at hv
     clear HXBX HLNX HBRX h3 h4
     by_cases h5:ot=0
     ·have t5:(ot != 0)=false:=by simp[h5]
      rw[if_pos h5]at hv
      clear h5
      go_enter Tryd.func8,Tryd.ntmps8
      go_upto_region 1 with (fail)
      rw[←HW1.out]
      go_wp2_with (first
       |(go_at_call 15;(with_reducible refine HCK.out.mono ?_);rintro e w2 ⟨rfl,h1⟩;have HB2:Hid (BelW W1 w2):=Lib.hid h1;clear h1 x0 x1 x2 x3 x4 x5 x6 x7 x8;obtain⟨x0,x1,x2,x3,x4,x5,x6,x7,x8⟩:=HR.out w2 HB2.out)
       |(go_at_call 16;(with_reducible refine (HLN.out _ HB2.out).mono ?_);rintro e w3 ⟨rfl,h1⟩;have HB3:Hid (BelW W1 w3):=Lib.hid (joinB HB2.out h1);clear h1 x0 x1 x2 x3 x4 x5 x6 x7 x8;obtain⟨x0,x1,x2,x3,x4,x5,x6,x7,x8⟩:=HR.out w3 HB3.out)
       |(go_at_call 17;(with_reducible refine (HBR.out _).mono ?_);rintro e w4 ⟨rfl,rfl⟩))
      go_ret
      exact⟨by first|rfl|(rw[hv];done)|(rw[hv];rfl),joinB HB1.out HB3.out⟩
     ·have t5:(ot != 0)=true:=by simp[h5]
      rw[if_neg h5]at hv
      go_enter Tryd.func8,Tryd.ntmps8
      go_upto_region 1 with (fail)
      rw[←HW1.out]
      go_wp2_with (first
       |(go_at_call 15;(with_reducible refine HCK.out.mono ?_);rintro e w2 ⟨rfl,h1⟩;have HB2:Hid (BelW W1 w2):=Lib.hid h1;clear h1 x0 x1 x2 x3 x4 x5 x6 x7 x8;obtain⟨x0,x1,x2,x3,x4,x5,x6,x7,x8⟩:=HR.out w2 HB2.out)
       |(go_at_call 16;(with_reducible refine (HLN.out _ HB2.out).mono ?_);rintro e w3 ⟨rfl,h1⟩;have HB3:Hid (BelW W1 w3):=Lib.hid (joinB HB2.out h1);clear h1 x0 x1 x2 x3 x4 x5 x6 x7 x8;obtain⟨x0,x1,x2,x3,x4,x5,x6,x7,x8⟩:=HR.out w3 HB3.out)
       |(go_at_call 17;(with_reducible refine (HBR.out _).mono ?_);rintro e w4 ⟨rfl,rfl⟩))
      go_ret
      exact⟨by first|rfl|(rw[hv];done)|(rw[hv];rfl),joinB HB1.out HB3.out⟩
   ·have HLN:Hid (∀V,BelW W1 V→Calls Tryd.prog 16 #[.agg #[.slice A0 n c0,.slice A1 n1 c1,.slice A2 n2 c2,.slice A3 n3 c3],.agg #[.int .i64 nd,.int .i64 pn]] V fun e w'=>e=.returned (.bool false)∧BelW V w'):=Lib.hid fun V h=>(HLNX.out V h).mono fun e w' ⟨g1,g2⟩=>⟨by rw[g1,decide_eq_false h3],g2⟩
    rw[if_pos (.inr (.inr h3))]at hv
    clear HXBX HLNX HBRX h3
    go_enter Tryd.func8,Tryd.ntmps8
    go_upto_region 1 with (fail)
    rw[←HW1.out]
    go_wp2_with (first
     |(go_at_call 15;(with_reducible refine HCK.out.mono ?_);rintro e w2 ⟨rfl,h1⟩;have HB2:Hid (BelW W1 w2):=Lib.hid h1;clear h1 x0 x1 x2 x3 x4 x5 x6 x7 x8;obtain⟨x0,x1,x2,x3,x4,x5,x6,x7,x8⟩:=HR.out w2 HB2.out)
     |(go_at_call 16;(with_reducible refine (HLN.out _ HB2.out).mono ?_);rintro e w3 ⟨rfl,h1⟩;have HB3:Hid (BelW W1 w3):=Lib.hid (joinB HB2.out h1);clear h1 x0 x1 x2 x3 x4 x5 x6 x7 x8;obtain⟨x0,x1,x2,x3,x4,x5,x6,x7,x8⟩:=HR.out w3 HB3.out))
    go_ret
    exact⟨by first|rfl|(rw[hv];done)|(rw[hv];rfl),joinB HB1.out HB3.out⟩
end Go.Proofs.YtcbllelkgniogaaDoor
