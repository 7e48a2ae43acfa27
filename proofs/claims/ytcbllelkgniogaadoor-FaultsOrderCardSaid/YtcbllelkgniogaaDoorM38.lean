/- The texts Fck Shj. -/
import Derived.Test.YtcbllelkgniogaaDoorM37
import Derived.Test.YtcbllelkgniogaaDoorM17
import Derived.Shelf.Strings.OnBuilder
namespace Go.Proofs.YtcbllelkgniogaaDoor
open Go.RowKit
attribute [local go_sem] Oper.semAt_some
def chkV(c:Ck)(md nd pn vl ot:Int):Int:=
 if 3<md∨1<vl∨¬(0≤nd∧nd<(c.nodes.length:Int)∧ -1≤pn∧pn<((c.nodes.getD nd.toNat default).ins.length:Int)) then 1
 else if 2≤md then cbF c md nd pn vl ot
 else if ot=0 then 0 else 1
set_option maxHeartbeats 8000000 in
theorem fcheck_ok{c:Ck}{n:Nat}{L:List Int}(G:G5 c n L)(A0 A1 A2 A3:Option Addr)(n1 n2 n3 c0 c1 c2 c3:Nat)(md nd pn vl ot:Int)(w:World)(hT:Tabs w)(hc:Cir w w.heap.size (.agg #[.slice A0 n c0,.slice A1 n1 c1,.slice A2 n2 c2,.slice A3 n3 c3]) c)(hk:ckF c=0):
 Calls Tryd.prog 8 #[.agg #[.slice A0 n c0,.slice A1 n1 c1,.slice A2 n2 c2,.slice A3 n3 c3],.agg #[.int .u8 md,.int .i64 nd,.int .i64 pn,.int .u8 vl,.int .i64 ot]] w fun e w'=>e=.returned (.int .i64 (chkV c md nd pn vl ot))∧BelW w w':=by
 obtain⟨W1,HW1⟩:=named ((w.alloc (.cells #[.slice A0 n c0,.slice A1 n1 c1,.slice A2 n2 c2,.slice A3 n3 c3] 39)).alloc (.cells #[.int .u8 md,.int .i64 nd,.int .i64 pn,.int .u8 vl,.int .i64 ot] 33))
 have hb1:BelW w W1:=by rw[HW1.out];exact joinB (below_new (Below.refl _ _) _) (below_new (Below.refl _ _) _)
 have hfc:Fr W1 w.heap.size 39 [.slice A0 n c0,.slice A1 n1 c1,.slice A2 n2 c2,.slice A3 n3 c3]:=by rw[HW1.out];exact (Fr.made _ _ _ rfl).alloc _
 have hfl:Fr W1 (w.heap.size+1) 33 [.int .u8 md,.int .i64 nd,.int .i64 pn,.int .u8 vl,.int .i64 ot]:=by rw[HW1.out];exact Fr.made _ _ _ (by simp)
 have HR:Hid (∀W,BelW W1 W→W.cell? ⟨w.heap.size,0,none⟩=some (.slice A0 n c0)∧W.cell? ⟨w.heap.size,1,none⟩=some (.slice A1 n1 c1)∧W.cell? ⟨w.heap.size,2,none⟩=some (.slice A2 n2 c2)∧W.cell? ⟨w.heap.size,3,none⟩=some (.slice A3 n3 c3)∧W.cell? ⟨w.heap.size+1,0,none⟩=some (.int .u8 md)∧W.cell? ⟨w.heap.size+1,1,none⟩=some (.int .i64 nd)∧W.cell? ⟨w.heap.size+1,2,none⟩=some (.int .i64 pn)∧W.cell? ⟨w.heap.size+1,3,none⟩=some (.int .u8 vl)∧W.cell? ⟨w.heap.size+1,4,none⟩=some (.int .i64 ot)):=Lib.hid fun W h=>⟨(hfc.below h).cell 0,(hfc.below h).cell 1,(hfc.below h).cell 2,(hfc.below h).cell 3,(hfl.below h).cell 0,(hfl.below h).cell 1,(hfl.below h).cell 2,(hfl.below h).cell 3,(hfl.below h).cell 4⟩
 have HB1:=Lib.hid hb1
 have hce:∀V,BelW W1 V→Cir V V.heap.size (.agg #[.slice A0 n c0,.slice A1 n1 c1,.slice A2 n2 c2,.slice A3 n3 c3]) c:=fun V h=>(hc.below (joinB hb1 h)).more (Below.size (joinB hb1 h))
 have HCK:=Lib.hid (fck_any c A0 A1 A2 A3 n n1 n2 n3 c0 c1 c2 c3 W1 (hT.below hb1) (hce W1 (Below.refl _ _)))
 rw[hk]at HCK
 have HLNX:Hid (∀V,BelW W1 V→Calls Tryd.prog 16 #[.agg #[.slice A0 n c0,.slice A1 n1 c1,.slice A2 n2 c2,.slice A3 n3 c3],.agg #[.int .i64 nd,.int .i64 pn]] V fun e w'=>e=.returned (.bool (decide (0≤nd∧nd<(n:Int)∧ -1≤pn∧pn<((c.nodes.getD nd.toNat default).ins.length:Int))))∧BelW V w'):=Lib.hid fun V h=>isLine_any c A0 A1 A2 A3 n n1 n2 n3 c0 c1 c2 c3 nd pn V (hce V h)
 have HBRX:Hid (∀V,Calls Tryd.prog 17 #[.int .u8 md] V fun e w'=>e=.returned (.bool (decide (2≤md)))∧V=w'):=Lib.hid fun V=>isBridge_any md V
 have HXBX:Hid (∀(a:Nat) V,BelW W1 V→(md=2∨md=3)→a<n→Calls Tryd.prog 18 #[.agg #[.slice A0 n c0,.slice A1 n1 c1,.slice A2 n2 c2,.slice A3 n3 c3],.agg #[.int .u8 md,.int .i64 (a:Int),.int .i64 pn,.int .u8 vl,.int .i64 ot]] V fun e w'=>e=.returned (.int .i64 (cbF c md (a:Int) pn vl ot))∧BelW V w'):=Lib.hid fun a V h h1 h2=>cbr_any G A0 A1 A2 A3 n1 n2 n3 c0 c1 c2 c3 md pn vl ot a V (hT.below (joinB hb1 h)) (hce V h) h1 h2
 obtain⟨v,HV⟩:=named (chkV c md nd pn vl ot)
 have hv:=HV.out
 rw[←HV.out]
 unfold chkV at hv
 rw[G.len]at hv
 clear HV hb1 hfc hfl hc hce hT G hk
 obtain⟨x0,x1,x2,x3,x4,x5,x6,x7,x8⟩:=HR.out W1 (Below.refl _ _)
 by_cases h1:3<md
 ·have t1:decide (md>3)=true:=by simp[h1]
  rw[if_pos (.inl h1)]at hv
  go_enter Tryd.func8,Tryd.ntmps8
  go_upto_region 1 with (fail)
  rw[←HW1.out]
  go_wp2_with (first
   |(go_at_call 15;(with_reducible refine HCK.out.mono ?_);rintro e w2 ⟨rfl,h1⟩;have HB2:Hid (BelW W1 w2):=Lib.hid h1;clear h1 x0 x1 x2 x3 x4 x5 x6 x7 x8;obtain⟨x0,x1,x2,x3,x4,x5,x6,x7,x8⟩:=HR.out w2 HB2.out))
  go_ret
  exact⟨by first|rfl|(rw[hv];done)|(rw[hv];rfl),joinB HB1.out HB2.out⟩
 ·have t1:decide (md>3)=false:=by simp;omega
  by_cases h2:1<vl
  ·have t2:decide (vl>1)=true:=by simp[h2]
   rw[if_pos (.inr (.inl h2))]at hv
   go_enter Tryd.func8,Tryd.ntmps8
   go_upto_region 1 with (fail)
   rw[←HW1.out]
   go_wp2_with (first
    |(go_at_call 15;(with_reducible refine HCK.out.mono ?_);rintro e w2 ⟨rfl,h1⟩;have HB2:Hid (BelW W1 w2):=Lib.hid h1;clear h1 x0 x1 x2 x3 x4 x5 x6 x7 x8;obtain⟨x0,x1,x2,x3,x4,x5,x6,x7,x8⟩:=HR.out w2 HB2.out))
   go_ret
   exact⟨by first|rfl|(rw[hv];done)|(rw[hv];rfl),joinB HB1.out HB2.out⟩
  ·have t2:decide (vl>1)=false:=by simp;omega
   by_cases h3:0≤nd∧nd<(n:Int)∧ -1≤pn∧pn<((c.nodes.getD nd.toNat default).ins.length:Int)
   ·have HLN:Hid (∀V,BelW W1 V→Calls Tryd.prog 16 #[.agg #[.slice A0 n c0,.slice A1 n1 c1,.slice A2 n2 c2,.slice A3 n3 c3],.agg #[.int .i64 nd,.int .i64 pn]] V fun e w'=>e=.returned (.bool true)∧BelW V w'):=Lib.hid fun V h=>(HLNX.out V h).mono fun e w' ⟨g1,g2⟩=>⟨by rw[g1,decide_eq_true h3],g2⟩
    rw[if_neg (fun h=>by rcases h with h|h|h;exact h1 h;exact h2 h;exact h h3)]at hv
    by_cases h4:2≤md
    ·have HBR:Hid (∀V,Calls Tryd.prog 17 #[.int .u8 md] V fun e w'=>e=.returned (.bool true)∧V=w'):=Lib.hid fun V=>(HBRX.out V).mono fun e w' ⟨g1,g2⟩=>⟨by rw[g1,decide_eq_true h4],g2⟩
     rw[if_pos h4]at hv
     obtain⟨a,rfl⟩:∃a:Nat,nd=(a:Int):=⟨nd.toNat,(Int.toNat_of_nonneg h3.1).symm⟩
     have HXB:=Lib.hid (fun V h=>HXBX.out a V h (by omega) (by omega))
     rw[←hv]at HXB
     clear HXBX HLNX HBRX h1 h2 h3 h4 hv
     have hv:v=v:=rfl
     go_enter Tryd.func8,Tryd.ntmps8
     go_upto_region 1 with (fail)
     rw[←HW1.out]
     go_wp2_with (first
      |(go_at_call 15;(with_reducible refine HCK.out.mono ?_);rintro e w2 ⟨rfl,h1⟩;have HB2:Hid (BelW W1 w2):=Lib.hid h1;clear h1 x0 x1 x2 x3 x4 x5 x6 x7 x8;obtain⟨x0,x1,x2,x3,x4,x5,x6,x7,x8⟩:=HR.out w2 HB2.out)
      |(go_at_call 16;(with_reducible refine (HLN.out _ HB2.out).mono ?_);rintro e w3 ⟨rfl,h1⟩;have HB3:Hid (BelW W1 w3):=Lib.hid (joinB HB2.out h1);clear h1 x0 x1 x2 x3 x4 x5 x6 x7 x8;obtain⟨x0,x1,x2,x3,x4,x5,x6,x7,x8⟩:=HR.out w3 HB3.out)
      |(go_at_call 17;(with_reducible refine (HBR.out _).mono ?_);rintro e w4 ⟨rfl,rfl⟩)
      |(go_at_call 18;(with_reducible refine (HXB.out _ HB3.out).mono ?_);rintro e w5 ⟨rfl,h1⟩;have HB5:Hid (BelW W1 w5):=Lib.hid (joinB HB3.out h1);clear h1 x0 x1 x2 x3 x4 x5 x6 x7 x8))
     go_ret
     exact⟨by first|rfl|(rw[hv];done)|(rw[hv];rfl),joinB HB1.out HB5.out⟩
    ·have HBR:Hid (∀V,Calls Tryd.prog 17 #[.int .u8 md] V fun e w'=>e=.returned (.bool false)∧V=w'):=Lib.hid fun V=>(HBRX.out V).mono fun e w' ⟨g1,g2⟩=>⟨by rw[g1,decide_eq_false h4],g2⟩
     rw[if_neg h4]at hv
     clear HXBX HLNX HBRX h3 h4
     by_cases h5:ot=0
     ·have t5:(ot != 0)=false:=by simp[h5]
      rw[if_pos h5]at hv
      clear h5
      go_enter Tryd.func8,Tryd.ntmps8
      go_upto_region 1 with (fail)
      rw[←HW1.out]
      go_wp2_with (first
       |(go_at_call 15;(with_reducible refine HCK.out.mono ?_);rintro e w2 ⟨rfl,h1⟩;have HB2:Hid (BelW W1 w2):=Lib.hid h1;clear h1 x0 x1 x2 x3 x4 x5 x6 x7 x8;obtain⟨x0,x1,x2,x3,x4,x5,x6,x7,x8⟩:=HR.out w2 HB2.out)
       |(go_at_call 16;(with_reducible refine (HLN.out _ HB2.out).mono ?_);rintro e w3 ⟨rfl,h1⟩;have HB3:Hid (BelW W1 w3):=Lib.hid (joinB HB2.out h1);clear h1 x0 x1 x2 x3 x4 x5 x6 x7 x8;obtain⟨x0,x1,x2,x3,x4,x5,x6,x7,x8⟩:=HR.out w3 HB3.out)
       |(go_at_call 17;(with_reducible refine (HBR.out _).mono ?_);rintro e w4 ⟨rfl,rfl⟩))
      go_ret
      exact⟨by first|rfl|(rw[hv];done)|(rw[hv];rfl),joinB HB1.out HB3.out⟩
     ·have t5:(ot != 0)=true:=by simp[h5]
      rw[if_neg h5]at hv
      go_enter Tryd.func8,Tryd.ntmps8
      go_upto_region 1 with (fail)
      rw[←HW1.out]
      go_wp2_with (first
       |(go_at_call 15;(with_reducible refine HCK.out.mono ?_);rintro e w2 ⟨rfl,h1⟩;have HB2:Hid (BelW W1 w2):=Lib.hid h1;clear h1 x0 x1 x2 x3 x4 x5 x6 x7 x8;obtain⟨x0,x1,x2,x3,x4,x5,x6,x7,x8⟩:=HR.out w2 HB2.out)
       |(go_at_call 16;(with_reducible refine (HLN.out _ HB2.out).mono ?_);rintro e w3 ⟨rfl,h1⟩;have HB3:Hid (BelW W1 w3):=Lib.hid (joinB HB2.out h1);clear h1 x0 x1 x2 x3 x4 x5 x6 x7 x8;obtain⟨x0,x1,x2,x3,x4,x5,x6,x7,x8⟩:=HR.out w3 HB3.out)
       |(go_at_call 17;(with_reducible refine (HBR.out _).mono ?_);rintro e w4 ⟨rfl,rfl⟩))
      go_ret
      exact⟨by first|rfl|(rw[hv];done)|(rw[hv];rfl),joinB HB1.out HB3.out⟩
   ·have HLN:Hid (∀V,BelW W1 V→Calls Tryd.prog 16 #[.agg #[.slice A0 n c0,.slice A1 n1 c1,.slice A2 n2 c2,.slice A3 n3 c3],.agg #[.int .i64 nd,.int .i64 pn]] V fun e w'=>e=.returned (.bool false)∧BelW V w'):=Lib.hid fun V h=>(HLNX.out V h).mono fun e w' ⟨g1,g2⟩=>⟨by rw[g1,decide_eq_false h3],g2⟩
    rw[if_pos (.inr (.inr h3))]at hv
    clear HXBX HLNX HBRX h3
    go_enter Tryd.func8,Tryd.ntmps8
    go_upto_region 1 with (fail)
    rw[←HW1.out]
    go_wp2_with (first
     |(go_at_call 15;(with_reducible refine HCK.out.mono ?_);rintro e w2 ⟨rfl,h1⟩;have HB2:Hid (BelW W1 w2):=Lib.hid h1;clear h1 x0 x1 x2 x3 x4 x5 x6 x7 x8;obtain⟨x0,x1,x2,x3,x4,x5,x6,x7,x8⟩:=HR.out w2 HB2.out)
     |(go_at_call 16;(with_reducible refine (HLN.out _ HB2.out).mono ?_);rintro e w3 ⟨rfl,h1⟩;have HB3:Hid (BelW W1 w3):=Lib.hid (joinB HB2.out h1);clear h1 x0 x1 x2 x3 x4 x5 x6 x7 x8;obtain⟨x0,x1,x2,x3,x4,x5,x6,x7,x8⟩:=HR.out w3 HB3.out))
    go_ret
    exact⟨by first|rfl|(rw[hv];done)|(rw[hv];rfl),joinB HB1.out HB3.out⟩
def renJ:Go.Shelf.Ren:=⟨fun|156=>40|165=>52|166=>53|169=>54|240=>64|241=>65|276=>82|277=>83|n=>n,fun|0=>0|1=>1|2=>2|3=>3|4=>4|5=>5|6=>6|8=>8|9=>9|10=>10|11=>11|12=>12|14=>14|15=>15|16=>16|17=>17|19=>19|20=>20 |21=>21|28=>37|31=>35|37=>25|41=>159|43=>77|46=>152|47=>153|51=>150|52=>160|53=>97|54=>130|67=>89|70=>100|72=>102|73=>103|75=>105|76=>106|77=>107|80=>108|81=>168|83=>83|84=>117|104=>143|111=>93|112=>119|114=>147|127=>118|164=>134|165=>135|166=>136|171=>129|172=>131|173=>132|174=>133|211=>148|212=>149|213=>151|229=>137|232=>161|233=>162|239=>164|240=>165|242=>167|243=>169|244=>170|245=>171|246=>172|247=>173|249=>175|n=>n,fun n=>n⟩
theorem layJ:Lays.n156 Tryd.prog renJ:= {
 mixed:=by kernel_rfl
 f156:=Tryd.func40.trans (congrArg some (by kernel_rfl))
 f165:=Tryd.func52.trans (congrArg some (by kernel_rfl))
 f166:=Tryd.func53.trans (congrArg some (by kernel_rfl))
 f169:=Tryd.func54.trans (congrArg some (by kernel_rfl))
 f240:=Tryd.func64.trans (congrArg some (by kernel_rfl))
 f241:=Tryd.func65.trans (congrArg some (by kernel_rfl))
 f276:=Tryd.func82.trans (congrArg some (by kernel_rfl))
 f277:=Tryd.func83.trans (congrArg some (by kernel_rfl))
 t0:=Tryd.underlying0
 a0:=Tryd.isAgg0
 z0:=Tryd.sizeOf0
 v0:=Tryd.zeroValue0
 t3:=Tryd.underlying3
 a3:=Tryd.isAgg3
 z3:=Tryd.sizeOf3
 v3:=Tryd.zeroValue3
 t4:=Tryd.underlying4
 a4:=Tryd.isAgg4
 z4:=Tryd.sizeOf4
 v4:=Tryd.zeroValue4
 t9:=Tryd.underlying9
 a9:=Tryd.isAgg9
 z9:=Tryd.sizeOf9
 v9:=Tryd.zeroValue9
 t20:=Tryd.underlying20
 a20:=Tryd.isAgg20
 z20:=Tryd.sizeOf20
 v20:=Tryd.zeroValue20
 t31:=Tryd.underlying35
 a31:=Tryd.isAgg35
 z31:=Tryd.sizeOf35
 v31:=Tryd.zeroValue35
 t37:=Tryd.underlying25
 a37:=Tryd.isAgg25
 z37:=Tryd.sizeOf25
 v37:=Tryd.zeroValue25
 t70:=Tryd.underlying100
 a70:=Tryd.isAgg100
 z70:=Tryd.sizeOf100
 v70:=Tryd.zeroValue100
 t72:=Tryd.underlying102
 a72:=Tryd.isAgg102
 z72:=Tryd.sizeOf102
 v72:=Tryd.zeroValue102
 t75:=Tryd.underlying105
 a75:=Tryd.isAgg105
 z75:=Tryd.sizeOf105
 v75:=Tryd.zeroValue105
 t76:=Tryd.underlying106
 a76:=Tryd.isAgg106
 z76:=Tryd.sizeOf106
 v76:=Tryd.zeroValue106
 t127:=Tryd.underlying118
 a127:=Tryd.isAgg118
 z127:=Tryd.sizeOf118
 v127:=Tryd.zeroValue118
 t164:=Tryd.underlying134
 a164:=Tryd.isAgg134
 z164:=Tryd.sizeOf134
 v164:=Tryd.zeroValue134
}
theorem extJ:Builder.Extra Tryd.prog renJ:= {
 sizeBuilder:=by kernel_rfl
 liesBuilder:=by kernel_rfl
 t5:=Tryd.underlying5
 a5:=Tryd.isAgg5
 z5:=Tryd.sizeOf5
 v5:=Tryd.zeroValue5
 infoByte:=by kernel_rfl
 cellsByte:=by kernel_rfl
 sizeByte:=by kernel_rfl
 neB5:=by decide
}
theorem join_any(bk o c:Nat)(xs:List ByteArray)(sep:ByteArray)(w:World)(hcells:∀(j:Nat) x,xs[j]? =some x→w.cell? ⟨bk,o+j,none⟩=some (.string x))(hbk:bk<w.heap.size)(hN:xs.length≤140737488355328)(hcap:xs.length≤c)(hlen:(Lib.join (xs.map (·.data.toList)) sep.data.toList).length≤140737488355328):
 Calls Tryd.prog 40 #[.slice (some ⟨bk,o,none⟩) xs.length c,.string sep] w fun e w'=>e=.returned (.string ⟨(Lib.join (xs.map (·.data.toList)) sep.data.toList).toArray⟩)∧Below w.heap.size w w':=
 Any.strings_Join layJ extJ bk o c xs sep w hcells hbk hN hcap hlen
end Go.Proofs.YtcbllelkgniogaaDoor
