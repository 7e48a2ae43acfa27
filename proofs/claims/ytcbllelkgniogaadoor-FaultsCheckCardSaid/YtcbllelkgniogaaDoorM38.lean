/- The texts Lck Fob Shj. -/
import Derived.Test.YtcbllelkgniogaaDoorM36
import Derived.Test.YtcbllelkgniogaaDoorM37
import Derived.Test.YtcbllelkgniogaaDoorM34
import Derived.Test.YtcbllelkgniogaaDoorM15
import Derived.Shelf.Strings.OnBuilder
namespace Go.Proofs.YtcbllelkgniogaaDoor
open Go.RowKit
attribute [local go_sem] Oper.semAt_some
set_option maxHeartbeats 8000000 in
theorem lck_any{c:Ck}{n:Nat}{L:List Int}(G:G5 c n L)(A0 A1 A2 A3:Option Addr)(n1 n2 n3 c0 c1 c2 c3:Nat)(md nd pn vl ot:Int)(hvl:0≤vl)(w:World)(hc:Cir w w.heap.size (.agg #[.slice A0 n c0,.slice A1 n1 c1,.slice A2 n2 c2,.slice A3 n3 c3]) c):
 Calls Tryd.prog 9 #[.agg #[.slice A0 n c0,.slice A1 n1 c1,.slice A2 n2 c2,.slice A3 n3 c3],.agg #[.int .u8 md,.int .i64 nd,.int .i64 pn,.int .u8 vl,.int .i64 ot]] w fun e w'=>e=.returned (.int .i64 (chkV c md nd pn vl ot))∧BelW w w':=by
 obtain⟨W1,HW1⟩:=named ((w.alloc (.cells #[.slice A0 n c0,.slice A1 n1 c1,.slice A2 n2 c2,.slice A3 n3 c3] 39)).alloc (.cells #[.int .u8 md,.int .i64 nd,.int .i64 pn,.int .u8 vl,.int .i64 ot] 33))
 have hb1:BelW w W1:=by rw[HW1.out];exact joinB (below_new (Below.refl _ _) _) (below_new (Below.refl _ _) _)
 have hfc:Fr W1 w.heap.size 39 [.slice A0 n c0,.slice A1 n1 c1,.slice A2 n2 c2,.slice A3 n3 c3]:=by rw[HW1.out];exact (Fr.made _ _ _ rfl).alloc _
 have hfl:Fr W1 (w.heap.size+1) 33 [.int .u8 md,.int .i64 nd,.int .i64 pn,.int .u8 vl,.int .i64 ot]:=by rw[HW1.out];exact Fr.made _ _ _ (by simp)
 have HR:Hid (∀W,BelW W1 W→W.cell? ⟨w.heap.size,0,none⟩=some (.slice A0 n c0)∧W.cell? ⟨w.heap.size,1,none⟩=some (.slice A1 n1 c1)∧W.cell? ⟨w.heap.size,2,none⟩=some (.slice A2 n2 c2)∧W.cell? ⟨w.heap.size,3,none⟩=some (.slice A3 n3 c3)∧W.cell? ⟨w.heap.size+1,0,none⟩=some (.int .u8 md)∧W.cell? ⟨w.heap.size+1,1,none⟩=some (.int .i64 nd)∧W.cell? ⟨w.heap.size+1,2,none⟩=some (.int .i64 pn)∧W.cell? ⟨w.heap.size+1,3,none⟩=some (.int .u8 vl)∧W.cell? ⟨w.heap.size+1,4,none⟩=some (.int .i64 ot)):=Lib.hid fun W h=>⟨(hfc.below h).cell 0,(hfc.below h).cell 1,(hfc.below h).cell 2,(hfc.below h).cell 3,(hfl.below h).cell 0,(hfl.below h).cell 1,(hfl.below h).cell 2,(hfl.below h).cell 3,(hfl.below h).cell 4⟩
 have HB1:=Lib.hid hb1
 obtain⟨v,HV⟩:=named (chkV c md nd pn vl ot)
 have hv:=HV.out
 rw[←HV.out]
 unfold chkV at hv
 rw[G.len]at hv
 clear HV hfc hfl
 by_cases h1:3<md
 ·skip
  have t1:decide (md>3)=true:=by simp[h1]
  rw[if_pos (.inl h1)]at hv
  go_enter Tryd.func9,Tryd.ntmps9
  go_upto_region 1 with (fail)
  rw[←HW1.out]
  obtain⟨x0,x1,x2,x3,x4,x5,x6,x7,x8⟩:=HR.out W1 (Below.refl _ _)
  go_upto_region 2 with (fail)
  go_quiet (fail)
  rename_i nq
  have HBQ:Hid (BelW W1 (W1.drewN nq)):=Lib.hid (below_drewN (Below.refl _ _) _)
  go_wp2
  go_ret
  exact⟨by first|rfl|(rw[hv];done)|(rw[hv];rfl),joinB HB1.out HBQ.out⟩
 ·have t1:decide (md>3)=false:=by simp;omega
  by_cases h2:1<vl
  ·skip
   have t2:decide (vl>1)=true:=by simp[h2]
   rw[if_pos (.inr (.inl h2))]at hv
   go_enter Tryd.func9,Tryd.ntmps9
   go_upto_region 1 with (fail)
   rw[←HW1.out]
   obtain⟨x0,x1,x2,x3,x4,x5,x6,x7,x8⟩:=HR.out W1 (Below.refl _ _)
   go_upto_region 2 with (fail)
   go_quiet (fail)
   rename_i nq
   have HBQ:Hid (BelW W1 (W1.drewN nq)):=Lib.hid (below_drewN (Below.refl _ _) _)
   go_wp2
   go_ret
   exact⟨by first|rfl|(rw[hv];done)|(rw[hv];rfl),joinB HB1.out HBQ.out⟩
  ·have t2:decide (vl>1)=false:=by simp;omega
   by_cases h3:nd<0
   ·skip
    have t3:decide (nd<0)=true:=by simp[h3]
    rw[if_pos (.inr (.inr (fun h=>by omega)))]at hv
    go_enter Tryd.func9,Tryd.ntmps9
    go_upto_region 1 with (fail)
    rw[←HW1.out]
    obtain⟨x0,x1,x2,x3,x4,x5,x6,x7,x8⟩:=HR.out W1 (Below.refl _ _)
    go_upto_region 2 with (fail)
    go_quiet (fail)
    rename_i nq
    have HBQ:Hid (BelW W1 (W1.drewN nq)):=Lib.hid (below_drewN (Below.refl _ _) _)
    go_wp2
    go_ret
    exact⟨by first|rfl|(rw[hv];done)|(rw[hv];rfl),joinB HB1.out HBQ.out⟩
   ·have t3:decide (nd<0)=false:=by simp;omega
    by_cases h4:(n:Int)≤nd
    ·skip
     have t4:decide (nd≥(n:Int))=true:=by simp[h4]
     rw[if_pos (.inr (.inr (fun h=>by omega)))]at hv
     go_enter Tryd.func9,Tryd.ntmps9
     go_upto_region 1 with (fail)
     rw[←HW1.out]
     obtain⟨x0,x1,x2,x3,x4,x5,x6,x7,x8⟩:=HR.out W1 (Below.refl _ _)
     go_upto_region 2 with (fail)
     go_quiet (fail)
     rename_i nq
     have HBQ:Hid (BelW W1 (W1.drewN nq)):=Lib.hid (below_drewN (Below.refl _ _) _)
     go_wp2
     go_ret
     exact⟨by first|rfl|(rw[hv];done)|(rw[hv];rfl),joinB HB1.out HBQ.out⟩
    ·have t4:decide (nd≥(n:Int))=false:=by simp;omega
     have h4b:nd<(n:Int):=by omega
     by_cases h5:pn< -1
     ·skip
      have t5:decide (pn< -1)=true:=by simp[h5]
      rw[if_pos (.inr (.inr (fun h=>by omega)))]at hv
      go_enter Tryd.func9,Tryd.ntmps9
      go_upto_region 1 with (fail)
      rw[←HW1.out]
      obtain⟨x0,x1,x2,x3,x4,x5,x6,x7,x8⟩:=HR.out W1 (Below.refl _ _)
      go_upto_region 2 with (fail)
      go_quiet (fail)
      rename_i nq
      have HBQ:Hid (BelW W1 (W1.drewN nq)):=Lib.hid (below_drewN (Below.refl _ _) _)
      go_wp2
      go_ret
      exact⟨by first|rfl|(rw[hv];done)|(rw[hv];rfl),joinB HB1.out HBQ.out⟩
     ·have t5:decide (pn< -1)=false:=by simp;omega
      obtain⟨a,rfl⟩:∃a:Nat,nd=(a:Int):=⟨nd.toNat,(Int.toNat_of_nonneg (by omega)).symm⟩
      have han:a<n:=by omega
      rw[Int.toNat_natCast]at hv
      obtain⟨nb,no,hA,hin⟩:=rel_nodes G (Nat.le_refl _) hc
      obtain rfl:=hA (by omega)
      obtain⟨A4,c4,md4,bt4,b4,o4,hW⟩:=hin a han
      obtain⟨m,HM⟩:=named (c.nodes.getD a default).ins.length
      have HMC:Hid (∀W,BelW W1 W→W.cell? ⟨nb,no+a*4+1,none⟩=some (.slice A4 m c4)):=Lib.hid fun W h=>by
       have:=(hW W (joinB hb1 h)).2.1
       rw[List.length_map]at this
       rw[HM.out];exact this
      rw[←HM.out]at hv
      have HKD:Hid (∀k,k<n→∀W,BelW W1 W→W.cell? ⟨nb,no+k*4,none⟩=some (.int .u8 (c.nodes.getD k default).kind)):=Lib.hid fun k hk W h=>by
       obtain⟨A5,c5,md5,bt5,b5,o5,hW5⟩:=hin k hk
       exact (hW5 W (joinB hb1 h)).1
      have HDP:Hid (∀(x y:Nat) V,x<n→BelW W1 V→Calls Tryd.prog 19 #[.agg #[.slice (some ⟨nb,no,none⟩) n c0,.slice A1 n1 c1,.slice A2 n2 c2,.slice A3 n3 c3],.int .i64 (x:Int),.int .i64 (y:Int),.int .i64 0] V fun e w'=>e=.returned (.bool (depF (rdQ c) n x y))∧BelW V w'):=Lib.hid fun x y V hx hVV=>by
       have h:=ldep_any G (some ⟨nb,no,none⟩) A1 A2 A3 n1 n2 n3 c0 c1 c2 c3 y (n+1) x 0 V hx (by omega) ((hc.below (joinB hb1 hVV)).more (Below.size (joinB hb1 hVV)))
       rw[depF_more G hx y]at h
       exact h
      have HRC:Hid (∀x y:Nat,relC c x y=(depF (rdQ c) n y x||depF (rdQ c) n x y)):=Lib.hid fun x y=>by unfold relC;rw[G.len]
      have m1:=HMC.out W1 (Below.refl _ _)
      have HBG:Hid ((md=2∨md=3)→0≤vl→vl≤1→ -1≤pn→pn<(m:Int)→a<n→Calls Tryd.prog 9 #[.agg #[.slice (some ⟨nb,no,none⟩) n c0,.slice A1 n1 c1,.slice A2 n2 c2,.slice A3 n3 c3],.agg #[.int .u8 md,.int .i64 (a:Int),.int .i64 pn,.int .u8 vl,.int .i64 ot]] w fun e w'=>e=.returned (.int .i64 (cbF c md (a:Int) pn vl ot))∧BelW w w'):=Lib.hid fun g1 g2 g3 g4 g5 g6=>lcb_any G (some ⟨nb,no,none⟩) A1 A2 A3 n1 n2 n3 c0 c1 c2 c3 a md pn vl ot g6 g1 g2 g3 g4 (by rw[←HM.out];exact g5) w hc
      clear hin hW hc G hb1 hA
      by_cases h6:(m:Int)≤pn
      ·skip
       have t6:decide (pn≥(m:Int))=true:=by simp[h6]
       rw[if_pos (.inr (.inr (fun h=>by omega)))]at hv
       go_enter Tryd.func9,Tryd.ntmps9
       go_upto_region 1 with (fail)
       rw[←HW1.out]
       obtain⟨x0,x1,x2,x3,x4,x5,x6,x7,x8⟩:=HR.out W1 (Below.refl _ _)
       go_upto_region 2 with (fail)
       go_quiet (fail)
       rename_i nq
       have HBQ:Hid (BelW W1 (W1.drewN nq)):=Lib.hid (below_drewN (Below.refl _ _) _)
       go_wp2
       go_ret
       exact⟨by first|rfl|(rw[hv];done)|(rw[hv];rfl),joinB HB1.out HBQ.out⟩
      ·have t6:decide (pn≥(m:Int))=false:=by simp;omega
       rw[if_neg (fun h=>by omega)]at hv
       by_cases h7:md<2
       ·have t7:decide (md<2)=true:=by simp[h7]
        rw[if_neg (by omega)]at hv
        by_cases h8:ot=0
        ·have t8:(ot != 0)=false:=by simp[h8]
         rw[if_pos h8]at hv
         clear h8
         go_enter Tryd.func9,Tryd.ntmps9
         go_upto_region 1 with (fail)
         rw[←HW1.out]
         obtain⟨x0,x1,x2,x3,x4,x5,x6,x7,x8⟩:=HR.out W1 (Below.refl _ _)
         go_upto_region 2 with (fail)
         go_quiet (fail)
         rename_i nq
         have HBQ:Hid (BelW W1 (W1.drewN nq)):=Lib.hid (below_drewN (Below.refl _ _) _)
         go_wp2
         go_ret
         exact⟨by first|rfl|(rw[hv];done)|(rw[hv];rfl),joinB HB1.out HBQ.out⟩
        ·have t8:(ot != 0)=true:=by simp[h8]
         rw[if_neg h8]at hv
         go_enter Tryd.func9,Tryd.ntmps9
         go_upto_region 1 with (fail)
         rw[←HW1.out]
         obtain⟨x0,x1,x2,x3,x4,x5,x6,x7,x8⟩:=HR.out W1 (Below.refl _ _)
         go_upto_region 2 with (fail)
         go_quiet (fail)
         rename_i nq
         have HBQ:Hid (BelW W1 (W1.drewN nq)):=Lib.hid (below_drewN (Below.refl _ _) _)
         go_wp2
         go_ret
         exact⟨by first|rfl|(rw[hv];done)|(rw[hv];rfl),joinB HB1.out HBQ.out⟩
       ·have t7:decide (md<2)=false:=by simp;omega
        rw[if_pos (by omega)]at hv
        rw[hv]
        exact HBG.out (by omega) (by omega) (by omega) (by omega) (by omega) (by omega)
attribute [local go_sem] Oper.semAt_some
theorem bridges_any(m:Int)(A0 A1 A2 A3:Option Addr)(n n1 n2 n3 c0 c1 c2 c3:Nat)(w:World):
 Calls Tryd.prog 43 #[.agg #[.slice A0 n c0,.slice A1 n1 c1,.slice A2 n2 c2,.slice A3 n3 c3],.int .u8 m] w fun e w'=>e=.returned (.func (.func 55) #[] #[.pointer (some ⟨w.heap.size,0,none⟩),.pointer (some ⟨w.heap.size+1,0,none⟩)])∧Fr w' w.heap.size 39 [.slice A0 n c0,.slice A1 n1 c1,.slice A2 n2 c2,.slice A3 n3 c3]∧Fr w' (w.heap.size+1) 28 [.int .u8 m]∧BelW w w':=by
 go_enter Tryd.func43,Tryd.ntmps43
 go_wp2
 go_ret
 exact⟨rfl,(Fr.made _ _ _ rfl).alloc _,Fr.made _ _ _ (by simp),joinB (below_new (Below.refl _ _) _) (below_new (Below.refl _ _) _)⟩
set_option maxRecDepth 100000 in
set_option maxHeartbeats 4000000 in
theorem faultsOf_brg{c:Ck}{n:Nat}{L:List Int}(G:G5 c n L)(A0 A1 A2 A3:Option Addr)(n1 n2 n3 c0 c1 c2 c3 B:Nat)(m:Int)(w:World)(hB:B≤w.heap.size)(hT:Tabs w)(hc:Cir w B (.agg #[.slice A0 n c0,.slice A1 n1 c1,.slice A2 n2 c2,.slice A3 n3 c3]) c)(hm:m=2∨m=3):
 Calls Tryd.prog 25 #[.agg #[.slice A0 n c0,.slice A1 n1 c1,.slice A2 n2 c2,.slice A3 n3 c3],.int .u8 m] w fun e w'=>∃gf lb,e=.returned (.func (.func gf) #[] lb)∧BelW w w'∧(∀args V,(callFunc gf args).run Tryd.prog V=.ok (.enter gf args) V)∧∀V,BelW w' V→SeqT B (Kr B [33,48]) Fence.wide 8 5 Tryd.prog gf lb encF (brL c m) V:=by
 obtain⟨W1,HW1⟩:=named ((w.alloc (.cells #[.slice A0 n c0,.slice A1 n1 c1,.slice A2 n2 c2,.slice A3 n3 c3] 39)).alloc (.cells #[.int .u8 m] 28))
 have hb1:BelW w W1:=by rw[HW1.out];exact joinB (below_new (Below.refl _ _) _) (below_new (Below.refl _ _) _)
 have hfc:Fr W1 w.heap.size 39 [.slice A0 n c0,.slice A1 n1 c1,.slice A2 n2 c2,.slice A3 n3 c3]:=by rw[HW1.out];exact (Fr.made _ _ _ rfl).alloc _
 have hfm:Fr W1 (w.heap.size+1) 28 [.int .u8 m]:=by rw[HW1.out];exact Fr.made _ _ _ (by simp)
 have HBR:Hid (Calls Tryd.prog 43 #[.agg #[.slice A0 n c0,.slice A1 n1 c1,.slice A2 n2 c2,.slice A3 n3 c3],.int .u8 m] W1 fun e w'=>∃lb,e=.returned (.func (.func 55) #[] lb)∧BelW w w'∧∀V,BelW w' V→SeqT B (Kr B [33,48]) Fence.wide 8 5 Tryd.prog 55 lb encF (brL c m) V):=Lib.hid ((bridges_any m A0 A1 A2 A3 n n1 n2 n3 c0 c1 c2 c3 W1).mono fun e w' ⟨h1,h2,h3,h4⟩=>⟨_,h1,joinB hb1 h4,fun V hV l J W' hVW hst hY h0=>by
  have hb:BelW w W':=joinB hb1 (joinB h4 (joinB hV hVW))
  have hBW:B≤W'.heap.size:=Nat.le_trans hB (Below.size hb)
  exact brg_in G 8 B W1.heap.size (W1.heap.size+1) n1 n2 n3 c0 c1 c2 c3 l m A0 A1 A2 A3 [33,48] (by decide) hm (by decide) (by decide) (by decide) (by decide) J W' hst hBW hY (hT.below hb) (h2.below (joinB hV hVW)) (h3.below (joinB hV hVW)) (hc.below (Below.mono hb hB)) h0⟩)
 have x0:W1.cell? ⟨w.heap.size+1,0,none⟩=some (.int .u8 m):=hfm.cell 0
 have x1:W1.cell? ⟨w.heap.size,0,none⟩=some (.slice A0 n c0):=hfc.cell 0
 have x2:W1.cell? ⟨w.heap.size,1,none⟩=some (.slice A1 n1 c1):=hfc.cell 1
 have x3:W1.cell? ⟨w.heap.size,2,none⟩=some (.slice A2 n2 c2):=hfc.cell 2
 have x4:W1.cell? ⟨w.heap.size,3,none⟩=some (.slice A3 n3 c3):=hfc.cell 3
 have t0:decide (2≤m)=true:=by simp;omega
 have hm2:(2:Int)≤m:=by omega
 clear hb1 hfc hfm hc hm hT G
 go_enter Tryd.func25,Tryd.ntmps25
 go_upto_region 1 with (fail)
 rw[←HW1.out]
 go_wp2_with (first
  |(go_at_call 17;(with_reducible refine (isBridge_any _ _).mono ?_);rintro e w1 ⟨rfl,rfl⟩;rw[t0])
  |(go_at_call 43;(with_reducible refine HBR.out.mono ?_);rintro e w2 ⟨lb,rfl,h1,h2⟩;have HB2:=Lib.hid h1;have HS2:=Lib.hid h2;clear h1 h2))
 go_ret
 exact⟨_,_,rfl,HB2.out,fun _ _=>rfl,HS2.out⟩
def renJ:Go.Shelf.Ren:=⟨fun|156=>40|165=>52|166=>53|169=>54|240=>64|241=>65|276=>82|277=>83|n=>n,fun|0=>0|1=>1|2=>2|3=>3|4=>4|5=>5|6=>6|8=>8|9=>9|10=>10|11=>11|12=>12|14=>14|15=>15|16=>16|17=>17|19=>19|20=>20 |21=>21|28=>37|31=>35|37=>25|41=>159|43=>77|46=>152|47=>153|51=>150|52=>160|53=>97|54=>130|67=>89|70=>100|72=>102|73=>103|75=>105|76=>106|77=>107|80=>108|81=>168|83=>83|84=>117|104=>143|111=>93|112=>119|114=>147|127=>118|164=>134|165=>135|166=>136|171=>129|172=>131|173=>132|174=>133|211=>148|212=>149|213=>151|229=>137|232=>161|233=>162|239=>164|240=>165|242=>167|243=>169|244=>170|245=>171|246=>172|247=>173|249=>175|n=>n,fun n=>n⟩
theorem layJ:Lays.n156 Tryd.prog renJ:= {
 mixed:=by kernel_rfl
 f156:=Tryd.func40.trans (congrArg some (by kernel_rfl))
 f165:=Tryd.func52.trans (congrArg some (by kernel_rfl))
 f166:=Tryd.func53.trans (congrArg some (by kernel_rfl))
 f169:=Tryd.func54.trans (congrArg some (by kernel_rfl))
 f240:=Tryd.func64.trans (congrArg some (by kernel_rfl))
 f241:=Tryd.func65.trans (congrArg some (by kernel_rfl))
 f276:=Tryd.func82.trans (congrArg some (by kernel_rfl))
 f277:=Tryd.func83.trans (congrArg some (by kernel_rfl))
 t0:=Tryd.underlying0
 a0:=Tryd.isAgg0
 z0:=Tryd.sizeOf0
 v0:=Tryd.zeroValue0
 t3:=Tryd.underlying3
 a3:=Tryd.isAgg3
 z3:=Tryd.sizeOf3
 v3:=Tryd.zeroValue3
 t4:=Tryd.underlying4
 a4:=Tryd.isAgg4
 z4:=Tryd.sizeOf4
 v4:=Tryd.zeroValue4
 t9:=Tryd.underlying9
 a9:=Tryd.isAgg9
 z9:=Tryd.sizeOf9
 v9:=Tryd.zeroValue9
 t20:=Tryd.underlying20
 a20:=Tryd.isAgg20
 z20:=Tryd.sizeOf20
 v20:=Tryd.zeroValue20
 t31:=Tryd.underlying35
 a31:=Tryd.isAgg35
 z31:=Tryd.sizeOf35
 v31:=Tryd.zeroValue35
 t37:=Tryd.underlying25
 a37:=Tryd.isAgg25
 z37:=Tryd.sizeOf25
 v37:=Tryd.zeroValue25
 t70:=Tryd.underlying100
 a70:=Tryd.isAgg100
 z70:=Tryd.sizeOf100
 v70:=Tryd.zeroValue100
 t72:=Tryd.underlying102
 a72:=Tryd.isAgg102
 z72:=Tryd.sizeOf102
 v72:=Tryd.zeroValue102
 t75:=Tryd.underlying105
 a75:=Tryd.isAgg105
 z75:=Tryd.sizeOf105
 v75:=Tryd.zeroValue105
 t76:=Tryd.underlying106
 a76:=Tryd.isAgg106
 z76:=Tryd.sizeOf106
 v76:=Tryd.zeroValue106
 t127:=Tryd.underlying118
 a127:=Tryd.isAgg118
 z127:=Tryd.sizeOf118
 v127:=Tryd.zeroValue118
 t164:=Tryd.underlying134
 a164:=Tryd.isAgg134
 z164:=Tryd.sizeOf134
 v164:=Tryd.zeroValue134
}
theorem extJ:Builder.Extra Tryd.prog renJ:= {
 sizeBuilder:=by kernel_rfl
 liesBuilder:=by kernel_rfl
 t5:=Tryd.underlying5
 a5:=Tryd.isAgg5
 z5:=Tryd.sizeOf5
 v5:=Tryd.zeroValue5
 infoByte:=by kernel_rfl
 cellsByte:=by kernel_rfl
 sizeByte:=by kernel_rfl
 neB5:=by decide
}
theorem join_any(bk o c:Nat)(xs:List ByteArray)(sep:ByteArray)(w:World)(hcells:∀(j:Nat) x,xs[j]? =some x→w.cell? ⟨bk,o+j,none⟩=some (.string x))(hbk:bk<w.heap.size)(hN:xs.length≤140737488355328)(hcap:xs.length≤c)(hlen:(Lib.join (xs.map (·.data.toList)) sep.data.toList).length≤140737488355328):
 Calls Tryd.prog 40 #[.slice (some ⟨bk,o,none⟩) xs.length c,.string sep] w fun e w'=>e=.returned (.string ⟨(Lib.join (xs.map (·.data.toList)) sep.data.toList).toArray⟩)∧Below w.heap.size w w':=
 Any.strings_Join layJ extJ bk o c xs sep w hcells hbk hN hcap hlen
end Go.Proofs.YtcbllelkgniogaaDoor
