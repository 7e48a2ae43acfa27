/- The texts Lcb. -/
import Derived.Test.YtcbllelkgniogaaDoorM32
import Derived.Test.YtcbllelkgniogaaDoorM35
namespace Go.Proofs.YtcbllelkgniogaaDoor
open Go.RowKit
attribute [local go_sem] Oper.semAt_some
theorem depF_more{c:Ck}{n:Nat}{L:List Int}(G:G5 c n L){a:Nat}(ha:a<n)(b:Nat):depF (rdQ c) (n+1) a b=depF (rdQ c) n a b:=by
 have hO:=ordF_of G (ord5_to G.bnd)
 rw[Bool.eq_iff_iff,depF_iff hO ha b (n+1) (by omega),depF_iff hO ha b n (Nat.le_refl _)]
set_option maxRecDepth 100000 in
set_option maxHeartbeats 8000000 in
theorem lcb_any{c:Ck}{n:Nat}{L:List Int}(G:G5 c n L)(A0 A1 A2 A3:Option Addr)(n1 n2 n3 c0 c1 c2 c3:Nat)(a:Nat)(md pn vl ot:Int)(han:a<n)(hmd:md=2∨md=3)(hvl:0≤vl)(hv1:vl≤1)(hp0: -1≤pn)(hp1:pn<((c.nodes.getD a default).ins.length:Int))(w:World)(hc:Cir w w.heap.size (.agg #[.slice A0 n c0,.slice A1 n1 c1,.slice A2 n2 c2,.slice A3 n3 c3]) c):
 Calls Tryd.prog 9 #[.agg #[.slice A0 n c0,.slice A1 n1 c1,.slice A2 n2 c2,.slice A3 n3 c3],.agg #[.int .u8 md,.int .i64 (a:Int),.int .i64 pn,.int .u8 vl,.int .i64 ot]] w fun e w'=>e=.returned (.int .i64 (cbF c md (a:Int) pn vl ot))∧BelW w w':=by
 obtain⟨nb,no,hA,hin⟩:=rel_nodes G (Nat.le_refl _) hc
 obtain rfl:=hA (by omega)
 obtain⟨W1,HW1⟩:=named ((w.alloc (.cells #[.slice (some ⟨nb,no,none⟩) n c0,.slice A1 n1 c1,.slice A2 n2 c2,.slice A3 n3 c3] 39)).alloc (.cells #[.int .u8 md,.int .i64 (a:Int),.int .i64 pn,.int .u8 vl,.int .i64 ot] 33))
 have hb1:BelW w W1:=by rw[HW1.out];exact joinB (below_new (Below.refl _ _) _) (below_new (Below.refl _ _) _)
 have hfc:Fr W1 w.heap.size 39 [.slice (some ⟨nb,no,none⟩) n c0,.slice A1 n1 c1,.slice A2 n2 c2,.slice A3 n3 c3]:=by rw[HW1.out];exact (Fr.made _ _ _ rfl).alloc _
 have hfl:Fr W1 (w.heap.size+1) 33 [.int .u8 md,.int .i64 (a:Int),.int .i64 pn,.int .u8 vl,.int .i64 ot]:=by rw[HW1.out];exact Fr.made _ _ _ (by simp)
 have HR:Hid (∀W,BelW W1 W→W.cell? ⟨w.heap.size,0,none⟩=some (.slice (some ⟨nb,no,none⟩) n c0)∧W.cell? ⟨w.heap.size,1,none⟩=some (.slice A1 n1 c1)∧W.cell? ⟨w.heap.size,2,none⟩=some (.slice A2 n2 c2)∧W.cell? ⟨w.heap.size,3,none⟩=some (.slice A3 n3 c3)∧W.cell? ⟨w.heap.size+1,0,none⟩=some (.int .u8 md)∧W.cell? ⟨w.heap.size+1,1,none⟩=some (.int .i64 (a:Int))∧W.cell? ⟨w.heap.size+1,2,none⟩=some (.int .i64 pn)∧W.cell? ⟨w.heap.size+1,3,none⟩=some (.int .u8 vl)∧W.cell? ⟨w.heap.size+1,4,none⟩=some (.int .i64 ot)):=Lib.hid fun W h=>⟨(hfc.below h).cell 0,(hfc.below h).cell 1,(hfc.below h).cell 2,(hfc.below h).cell 3,(hfl.below h).cell 0,(hfl.below h).cell 1,(hfl.below h).cell 2,(hfl.below h).cell 3,(hfl.below h).cell 4⟩
 have HB1:=Lib.hid hb1
 obtain⟨A4,c4,md4,bt4,b4,o4,hW⟩:=hin a han
 obtain⟨m,HM⟩:=named (c.nodes.getD a default).ins.length
 have HMC:Hid (∀W,BelW W1 W→W.cell? ⟨nb,no+a*4+1,none⟩=some (.slice A4 m c4)):=Lib.hid fun W h=>by
  have:=(hW W (joinB hb1 h)).2.1
  rw[List.length_map]at this
  rw[HM.out];exact this
 rw[←HM.out]at hp1
 have HKD:Hid (∀k,k<n→∀W,BelW W1 W→W.cell? ⟨nb,no+k*4,none⟩=some (.int .u8 (c.nodes.getD k default).kind)):=Lib.hid fun k hk W h=>by
  obtain⟨A5,c5,md5,bt5,b5,o5,hW5⟩:=hin k hk
  exact (hW5 W (joinB hb1 h)).1
 have HDP:Hid (∀(x y:Nat) V,x<n→BelW W1 V→Calls Tryd.prog 19 #[.agg #[.slice (some ⟨nb,no,none⟩) n c0,.slice A1 n1 c1,.slice A2 n2 c2,.slice A3 n3 c3],.int .i64 (x:Int),.int .i64 (y:Int),.int .i64 0] V fun e w'=>e=.returned (.bool (depF (rdQ c) n x y))∧BelW V w'):=Lib.hid fun x y V hx hVV=>by
  have h:=ldep_any G (some ⟨nb,no,none⟩) A1 A2 A3 n1 n2 n3 c0 c1 c2 c3 y (n+1) x 0 V hx (by omega) ((hc.below (joinB hb1 hVV)).more (Below.size (joinB hb1 hVV)))
  rw[depF_more G hx y]at h
  exact h
 have HRCX:Hid (∀x y:Nat,relC c x y=(depF (rdQ c) n y x||depF (rdQ c) n x y)):=Lib.hid fun x y=>by unfold relC;rw[G.len]
 have m1:=HMC.out W1 (Below.refl _ _)
 obtain⟨v,HV⟩:=named (cbF c md (a:Int) pn vl ot)
 have hv:=HV.out
 rw[←HV.out]
 unfold cbF at hv
 rw[G.len]at hv
 have t1:decide (md>3)=false:=by simp;omega
 have t2:decide (vl>1)=false:=by simp;omega
 have t3:decide ((a:Int)<0)=false:=by simp
 have t4:decide ((a:Int)≥(n:Int))=false:=by simp;omega
 have han2:(a:Int)<(n:Int):=by omega
 have t5:decide (pn< -1)=false:=by simp;omega
 have t6:decide (pn≥(m:Int))=false:=by simp;omega
 have t7:decide (md<2)=false:=by simp;omega
 clear hin hW hc G hb1 hA HV hfc hfl HM hp0 hp1
 go_enter Tryd.func9,Tryd.ntmps9
 go_upto_region 1 with (fail)
 rw[←HW1.out]
 obtain⟨x0,x1,x2,x3,x4,x5,x6,x7,x8⟩:=HR.out W1 (Below.refl _ _)
 go_upto_region 2 with (fail)
 go_quiet (fail)
 rename_i nq
 have HBQ:Hid (BelW W1 (W1.drewN nq)):=Lib.hid (below_drewN (Below.refl _ _) _)
 clear x0 x1 x2 x3 x4 x5 x6 x7 x8 m1
 obtain⟨x0,x1,x2,x3,x4,x5,x6,x7,x8⟩:=HR.out (W1.drewN nq) HBQ.out
 go_upto_region 10 with (fail)
 clear t1 t2 t5 t6 t7
 by_cases h1:pn= -1
 ·have s0:(pn != -1)=false:=by simp[h1]
  by_cases h2:ot<0
  ·have s1:decide (ot<0)=true:=by simp[h2]
   rw[if_pos (.inr (.inl (fun h=>by omega)))]at hv
   clear h1
   go_wp2
   go_ret
   exact⟨by first|rfl|(rw[hv];done)|(rw[hv];rfl),joinB HB1.out HBQ.out⟩
  ·have s1:decide (ot<0)=false:=by simp;omega
   obtain⟨b,rfl⟩:∃b:Nat,ot=(b:Int):=⟨ot.toNat,(Int.toNat_of_nonneg (by omega)).symm⟩
   rw[Int.toNat_natCast,Int.toNat_natCast]at hv
   by_cases h3:n≤b
   ·have s2:decide ((b:Int)≥(n:Int))=true:=by simp;omega
    rw[if_pos (.inr (.inl (fun h=>by omega)))]at hv
    clear h1 h2
    go_wp2
    go_ret
    exact⟨by first|rfl|(rw[hv];done)|(rw[hv];rfl),joinB HB1.out HBQ.out⟩
   ·have s2:decide ((b:Int)≥(n:Int))=false:=by simp;omega
    have hbn:b<n:=by omega
    have hbn2:(b:Int)<(n:Int):=by omega
    by_cases h4:a=b
    ·have s3:((a:Int)==(b:Int))=true:=by simp[h4]
     rw[if_pos (.inr (.inr (by omega)))]at hv
     clear h1 h2 h3 h4
     go_wp2
     go_ret
     exact⟨by first|rfl|(rw[hv];done)|(rw[hv];rfl),joinB HB1.out HBQ.out⟩
    ·have s3:((a:Int)==(b:Int))=false:=by simp;omega
     rw[if_neg (fun h=>by omega)]at hv
     have HRC:=Lib.hid (HRCX.out a b)
     have HDA:=Lib.hid (fun V=>HDP.out a b V han)
     have HDB:=Lib.hid (fun V=>HDP.out b a V hbn)
     have HKA:=Lib.hid (HKD.out a han)
     have HKB:=Lib.hid (HKD.out b hbn)
     clear h1 h2 h3 HRCX HDP HMC
     rcases hmd with hm|hm
     ·subst hm
      by_cases h5:b<a
      ·have s4:decide ((a:Int)>(b:Int))=true:=by simp;omega
       have s5:(b:Int)<(a:Int):=by omega
       rw[if_pos (.inl ⟨rfl,s5⟩)]at hv
       clear h4 h5
       go_wp2
       go_ret
       exact⟨by first|rfl|(rw[hv];done)|(rw[hv];rfl),joinB HB1.out HBQ.out⟩
      ·have s4:decide ((a:Int)>(b:Int))=false:=by simp;omega
       have s5:¬(b:Int)<(a:Int):=by omega
       rw[if_neg (fun h=>by rcases h with h|h;exact s5 h.2;exact absurd (show (1:Int)<vl from h) (by omega))]at hv
       clear h4 h5
       go_upto_region 12 with (fail)
       have HB2:=HBQ
       have ka:=HKA.out _ HB2.out
       have kb:=HKB.out _ HB2.out
       by_cases k1:(c.nodes.getD a default).kind=12
       ·have s1:((c.nodes.getD a default).kind==12)=true:=beq_iff_eq.2 k1
        have c1:(triC c a||triC c b)=true:=by
         show ((c.nodes.getD a default).kind==12||(c.nodes.getD b default).kind==12)=true
         rw[s1];rfl
        rw[if_pos c1]at hv
        clear c1
        obtain⟨kx,HKX⟩:=named (c.nodes.getD a default).kind
        rw[←HKX.out]at ka s1
        clear k1 HKA
        go_wp2
        go_ret
        exact⟨by first|rfl|(rw[hv];done)|(rw[hv];rfl),joinB HB1.out HB2.out⟩
       ·have s1:((c.nodes.getD a default).kind==12)=false:=beq_eq_false_iff_ne.2 k1
        by_cases k2:(c.nodes.getD b default).kind=12
        ·have s2:((c.nodes.getD b default).kind==12)=true:=beq_iff_eq.2 k2
         have c1:(triC c a||triC c b)=true:=by
          show ((c.nodes.getD a default).kind==12||(c.nodes.getD b default).kind==12)=true
          rw[s1,s2];rfl
         rw[if_pos c1]at hv
         clear c1
         obtain⟨kx,HKX⟩:=named (c.nodes.getD a default).kind
         obtain⟨ky,HKY⟩:=named (c.nodes.getD b default).kind
         rw[←HKX.out]at ka s1
         rw[←HKY.out]at kb s2
         clear k1 k2 HKA HKB
         go_wp2
         go_ret
         exact⟨by first|rfl|(rw[hv];done)|(rw[hv];rfl),joinB HB1.out HB2.out⟩
        ·have s2:((c.nodes.getD b default).kind==12)=false:=beq_eq_false_iff_ne.2 k2
         have c1:¬(triC c a||triC c b)=true:=by
          show ¬((c.nodes.getD a default).kind==12||(c.nodes.getD b default).kind==12)=true
          rw[s1,s2];decide
         rw[if_neg c1,HRC.out]at hv
         clear c1
         obtain⟨kx,HKX⟩:=named (c.nodes.getD a default).kind
         obtain⟨ky,HKY⟩:=named (c.nodes.getD b default).kind
         rw[←HKX.out]at ka s1 HKA
         rw[←HKY.out]at kb s2 HKB
         clear k1 k2
         obtain⟨ta,HTA⟩:=named (depF (rdQ c) n a b)
         obtain⟨tb,HTB⟩:=named (depF (rdQ c) n b a)
         rw[←HTA.out]at hv HDA
         rw[←HTB.out]at hv HDB
         clear HTA HTB HKX HKY HRC
         cases ta
         ·cases tb
          ·have hv:v=0:=hv
           go_wp2_with (first
            |(go_at_call 19;(with_reducible refine (HDA.out _ HB2.out).mono ?_);rintro e w3 ⟨rfl,h1⟩;have HB3:Hid (BelW W1 w3):=Lib.hid (joinB HB2.out h1);clear h1 x0 x1 x2 x3 x4 x5 x6 x7 x8 ka kb;obtain⟨x0,x1,x2,x3,x4,x5,x6,x7,x8⟩:=HR.out w3 HB3.out;have ka:=HKA.out w3 HB3.out;have kb:=HKB.out w3 HB3.out)
            |(go_at_call 19;(with_reducible refine (HDB.out _ HB3.out).mono ?_);rintro e w4 ⟨rfl,h1⟩;have HB4:Hid (BelW W1 w4):=Lib.hid (joinB HB3.out h1);clear h1 x0 x1 x2 x3 x4 x5 x6 x7 x8 ka kb;obtain⟨x0,x1,x2,x3,x4,x5,x6,x7,x8⟩:=HR.out w4 HB4.out;have ka:=HKA.out w4 HB4.out;have kb:=HKB.out w4 HB4.out))
           go_ret
           exact⟨by first|rfl|(rw[hv];done)|(rw[hv];rfl),joinB HB1.out HB4.out⟩
          ·have hv:v=6:=hv
           go_wp2_with (first
            |(go_at_call 19;(with_reducible refine (HDA.out _ HB2.out).mono ?_);rintro e w3 ⟨rfl,h1⟩;have HB3:Hid (BelW W1 w3):=Lib.hid (joinB HB2.out h1);clear h1 x0 x1 x2 x3 x4 x5 x6 x7 x8 ka kb;obtain⟨x0,x1,x2,x3,x4,x5,x6,x7,x8⟩:=HR.out w3 HB3.out;have ka:=HKA.out w3 HB3.out;have kb:=HKB.out w3 HB3.out)
            |(go_at_call 19;(with_reducible refine (HDB.out _ HB3.out).mono ?_);rintro e w4 ⟨rfl,h1⟩;have HB4:Hid (BelW W1 w4):=Lib.hid (joinB HB3.out h1);clear h1 x0 x1 x2 x3 x4 x5 x6 x7 x8 ka kb;obtain⟨x0,x1,x2,x3,x4,x5,x6,x7,x8⟩:=HR.out w4 HB4.out;have ka:=HKA.out w4 HB4.out;have kb:=HKB.out w4 HB4.out))
           go_ret
           exact⟨by first|rfl|(rw[hv];done)|(rw[hv];rfl),joinB HB1.out HB4.out⟩
         ·have hv:v=6:=by rw[hv];cases tb<;>rfl
          go_wp2_with (first
           |(go_at_call 19;(with_reducible refine (HDA.out _ HB2.out).mono ?_);rintro e w3 ⟨rfl,h1⟩;have HB3:Hid (BelW W1 w3):=Lib.hid (joinB HB2.out h1);clear h1 x0 x1 x2 x3 x4 x5 x6 x7 x8 ka kb;obtain⟨x0,x1,x2,x3,x4,x5,x6,x7,x8⟩:=HR.out w3 HB3.out;have ka:=HKA.out w3 HB3.out;have kb:=HKB.out w3 HB3.out))
          go_ret
          exact⟨by first|rfl|(rw[hv];done)|(rw[hv];rfl),joinB HB1.out HB3.out⟩
     ·subst hm
      by_cases h5:vl=0
      ·have s4:(vl != 0)=false:=by simp[h5]
       rw[if_neg (fun h=>by rcases h with h|h;exact absurd h.1 (by decide);exact absurd (show (0:Int)<vl from h) (by omega))]at hv
       clear h4 h5
       go_upto_region 12 with (fail)
       have HB2:=HBQ
       have ka:=HKA.out _ HB2.out
       have kb:=HKB.out _ HB2.out
       by_cases k1:(c.nodes.getD a default).kind=12
       ·have s1:((c.nodes.getD a default).kind==12)=true:=beq_iff_eq.2 k1
        have c1:(triC c a||triC c b)=true:=by
         show ((c.nodes.getD a default).kind==12||(c.nodes.getD b default).kind==12)=true
         rw[s1];rfl
        rw[if_pos c1]at hv
        clear c1
        obtain⟨kx,HKX⟩:=named (c.nodes.getD a default).kind
        rw[←HKX.out]at ka s1
        clear k1 HKA
        go_wp2
        go_ret
        exact⟨by first|rfl|(rw[hv];done)|(rw[hv];rfl),joinB HB1.out HB2.out⟩
       ·have s1:((c.nodes.getD a default).kind==12)=false:=beq_eq_false_iff_ne.2 k1
        by_cases k2:(c.nodes.getD b default).kind=12
        ·have s2:((c.nodes.getD b default).kind==12)=true:=beq_iff_eq.2 k2
         have c1:(triC c a||triC c b)=true:=by
          show ((c.nodes.getD a default).kind==12||(c.nodes.getD b default).kind==12)=true
          rw[s1,s2];rfl
         rw[if_pos c1]at hv
         clear c1
         obtain⟨kx,HKX⟩:=named (c.nodes.getD a default).kind
         obtain⟨ky,HKY⟩:=named (c.nodes.getD b default).kind
         rw[←HKX.out]at ka s1
         rw[←HKY.out]at kb s2
         clear k1 k2 HKA HKB
         go_wp2
         go_ret
         exact⟨by first|rfl|(rw[hv];done)|(rw[hv];rfl),joinB HB1.out HB2.out⟩
        ·have s2:((c.nodes.getD b default).kind==12)=false:=beq_eq_false_iff_ne.2 k2
         have c1:¬(triC c a||triC c b)=true:=by
          show ¬((c.nodes.getD a default).kind==12||(c.nodes.getD b default).kind==12)=true
          rw[s1,s2];decide
         rw[if_neg c1,HRC.out]at hv
         clear c1
         obtain⟨kx,HKX⟩:=named (c.nodes.getD a default).kind
         obtain⟨ky,HKY⟩:=named (c.nodes.getD b default).kind
         rw[←HKX.out]at ka s1 HKA
         rw[←HKY.out]at kb s2 HKB
         clear k1 k2
         obtain⟨ta,HTA⟩:=named (depF (rdQ c) n a b)
         obtain⟨tb,HTB⟩:=named (depF (rdQ c) n b a)
         rw[←HTA.out]at hv HDA
         rw[←HTB.out]at hv HDB
         clear HTA HTB HKX HKY HRC
         cases ta
         ·cases tb
          ·have hv:v=0:=hv
           go_wp2_with (first
            |(go_at_call 19;(with_reducible refine (HDA.out _ HB2.out).mono ?_);rintro e w3 ⟨rfl,h1⟩;have HB3:Hid (BelW W1 w3):=Lib.hid (joinB HB2.out h1);clear h1 x0 x1 x2 x3 x4 x5 x6 x7 x8 ka kb;obtain⟨x0,x1,x2,x3,x4,x5,x6,x7,x8⟩:=HR.out w3 HB3.out;have ka:=HKA.out w3 HB3.out;have kb:=HKB.out w3 HB3.out)
            |(go_at_call 19;(with_reducible refine (HDB.out _ HB3.out).mono ?_);rintro e w4 ⟨rfl,h1⟩;have HB4:Hid (BelW W1 w4):=Lib.hid (joinB HB3.out h1);clear h1 x0 x1 x2 x3 x4 x5 x6 x7 x8 ka kb;obtain⟨x0,x1,x2,x3,x4,x5,x6,x7,x8⟩:=HR.out w4 HB4.out;have ka:=HKA.out w4 HB4.out;have kb:=HKB.out w4 HB4.out))
           go_ret
           exact⟨by first|rfl|(rw[hv];done)|(rw[hv];rfl),joinB HB1.out HB4.out⟩
          ·have hv:v=6:=hv
           go_wp2_with (first
            |(go_at_call 19;(with_reducible refine (HDA.out _ HB2.out).mono ?_);rintro e w3 ⟨rfl,h1⟩;have HB3:Hid (BelW W1 w3):=Lib.hid (joinB HB2.out h1);clear h1 x0 x1 x2 x3 x4 x5 x6 x7 x8 ka kb;obtain⟨x0,x1,x2,x3,x4,x5,x6,x7,x8⟩:=HR.out w3 HB3.out;have ka:=HKA.out w3 HB3.out;have kb:=HKB.out w3 HB3.out)
            |(go_at_call 19;(with_reducible refine (HDB.out _ HB3.out).mono ?_);rintro e w4 ⟨rfl,h1⟩;have HB4:Hid (BelW W1 w4):=Lib.hid (joinB HB3.out h1);clear h1 x0 x1 x2 x3 x4 x5 x6 x7 x8 ka kb;obtain⟨x0,x1,x2,x3,x4,x5,x6,x7,x8⟩:=HR.out w4 HB4.out;have ka:=HKA.out w4 HB4.out;have kb:=HKB.out w4 HB4.out))
           go_ret
           exact⟨by first|rfl|(rw[hv];done)|(rw[hv];rfl),joinB HB1.out HB4.out⟩
         ·have hv:v=6:=by rw[hv];cases tb<;>rfl
          go_wp2_with (first
           |(go_at_call 19;(with_reducible refine (HDA.out _ HB2.out).mono ?_);rintro e w3 ⟨rfl,h1⟩;have HB3:Hid (BelW W1 w3):=Lib.hid (joinB HB2.out h1);clear h1 x0 x1 x2 x3 x4 x5 x6 x7 x8 ka kb;obtain⟨x0,x1,x2,x3,x4,x5,x6,x7,x8⟩:=HR.out w3 HB3.out;have ka:=HKA.out w3 HB3.out;have kb:=HKB.out w3 HB3.out))
          go_ret
          exact⟨by first|rfl|(rw[hv];done)|(rw[hv];rfl),joinB HB1.out HB3.out⟩
      ·have s4:(vl != 0)=true:=by simp[h5]
       rw[if_pos (.inr (show (0:Int)<vl by omega))]at hv
       clear h4 h5
       go_wp2
       go_ret
       exact⟨by first|rfl|(rw[hv];done)|(rw[hv];rfl),joinB HB1.out HBQ.out⟩
 ·have s0:(pn != -1)=true:=by simp[h1]
  rw[if_pos (.inl h1)]at hv
  go_wp2
  go_ret
  exact⟨by first|rfl|(rw[hv];done)|(rw[hv];rfl),joinB HB1.out HBQ.out⟩
end Go.Proofs.YtcbllelkgniogaaDoor
