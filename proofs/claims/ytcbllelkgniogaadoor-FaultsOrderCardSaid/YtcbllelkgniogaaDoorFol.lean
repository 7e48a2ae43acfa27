import Derived.Test.YtcbllelkgniogaaDoorEqt
namespace Go.Proofs.YtcbllelkgniogaaDoor
open Go.RowKit
attribute [local go_sem] Oper.semAt_some
theorem cmF_low(a b:Ft):cmF a b<0↔ltF a b:=by
 rcases cmF_cases a b with⟨e,h⟩| ⟨e,h⟩| ⟨e,h⟩
 ·rw[e];exact⟨fun _=>h,fun _=>by decide⟩
 ·subst h;rw[e];exact⟨fun h=>absurd h (by decide),fun h=>absurd h (ltF_irr _)⟩
 ·rw[e];exact⟨fun h=>absurd h (by decide),fun k=>absurd (ltF_trans h k) (ltF_irr _)⟩
theorem cmF_law3(a b d:Ft):((cmF a b=0)↔a=b)∧cmF b a= -cmF a b∧(cmF a b= -1∨cmF a b=0∨cmF a b=1)∧(cmF b d= -1∨cmF b d=0∨cmF b d=1)∧(cmF a b≤0→cmF b d≤0→cmF a d≤0)∧(cmF a b= -1→cmF b d= -1→cmF a d= -1):=by
 have key:∀a b:Ft,cmF a b= -1→cmF b a=1:=fun a b h=>by
  rcases cmF_cases b a with⟨e,h2⟩| ⟨e,h2⟩| ⟨e,h2⟩
  ·rcases cmF_cases a b with⟨e',h3⟩| ⟨e',h3⟩| ⟨e',h3⟩
   ·exact absurd (ltF_trans h2 h3) (ltF_irr _)
   ·omega
   ·omega
  ·subst h2;rw[cmF_self]at h;omega
  ·exact e
 have key2:∀a b:Ft,cmF a b=1→cmF b a= -1:=fun a b h=>by
  rcases cmF_cases b a with⟨e,h2⟩| ⟨e,h2⟩| ⟨e,h2⟩
  ·exact e
  ·subst h2;rw[cmF_self]at h;omega
  ·rcases cmF_cases a b with⟨e',h3⟩| ⟨e',h3⟩| ⟨e',h3⟩
   ·omega
   ·omega
   ·exact absurd (ltF_trans h2 h3) (ltF_irr _)
 have h0:∀a b:Ft,cmF a b=0↔a=b:=fun a b=>by
  constructor
  ·intro h
   rcases cmF_cases a b with⟨e,h2⟩| ⟨e,h2⟩| ⟨e,h2⟩
   ·omega
   ·exact h2
   ·omega
  ·rintro rfl;exact cmF_self a
 have h3:∀a b:Ft,cmF a b= -1∨cmF a b=0∨cmF a b=1:=fun a b=>by
  rcases cmF_cases a b with⟨e,-⟩| ⟨e,-⟩| ⟨e,-⟩
  ·exact .inl e
  ·exact .inr (.inl e)
  ·exact .inr (.inr e)
 have hlt:∀a b:Ft,cmF a b= -1↔ltF a b:=fun a b=>by
  constructor
  ·intro h
   rcases cmF_cases a b with⟨e,h2⟩| ⟨e,h2⟩| ⟨e,h2⟩
   ·exact h2
   ·omega
   ·omega
  ·intro h
   rcases cmF_cases a b with⟨e,h2⟩| ⟨e,h2⟩| ⟨e,h2⟩
   ·exact e
   ·subst h2;exact absurd h (ltF_irr _)
   ·exact absurd (ltF_trans h h2) (ltF_irr _)
 have htr:cmF a b= -1→cmF b d= -1→cmF a d= -1:=fun h k=>(hlt a d).2 (ltF_trans ((hlt a b).1 h) ((hlt b d).1 k))
 refine⟨h0 a b,?_,h3 a b,h3 b d,fun h k=>?_,htr⟩
 ·rcases h3 a b with h|h|h
  ·rw[h,key a b h];rfl
  ·obtain rfl:=(h0 a b).1 h
   rw[cmF_self];rfl
  ·rw[h,key2 a b h]
 ·rcases h3 a b with h1|h1|h1
  ·rcases h3 b d with h2|h2|h2
   ·rw[htr h1 h2];decide
   ·obtain rfl:=(h0 b d).1 h2
    omega
   ·omega
  ·obtain rfl:=(h0 a b).1 h1
   exact k
  ·omega
set_option maxRecDepth 100000 in
set_option maxHeartbeats 8000000 in
theorem ord12_law(a b d:Ft)(w:World)(hT:Tabs w)(hM:MWs w):
 Calls Tryd.prog 5 #[.agg #[.int .u8 a.md,.int .i64 a.nd,.int .i64 a.pn,.int .u8 a.vl,.int .i64 a.ot],.agg #[.int .u8 b.md,.int .i64 b.nd,.int .i64 b.pn,.int .u8 b.vl,.int .i64 b.ot],.agg #[.int .u8 d.md,.int .i64 d.nd,.int .i64 d.pn,.int .u8 d.vl,.int .i64 d.ot]] w fun e w'=>e=.returned (.bool true)∧BelW w w':=by
 obtain⟨a0,a1,a2,a3,a4⟩:=a
 obtain⟨b0,b1,b2,b3,b4⟩:=b
 obtain⟨d0,d1,d2,d3,d4⟩:=d
 simp only
 obtain⟨W1,HW1⟩:=named (((w.alloc (.cells #[.int .u8 a0,.int .i64 a1,.int .i64 a2,.int .u8 a3,.int .i64 a4] 33)).alloc (.cells #[.int .u8 b0,.int .i64 b1,.int .i64 b2,.int .u8 b3,.int .i64 b4] 33)).alloc (.cells #[.int .u8 d0,.int .i64 d1,.int .i64 d2,.int .u8 d3,.int .i64 d4] 33))
 have hb1:BelW w W1:=by rw[HW1.out];exact joinB (below_new (Below.refl _ _) _) (joinB (below_new (Below.refl _ _) _) (below_new (Below.refl _ _) _))
 have hfa:Fr W1 w.heap.size 33 [.int .u8 a0,.int .i64 a1,.int .i64 a2,.int .u8 a3,.int .i64 a4]:=by rw[HW1.out];exact ((Fr.made _ _ _ rfl).alloc _).alloc _
 have hfb:Fr W1 (w.heap.size+1) 33 [.int .u8 b0,.int .i64 b1,.int .i64 b2,.int .u8 b3,.int .i64 b4]:=by rw[HW1.out];exact (Fr.made _ _ _ (by simp)).alloc _
 have hfd:Fr W1 (w.heap.size+1+1) 33 [.int .u8 d0,.int .i64 d1,.int .i64 d2,.int .u8 d3,.int .i64 d4]:=by rw[HW1.out];exact Fr.made _ _ _ (by simp)
 have HR:Hid (∀W,BelW W1 W→W.cell? ⟨w.heap.size,0,none⟩=some (.int .u8 a0)∧W.cell? ⟨w.heap.size,1,none⟩=some (.int .i64 a1)∧W.cell? ⟨w.heap.size,2,none⟩=some (.int .i64 a2)∧W.cell? ⟨w.heap.size,3,none⟩=some (.int .u8 a3)∧W.cell? ⟨w.heap.size,4,none⟩=some (.int .i64 a4)∧W.cell? ⟨w.heap.size+1,0,none⟩=some (.int .u8 b0)∧W.cell? ⟨w.heap.size+1,1,none⟩=some (.int .i64 b1)∧W.cell? ⟨w.heap.size+1,2,none⟩=some (.int .i64 b2)∧W.cell? ⟨w.heap.size+1,3,none⟩=some (.int .u8 b3)∧W.cell? ⟨w.heap.size+1,4,none⟩=some (.int .i64 b4)∧W.cell? ⟨w.heap.size+1+1,0,none⟩=some (.int .u8 d0)∧W.cell? ⟨w.heap.size+1+1,1,none⟩=some (.int .i64 d1)∧W.cell? ⟨w.heap.size+1+1,2,none⟩=some (.int .i64 d2)∧W.cell? ⟨w.heap.size+1+1,3,none⟩=some (.int .u8 d3)∧W.cell? ⟨w.heap.size+1+1,4,none⟩=some (.int .i64 d4)):=Lib.hid fun W h=>⟨(hfa.below h).cell 0,(hfa.below h).cell 1,(hfa.below h).cell 2,(hfa.below h).cell 3,(hfa.below h).cell 4,(hfb.below h).cell 0,(hfb.below h).cell 1,(hfb.below h).cell 2,(hfb.below h).cell 3,(hfb.below h).cell 4,(hfd.below h).cell 0,(hfd.below h).cell 1,(hfd.below h).cell 2,(hfd.below h).cell 3,(hfd.below h).cell 4⟩
 have HB1:=Lib.hid hb1
 have HCM:Hid (∀(f0 f1 f2 f3 f4 g0 g1 g2 g3 g4:Int) V,Calls Tryd.prog 13 #[.agg #[.int .u8 f0,.int .i64 f1,.int .i64 f2,.int .u8 f3,.int .i64 f4],.agg #[.int .u8 g0,.int .i64 g1,.int .i64 g2,.int .u8 g3,.int .i64 g4]] V fun e w'=>e=.returned (.int .i64 (cmF ⟨f0,f1,f2,f3,f4⟩ ⟨g0,g1,g2,g3,g4⟩))∧BelW V w'):=Lib.hid fun f0 f1 f2 f3 f4 g0 g1 g2 g3 g4 V=>fcompare_any ⟨f0,f1,f2,f3,f4⟩ ⟨g0,g1,g2,g3,g4⟩ V
 have HLV:Hid (∀V,BelW W1 V→Calls Tryd.prog 10 #[] V fun e w'=>e=.returned (.bool true)∧BelW V w'):=Lib.hid fun V h=>lives12_any V (hT.below (joinB hb1 h)) (hM.below (joinB hb1 h))
 have HAB:Hid (∀V,Calls Tryd.prog 13 #[.agg #[.int .u8 a0,.int .i64 a1,.int .i64 a2,.int .u8 a3,.int .i64 a4],.agg #[.int .u8 b0,.int .i64 b1,.int .i64 b2,.int .u8 b3,.int .i64 b4]] V fun e w'=>e=.returned (.int .i64 (cmF ⟨a0,a1,a2,a3,a4⟩ ⟨b0,b1,b2,b3,b4⟩))∧BelW V w'):=Lib.hid fun V=>HCM.out _ _ _ _ _ _ _ _ _ _ V
 have HBA:Hid (∀V,Calls Tryd.prog 13 #[.agg #[.int .u8 b0,.int .i64 b1,.int .i64 b2,.int .u8 b3,.int .i64 b4],.agg #[.int .u8 a0,.int .i64 a1,.int .i64 a2,.int .u8 a3,.int .i64 a4]] V fun e w'=>e=.returned (.int .i64 (cmF ⟨b0,b1,b2,b3,b4⟩ ⟨a0,a1,a2,a3,a4⟩))∧BelW V w'):=Lib.hid fun V=>HCM.out _ _ _ _ _ _ _ _ _ _ V
 have HBD:Hid (∀V,Calls Tryd.prog 13 #[.agg #[.int .u8 b0,.int .i64 b1,.int .i64 b2,.int .u8 b3,.int .i64 b4],.agg #[.int .u8 d0,.int .i64 d1,.int .i64 d2,.int .u8 d3,.int .i64 d4]] V fun e w'=>e=.returned (.int .i64 (cmF ⟨b0,b1,b2,b3,b4⟩ ⟨d0,d1,d2,d3,d4⟩))∧BelW V w'):=Lib.hid fun V=>HCM.out _ _ _ _ _ _ _ _ _ _ V
 have HAD:Hid (∀V,Calls Tryd.prog 13 #[.agg #[.int .u8 a0,.int .i64 a1,.int .i64 a2,.int .u8 a3,.int .i64 a4],.agg #[.int .u8 d0,.int .i64 d1,.int .i64 d2,.int .u8 d3,.int .i64 d4]] V fun e w'=>e=.returned (.int .i64 (cmF ⟨a0,a1,a2,a3,a4⟩ ⟨d0,d1,d2,d3,d4⟩))∧BelW V w'):=Lib.hid fun V=>HCM.out _ _ _ _ _ _ _ _ _ _ V
 have hxyz:=cmF_law3 ⟨a0,a1,a2,a3,a4⟩ ⟨b0,b1,b2,b3,b4⟩ ⟨d0,d1,d2,d3,d4⟩
 obtain⟨x,HX⟩:=named (cmF ⟨a0,a1,a2,a3,a4⟩ ⟨b0,b1,b2,b3,b4⟩)
 obtain⟨y,HY⟩:=named (cmF ⟨b0,b1,b2,b3,b4⟩ ⟨d0,d1,d2,d3,d4⟩)
 obtain⟨z,HZ⟩:=named (cmF ⟨a0,a1,a2,a3,a4⟩ ⟨d0,d1,d2,d3,d4⟩)
 obtain⟨x',HX'⟩:=named (cmF ⟨b0,b1,b2,b3,b4⟩ ⟨a0,a1,a2,a3,a4⟩)
 rw[←HX.out]at HAB hxyz
 rw[←HY.out]at HBD hxyz
 rw[←HZ.out]at HAD hxyz
 rw[←HX'.out]at HBA hxyz
 clear hb1 hfa hfb hfd hT hM HY HZ HX'
 have HXYZ:=Lib.hid hxyz
 clear hxyz
 obtain⟨xa0,xa1,xa2,xa3,xa4,xb0,xb1,xb2,xb3,xb4,xd0,xd1,xd2,xd3,xd4⟩:=HR.out W1 (Below.refl _ _)
 go_enter Tryd.func5,Tryd.ntmps5
 go_upto_region 1 with (fail)
 rw[←HW1.out]
 have HB0:Hid (BelW W1 W1):=Lib.hid (Below.refl _ _)
 go_upto_region 4 with (first
  |(go_at_call 13;(with_reducible refine (HAB.out _).mono ?_);rintro e w2 ⟨rfl,h1⟩;have HB2:Hid (BelW W1 w2):=Lib.hid (joinB HB0.out h1);clear h1 xa0 xa1 xa2 xa3 xa4 xb0 xb1 xb2 xb3 xb4 xd0 xd1 xd2 xd3 xd4;obtain⟨xa0,xa1,xa2,xa3,xa4,xb0,xb1,xb2,xb3,xb4,xd0,xd1,xd2,xd3,xd4⟩:=HR.out w2 HB2.out)
  |(go_at_call 13;(with_reducible refine (HBD.out _).mono ?_);rintro e w3 ⟨rfl,h1⟩;have HB3:Hid (BelW W1 w3):=Lib.hid (joinB HB2.out h1);clear h1 xa0 xa1 xa2 xa3 xa4 xb0 xb1 xb2 xb3 xb4 xd0 xd1 xd2 xd3 xd4;obtain⟨xa0,xa1,xa2,xa3,xa4,xb0,xb1,xb2,xb3,xb4,xd0,xd1,xd2,xd3,xd4⟩:=HR.out w3 HB3.out)
  |(go_at_call 13;(with_reducible refine (HAD.out _).mono ?_);rintro e w4 ⟨rfl,h1⟩;have HB4:Hid (BelW W1 w4):=Lib.hid (joinB HB3.out h1);clear h1 xa0 xa1 xa2 xa3 xa4 xb0 xb1 xb2 xb3 xb4 xd0 xd1 xd2 xd3 xd4;obtain⟨xa0,xa1,xa2,xa3,xa4,xb0,xb1,xb2,xb3,xb4,xd0,xd1,xd2,xd3,xd4⟩:=HR.out w4 HB4.out))
 obtain⟨te,HTE⟩:∃te:Bool,Hid (te=true↔(a0=b0∧a1=b1∧a2=b2∧a3=b3∧a4=b4)):=⟨decide (a0=b0∧a1=b1∧a2=b2∧a3=b3∧a4=b4),Lib.hid decide_eq_true_iff⟩
 go_cut [65] from 11 (fun s65 wx=>s65=.bool false∧Hid (BelW W1 wx))
 case first=>
  obtain⟨h1,h2,h3,h4,h5,h6⟩:=HXYZ.out
  have hte:te=true↔x=0:=by
   rw[HTE.out,h1]
   simp
  have HX2:=Lib.hid HX.out
  clear HX h1 HXYZ HAB HBD HAD HLV HCM xd0 xd1 xd2 xd3 xd4
  go_step
  iterate 12 go_step
  refine wpList_eqlF rfl (.tmp 22) (.tmp 23) _ rfl a0 a1 a2 a3 a4 b0 b1 b2 b3 b4 rfl rfl te HTE.out ?_
  rcases h3 with h3|h3|h3
  ·have ht:te=false:=by rw[Bool.eq_false_iff];intro h;have:=hte.1 h;omega
   rw[h3]at h2 h5 h6
   rcases h4 with h4|h4|h4
   ·rw[h4]at h5 h6
    have hz:=h6 rfl rfl
    subst hz
    subst h4
    subst h3
    subst ht
    try simp only[Int.neg_neg,Int.neg_zero]at h2
    subst h2
    clear hte
    go_wp2_with (go_at_call 13;(with_reducible refine (HBA.out _).mono ?_);rintro e w5 ⟨rfl,h1⟩;have HB5:Hid (BelW W1 w5):=Lib.hid (joinB HB4.out h1);clear h1 xa0 xa1 xa2 xa3 xa4 xb0 xb1 xb2 xb3 xb4)
    go_meet
    exact⟨rfl,HB5⟩
   ·rw[h4]at h5 h6
    have hz:z≤0:=h5 (by decide) (by decide)
    have z1:¬0<z:=by omega
    have z2:decide (z>0)=false:=by simp;omega
    subst h4
    subst h3
    subst ht
    try simp only[Int.neg_neg,Int.neg_zero]at h2
    subst h2
    clear hte
    go_wp2_with (go_at_call 13;(with_reducible refine (HBA.out _).mono ?_);rintro e w5 ⟨rfl,h1⟩;have HB5:Hid (BelW W1 w5):=Lib.hid (joinB HB4.out h1);clear h1 xa0 xa1 xa2 xa3 xa4 xb0 xb1 xb2 xb3 xb4)
    go_meet
    exact⟨rfl,HB5⟩
   ·clear h5 h6
    subst h4
    subst h3
    subst ht
    try simp only[Int.neg_neg,Int.neg_zero]at h2
    subst h2
    clear hte
    go_wp2_with (go_at_call 13;(with_reducible refine (HBA.out _).mono ?_);rintro e w5 ⟨rfl,h1⟩;have HB5:Hid (BelW W1 w5):=Lib.hid (joinB HB4.out h1);clear h1 xa0 xa1 xa2 xa3 xa4 xb0 xb1 xb2 xb3 xb4)
    go_meet
    exact⟨rfl,HB5⟩
  ·have ht:te=true:=hte.2 h3
   rw[h3]at h2 h5 h6
   rcases h4 with h4|h4|h4
   ·rw[h4]at h5 h6
    have hz:z≤0:=h5 (by decide) (by decide)
    have z1:¬0<z:=by omega
    have z2:decide (z>0)=false:=by simp;omega
    subst h4
    subst h3
    subst ht
    try simp only[Int.neg_neg,Int.neg_zero]at h2
    subst h2
    clear hte
    go_wp2_with (go_at_call 13;(with_reducible refine (HBA.out _).mono ?_);rintro e w5 ⟨rfl,h1⟩;have HB5:Hid (BelW W1 w5):=Lib.hid (joinB HB4.out h1);clear h1 xa0 xa1 xa2 xa3 xa4 xb0 xb1 xb2 xb3 xb4)
    go_meet
    exact⟨rfl,HB5⟩
   ·rw[h4]at h5 h6
    have hz:z≤0:=h5 (by decide) (by decide)
    have z1:¬0<z:=by omega
    have z2:decide (z>0)=false:=by simp;omega
    subst h4
    subst h3
    subst ht
    try simp only[Int.neg_neg,Int.neg_zero]at h2
    subst h2
    clear hte
    go_wp2_with (go_at_call 13;(with_reducible refine (HBA.out _).mono ?_);rintro e w5 ⟨rfl,h1⟩;have HB5:Hid (BelW W1 w5):=Lib.hid (joinB HB4.out h1);clear h1 xa0 xa1 xa2 xa3 xa4 xb0 xb1 xb2 xb3 xb4)
    go_meet
    exact⟨rfl,HB5⟩
   ·clear h5 h6
    subst h4
    subst h3
    subst ht
    try simp only[Int.neg_neg,Int.neg_zero]at h2
    subst h2
    clear hte
    go_wp2_with (go_at_call 13;(with_reducible refine (HBA.out _).mono ?_);rintro e w5 ⟨rfl,h1⟩;have HB5:Hid (BelW W1 w5):=Lib.hid (joinB HB4.out h1);clear h1 xa0 xa1 xa2 xa3 xa4 xb0 xb1 xb2 xb3 xb4)
    go_meet
    exact⟨rfl,HB5⟩
  ·have ht:te=false:=by rw[Bool.eq_false_iff];intro h;have:=hte.1 h;omega
   rw[h3]at h2
   clear h4 h5 h6
   subst h3
   subst ht
   try simp only[Int.neg_neg,Int.neg_zero]at h2
   subst h2
   clear hte
   go_wp2_with (go_at_call 13;(with_reducible refine (HBA.out _).mono ?_);rintro e w5 ⟨rfl,h1⟩;have HB5:Hid (BelW W1 w5):=Lib.hid (joinB HB4.out h1);clear h1 xa0 xa1 xa2 xa3 xa4 xb0 xb1 xb2 xb3 xb4)
   go_meet
   exact⟨rfl,HB5⟩
 clear xa0 xa1 xa2 xa3 xa4 xb0 xb1 xb2 xb3 xb4 xd0 xd1 xd2 xd3 xd4
 obtain⟨rfl,HB5⟩:=hcut
 obtain⟨xa0,xa1,xa2,xa3,xa4,xb0,xb1,xb2,xb3,xb4,xd0,xd1,xd2,xd3,xd4⟩:=HR.out wc HB5.out
 clear HBA HBD HAD HTE
 obtain⟨pe,HPEE⟩:=named wc.heap.size
 obtain⟨V0,HV0E⟩:=named (wc.alloc (.cells #[.int .u8 a0,.int .i64 a1,.int .i64 a2,.int .u8 a3,.int .i64 a4] 33))
 have HE0:Hid (Fr V0 pe 33 [.int .u8 a0,.int .i64 a1,.int .i64 a2,.int .u8 a3,.int .i64 a4]):=Lib.hid (by rw[HV0E.out,HPEE.out];exact Fr.made _ _ _ rfl)
 have HV0:Hid (BelW W1 V0):=Lib.hid (by rw[HV0E.out];exact joinB HB5.out (below_new (Below.refl _ _) _))
 have HPE:Hid (W1.heap.size≤pe):=Lib.hid (by rw[HPEE.out];exact Below.size HB5.out)
 go_upto_region 7 with (fail)
 rw[←HPEE.out,←HV0E.out]
 clear HPEE HV0E HB5 xa0 xa1 xa2 xa3 xa4 xb0 xb1 xb2 xb3 xb4 xd0 xd1 xd2 xd3 xd4
 obtain⟨xa0,xa1,xa2,xa3,xa4,xb0,xb1,xb2,xb3,xb4,xd0,xd1,xd2,xd3,xd4⟩:=HR.out V0 HV0.out
 have f1:=HE0.out.frozen 3
 have g1:V0.cell? ⟨pe,3,none⟩=some (.int .u8 a3):=HE0.out.cell 3
 go_upto_region 8 with (fail)
 clear f1 g1 xa0 xa1 xa2 xa3 xa4 xb0 xb1 xb2 xb3 xb4 xd0 xd1 xd2 xd3 xd4
 obtain⟨Wq1,HW1q⟩:=named (V0.setCell ⟨pe,3,none⟩ (.int .u8 b3))
 have HE1:Hid (Fr Wq1 pe 33 [.int .u8 a0,.int .i64 a1,.int .i64 a2,.int .u8 b3,.int .i64 a4]):=Lib.hid (by rw[HW1q.out];exact HE0.out.set 3 _)
 have HBQ1:Hid (BelW W1 Wq1):=Lib.hid (by rw[HW1q.out];exact Below.setCell HV0.out HPE.out _)
 rw[←HW1q.out]
 clear HW1q HE0
 go_cut [86] from 67 (fun s wx=>s=.bool false∧Hid (BelW Wq1 wx))
 case first=>
  have qa0:∀xx:Beh Wq1,xx.x.cell? ⟨w.heap.size,0,none⟩=some (.int .u8 a0):=fun xx=>((HR.out _ (joinB HBQ1.out xx.below)).1)
  have qa1:∀xx:Beh Wq1,xx.x.cell? ⟨w.heap.size,1,none⟩=some (.int .i64 a1):=fun xx=>((HR.out _ (joinB HBQ1.out xx.below)).2.1)
  have qa2:∀xx:Beh Wq1,xx.x.cell? ⟨w.heap.size,2,none⟩=some (.int .i64 a2):=fun xx=>((HR.out _ (joinB HBQ1.out xx.below)).2.2.1)
  have qa3:∀xx:Beh Wq1,xx.x.cell? ⟨w.heap.size,3,none⟩=some (.int .u8 a3):=fun xx=>((HR.out _ (joinB HBQ1.out xx.below)).2.2.2.1)
  have qa4:∀xx:Beh Wq1,xx.x.cell? ⟨w.heap.size,4,none⟩=some (.int .i64 a4):=fun xx=>((HR.out _ (joinB HBQ1.out xx.below)).2.2.2.2.1)
  have qe0:∀xx:Beh Wq1,xx.x.cell? ⟨pe,0,none⟩=some (.int .u8 a0):=fun xx=>(HE1.out.below xx.below).cell 0
  have qe1:∀xx:Beh Wq1,xx.x.cell? ⟨pe,1,none⟩=some (.int .i64 a1):=fun xx=>(HE1.out.below xx.below).cell 1
  have qe2:∀xx:Beh Wq1,xx.x.cell? ⟨pe,2,none⟩=some (.int .i64 a2):=fun xx=>(HE1.out.below xx.below).cell 2
  have qe3:∀xx:Beh Wq1,xx.x.cell? ⟨pe,3,none⟩=some (.int .u8 b3):=fun xx=>(HE1.out.below xx.below).cell 3
  have qe4:∀xx:Beh Wq1,xx.x.cell? ⟨pe,4,none⟩=some (.int .i64 a4):=fun xx=>(HE1.out.below xx.below).cell 4
  have HCC:Hid (∀xx:Beh Wq1,Calls Tryd.prog 13 #[.agg #[.int .u8 a0,.int .i64 a1,.int .i64 a2,.int .u8 a3,.int .i64 a4],.agg #[.int .u8 a0,.int .i64 a1,.int .i64 a2,.int .u8 b3,.int .i64 a4]] xx.x fun e w'=>e=.returned (.int .i64 (cmF ⟨a0,a1,a2,a3,a4⟩ ⟨a0,a1,a2,b3,a4⟩))∧Below Wq1.heap.size Wq1 w'):=Lib.hid fun xx=>(HCM.out _ _ _ _ _ _ _ _ _ _ xx.x).mono fun _ _ h=>⟨h.1,joinB xx.below h.2⟩
  have hcn:=cmF_low ⟨a0,a1,a2,a3,a4⟩ ⟨a0,a1,a2,b3,a4⟩
  obtain⟨c,HC⟩:=named (cmF ⟨a0,a1,a2,a3,a4⟩ ⟨a0,a1,a2,b3,a4⟩)
  rw[←HC.out]at HCC hcn
  clear HC HLV HX HR HXYZ
  by_cases heq:a3=b3
  ·have t0:(b3 != a3)=false:=by simp[heq]
   have t1:¬b3≠a3:=fun h=>h heq.symm
   clear heq hcn t1
   refine region_class (w0:=Wq1) (Below.refl _ _) (by kernel_rfl) (by kernel_rfl) ?_
   repeat (first
    |go_big_quiet_skip
    |(go_big_quiet_want;go_big_quiet_op;first
     |go_big_quiet_on
     |(apply Exists.intro
       refine⟨fun xx=>?_,?_⟩
       focus first
        |(go_at_call 13;with_reducible exact beh_of (HCC.out xx))
       go_big_quiet_on)))
   refine wpQuiet_nil ?_
   rintro w9 ⟨⟨wz,hz9⟩,rfl⟩
   go_wp2
   go_meet
   exact⟨rfl,Lib.hid hz9⟩
  ·have t0:(b3 != a3)=true:=by simp;omega
   have hlt:c<0↔a3<b3:=by
    rw[hcn]
    simp[ltF,heq]
   obtain⟨tt,HTT⟩:=named (decide (a3<b3))
   have u1:decide (c<0)=tt:=by rw[HTT.out,Bool.eq_iff_iff,decide_eq_true_iff,decide_eq_true_iff];exact hlt
   have u2:decide (a3<b3)=tt:=HTT.out.symm
   clear heq hcn hlt HTT
   refine region_class (w0:=Wq1) (Below.refl _ _) (by kernel_rfl) (by kernel_rfl) ?_
   repeat (first
    |go_big_quiet_skip
    |(go_big_quiet_want;go_big_quiet_op;first
     |go_big_quiet_on
     |(apply Exists.intro
       refine⟨fun xx=>?_,?_⟩
       focus first
        |(go_at_call 13;with_reducible exact beh_of (HCC.out xx))
       go_big_quiet_on)))
   refine wpQuiet_nil ?_
   rintro w9 ⟨⟨wz,hz9⟩,rfl⟩
   go_wp2
   go_meet
   exact⟨rfl,Lib.hid hz9⟩
 obtain⟨rfl,HBN1⟩:=hcut
 obtain⟨V1,rfl⟩:∃V:World,V=wc:=⟨_,rfl⟩
 have HV1:Hid (BelW W1 V1):=Lib.hid (joinB HBQ1.out HBN1.out)
 have HE1:Hid (Fr V1 pe 33 [.int .u8 a0,.int .i64 a1,.int .i64 a2,.int .u8 b3,.int .i64 a4]):=Lib.hid (HE1.out.below HBN1.out)
 obtain⟨xa0,xa1,xa2,xa3,xa4,xb0,xb1,xb2,xb3,xb4,xd0,xd1,xd2,xd3,xd4⟩:=HR.out V1 HV1.out
 have f2:=HE1.out.frozen 4
 have g2:V1.cell? ⟨pe,4,none⟩=some (.int .i64 a4):=HE1.out.cell 4
 go_upto_region 11 with (fail)
 clear f2 g2 xa0 xa1 xa2 xa3 xa4 xb0 xb1 xb2 xb3 xb4 xd0 xd1 xd2 xd3 xd4
 obtain⟨Wq2,HW2q⟩:=named (V1.setCell ⟨pe,4,none⟩ (.int .i64 b4))
 have HE2:Hid (Fr Wq2 pe 33 [.int .u8 a0,.int .i64 a1,.int .i64 a2,.int .u8 b3,.int .i64 b4]):=Lib.hid (by rw[HW2q.out];exact HE1.out.set 4 _)
 have HBQ2:Hid (BelW W1 Wq2):=Lib.hid (by rw[HW2q.out];exact Below.setCell HV1.out HPE.out _)
 rw[←HW2q.out]
 clear HW2q HE1
 go_cut [106] from 87 (fun s wx=>s=.bool false∧Hid (BelW Wq2 wx))
 case first=>
  have qa0:∀xx:Beh Wq2,xx.x.cell? ⟨w.heap.size,0,none⟩=some (.int .u8 a0):=fun xx=>((HR.out _ (joinB HBQ2.out xx.below)).1)
  have qa1:∀xx:Beh Wq2,xx.x.cell? ⟨w.heap.size,1,none⟩=some (.int .i64 a1):=fun xx=>((HR.out _ (joinB HBQ2.out xx.below)).2.1)
  have qa2:∀xx:Beh Wq2,xx.x.cell? ⟨w.heap.size,2,none⟩=some (.int .i64 a2):=fun xx=>((HR.out _ (joinB HBQ2.out xx.below)).2.2.1)
  have qa3:∀xx:Beh Wq2,xx.x.cell? ⟨w.heap.size,3,none⟩=some (.int .u8 a3):=fun xx=>((HR.out _ (joinB HBQ2.out xx.below)).2.2.2.1)
  have qa4:∀xx:Beh Wq2,xx.x.cell? ⟨w.heap.size,4,none⟩=some (.int .i64 a4):=fun xx=>((HR.out _ (joinB HBQ2.out xx.below)).2.2.2.2.1)
  have qe0:∀xx:Beh Wq2,xx.x.cell? ⟨pe,0,none⟩=some (.int .u8 a0):=fun xx=>(HE2.out.below xx.below).cell 0
  have qe1:∀xx:Beh Wq2,xx.x.cell? ⟨pe,1,none⟩=some (.int .i64 a1):=fun xx=>(HE2.out.below xx.below).cell 1
  have qe2:∀xx:Beh Wq2,xx.x.cell? ⟨pe,2,none⟩=some (.int .i64 a2):=fun xx=>(HE2.out.below xx.below).cell 2
  have qe3:∀xx:Beh Wq2,xx.x.cell? ⟨pe,3,none⟩=some (.int .u8 b3):=fun xx=>(HE2.out.below xx.below).cell 3
  have qe4:∀xx:Beh Wq2,xx.x.cell? ⟨pe,4,none⟩=some (.int .i64 b4):=fun xx=>(HE2.out.below xx.below).cell 4
  have HCC:Hid (∀xx:Beh Wq2,Calls Tryd.prog 13 #[.agg #[.int .u8 a0,.int .i64 a1,.int .i64 a2,.int .u8 a3,.int .i64 a4],.agg #[.int .u8 a0,.int .i64 a1,.int .i64 a2,.int .u8 b3,.int .i64 b4]] xx.x fun e w'=>e=.returned (.int .i64 (cmF ⟨a0,a1,a2,a3,a4⟩ ⟨a0,a1,a2,b3,b4⟩))∧Below Wq2.heap.size Wq2 w'):=Lib.hid fun xx=>(HCM.out _ _ _ _ _ _ _ _ _ _ xx.x).mono fun _ _ h=>⟨h.1,joinB xx.below h.2⟩
  have hcn:=cmF_low ⟨a0,a1,a2,a3,a4⟩ ⟨a0,a1,a2,b3,b4⟩
  obtain⟨c,HC⟩:=named (cmF ⟨a0,a1,a2,a3,a4⟩ ⟨a0,a1,a2,b3,b4⟩)
  rw[←HC.out]at HCC hcn
  clear HC HLV HX HR HXYZ
  by_cases heq:a4=b4
  ·have t0:(b4 != a4)=false:=by simp[heq]
   have t1:¬b4≠a4:=fun h=>h heq.symm
   clear heq hcn t1
   refine region_class (w0:=Wq2) (Below.refl _ _) (by kernel_rfl) (by kernel_rfl) ?_
   repeat (first
    |go_big_quiet_skip
    |(go_big_quiet_want;go_big_quiet_op;first
     |go_big_quiet_on
     |(apply Exists.intro
       refine⟨fun xx=>?_,?_⟩
       focus first
        |(go_at_call 13;with_reducible exact beh_of (HCC.out xx))
       go_big_quiet_on)))
   refine wpQuiet_nil ?_
   rintro w9 ⟨⟨wz,hz9⟩,rfl⟩
   go_wp2
   go_meet
   exact⟨rfl,Lib.hid hz9⟩
  ·have t0:(b4 != a4)=true:=by simp;omega
   have hlt:c<0↔a4<b4:=by
    rw[hcn]
    simp[ltF,heq]
   obtain⟨tt,HTT⟩:=named (decide (a4<b4))
   have u1:decide (c<0)=tt:=by rw[HTT.out,Bool.eq_iff_iff,decide_eq_true_iff,decide_eq_true_iff];exact hlt
   have u2:decide (a4<b4)=tt:=HTT.out.symm
   clear heq hcn hlt HTT
   refine region_class (w0:=Wq2) (Below.refl _ _) (by kernel_rfl) (by kernel_rfl) ?_
   repeat (first
    |go_big_quiet_skip
    |(go_big_quiet_want;go_big_quiet_op;first
     |go_big_quiet_on
     |(apply Exists.intro
       refine⟨fun xx=>?_,?_⟩
       focus first
        |(go_at_call 13;with_reducible exact beh_of (HCC.out xx))
       go_big_quiet_on)))
   refine wpQuiet_nil ?_
   rintro w9 ⟨⟨wz,hz9⟩,rfl⟩
   go_wp2
   go_meet
   exact⟨rfl,Lib.hid hz9⟩
 obtain⟨rfl,HBN2⟩:=hcut
 obtain⟨V2,rfl⟩:∃V:World,V=wc:=⟨_,rfl⟩
 have HV2:Hid (BelW W1 V2):=Lib.hid (joinB HBQ2.out HBN2.out)
 have HE2:Hid (Fr V2 pe 33 [.int .u8 a0,.int .i64 a1,.int .i64 a2,.int .u8 b3,.int .i64 b4]):=Lib.hid (HE2.out.below HBN2.out)
 obtain⟨xa0,xa1,xa2,xa3,xa4,xb0,xb1,xb2,xb3,xb4,xd0,xd1,xd2,xd3,xd4⟩:=HR.out V2 HV2.out
 have f3:=HE2.out.frozen 2
 have g3:V2.cell? ⟨pe,2,none⟩=some (.int .i64 a2):=HE2.out.cell 2
 go_upto_region 14 with (fail)
 clear f3 g3 xa0 xa1 xa2 xa3 xa4 xb0 xb1 xb2 xb3 xb4 xd0 xd1 xd2 xd3 xd4
 obtain⟨Wq3,HW3q⟩:=named (V2.setCell ⟨pe,2,none⟩ (.int .i64 b2))
 have HE3:Hid (Fr Wq3 pe 33 [.int .u8 a0,.int .i64 a1,.int .i64 b2,.int .u8 b3,.int .i64 b4]):=Lib.hid (by rw[HW3q.out];exact HE2.out.set 2 _)
 have HBQ3:Hid (BelW W1 Wq3):=Lib.hid (by rw[HW3q.out];exact Below.setCell HV2.out HPE.out _)
 rw[←HW3q.out]
 clear HW3q HE2
 go_cut [132] from 107 (fun s wx=>s=.bool false∧Hid (BelW Wq3 wx))
 case first=>
  have qa0:∀xx:Beh Wq3,xx.x.cell? ⟨w.heap.size,0,none⟩=some (.int .u8 a0):=fun xx=>((HR.out _ (joinB HBQ3.out xx.below)).1)
  have qa1:∀xx:Beh Wq3,xx.x.cell? ⟨w.heap.size,1,none⟩=some (.int .i64 a1):=fun xx=>((HR.out _ (joinB HBQ3.out xx.below)).2.1)
  have qa2:∀xx:Beh Wq3,xx.x.cell? ⟨w.heap.size,2,none⟩=some (.int .i64 a2):=fun xx=>((HR.out _ (joinB HBQ3.out xx.below)).2.2.1)
  have qa3:∀xx:Beh Wq3,xx.x.cell? ⟨w.heap.size,3,none⟩=some (.int .u8 a3):=fun xx=>((HR.out _ (joinB HBQ3.out xx.below)).2.2.2.1)
  have qa4:∀xx:Beh Wq3,xx.x.cell? ⟨w.heap.size,4,none⟩=some (.int .i64 a4):=fun xx=>((HR.out _ (joinB HBQ3.out xx.below)).2.2.2.2.1)
  have qe0:∀xx:Beh Wq3,xx.x.cell? ⟨pe,0,none⟩=some (.int .u8 a0):=fun xx=>(HE3.out.below xx.below).cell 0
  have qe1:∀xx:Beh Wq3,xx.x.cell? ⟨pe,1,none⟩=some (.int .i64 a1):=fun xx=>(HE3.out.below xx.below).cell 1
  have qe2:∀xx:Beh Wq3,xx.x.cell? ⟨pe,2,none⟩=some (.int .i64 b2):=fun xx=>(HE3.out.below xx.below).cell 2
  have qe3:∀xx:Beh Wq3,xx.x.cell? ⟨pe,3,none⟩=some (.int .u8 b3):=fun xx=>(HE3.out.below xx.below).cell 3
  have qe4:∀xx:Beh Wq3,xx.x.cell? ⟨pe,4,none⟩=some (.int .i64 b4):=fun xx=>(HE3.out.below xx.below).cell 4
  have HCC:Hid (∀xx:Beh Wq3,Calls Tryd.prog 13 #[.agg #[.int .u8 a0,.int .i64 a1,.int .i64 a2,.int .u8 a3,.int .i64 a4],.agg #[.int .u8 a0,.int .i64 a1,.int .i64 b2,.int .u8 b3,.int .i64 b4]] xx.x fun e w'=>e=.returned (.int .i64 (cmF ⟨a0,a1,a2,a3,a4⟩ ⟨a0,a1,b2,b3,b4⟩))∧Below Wq3.heap.size Wq3 w'):=Lib.hid fun xx=>(HCM.out _ _ _ _ _ _ _ _ _ _ xx.x).mono fun _ _ h=>⟨h.1,joinB xx.below h.2⟩
  have hcn:=cmF_low ⟨a0,a1,a2,a3,a4⟩ ⟨a0,a1,b2,b3,b4⟩
  obtain⟨c,HC⟩:=named (cmF ⟨a0,a1,a2,a3,a4⟩ ⟨a0,a1,b2,b3,b4⟩)
  rw[←HC.out]at HCC hcn
  clear HC HLV HX HR HXYZ
  by_cases heq:a2=b2
  ·have t0:(b2 != a2)=false:=by simp[heq]
   have t1:¬b2≠a2:=fun h=>h heq.symm
   clear heq hcn t1
   refine region_class (w0:=Wq3) (Below.refl _ _) (by kernel_rfl) (by kernel_rfl) ?_
   repeat (first
    |go_big_quiet_skip
    |(go_big_quiet_want;go_big_quiet_op;first
     |go_big_quiet_on
     |(apply Exists.intro
       refine⟨fun xx=>?_,?_⟩
       focus first
        |(go_at_call 13;with_reducible exact beh_of (HCC.out xx))
       go_big_quiet_on)))
   refine wpQuiet_nil ?_
   rintro w9 ⟨⟨wz,hz9⟩,rfl⟩
   go_wp2
   go_meet
   exact⟨rfl,Lib.hid hz9⟩
  ·have t0:(b2 != a2)=true:=by simp;omega
   have hlt:c<0↔a2<b2:=by
    rw[hcn]
    simp[ltF,heq]
   obtain⟨tt,HTT⟩:=named (decide (a2<b2))
   have u1:decide (c<0)=tt:=by rw[HTT.out,Bool.eq_iff_iff,decide_eq_true_iff,decide_eq_true_iff];exact hlt
   have u2:decide (a2<b2)=tt:=HTT.out.symm
   clear heq hcn hlt HTT
   refine region_class (w0:=Wq3) (Below.refl _ _) (by kernel_rfl) (by kernel_rfl) ?_
   repeat (first
    |go_big_quiet_skip
    |(go_big_quiet_want;go_big_quiet_op;first
     |go_big_quiet_on
     |(apply Exists.intro
       refine⟨fun xx=>?_,?_⟩
       focus first
        |(go_at_call 13;with_reducible exact beh_of (HCC.out xx))
       go_big_quiet_on)))
   refine wpQuiet_nil ?_
   rintro w9 ⟨⟨wz,hz9⟩,rfl⟩
   go_wp2
   go_meet
   exact⟨rfl,Lib.hid hz9⟩
 obtain⟨rfl,HBN3⟩:=hcut
 obtain⟨V3,rfl⟩:∃V:World,V=wc:=⟨_,rfl⟩
 have HV3:Hid (BelW W1 V3):=Lib.hid (joinB HBQ3.out HBN3.out)
 have HE3:Hid (Fr V3 pe 33 [.int .u8 a0,.int .i64 a1,.int .i64 b2,.int .u8 b3,.int .i64 b4]):=Lib.hid (HE3.out.below HBN3.out)
 obtain⟨xa0,xa1,xa2,xa3,xa4,xb0,xb1,xb2,xb3,xb4,xd0,xd1,xd2,xd3,xd4⟩:=HR.out V3 HV3.out
 have f4:=HE3.out.frozen 1
 have g4:V3.cell? ⟨pe,1,none⟩=some (.int .i64 a1):=HE3.out.cell 1
 go_upto_region 17 with (fail)
 clear f4 g4 xa0 xa1 xa2 xa3 xa4 xb0 xb1 xb2 xb3 xb4 xd0 xd1 xd2 xd3 xd4
 obtain⟨Wq4,HW4q⟩:=named (V3.setCell ⟨pe,1,none⟩ (.int .i64 b1))
 have HE4:Hid (Fr Wq4 pe 33 [.int .u8 a0,.int .i64 b1,.int .i64 b2,.int .u8 b3,.int .i64 b4]):=Lib.hid (by rw[HW4q.out];exact HE3.out.set 1 _)
 have HBQ4:Hid (BelW W1 Wq4):=Lib.hid (by rw[HW4q.out];exact Below.setCell HV3.out HPE.out _)
 rw[←HW4q.out]
 clear HW4q HE3
 go_cut [158] from 133 (fun s wx=>s=.bool false∧Hid (BelW Wq4 wx))
 case first=>
  have qa0:∀xx:Beh Wq4,xx.x.cell? ⟨w.heap.size,0,none⟩=some (.int .u8 a0):=fun xx=>((HR.out _ (joinB HBQ4.out xx.below)).1)
  have qa1:∀xx:Beh Wq4,xx.x.cell? ⟨w.heap.size,1,none⟩=some (.int .i64 a1):=fun xx=>((HR.out _ (joinB HBQ4.out xx.below)).2.1)
  have qa2:∀xx:Beh Wq4,xx.x.cell? ⟨w.heap.size,2,none⟩=some (.int .i64 a2):=fun xx=>((HR.out _ (joinB HBQ4.out xx.below)).2.2.1)
  have qa3:∀xx:Beh Wq4,xx.x.cell? ⟨w.heap.size,3,none⟩=some (.int .u8 a3):=fun xx=>((HR.out _ (joinB HBQ4.out xx.below)).2.2.2.1)
  have qa4:∀xx:Beh Wq4,xx.x.cell? ⟨w.heap.size,4,none⟩=some (.int .i64 a4):=fun xx=>((HR.out _ (joinB HBQ4.out xx.below)).2.2.2.2.1)
  have qe0:∀xx:Beh Wq4,xx.x.cell? ⟨pe,0,none⟩=some (.int .u8 a0):=fun xx=>(HE4.out.below xx.below).cell 0
  have qe1:∀xx:Beh Wq4,xx.x.cell? ⟨pe,1,none⟩=some (.int .i64 b1):=fun xx=>(HE4.out.below xx.below).cell 1
  have qe2:∀xx:Beh Wq4,xx.x.cell? ⟨pe,2,none⟩=some (.int .i64 b2):=fun xx=>(HE4.out.below xx.below).cell 2
  have qe3:∀xx:Beh Wq4,xx.x.cell? ⟨pe,3,none⟩=some (.int .u8 b3):=fun xx=>(HE4.out.below xx.below).cell 3
  have qe4:∀xx:Beh Wq4,xx.x.cell? ⟨pe,4,none⟩=some (.int .i64 b4):=fun xx=>(HE4.out.below xx.below).cell 4
  have HCC:Hid (∀xx:Beh Wq4,Calls Tryd.prog 13 #[.agg #[.int .u8 a0,.int .i64 a1,.int .i64 a2,.int .u8 a3,.int .i64 a4],.agg #[.int .u8 a0,.int .i64 b1,.int .i64 b2,.int .u8 b3,.int .i64 b4]] xx.x fun e w'=>e=.returned (.int .i64 (cmF ⟨a0,a1,a2,a3,a4⟩ ⟨a0,b1,b2,b3,b4⟩))∧Below Wq4.heap.size Wq4 w'):=Lib.hid fun xx=>(HCM.out _ _ _ _ _ _ _ _ _ _ xx.x).mono fun _ _ h=>⟨h.1,joinB xx.below h.2⟩
  have hcn:=cmF_low ⟨a0,a1,a2,a3,a4⟩ ⟨a0,b1,b2,b3,b4⟩
  obtain⟨c,HC⟩:=named (cmF ⟨a0,a1,a2,a3,a4⟩ ⟨a0,b1,b2,b3,b4⟩)
  rw[←HC.out]at HCC hcn
  clear HC HLV HX HR HXYZ
  by_cases heq:a1=b1
  ·have t0:(b1 != a1)=false:=by simp[heq]
   have t1:¬b1≠a1:=fun h=>h heq.symm
   clear heq hcn t1
   refine region_class (w0:=Wq4) (Below.refl _ _) (by kernel_rfl) (by kernel_rfl) ?_
   repeat (first
    |go_big_quiet_skip
    |(go_big_quiet_want;go_big_quiet_op;first
     |go_big_quiet_on
     |(apply Exists.intro
       refine⟨fun xx=>?_,?_⟩
       focus first
        |(go_at_call 13;with_reducible exact beh_of (HCC.out xx))
       go_big_quiet_on)))
   refine wpQuiet_nil ?_
   rintro w9 ⟨⟨wz,hz9⟩,rfl⟩
   go_wp2
   go_meet
   exact⟨rfl,Lib.hid hz9⟩
  ·have t0:(b1 != a1)=true:=by simp;omega
   have hlt:c<0↔a1<b1:=by
    rw[hcn]
    simp[ltF,heq]
   obtain⟨tt,HTT⟩:=named (decide (a1<b1))
   have u1:decide (c<0)=tt:=by rw[HTT.out,Bool.eq_iff_iff,decide_eq_true_iff,decide_eq_true_iff];exact hlt
   have u2:decide (a1<b1)=tt:=HTT.out.symm
   clear heq hcn hlt HTT
   refine region_class (w0:=Wq4) (Below.refl _ _) (by kernel_rfl) (by kernel_rfl) ?_
   repeat (first
    |go_big_quiet_skip
    |(go_big_quiet_want;go_big_quiet_op;first
     |go_big_quiet_on
     |(apply Exists.intro
       refine⟨fun xx=>?_,?_⟩
       focus first
        |(go_at_call 13;with_reducible exact beh_of (HCC.out xx))
       go_big_quiet_on)))
   refine wpQuiet_nil ?_
   rintro w9 ⟨⟨wz,hz9⟩,rfl⟩
   go_wp2
   go_meet
   exact⟨rfl,Lib.hid hz9⟩
 obtain⟨rfl,HBN4⟩:=hcut
 obtain⟨V4,rfl⟩:∃V:World,V=wc:=⟨_,rfl⟩
 have HV4:Hid (BelW W1 V4):=Lib.hid (joinB HBQ4.out HBN4.out)
 have HE4:Hid (Fr V4 pe 33 [.int .u8 a0,.int .i64 b1,.int .i64 b2,.int .u8 b3,.int .i64 b4]):=Lib.hid (HE4.out.below HBN4.out)
 obtain⟨xa0,xa1,xa2,xa3,xa4,xb0,xb1,xb2,xb3,xb4,xd0,xd1,xd2,xd3,xd4⟩:=HR.out V4 HV4.out
 have hcn:=cmF_low ⟨a0,a1,a2,a3,a4⟩ ⟨b0,b1,b2,b3,b4⟩
 rw[←HX.out]at hcn
 clear HX HXYZ HE4
 have HL4:=Lib.hid (HLV.out V4 HV4.out)
 by_cases heq:a0=b0
 ·have t0:(a0==b0)=true:=by simp[heq]
  clear heq hcn
  go_wp2_with (go_at_call 10;(with_reducible refine HL4.out.mono ?_);rintro e w9 ⟨rfl,h1⟩;have HB9:=Lib.hid h1;clear h1 xa0 xa1 xa2 xa3 xa4 xb0 xb1 xb2 xb3 xb4 xd0 xd1 xd2 xd3 xd4)
  go_ret
  exact⟨rfl,joinB HB1.out (joinB HV4.out HB9.out)⟩
 ·have t0:(a0==b0)=false:=by simp[heq]
  have hlt:x<0↔a0<b0:=by
   rw[hcn]
   simp[ltF,heq]
  obtain⟨tt,HTT⟩:=named (decide (a0<b0))
  have u1:decide (x<0)=tt:=by rw[HTT.out,Bool.eq_iff_iff,decide_eq_true_iff,decide_eq_true_iff];exact hlt
  have u2:decide (a0<b0)=tt:=HTT.out.symm
  clear heq hcn hlt HTT
  go_wp2_with (go_at_call 10;(with_reducible refine HL4.out.mono ?_);rintro e w9 ⟨rfl,h1⟩;have HB9:=Lib.hid h1;clear h1 xa0 xa1 xa2 xa3 xa4 xb0 xb1 xb2 xb3 xb4 xd0 xd1 xd2 xd3 xd4)
  go_ret
  exact⟨by simp,joinB HB1.out (joinB HV4.out HB9.out)⟩
end Go.Proofs.YtcbllelkgniogaaDoor
