/- . -/
import Derived.Test.YtjdjcaobkmpoeaaDoorRsh
import Derived.Test.YtjdjcaobkmpoeaaDoorM21
namespace Go.Proofs.YtjdjcaobkmpoeaaDoor
open Go.RowKit
theorem hi_16(k:Int)(h0:0≤k):hi k≤16:=by
 by_cases h:15<k
 ·unfold hi;rw[if_pos h];decide
 ·rcases kinds h0 h with rfl|rfl|rfl|rfl|rfl|rfl|rfl|rfl|rfl|rfl|rfl|rfl|rfl|rfl|rfl|rfl<;>decide
theorem pins_few{w:World}{B:Nat}{v:Value}{c:Ck}(hc:Cir w B v c)(h:shapeErr c=0):∀k,k<c.nodes.length→(c.nodes.getD k default).ins.length≤100:=fun k hk=>by
 have h1:=nodeErr_zero ((shape_zero h).2.2.2.2.1 _ (getD_mem_nd hk))
 have h2:=hi_16 (c.nodes.getD k default).kind (hc.fit.k k hk).1
 have:=h1.2.2.1
 omega
set_option maxHeartbeats 4000000 in
theorem rchk_any(c:Ck)(v:Value)(w:World)(B:Nat)(hB:B≤w.heap.size)(hc:Cir w B v c):
 Calls Tryd.prog 7 #[v] w fun e w'=>e=.returned (.int .i64 (chkErr c))∧Below w.heap.size w w':=by
 obtain⟨y,HY⟩:=named (chkErr c)
 rw[←HY.out]
 have HSH:=Lib.hid (fun(w1:World) (hb:Below w.heap.size w w1)=>rshape_any c v w1 B (Nat.le_trans hB hb.size) (hc.below (hb.mono hB)))
 have HLV:=Lib.hid (fun(h0:shapeErr c=0) (w1:World) (hb:Below w.heap.size w w1)=>rlev_any c v w1 B (Nat.le_trans hB hb.size) (hc.below (hb.mono hB)) (wf_of_shape h0) (by have:=(shape_zero h0).1;omega) (pins_few hc h0))
 obtain⟨v0,v1,v2,v3,rfl,hns,hss,hms,hos⟩:=hc
 obtain⟨A0,b0,o0,c0,rfl,-⟩:=hns
 obtain⟨A1,b1,o1,c1,rfl,-⟩:=hss
 obtain⟨A2,b2,o2,c2,rfl,-⟩:=hms
 obtain⟨A3,b3,o3,c3,rfl,-⟩:=hos
 have HNZ:Hid (shapeErr c≠0→y=shapeErr c):=Lib.hid fun h=>by rw[HY.out];unfold chkErr;exact if_pos h
 have HZE:Hid (shapeErr c=0→(∃L,Lvl c.nodes L)→y=0):=Lib.hid fun h hl=>by rw[HY.out];unfold chkErr;rw[if_neg (by simpa using h),if_pos hl]
 have HZN:Hid (shapeErr c=0→¬(∃L,Lvl c.nodes L)→y=6):=Lib.hid fun h hl=>by rw[HY.out];unfold chkErr;rw[if_neg (by simpa using h),if_neg hl]
 clear HY
 obtain⟨z,HZ⟩:=named (shapeErr c)
 rw[←HZ.out]at HSH HNZ
 have hlv:∀(E:Bool),((∃L,Lvl c.nodes L)↔E=true)→shapeErr c=0→∀w1,Below w.heap.size w w1→Calls Tryd.prog 24 #[.agg #[.slice A0 c.nodes.length c0,.slice A1 c.names.length c1,.slice A2 c.mems.length c2,.slice A3 c.outs.length c3]] w1 fun e w'=>(∃s,e=.returned (.tuple #[s,.bool E]))∧Below w1.heap.size w1 w':=fun E hE h0 w1 hb=>
  (HLV.out h0 w1 hb).mono fun e w' ⟨h1,h2⟩=>by
    rcases h2 with⟨L,hL,he,-⟩| ⟨hn,he⟩
    ·have:E=true:=hE.1 ⟨L,hL⟩
     subst this
     exact⟨⟨_,he⟩,h1⟩
    ·cases E
     ·exact⟨⟨_,he⟩,h1⟩
     ·exact absurd (hE.2 rfl) hn
 have HLE:=Lib.hid hlv
 clear hlv HLV
 generalize c.nodes.length=n0 at HSH HLE ⊢
 generalize c.names.length=n1 at HSH HLE ⊢
 generalize c.mems.length=n2 at HSH HLE ⊢
 generalize c.outs.length=n3 at HSH HLE ⊢
 obtain⟨W1,HW1⟩:=named (w.alloc (.cells #[.slice A0 n0 c0,.slice A1 n1 c1,.slice A2 n2 c2,.slice A3 n3 c3] 27))
 have hb1:Below w.heap.size w W1:=by rw[HW1.out];exact below_new (Below.refl _ _) _
 have hfa:Fr W1 w.heap.size 27 [.slice A0 n0 c0,.slice A1 n1 c1,.slice A2 n2 c2,.slice A3 n3 c3]:=by rw[HW1.out];exact Fr.made _ _ _ rfl
 have HCA:Hid (∀W,Below W1.heap.size W1 W→W.cell? ⟨w.heap.size,0,none⟩=some (.slice A0 n0 c0)∧W.cell? ⟨w.heap.size,1,none⟩=some (.slice A1 n1 c1)∧W.cell? ⟨w.heap.size,2,none⟩=some (.slice A2 n2 c2)∧W.cell? ⟨w.heap.size,3,none⟩=some (.slice A3 n3 c3)):=
  Lib.hid fun W hb=>⟨(hfa.below hb).cell 0,(hfa.below hb).cell 1,(hfa.below hb).cell 2,(hfa.below hb).cell 3⟩
 have HB1:=Lib.hid hb1
 clear hfa hb1
 obtain⟨a0,a1,a2,a3⟩:=HCA.out W1 (Below.refl _ _)
 by_cases hz:z=0
 rotate_left
 ·have hz':(z != 0)=true:=by simpa using hz
  have hv:y=z:=HNZ.out hz
  have HV:=Lib.hid hv
  clear hv hz
  go_enter Tryd.func7,Tryd.ntmps7
  go_upto_region 1 with (fail)
  rw[←HW1.out]
  go_wp2_with (go_at_call 23;(with_reducible refine (HSH.out _ HB1.out).mono ?_);rintro e w2 ⟨rfl,hb⟩;have HB2:=Lib.hid hb;obtain⟨x0,x1,x2,x3⟩:=HCA.out _ hb;clear hb)
  go_ret
  exact⟨ret_int HV.out.symm,joinB HB1.out HB2.out⟩
 subst hz
 have h0:=HZ.out.symm
 by_cases hE:∃L,Lvl c.nodes L
 ·have hv:=HZE.out h0 hE
  have HLE2:=Lib.hid (HLE.out true (iff_of_true hE rfl) h0)
  have HV:=Lib.hid hv
  clear hv hE h0 HLE
  go_enter Tryd.func7,Tryd.ntmps7
  go_upto_region 1 with (fail)
  rw[←HW1.out]
  go_wp2_with (first
   |(go_at_call 23;(with_reducible refine (HSH.out _ HB1.out).mono ?_);rintro e w2 ⟨rfl,hb⟩;have HB2:=Lib.hid hb;obtain⟨x0,x1,x2,x3⟩:=HCA.out _ hb;clear hb)
   |(go_at_call 24;(with_reducible refine (HLE2.out _ (joinB HB1.out HB2.out)).mono ?_);rintro e w3 ⟨⟨s,rfl⟩,hb⟩;have HB3:=Lib.hid hb;clear hb))
  go_ret
  exact⟨ret_int HV.out.symm,joinB HB1.out (joinB HB2.out HB3.out)⟩
 ·have hv:=HZN.out h0 hE
  have HLE2:=Lib.hid (HLE.out false (iff_of_false hE (by decide)) h0)
  have HV:=Lib.hid hv
  clear hv hE h0 HLE
  go_enter Tryd.func7,Tryd.ntmps7
  go_upto_region 1 with (fail)
  rw[←HW1.out]
  go_wp2_with (first
   |(go_at_call 23;(with_reducible refine (HSH.out _ HB1.out).mono ?_);rintro e w2 ⟨rfl,hb⟩;have HB2:=Lib.hid hb;obtain⟨x0,x1,x2,x3⟩:=HCA.out _ hb;clear hb)
   |(go_at_call 24;(with_reducible refine (HLE2.out _ (joinB HB1.out HB2.out)).mono ?_);rintro e w3 ⟨⟨s,rfl⟩,hb⟩;have HB3:=Lib.hid hb;clear hb))
  go_ret
  exact⟨ret_int HV.out.symm,joinB HB1.out (joinB HB2.out HB3.out)⟩
end Go.Proofs.YtjdjcaobkmpoeaaDoor
