/- The texts Prt. -/
import Derived.Test.YtcbllelkgniogaaDoorM07
namespace Go.Proofs.YtcbllelkgniogaaDoor
open Go.RowKit
def shapeErr(c:Ck):Int:=
 if 16384<c.nodes.length∨16<c.mems.length∨16384<c.outs.length then 3
 else if c.names.length≠c.nodes.length then 8
 else if firstE (nodeErr c) c.nodes≠0 then firstE (nodeErr c) c.nodes
 else if namesOk c.names=false then 5
 else if firstE (memErr c) c.mems≠0 then firstE (memErr c) c.mems
 else if areIdx c.nodes.length c.outs=false then 1 else 0
set_option maxHeartbeats 2000000 in
theorem parts_any(c:Ck)(A0 A1 A2 A3:Option Addr)(c0 c1 c2 c3:Nat)(w:World)(B:Nat)(hB:B≤w.heap.size)(hT:Tabs w)
 (hns:Ns w B (.slice A0 c.nodes.length c0) c.nodes) (hss:Ss w B (.slice A1 c.names.length c1) c.names) (hms:Ms w B (.slice A2 c.mems.length c2) c.mems) (hos:Is w B (.slice A3 c.outs.length c3) c.outs):
 Calls Tryd.prog 57 #[.agg #[.slice A0 c.nodes.length c0,.slice A1 c.names.length c1,.slice A2 c.mems.length c2,.slice A3 c.outs.length c3]] w
  fun e w'=>e=.returned (.int .i64 (shapeErr c))∧Below w.heap.size w w':=by
 obtain⟨W,HW⟩:=named (w.alloc (.cells #[.slice A0 c.nodes.length c0,.slice A1 c.names.length c1,.slice A2 c.mems.length c2,.slice A3 c.outs.length c3] 39))
 have hbW:Below w.heap.size w W:=by rw[HW.out];exact (Below.refl _ _).alloc (Nat.le_refl _) _
 have hbox:Boxed W w.heap.size (.slice A0 c.nodes.length c0) (.slice A1 c.names.length c1) (.slice A2 c.mems.length c2) (.slice A3 c.outs.length c3):=by rw[HW.out];exact Boxed.new _ _ _ _ _ _
 have hBW:B≤W.heap.size:=Nat.le_trans hB hbW.size
 have hns':=hns.below (hbW.mono hB)
 have hss':=hss.below (hbW.mono hB)
 have hms':=hms.below (hbW.mono hB)
 have hos':=hos.below (hbW.mono hB)
 have hTW:=hT.below hbW
 have hN:Calls Tryd.prog 67 #[.slice A0 c.nodes.length c0,.func (.func 68) #[] #[.pointer (some ⟨w.heap.size,0,none⟩)]] W fun e w'=>e=.returned (.int .i64 (firstE (nodeErr c) c.nodes))∧Below W.heap.size W w':=
  firstN_any (nodeErr c) _ c.nodes A0 c0 W B hBW hns' fun k hk A4 c4 W1 hin h0 hb1=>
   parts1_any c _ A0 A1 A2 A3 A4 c0 c1 c2 c3 c4 _ W1 B (Nat.le_trans hBW hb1.size) (hTW.below hb1) (hbox.below hb1) (hns'.below (hb1.mono hBW)) (hms'.below (hb1.mono hBW)) (hin.below (hb1.mono hBW)) h0
 have hS:c.names.length<1000000→∀w1,Below W.heap.size W w1→Calls Tryd.prog 70 #[.slice A1 c.names.length c1] w1 fun e w'=>e=.returned (.bool (namesOk c.names))∧Below W.heap.size W w':=
  fun hl w1 hb1=>rel (areNames_any c.names hl A1 c1 w1 B (Nat.le_trans hBW hb1.size) (hss'.below (hb1.mono hBW))) hb1
 have hM:∀w1,Below W.heap.size W w1→Calls Tryd.prog 71 #[.slice A2 c.mems.length c2,.func (.func 72) #[] #[.pointer (some ⟨w.heap.size,0,none⟩)]] w1 fun e w'=>e=.returned (.int .i64 (firstE (memErr c) c.mems))∧Below W.heap.size W w':=
  fun w1 hb1=>rel (firstM_any (memErr c) _ c.mems A2 c2 w1 B (Nat.le_trans hBW hb1.size) (hms'.below (hb1.mono hBW)) fun k hk A4 c4 A5 c5 W1 ha hd hb2=>
   parts2_any c _ A0 A1 A2 A3 A4 A5 c0 c1 c2 c3 c4 c5 _ W1 B (Nat.le_trans hBW (Nat.le_trans hb1.size hb2.size)) ((hbox.below hb1).below hb2) (ha.below (hb2.mono (Nat.le_trans hBW hb1.size))) (hd.below (hb2.mono (Nat.le_trans hBW hb1.size)))) hb1
 have hO:∀w1,Below W.heap.size W w1→Calls Tryd.prog 74 #[.agg #[.slice A0 c.nodes.length c0,.slice A1 c.names.length c1,.slice A2 c.mems.length c2,.slice A3 c.outs.length c3],.slice A3 c.outs.length c3] w1 fun e w'=>e=.returned (.bool (areIdx c.nodes.length c.outs))∧Below W.heap.size W w':=
  fun w1 hb1=>rel (areNets_any _ _ _ _ _ _ _ _ _ _ _ _ _ _ w1 B (Nat.le_trans hBW hb1.size) (hos'.below (hb1.mono hBW))) hb1
 obtain⟨y,HY⟩:=named (shapeErr c)
 rw[←HY.out]
 have hy:shapeErr c=if 16384<c.nodes.length∨16<c.mems.length∨16384<c.outs.length then 3 else if c.names.length≠c.nodes.length then 8 else if firstE (nodeErr c) c.nodes≠0 then firstE (nodeErr c) c.nodes else if namesOk c.names=false then 5 else if firstE (memErr c) c.mems≠0 then firstE (memErr c) c.mems else if areIdx c.nodes.length c.outs=false then 1 else 0:=rfl
 clear hns hss hms hos hT hns' hss' hms' hos' hTW hbox hBW
 generalize areIdx c.nodes.length c.outs=ok at hy hO
 generalize namesOk c.names=nok at hy hS
 generalize firstE (nodeErr c) c.nodes=e1 at hy hN
 generalize firstE (memErr c) c.mems=e2 at hy hM
 generalize c.nodes.length=n0 at hy hN hO HW ⊢
 generalize c.names.length=n1 at hy hS hO HW ⊢
 generalize c.mems.length=n2 at hy hM hO HW ⊢
 generalize c.outs.length=n3 at hy hO HW ⊢
 have HYY:=Lib.hid hy
 obtain rfl:=HW.out
 have HN:=Lib.hid hN
 have HS:=Lib.hid hS
 have HM:=Lib.hid hM
 have HO:=Lib.hid hO
 have HBW:=Lib.hid hbW
 clear hy hN hS hM hO HW hbW
 by_cases h1:16384<n0
 ·have hv:shapeErr c=3:=by rw[HYY.out,if_pos (.inl h1)]
  have HV:=Lib.hid hv
  clear hv
  go_enter Tryd.func57,Tryd.ntmps57
  go_wp2
  go_ret
  exact⟨ret_int (by rw[HY.out,HV.out]),HBW.out⟩
 by_cases h2:16<n2
 ·have hv:shapeErr c=3:=by rw[HYY.out,if_pos (.inr (.inl h2))]
  have HV:=Lib.hid hv
  clear hv
  go_enter Tryd.func57,Tryd.ntmps57
  go_wp2
  go_ret
  exact⟨ret_int (by rw[HY.out,HV.out]),HBW.out⟩
 by_cases h3:16384<n3
 ·have hv:shapeErr c=3:=by rw[HYY.out,if_pos (.inr (.inr h3))]
  have HV:=Lib.hid hv
  clear hv
  go_enter Tryd.func57,Tryd.ntmps57
  go_wp2
  go_ret
  exact⟨ret_int (by rw[HY.out,HV.out]),HBW.out⟩
 have hno:¬(16384<n0∨16<n2∨16384<n3):=by omega
 have HNO:=Lib.hid hno
 clear hno
 by_cases h4:n1=n0
 rotate_left
 ·have h4':(n1 != n0)=true:=by simpa using h4
  have H4:=Lib.hid h4
  have hv:shapeErr c=8:=by rw[HYY.out,if_neg HNO.out,if_pos H4.out]
  have HV:=Lib.hid hv
  clear hv
  go_enter Tryd.func57,Tryd.ntmps57
  go_wp2
  go_ret
  exact⟨ret_int (by rw[HY.out,HV.out]),HBW.out⟩
 subst h4
 have hnn:¬(n1≠n1):=fun h=>h rfl
 have HNN:=Lib.hid hnn
 have HSS:=Lib.hid (HS.out (by omega))
 clear hnn HS
 by_cases h5:e1=0
 rotate_left
 ·have h5':(e1 != 0)=true:=by simpa using h5
  have H5:=Lib.hid h5
  clear h5
  have hv:shapeErr c=e1:=by rw[HYY.out,if_neg HNO.out,if_neg HNN.out,if_pos H5.out]
  have HV:=Lib.hid hv
  clear hv
  go_enter Tryd.func57,Tryd.ntmps57
  go_wp2_with (go_at_call 67;(with_reducible refine HN.out.mono ?_);rintro e w1 ⟨rfl,hb⟩;have HB1:=Lib.hid hb;obtain⟨hc,hf⟩:=bcell hb;clear hb)
  go_ret
  exact⟨ret_int (by rw[HY.out,HV.out]),joinB HBW.out HB1.out⟩
 subst h5
 have h00:¬((0:Int)≠0):=fun h=>h rfl
 have H00:=Lib.hid h00
 clear h00
 cases nok
 ·have hv:shapeErr c=5:=by rw[HYY.out,if_neg HNO.out,if_neg HNN.out,if_neg H00.out,if_pos rfl]
  have HV:=Lib.hid hv
  clear hv
  go_enter Tryd.func57,Tryd.ntmps57
  go_wp2_with (first
   |(go_at_call 67;(with_reducible refine HN.out.mono ?_);rintro e w1 ⟨rfl,hb⟩;have HB1:=Lib.hid hb;obtain⟨hc,hf⟩:=bcell hb;clear hb)
   |(go_at_call 70;(with_reducible refine (HSS.out _ HB1.out).mono ?_);rintro e w2 ⟨rfl,hb⟩;have HB2:=Lib.hid hb;obtain⟨hc2,hf2⟩:=bcell hb;clear hb))
  go_ret
  exact⟨ret_int (by rw[HY.out,HV.out]),joinB HBW.out HB2.out⟩
 have htf:¬(true=false):=by decide
 have HTF:=Lib.hid htf
 clear htf
 by_cases h6:e2=0
 rotate_left
 ·have h6':(e2 != 0)=true:=by simpa using h6
  have H6:=Lib.hid h6
  clear h6
  have hv:shapeErr c=e2:=by rw[HYY.out,if_neg HNO.out,if_neg HNN.out,if_neg H00.out,if_neg HTF.out,if_pos H6.out]
  have HV:=Lib.hid hv
  clear hv
  go_enter Tryd.func57,Tryd.ntmps57
  go_wp2_with (first
   |(go_at_call 67;(with_reducible refine HN.out.mono ?_);rintro e w1 ⟨rfl,hb⟩;have HB1:=Lib.hid hb;obtain⟨hc,hf⟩:=bcell hb;clear hb)
   |(go_at_call 70;(with_reducible refine (HSS.out _ HB1.out).mono ?_);rintro e w2 ⟨rfl,hb⟩;have HB2:=Lib.hid hb;obtain⟨hc2,hf2⟩:=bcell hb;clear hb)
   |(go_at_call 71;(with_reducible refine (HM.out _ HB2.out).mono ?_);rintro e w3 ⟨rfl,hb⟩;have HB3:=Lib.hid hb;obtain⟨hc3,hf3⟩:=bcell hb;clear hb))
  go_ret
  exact⟨ret_int (by rw[HY.out,HV.out]),joinB HBW.out HB3.out⟩
 subst h6
 cases ok
 ·have hv:shapeErr c=1:=by rw[HYY.out,if_neg HNO.out,if_neg HNN.out,if_neg H00.out,if_neg HTF.out,if_neg H00.out,if_pos rfl]
  have HV:=Lib.hid hv
  clear hv
  go_enter Tryd.func57,Tryd.ntmps57
  go_wp2_with (first
   |(go_at_call 67;(with_reducible refine HN.out.mono ?_);rintro e w1 ⟨rfl,hb⟩;have HB1:=Lib.hid hb;obtain⟨hc,hf⟩:=bcell hb;clear hb)
   |(go_at_call 70;(with_reducible refine (HSS.out _ HB1.out).mono ?_);rintro e w2 ⟨rfl,hb⟩;have HB2:=Lib.hid hb;obtain⟨hc2,hf2⟩:=bcell hb;clear hb)
   |(go_at_call 71;(with_reducible refine (HM.out _ HB2.out).mono ?_);rintro e w3 ⟨rfl,hb⟩;have HB3:=Lib.hid hb;obtain⟨hc3,hf3⟩:=bcell hb;clear hb)
   |(go_at_call 74;(with_reducible refine (HO.out _ HB3.out).mono ?_);rintro e w4 ⟨rfl,hb⟩;have HB4:=Lib.hid hb;clear hb))
  go_ret
  exact⟨ret_int (by rw[HY.out,HV.out]),joinB HBW.out HB4.out⟩
 ·have hv:shapeErr c=0:=by rw[HYY.out,if_neg HNO.out,if_neg HNN.out,if_neg H00.out,if_neg HTF.out,if_neg H00.out,if_neg HTF.out]
  have HV:=Lib.hid hv
  clear hv
  go_enter Tryd.func57,Tryd.ntmps57
  go_wp2_with (first
   |(go_at_call 67;(with_reducible refine HN.out.mono ?_);rintro e w1 ⟨rfl,hb⟩;have HB1:=Lib.hid hb;obtain⟨hc,hf⟩:=bcell hb;clear hb)
   |(go_at_call 70;(with_reducible refine (HSS.out _ HB1.out).mono ?_);rintro e w2 ⟨rfl,hb⟩;have HB2:=Lib.hid hb;obtain⟨hc2,hf2⟩:=bcell hb;clear hb)
   |(go_at_call 71;(with_reducible refine (HM.out _ HB2.out).mono ?_);rintro e w3 ⟨rfl,hb⟩;have HB3:=Lib.hid hb;obtain⟨hc3,hf3⟩:=bcell hb;clear hb)
   |(go_at_call 74;(with_reducible refine (HO.out _ HB3.out).mono ?_);rintro e w4 ⟨rfl,hb⟩;have HB4:=Lib.hid hb;clear hb))
  go_ret
  exact⟨ret_int (by rw[HY.out,HV.out]),joinB HBW.out HB4.out⟩
end Go.Proofs.YtcbllelkgniogaaDoor
