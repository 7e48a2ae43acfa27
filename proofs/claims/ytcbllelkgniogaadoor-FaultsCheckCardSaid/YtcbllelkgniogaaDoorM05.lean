/- The texts Mem. -/
import Derived.Test.YtcbllelkgniogaaDoorM04
namespace Go.Proofs.YtcbllelkgniogaaDoor
open Go.RowKit
theorem areIdx_one(n:Nat)(x:Int):areIdx n [x]=isIdx n x:=by simp[areIdx,anyP]
theorem Is.one(w:World)(x:Int)(t:TypeId){n:Nat}(hn:n=w.heap.size):Is (w.alloc (.cells #[.int .i64 x] t)) (w.alloc (.cells #[.int .i64 x] t)).heap.size (.slice (some ⟨n,0,none⟩) 1 1) [x]:=by
 subst hn
 refine⟨_,w.heap.size,0,1,rfl,fun _=>rfl,by simp,by simp[maxLen],fun k hk=>?_⟩
 have hk0:k=0:=by simpa using hk
 subst hk0
 refine⟨by simp,?_⟩
 show World.cell? _ _=_
 rw[World.cell?_alloc_at _ _ _ _ rfl];rfl
set_option maxHeartbeats 2000000 in
theorem checkMem_any(c:Ck)(x:Mm)(A0 A1 A2 A3 A4 A5:Option Addr)(c0 c1 c2 c3 c4 c5:Nat)(w:World)(B:Nat)(hB:B≤w.heap.size)
 (ha:Is w B (.slice A4 x.addr.length c4) x.addr) (hd:Is w B (.slice A5 x.data.length c5) x.data):
 Calls Tryd.prog 73 #[.agg #[.slice A0 c.nodes.length c0,.slice A1 c.names.length c1,.slice A2 c.mems.length c2,.slice A3 c.outs.length c3],.agg #[.slice A4 x.addr.length c4,.slice A5 x.data.length c5,.int .i64 x.write]] w
  fun e w'=>e=.returned (.int .i64 (memErr c x))∧Below w.heap.size w w':=by
 obtain⟨W,HW⟩:=named ((w.alloc (.cells #[.slice A0 c.nodes.length c0,.slice A1 c.names.length c1,.slice A2 c.mems.length c2,.slice A3 c.outs.length c3] 39)).alloc (.cells #[.slice A4 x.addr.length c4,.slice A5 x.data.length c5,.int .i64 x.write] 58))
 have hbW:Below w.heap.size w W:=by rw[HW.out];exact ((Below.refl _ _).alloc (Nat.le_refl _) _).alloc (by simp) _
 have hszW:W.heap.size=w.heap.size+2:=by rw[HW.out];simp
 have hA:Calls Tryd.prog 74 #[.agg #[.slice A0 c.nodes.length c0,.slice A1 c.names.length c1,.slice A2 c.mems.length c2,.slice A3 c.outs.length c3],.slice (some ⟨w.heap.size+1+1,0,none⟩) 1 1] (W.alloc (.cells #[.int .i64 x.write] 3)) fun e w'=>e=.returned (.bool (isIdx c.nodes.length x.write))∧Below (W.alloc (.cells #[.int .i64 x.write] 3)).heap.size (W.alloc (.cells #[.int .i64 x.write] 3)) w':=by
  rw[←areIdx_one]
  exact areNets_any _ _ _ _ _ _ _ _ _ _ _ _ _ _ _ _ (Nat.le_refl _) (Is.one W x.write _ (by omega))
 have hA2:∀w1,Below w.heap.size w w1→Calls Tryd.prog 74 #[.agg #[.slice A0 c.nodes.length c0,.slice A1 c.names.length c1,.slice A2 c.mems.length c2,.slice A3 c.outs.length c3],.slice A4 x.addr.length c4] w1 fun e w'=>e=.returned (.bool (areIdx c.nodes.length x.addr))∧Below w1.heap.size w1 w':=
  fun w1 h1=>areNets_any _ _ _ _ _ _ _ _ _ _ _ _ _ _ _ B (Nat.le_trans hB h1.size) (ha.below (h1.mono hB))
 have hA3:∀w1,Below w.heap.size w w1→Calls Tryd.prog 74 #[.agg #[.slice A0 c.nodes.length c0,.slice A1 c.names.length c1,.slice A2 c.mems.length c2,.slice A3 c.outs.length c3],.slice A5 x.data.length c5] w1 fun e w'=>e=.returned (.bool (areIdx c.nodes.length x.data))∧Below w1.heap.size w1 w':=
  fun w1 h1=>areNets_any _ _ _ _ _ _ _ _ _ _ _ _ _ _ _ B (Nat.le_trans hB h1.size) (hd.below (h1.mono hB))
 obtain⟨y,HY⟩:=named (memErr c x)
 rw[←HY.out]
 have hy:memErr c x=if x.addr.length<1∨8<x.addr.length∨x.data.length<1∨32<x.data.length then 8 else if isIdx c.nodes.length x.write=false∨areIdx c.nodes.length x.addr=false∨areIdx c.nodes.length x.data=false then 1 else 0:=rfl
 have hbN:Below w.heap.size w (W.alloc (.cells #[.int .i64 x.write] 3)):=hbW.alloc (by omega) _
 clear ha hd
 generalize isIdx c.nodes.length x.write=ok1 at hy hA
 generalize areIdx c.nodes.length x.addr=ok2 at hy hA2
 generalize areIdx c.nodes.length x.data=ok3 at hy hA3
 generalize x.addr.length=na at hy hA2 HW ⊢
 generalize x.data.length=nd at hy hA3 HW ⊢
 generalize x.write=wr at hA hbN HW ⊢
 generalize c.nodes.length=n0 at hA hA2 hA3 HW ⊢
 generalize c.names.length=n1 at hA hA2 hA3 HW ⊢
 generalize c.mems.length=n2 at hA hA2 hA3 HW ⊢
 generalize c.outs.length=n3 at hA hA2 hA3 HW ⊢
 have HYY:=Lib.hid hy
 obtain rfl:=HW.out
 have HA:=Lib.hid hA
 have HA2:=Lib.hid hA2
 have HA3:=Lib.hid hA3
 have HBW:=Lib.hid hbW
 have HBN:=Lib.hid hbN
 clear hy hA hA2 hA3 HW hbW hbN hszW
 by_cases h1:na<1
 ·have hv:memErr c x=8:=by rw[HYY.out,if_pos (.inl h1)]
  have HV:=Lib.hid hv
  clear hv
  go_enter Tryd.func73,Tryd.ntmps73
  go_wp2
  go_ret
  exact⟨ret_int (by rw[HY.out,HV.out]),HBW.out⟩
 by_cases h2:8<na
 ·have hv:memErr c x=8:=by rw[HYY.out,if_pos (.inr (.inl h2))]
  have HV:=Lib.hid hv
  clear hv
  go_enter Tryd.func73,Tryd.ntmps73
  go_wp2
  go_ret
  exact⟨ret_int (by rw[HY.out,HV.out]),HBW.out⟩
 by_cases h3:nd<1
 ·have hv:memErr c x=8:=by rw[HYY.out,if_pos (.inr (.inr (.inl h3)))]
  have HV:=Lib.hid hv
  clear hv
  go_enter Tryd.func73,Tryd.ntmps73
  go_wp2
  go_ret
  exact⟨ret_int (by rw[HY.out,HV.out]),HBW.out⟩
 by_cases h4:32<nd
 ·have hv:memErr c x=8:=by rw[HYY.out,if_pos (.inr (.inr (.inr h4)))]
  have HV:=Lib.hid hv
  clear hv
  go_enter Tryd.func73,Tryd.ntmps73
  go_wp2
  go_ret
  exact⟨ret_int (by rw[HY.out,HV.out]),HBW.out⟩
 have hno:¬(na<1∨8<na∨nd<1∨32<nd):=by omega
 have HNO:=Lib.hid hno
 clear hno
 cases ok1
 ·have hv:memErr c x=1:=by rw[HYY.out,if_neg HNO.out,if_pos (.inl rfl)]
  have HV:=Lib.hid hv
  clear hv
  go_enter Tryd.func73,Tryd.ntmps73
  go_wp2_with (go_at_call 74;(with_reducible refine HA.out.mono ?_);rintro e w1 ⟨rfl,hb⟩;have HB1:=Lib.hid (joinB HBN.out hb);have hz1:w.heap.size+1<w1.heap.size:=(by have:=hb.size;simp at this;omega);have hz0:w.heap.size<w1.heap.size:=(by omega);obtain⟨hc,hf⟩:=bcell hb;clear hb)
  go_ret
  exact⟨ret_int (by rw[HY.out,HV.out]),HB1.out⟩
 cases ok2
 ·have hv:memErr c x=1:=by rw[HYY.out,if_neg HNO.out,if_pos (.inr (.inl rfl))]
  have HV:=Lib.hid hv
  clear hv
  go_enter Tryd.func73,Tryd.ntmps73
  go_wp2_with (first
   |(go_at_call 74;(with_reducible refine HA.out.mono ?_);rintro e w1 ⟨rfl,hb⟩;have HB1:=Lib.hid (joinB HBN.out hb);have hz1:w.heap.size+1<w1.heap.size:=(by have:=hb.size;simp at this;omega);have hz0:w.heap.size<w1.heap.size:=(by omega);obtain⟨hc,hf⟩:=bcell hb;clear hb)
   |(go_at_call 74;(with_reducible refine (HA2.out _ HB1.out).mono ?_);rintro e w2 ⟨rfl,hb⟩;have HB2:=Lib.hid (joinB HB1.out hb);obtain⟨hc2,hf2⟩:=bcell hb;clear hb))
  go_ret
  exact⟨ret_int (by rw[HY.out,HV.out]),HB2.out⟩
 cases ok3
 ·have hv:memErr c x=1:=by rw[HYY.out,if_neg HNO.out,if_pos (.inr (.inr rfl))]
  have HV:=Lib.hid hv
  clear hv
  go_enter Tryd.func73,Tryd.ntmps73
  go_wp2_with (first
   |(go_at_call 74;(with_reducible refine HA.out.mono ?_);rintro e w1 ⟨rfl,hb⟩;have HB1:=Lib.hid (joinB HBN.out hb);have hz1:w.heap.size+1<w1.heap.size:=(by have:=hb.size;simp at this;omega);have hz0:w.heap.size<w1.heap.size:=(by omega);obtain⟨hc,hf⟩:=bcell hb;clear hb)
   |(go_at_call 74;(with_reducible refine (HA2.out _ HB1.out).mono ?_);rintro e w2 ⟨rfl,hb⟩;have HB2:=Lib.hid (joinB HB1.out hb);obtain⟨hc2,hf2⟩:=bcell hb;clear hb)
   |(go_at_call 74;(with_reducible refine (HA3.out _ HB2.out).mono ?_);rintro e w3 ⟨rfl,hb⟩;have HB3:=Lib.hid (joinB HB2.out hb);clear hb))
  go_ret
  exact⟨ret_int (by rw[HY.out,HV.out]),HB3.out⟩
 ·have hv:memErr c x=0:=by rw[HYY.out,if_neg HNO.out,if_neg (by decide)]
  have HV:=Lib.hid hv
  clear hv
  go_enter Tryd.func73,Tryd.ntmps73
  go_wp2_with (first
   |(go_at_call 74;(with_reducible refine HA.out.mono ?_);rintro e w1 ⟨rfl,hb⟩;have HB1:=Lib.hid (joinB HBN.out hb);have hz1:w.heap.size+1<w1.heap.size:=(by have:=hb.size;simp at this;omega);have hz0:w.heap.size<w1.heap.size:=(by omega);obtain⟨hc,hf⟩:=bcell hb;clear hb)
   |(go_at_call 74;(with_reducible refine (HA2.out _ HB1.out).mono ?_);rintro e w2 ⟨rfl,hb⟩;have HB2:=Lib.hid (joinB HB1.out hb);obtain⟨hc2,hf2⟩:=bcell hb;clear hb)
   |(go_at_call 74;(with_reducible refine (HA3.out _ HB2.out).mono ?_);rintro e w3 ⟨rfl,hb⟩;have HB3:=Lib.hid (joinB HB2.out hb);clear hb))
  go_ret
  exact⟨ret_int (by rw[HY.out,HV.out]),HB3.out⟩
end Go.Proofs.YtcbllelkgniogaaDoor
