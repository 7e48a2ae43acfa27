/- The texts Mem Fst. -/
import Derived.Test.YtemjmfpcopfdbaaGreatDoorM02
namespace Go.Proofs.YtemjmfpcopfdbaaGreatDoor
open Go.RowKit
theorem areIdx_one(n:Nat)(x:Int):areIdx n [x]=isIdx n x:=by simp[areIdx,anyP]
theorem Is.one(w:World)(x:Int)(t:TypeId){n:Nat}(hn:n=w.heap.size):Is (w.alloc (.cells #[.int .i64 x] t)) (w.alloc (.cells #[.int .i64 x] t)).heap.size (.slice (some ⟨n,0,none⟩) 1 1) [x]:=by
 subst hn
 refine⟨_,w.heap.size,0,1,rfl,fun _=>rfl,by simp,by simp[maxLen],fun k hk=>?_⟩
 have hk0:k=0:=by simpa using hk
 subst hk0
 refine⟨by simp,?_⟩
 show World.cell? _ _=_
 rw[World.cell?_alloc_at _ _ _ _ rfl];rfl
set_option maxHeartbeats 2000000 in
theorem checkMem_any(c:Ck)(x:Mm)(A0 A1 A2 A3 A4 A5:Option Addr)(c0 c1 c2 c3 c4 c5:Nat)(w:World)(B:Nat)(hB:B≤w.heap.size)
 (ha:Is w B (.slice A4 x.addr.length c4) x.addr) (hd:Is w B (.slice A5 x.data.length c5) x.data):
 Calls Tryz.prog 141 #[.agg #[.slice A0 c.nodes.length c0,.slice A1 c.names.length c1,.slice A2 c.mems.length c2,.slice A3 c.outs.length c3],.agg #[.slice A4 x.addr.length c4,.slice A5 x.data.length c5,.int .i64 x.write]] w
  fun e w'=>e=.returned (.int .i64 (memErr c x))∧Below w.heap.size w w':=by
 obtain⟨W,HW⟩:=named ((w.alloc (.cells #[.slice A0 c.nodes.length c0,.slice A1 c.names.length c1,.slice A2 c.mems.length c2,.slice A3 c.outs.length c3] 39)).alloc (.cells #[.slice A4 x.addr.length c4,.slice A5 x.data.length c5,.int .i64 x.write] 67))
 have hbW:Below w.heap.size w W:=by rw[HW.out];exact ((Below.refl _ _).alloc (Nat.le_refl _) _).alloc (by simp) _
 have hszW:W.heap.size=w.heap.size+2:=by rw[HW.out];simp
 have hA:Calls Tryz.prog 142 #[.agg #[.slice A0 c.nodes.length c0,.slice A1 c.names.length c1,.slice A2 c.mems.length c2,.slice A3 c.outs.length c3],.slice (some ⟨w.heap.size+1+1,0,none⟩) 1 1] (W.alloc (.cells #[.int .i64 x.write] 3)) fun e w'=>e=.returned (.bool (isIdx c.nodes.length x.write))∧Below (W.alloc (.cells #[.int .i64 x.write] 3)).heap.size (W.alloc (.cells #[.int .i64 x.write] 3)) w':=by
  rw[←areIdx_one]
  exact areNets_any _ _ _ _ _ _ _ _ _ _ _ _ _ _ _ _ (Nat.le_refl _) (Is.one W x.write _ (by omega))
 have hA2:∀w1,Below w.heap.size w w1→Calls Tryz.prog 142 #[.agg #[.slice A0 c.nodes.length c0,.slice A1 c.names.length c1,.slice A2 c.mems.length c2,.slice A3 c.outs.length c3],.slice A4 x.addr.length c4] w1 fun e w'=>e=.returned (.bool (areIdx c.nodes.length x.addr))∧Below w1.heap.size w1 w':=
  fun w1 h1=>areNets_any _ _ _ _ _ _ _ _ _ _ _ _ _ _ _ B (Nat.le_trans hB h1.size) (ha.below (h1.mono hB))
 have hA3:∀w1,Below w.heap.size w w1→Calls Tryz.prog 142 #[.agg #[.slice A0 c.nodes.length c0,.slice A1 c.names.length c1,.slice A2 c.mems.length c2,.slice A3 c.outs.length c3],.slice A5 x.data.length c5] w1 fun e w'=>e=.returned (.bool (areIdx c.nodes.length x.data))∧Below w1.heap.size w1 w':=
  fun w1 h1=>areNets_any _ _ _ _ _ _ _ _ _ _ _ _ _ _ _ B (Nat.le_trans hB h1.size) (hd.below (h1.mono hB))
 obtain⟨y,HY⟩:=named (memErr c x)
 rw[←HY.out]
 have hy:memErr c x=if x.addr.length<1∨8<x.addr.length∨x.data.length<1∨32<x.data.length then 8 else if isIdx c.nodes.length x.write=false∨areIdx c.nodes.length x.addr=false∨areIdx c.nodes.length x.data=false then 1 else 0:=rfl
 have hbN:Below w.heap.size w (W.alloc (.cells #[.int .i64 x.write] 3)):=hbW.alloc (by omega) _
 clear ha hd
 generalize isIdx c.nodes.length x.write=ok1 at hy hA
 generalize areIdx c.nodes.length x.addr=ok2 at hy hA2
 generalize areIdx c.nodes.length x.data=ok3 at hy hA3
 generalize x.addr.length=na at hy hA2 HW ⊢
 generalize x.data.length=nd at hy hA3 HW ⊢
 generalize x.write=wr at hA hbN HW ⊢
 generalize c.nodes.length=n0 at hA hA2 hA3 HW ⊢
 generalize c.names.length=n1 at hA hA2 hA3 HW ⊢
 generalize c.mems.length=n2 at hA hA2 hA3 HW ⊢
 generalize c.outs.length=n3 at hA hA2 hA3 HW ⊢
 have HYY:=Lib.hid hy
 obtain rfl:=HW.out
 have HA:=Lib.hid hA
 have HA2:=Lib.hid hA2
 have HA3:=Lib.hid hA3
 have HBW:=Lib.hid hbW
 have HBN:=Lib.hid hbN
 clear hy hA hA2 hA3 HW hbW hbN hszW
 by_cases h1:na<1
 ·have hv:memErr c x=8:=by rw[HYY.out,if_pos (.inl h1)]
  have HV:=Lib.hid hv
  clear hv
  go_enter Tryz.func141,Tryz.ntmps141
  go_wp2
  go_ret
  exact⟨ret_int (by rw[HY.out,HV.out]),HBW.out⟩
 by_cases h2:8<na
 ·have hv:memErr c x=8:=by rw[HYY.out,if_pos (.inr (.inl h2))]
  have HV:=Lib.hid hv
  clear hv
  go_enter Tryz.func141,Tryz.ntmps141
  go_wp2
  go_ret
  exact⟨ret_int (by rw[HY.out,HV.out]),HBW.out⟩
 by_cases h3:nd<1
 ·have hv:memErr c x=8:=by rw[HYY.out,if_pos (.inr (.inr (.inl h3)))]
  have HV:=Lib.hid hv
  clear hv
  go_enter Tryz.func141,Tryz.ntmps141
  go_wp2
  go_ret
  exact⟨ret_int (by rw[HY.out,HV.out]),HBW.out⟩
 by_cases h4:32<nd
 ·have hv:memErr c x=8:=by rw[HYY.out,if_pos (.inr (.inr (.inr h4)))]
  have HV:=Lib.hid hv
  clear hv
  go_enter Tryz.func141,Tryz.ntmps141
  go_wp2
  go_ret
  exact⟨ret_int (by rw[HY.out,HV.out]),HBW.out⟩
 have hno:¬(na<1∨8<na∨nd<1∨32<nd):=by omega
 have HNO:=Lib.hid hno
 clear hno
 cases ok1
 ·have hv:memErr c x=1:=by rw[HYY.out,if_neg HNO.out,if_pos (.inl rfl)]
  have HV:=Lib.hid hv
  clear hv
  go_enter Tryz.func141,Tryz.ntmps141
  go_wp2_with (go_at_call 142;(with_reducible refine HA.out.mono ?_);rintro e w1 ⟨rfl,hb⟩;have HB1:=Lib.hid (joinB HBN.out hb);have hz1:w.heap.size+1<w1.heap.size:=(by have:=hb.size;simp at this;omega);have hz0:w.heap.size<w1.heap.size:=(by omega);obtain⟨hc,hf⟩:=bcell hb;clear hb)
  go_ret
  exact⟨ret_int (by rw[HY.out,HV.out]),HB1.out⟩
 cases ok2
 ·have hv:memErr c x=1:=by rw[HYY.out,if_neg HNO.out,if_pos (.inr (.inl rfl))]
  have HV:=Lib.hid hv
  clear hv
  go_enter Tryz.func141,Tryz.ntmps141
  go_wp2_with (first
   |(go_at_call 142;(with_reducible refine HA.out.mono ?_);rintro e w1 ⟨rfl,hb⟩;have HB1:=Lib.hid (joinB HBN.out hb);have hz1:w.heap.size+1<w1.heap.size:=(by have:=hb.size;simp at this;omega);have hz0:w.heap.size<w1.heap.size:=(by omega);obtain⟨hc,hf⟩:=bcell hb;clear hb)
   |(go_at_call 142;(with_reducible refine (HA2.out _ HB1.out).mono ?_);rintro e w2 ⟨rfl,hb⟩;have HB2:=Lib.hid (joinB HB1.out hb);obtain⟨hc2,hf2⟩:=bcell hb;clear hb))
  go_ret
  exact⟨ret_int (by rw[HY.out,HV.out]),HB2.out⟩
 cases ok3
 ·have hv:memErr c x=1:=by rw[HYY.out,if_neg HNO.out,if_pos (.inr (.inr rfl))]
  have HV:=Lib.hid hv
  clear hv
  go_enter Tryz.func141,Tryz.ntmps141
  go_wp2_with (first
   |(go_at_call 142;(with_reducible refine HA.out.mono ?_);rintro e w1 ⟨rfl,hb⟩;have HB1:=Lib.hid (joinB HBN.out hb);have hz1:w.heap.size+1<w1.heap.size:=(by have:=hb.size;simp at this;omega);have hz0:w.heap.size<w1.heap.size:=(by omega);obtain⟨hc,hf⟩:=bcell hb;clear hb)
   |(go_at_call 142;(with_reducible refine (HA2.out _ HB1.out).mono ?_);rintro e w2 ⟨rfl,hb⟩;have HB2:=Lib.hid (joinB HB1.out hb);obtain⟨hc2,hf2⟩:=bcell hb;clear hb)
   |(go_at_call 142;(with_reducible refine (HA3.out _ HB2.out).mono ?_);rintro e w3 ⟨rfl,hb⟩;have HB3:=Lib.hid (joinB HB2.out hb);clear hb))
  go_ret
  exact⟨ret_int (by rw[HY.out,HV.out]),HB3.out⟩
 ·have hv:memErr c x=0:=by rw[HYY.out,if_neg HNO.out,if_neg (by decide)]
  have HV:=Lib.hid hv
  clear hv
  go_enter Tryz.func141,Tryz.ntmps141
  go_wp2_with (first
   |(go_at_call 142;(with_reducible refine HA.out.mono ?_);rintro e w1 ⟨rfl,hb⟩;have HB1:=Lib.hid (joinB HBN.out hb);have hz1:w.heap.size+1<w1.heap.size:=(by have:=hb.size;simp at this;omega);have hz0:w.heap.size<w1.heap.size:=(by omega);obtain⟨hc,hf⟩:=bcell hb;clear hb)
   |(go_at_call 142;(with_reducible refine (HA2.out _ HB1.out).mono ?_);rintro e w2 ⟨rfl,hb⟩;have HB2:=Lib.hid (joinB HB1.out hb);obtain⟨hc2,hf2⟩:=bcell hb;clear hb)
   |(go_at_call 142;(with_reducible refine (HA3.out _ HB2.out).mono ?_);rintro e w3 ⟨rfl,hb⟩;have HB3:=Lib.hid (joinB HB2.out hb);clear hb))
  go_ret
  exact⟨ret_int (by rw[HY.out,HV.out]),HB3.out⟩
def firstE{α:Type}(f:α→Int):List α→Int
 |[]=>0
 |x::l=>if f x=0 then firstE f l else f x
theorem firstE_hit{α:Type}(d:α)(f:α→Int):∀(l:List α) (k:Nat),k<l.length→(∀j,j<k→f (l.getD j d)=0)→f (l.getD k d)≠0→firstE f l=f (l.getD k d)
 |[],k,h,_,_=>absurd h (by simp)
 |x::l,0,_,_,h=>by simp only[firstE,List.getD_cons_zero]at h ⊢;rw[if_neg h]
 |x::l,k+1,h,h0,h1=>by
  have h00:=h0 0 (by omega)
  simp only[List.getD_cons_zero]at h00
  simp only[firstE,List.getD_cons_succ]at h1 ⊢
  rw[if_pos h00]
  exact firstE_hit d f l k (by simpa using h) (fun j hj=>by have:=h0 (j+1) (by omega);simpa using this) h1
theorem firstE_none{α:Type}(d:α)(f:α→Int):∀(l:List α),(∀j,j<l.length→f (l.getD j d)=0)→firstE f l=0
 |[],_=>rfl
 |x::l,h=>by
  have h00:=h 0 (by simp)
  simp only[List.getD_cons_zero]at h00
  simp only[firstE,if_pos h00]
  exact firstE_none d f l fun j hj=>by have:=h (j+1) (by simpa using hj);simpa using this
def Boxed(w:World)(q:Nat)(a0 a1 a2 a3:Value):Prop:=
 q<w.heap.size∧w.cell? ⟨q,0,none⟩=some a0∧w.cell? ⟨q,1,none⟩=some a1∧w.cell? ⟨q,2,none⟩=some a2∧w.cell? ⟨q,3,none⟩=some a3
theorem Boxed.below{w w':World}{q:Nat}{a0 a1 a2 a3:Value}(h:Boxed w q a0 a1 a2 a3)(hb:Below w.heap.size w w'):Boxed w' q a0 a1 a2 a3:=by
 obtain⟨h0,h1,h2,h3,h4⟩:=h
 exact⟨Nat.lt_of_lt_of_le h0 hb.size,(hb.cell (p:=⟨q,0,none⟩) h0).trans h1,(hb.cell (p:=⟨q,1,none⟩) h0).trans h2,(hb.cell (p:=⟨q,2,none⟩) h0).trans h3,(hb.cell (p:=⟨q,3,none⟩) h0).trans h4⟩
theorem Boxed.new(w:World)(a0 a1 a2 a3:Value)(t:TypeId):Boxed (w.alloc (.cells #[a0,a1,a2,a3] t)) w.heap.size a0 a1 a2 a3:=
 ⟨by simp,by rw[World.cell?_alloc_at _ _ _ _ rfl];rfl,by rw[World.cell?_alloc_at _ _ _ _ rfl];rfl,by rw[World.cell?_alloc_at _ _ _ _ rfl];rfl,by rw[World.cell?_alloc_at _ _ _ _ rfl];rfl⟩
set_option maxHeartbeats 1000000 in
theorem parts1_any(c:Ck)(x:Nd)(A0 A1 A2 A3 A4:Option Addr)(c0 c1 c2 c3 c4:Nat)(q:Nat)(w:World)(B:Nat)(hB:B≤w.heap.size)(hT:Tabs w)
 (hq:Boxed w q (.slice A0 c.nodes.length c0) (.slice A1 c.names.length c1) (.slice A2 c.mems.length c2) (.slice A3 c.outs.length c3))
 (hns:Ns w B (.slice A0 c.nodes.length c0) c.nodes) (hms:Ms w B (.slice A2 c.mems.length c2) c.mems) (hin:Is w B (.slice A4 x.ins.length c4) x.ins) (hk:0≤x.kind):
 Calls Tryz.prog 136 #[.agg #[.int .u8 x.kind,.slice A4 x.ins.length c4,.int .i64 x.mem,.int .i64 x.bit],.pointer (some ⟨q,0,none⟩)] w
  fun e w'=>e=.returned (.int .i64 (nodeErr c x))∧Below w.heap.size w w':=by
 obtain⟨hq0,h0,h1,h2,h3⟩:=hq
 have hb:Below w.heap.size w (w.alloc (.cells #[.int .u8 x.kind,.slice A4 x.ins.length c4,.int .i64 x.mem,.int .i64 x.bit] 65)):=(Below.refl _ _).alloc (Nat.le_refl _) _
 have hC:=checkNode_any c x A0 A1 A2 A3 A4 c0 c1 c2 c3 c4 _ B (Nat.le_trans hB hb.size) (hT.below hb) (hns.below (hb.mono hB)) (hms.below (hb.mono hB)) (hin.below (hb.mono hB)) hk
 generalize nodeErr c x=y at hC ⊢
 generalize x.kind=kd at hC hb ⊢
 generalize x.mem=mm at hC hb ⊢
 generalize x.bit=bt at hC hb ⊢
 generalize x.ins.length=ni at hC hb ⊢
 generalize c.nodes.length=n0 at hC h0 ⊢
 generalize c.names.length=n1 at hC h1 ⊢
 generalize c.mems.length=n2 at hC h2 ⊢
 generalize c.outs.length=n3 at hC h3 ⊢
 have HC:=Lib.hid hC
 have HB:=Lib.hid hb
 clear hC hb
 clear hns hms hin hT hk
 go_enter Tryz.func136,Tryz.ntmps136
 go_wp2_with (go_at_call 137;(with_reducible refine HC.out.mono ?_);rintro e w1 ⟨rfl,hb⟩;have HB1:=Lib.hid hb;clear hb)
 go_ret
 exact⟨rfl,joinB HB.out HB1.out⟩
set_option maxHeartbeats 1000000 in
theorem parts2_any(c:Ck)(x:Mm)(A0 A1 A2 A3 A4 A5:Option Addr)(c0 c1 c2 c3 c4 c5:Nat)(q:Nat)(w:World)(B:Nat)(hB:B≤w.heap.size)
 (hq:Boxed w q (.slice A0 c.nodes.length c0) (.slice A1 c.names.length c1) (.slice A2 c.mems.length c2) (.slice A3 c.outs.length c3))
 (ha:Is w B (.slice A4 x.addr.length c4) x.addr) (hd:Is w B (.slice A5 x.data.length c5) x.data):
 Calls Tryz.prog 140 #[.agg #[.slice A4 x.addr.length c4,.slice A5 x.data.length c5,.int .i64 x.write],.pointer (some ⟨q,0,none⟩)] w
  fun e w'=>e=.returned (.int .i64 (memErr c x))∧Below w.heap.size w w':=by
 obtain⟨hq0,h0,h1,h2,h3⟩:=hq
 have hb:Below w.heap.size w (w.alloc (.cells #[.slice A4 x.addr.length c4,.slice A5 x.data.length c5,.int .i64 x.write] 67)):=(Below.refl _ _).alloc (Nat.le_refl _) _
 have hC:=checkMem_any c x A0 A1 A2 A3 A4 A5 c0 c1 c2 c3 c4 c5 _ B (Nat.le_trans hB hb.size) (ha.below (hb.mono hB)) (hd.below (hb.mono hB))
 generalize memErr c x=y at hC ⊢
 generalize x.write=wr at hC hb ⊢
 generalize x.addr.length=na at hC hb ⊢
 generalize x.data.length=nd at hC hb ⊢
 generalize c.nodes.length=n0 at hC h0 ⊢
 generalize c.names.length=n1 at hC h1 ⊢
 generalize c.mems.length=n2 at hC h2 ⊢
 generalize c.outs.length=n3 at hC h3 ⊢
 have HC:=Lib.hid hC
 have HB:=Lib.hid hb
 clear hC hb
 clear ha hd
 go_enter Tryz.func140,Tryz.ntmps140
 go_wp2_with (go_at_call 141;(with_reducible refine HC.out.mono ?_);rintro e w1 ⟨rfl,hb⟩;have HB1:=Lib.hid hb;clear hb)
 go_ret
 exact⟨rfl,joinB HB.out HB1.out⟩
set_option maxHeartbeats 2000000 in
theorem firstN_any(f:Nd→Int)(env:Value)(l:List Nd)(A:Option Addr)(c:Nat)(w:World)(B:Nat)(hB:B≤w.heap.size)(hn:Ns w B (.slice A l.length c) l)
 (hcl:∀k,k<l.length→∀A4 c4 W1,Is w B (.slice A4 (l.getD k default).ins.length c4) (l.getD k default).ins→0≤(l.getD k default).kind→Below w.heap.size w W1→
   Calls Tryz.prog 136 #[.agg #[.int .u8 (l.getD k default).kind,.slice A4 (l.getD k default).ins.length c4,.int .i64 (l.getD k default).mem,.int .i64 (l.getD k default).bit],env] W1
    fun e w'=>e=.returned (.int .i64 (f (l.getD k default)))∧Below W1.heap.size W1 w'):
 Calls Tryz.prog 135 #[.slice A l.length c,.func (.func 136) #[] #[env]] w fun e w'=>e=.returned (.int .i64 (firstE f l))∧Below w.heap.size w w':=by
 obtain⟨y,HY⟩:=named (firstE f l)
 rw[←HY.out]
 obtain⟨A',b,o,c',e,hA,-,hm,hc⟩:=hn
 simp only[Value.slice.injEq,true_and]at e
 obtain⟨rfl,rfl⟩:=e
 unfold maxLen at hm
 have HC:=Lib.hid hc
 have HCL:=Lib.hid hcl
 have HAA:=Lib.hid hA
 clear hc hcl hA
 obtain⟨n,hnn⟩:∃n,n=l.length:=⟨_,rfl⟩
 rw[←hnn]at hm
 rw[←hnn]
 have HN:=Lib.hid hnn
 clear hnn
 go_enter Tryz.func135,Tryz.ntmps135
 go_wp2
 go_loopw [10] (fun i wr=>Below w.heap.size w wr∧∃k:Nat,k≤n∧i=.int .i64 k∧∀j,j<k→f (l.getD j default)=0) (fun i _=>n-(intOf i).toNat)
 case atStart=>exact⟨Below.refl _ _,0,Nat.zero_le _,rfl,fun j hj=>absurd hj (by omega)⟩
 case round=>
  obtain⟨hbr,k,hk,rfl,hno⟩:=hrel
  have HNO:=Lib.hid hno
  clear hno
  by_cases hlt:k<n
  ·obtain rfl:=HAA.out (by rw[←HN.out];omega)
   obtain⟨hlb,s,h0,h1,h2,h3,h4,h5,-⟩:=HC.out k (by rw[←HN.out];omega)
   have hlb':b<w.heap.size:=by omega
   have hcall:=HCL.out k (by rw[←HN.out];omega)
   obtain⟨A4,b4,o4,c4,rfl,hh4⟩:=id h4
   have hcall:=fun W1=>hcall A4 c4 W1 h4 h5
   have HH4:=Lib.hid hh4
   clear hh4 h4 h5
   generalize hx:l.getD k default=x at h0 h1 h2 h3 hcall HH4
   have HX:=Lib.hid hx
   clear hx
   generalize x.kind=kd at h0 hcall HH4
   generalize x.mem=mm at h2 hcall HH4
   generalize x.bit=bt at h3 hcall HH4
   have e0:=(hbr.cell (p:=⟨b,o+k*4,none⟩) hlb').trans h0
   have e1:=(hbr.cell (p:=⟨b,o+k*4+1,none⟩) hlb').trans h1
   have e2:=(hbr.cell (p:=⟨b,o+k*4+2,none⟩) hlb').trans h2
   have e3:=(hbr.cell (p:=⟨b,o+k*4+3,none⟩) hlb').trans h3
   clear h0 h1 h2 h3
   generalize x.ins.length=ni at e1 hcall HH4
   have HBR:=Lib.hid hbr
   have hal:=below_new hbr (.cells #[.int .u8 kd,.slice A4 ni c4,.int .i64 mm,.int .i64 bt] 65)
   have hcall:=hcall _ hal
   have HAL:=Lib.hid hal
   clear hal hbr
   by_cases hz:f x=0
   ·rw[hz]at hcall
    have HCALL:=Lib.hid hcall
    have HZ:=Lib.hid hz
    clear hcall hz
    go_wp2_with (go_at_call 136;(with_reducible refine HCALL.out.mono ?_);rintro e w1 ⟨rfl,hb⟩;have HB1:=Lib.hid (joinB HAL.out hb);clear hb)
    go_roundw
    case rel=>
     refine⟨HB1.out,k+1,by omega,by go_num,fun j hj=>?_⟩
     by_cases hjk:j=k
     ·rw[hjk,HX.out];exact HZ.out
     ·exact HNO.out j (by omega)
    case measure=>simp[intOf];omega
   ·obtain⟨v,HV⟩:=named (f x)
    rw[←HV.out]at hcall hz
    have hz':(v==0)=false:=by simpa using hz
    have HCALL:=Lib.hid hcall
    have HZ:=Lib.hid hz
    clear hcall hz
    go_wp2_with (go_at_call 136;(with_reducible refine HCALL.out.mono ?_);rintro e w1 ⟨rfl,hb⟩;have HB1:=Lib.hid (joinB HAL.out hb);clear hb)
    go_ret
    exact⟨ret_int (by rw[HY.out,firstE_hit default f l k (by rw[←HN.out];omega) HNO.out (by rw[HX.out,←HV.out];exact HZ.out),HX.out,HV.out]),HB1.out⟩
  ·go_wp2
   go_ret
   exact⟨ret_int (by rw[HY.out,firstE_none default f l (fun j hj=>HNO.out j (by rw[←HN.out]at hj;omega))]),hbr⟩
set_option maxHeartbeats 2000000 in
theorem firstM_any(f:Mm→Int)(env:Value)(l:List Mm)(A:Option Addr)(c:Nat)(w:World)(B:Nat)(hB:B≤w.heap.size)(hn:Ms w B (.slice A l.length c) l)
 (hcl:∀k,k<l.length→∀A4 c4 A5 c5 W1,Is w B (.slice A4 (l.getD k default).addr.length c4) (l.getD k default).addr→Is w B (.slice A5 (l.getD k default).data.length c5) (l.getD k default).data→Below w.heap.size w W1→
   Calls Tryz.prog 140 #[.agg #[.slice A4 (l.getD k default).addr.length c4,.slice A5 (l.getD k default).data.length c5,.int .i64 (l.getD k default).write],env] W1
    fun e w'=>e=.returned (.int .i64 (f (l.getD k default)))∧Below W1.heap.size W1 w'):
 Calls Tryz.prog 139 #[.slice A l.length c,.func (.func 140) #[] #[env]] w fun e w'=>e=.returned (.int .i64 (firstE f l))∧Below w.heap.size w w':=by
 obtain⟨y,HY⟩:=named (firstE f l)
 rw[←HY.out]
 obtain⟨A',b,o,c',e,hA,-,hm,hc⟩:=hn
 simp only[Value.slice.injEq,true_and]at e
 obtain⟨rfl,rfl⟩:=e
 unfold maxLen at hm
 have HC:=Lib.hid hc
 have HCL:=Lib.hid hcl
 have HAA:=Lib.hid hA
 clear hc hcl hA
 obtain⟨n,hnn⟩:∃n,n=l.length:=⟨_,rfl⟩
 rw[←hnn]at hm
 rw[←hnn]
 have HN:=Lib.hid hnn
 clear hnn
 go_enter Tryz.func139,Tryz.ntmps139
 go_wp2
 go_loopw [10] (fun i wr=>Below w.heap.size w wr∧∃k:Nat,k≤n∧i=.int .i64 k∧∀j,j<k→f (l.getD j default)=0) (fun i _=>n-(intOf i).toNat)
 case atStart=>exact⟨Below.refl _ _,0,Nat.zero_le _,rfl,fun j hj=>absurd hj (by omega)⟩
 case round=>
  obtain⟨hbr,k,hk,rfl,hno⟩:=hrel
  have HNO:=Lib.hid hno
  clear hno
  by_cases hlt:k<n
  ·obtain rfl:=HAA.out (by rw[←HN.out];omega)
   obtain⟨hlb,s,s',h0,h1,h2,h3,h4⟩:=HC.out k (by rw[←HN.out];omega)
   have hlb':b<w.heap.size:=by omega
   have hcall:=HCL.out k (by rw[←HN.out];omega)
   obtain⟨A4,b4,o4,c4,rfl,hh4⟩:=id h3
   obtain⟨A5,b5,o5,c5,rfl,hh5⟩:=id h4
   have hcall:=fun W1=>hcall A4 c4 A5 c5 W1 h3 h4
   have HH4:=Lib.hid hh4
   have HH5:=Lib.hid hh5
   clear hh4 h4 h3 hh5
   generalize hx:l.getD k default=x at h0 h1 h2 hcall HH4 HH5
   have HX:=Lib.hid hx
   clear hx
   generalize x.write=wt at h2 hcall HH4 HH5
   have e0:=(hbr.cell (p:=⟨b,o+k*3,none⟩) hlb').trans h0
   have e1:=(hbr.cell (p:=⟨b,o+k*3+1,none⟩) hlb').trans h1
   have e2:=(hbr.cell (p:=⟨b,o+k*3+2,none⟩) hlb').trans h2
   clear h0 h1 h2
   generalize x.addr.length=na at e0 hcall HH4
   generalize x.data.length=nd at e1 hcall HH5
   have HBR:=Lib.hid hbr
   have hal:=below_new hbr (.cells #[.slice A4 na c4,.slice A5 nd c5,.int .i64 wt] 67)
   have hcall:=hcall _ hal
   have HAL:=Lib.hid hal
   clear hal hbr
   by_cases hz:f x=0
   ·rw[hz]at hcall
    have HCALL:=Lib.hid hcall
    have HZ:=Lib.hid hz
    clear hcall hz
    go_wp2_with (go_at_call 140;(with_reducible refine HCALL.out.mono ?_);rintro e w1 ⟨rfl,hb⟩;have HB1:=Lib.hid (joinB HAL.out hb);clear hb)
    go_roundw
    case rel=>
     refine⟨HB1.out,k+1,by omega,by go_num,fun j hj=>?_⟩
     by_cases hjk:j=k
     ·rw[hjk,HX.out];exact HZ.out
     ·exact HNO.out j (by omega)
    case measure=>simp[intOf];omega
   ·obtain⟨v,HV⟩:=named (f x)
    rw[←HV.out]at hcall hz
    have hz':(v==0)=false:=by simpa using hz
    have HCALL:=Lib.hid hcall
    have HZ:=Lib.hid hz
    clear hcall hz
    go_wp2_with (go_at_call 140;(with_reducible refine HCALL.out.mono ?_);rintro e w1 ⟨rfl,hb⟩;have HB1:=Lib.hid (joinB HAL.out hb);clear hb)
    go_ret
    exact⟨ret_int (by rw[HY.out,firstE_hit default f l k (by rw[←HN.out];omega) HNO.out (by rw[HX.out,←HV.out];exact HZ.out),HX.out,HV.out]),HB1.out⟩
  ·go_wp2
   go_ret
   exact⟨ret_int (by rw[HY.out,firstE_none default f l (fun j hj=>HNO.out j (by rw[←HN.out]at hj;omega))]),hbr⟩
end Go.Proofs.YtemjmfpcopfdbaaGreatDoor
