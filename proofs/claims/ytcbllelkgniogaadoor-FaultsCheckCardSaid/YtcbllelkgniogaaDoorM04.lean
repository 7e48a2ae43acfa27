/- The texts Chk. -/
import Derived.Test.YtcbllelkgniogaaDoorM03
namespace Go.Proofs.YtcbllelkgniogaaDoor
open Go.RowKit
def placeOk(c:Ck)(x:Nd):Bool:=
 if x.kind=15 then isIdx c.mems.length x.mem&&isIdx (c.mems.getD x.mem.toNat default).data.length x.bit else x.mem==0&&x.bit==0
def notTri(c:Ck)(net:Int):Bool:= !((c.nodes.getD net.toNat default).kind==12)
def nodeErr(c:Ck)(x:Nd):Int:=
 if 15<x.kind then 7 else if (x.ins.length:Int)<lo x.kind then 8 else if hi x.kind<(x.ins.length:Int) then 8
 else if areIdx c.nodes.length x.ins=false then 1
 else if x.kind=13∧anyP (notTri c) x.ins=true then 7
 else if placeOk c x=false then 1 else 0
def memErr(c:Ck)(x:Mm):Int:=
 if x.addr.length<1∨8<x.addr.length∨x.data.length<1∨32<x.data.length then 8
 else if isIdx c.nodes.length x.write=false∨areIdx c.nodes.length x.addr=false∨areIdx c.nodes.length x.data=false then 1 else 0
theorem isIdx_iff{n:Nat}{i:Int} :isIdx n i=true↔0≤i∧i<(n:Int):=by simp[isIdx]
theorem areIdx_iff{n:Nat}{l:List Int} :areIdx n l=true↔∀x∈l,0≤x∧x<(n:Int):=by
 unfold areIdx anyP
 rw[Bool.not_eq_true',List.any_eq_false]
 constructor
 ·intro h x hx
  have:=h x hx
  exact isIdx_iff.1 (by simpa using this)
 ·intro h x hx
  have:=isIdx_iff.2 (h x hx)
  simp[this]
theorem getD_mem'{l:List Int}{k:Nat}(h:k<l.length):l.getD k 0∈l:=by
 rw[List.getD_eq_getElem?_getD,List.getElem?_eq_getElem h];exact List.getElem_mem h
set_option maxHeartbeats 400000 in
theorem tri1_any(c:Ck)(x:Int)(A:Option Addr)(cp:Nat)(q:Nat)(w:World)(B:Nat)(h0:w.cell? ⟨q,0,none⟩=some (.slice A c.nodes.length cp))(hn:Ns w B (.slice A c.nodes.length cp) c.nodes)(hx:0≤x∧x<(c.nodes.length:Int)):
 Calls Tryd.prog 86 #[.int .i64 x,.pointer (some ⟨q,0,none⟩)] w fun e w'=>e=.returned (.bool (notTri c x))∧w=w':=by
 obtain⟨hx0,hx1⟩:=hx
 obtain⟨k,rfl⟩:=Int.eq_ofNat_of_zero_le hx0
 obtain⟨A',b,o,c',e,hA,-,hm,hc⟩:=hn
 simp only[Value.slice.injEq,true_and]at e
 obtain⟨rfl,rfl⟩:=e
 have hk:k<c.nodes.length:=by omega
 obtain rfl:=hA (by omega)
 obtain⟨hlt,s,h1,-⟩:=hc k hk
 obtain⟨kd,HK⟩:=named (c.nodes.getD k default).kind
 rw[←HK.out]at h1
 have hy:notTri c (k:Int)= !(kd==12):=by rw[HK.out];rfl
 obtain⟨y,HY⟩:=named (notTri c (k:Int))
 rw[←HY.out]
 have HYY:=Lib.hid hy
 obtain⟨n,HN⟩:=named c.nodes.length
 rw[←HN.out]at h0 hx1 hk hm
 unfold maxLen at hm
 clear hy hc hA
 go_enter Tryd.func86,Tryd.ntmps86
 go_wp2
 go_ret
 exact⟨ret_bool (by rw[HY.out,HYY.out];rfl),rfl⟩
theorem mem_bits{c:Ck}{m:Nat}{A:Option Addr}{cp:Nat}{w:World}{B:Nat}(hn:Ms w B (.slice A c.mems.length cp) c.mems)(hm:m<c.mems.length):
 ∃b o,A=some ⟨b,o,none⟩∧b<B∧∃A' d',w.cell? ⟨b,o+m*3+1,none⟩=some (.slice A' (c.mems.getD m default).data.length d'):=by
 obtain⟨A',b,o,c',e,hA,-,-,hc⟩:=hn
 simp only[Value.slice.injEq,true_and]at e
 obtain⟨rfl,rfl⟩:=e
 obtain rfl:=hA (by omega)
 obtain⟨hlt,s,t,h0,h1,h2,h3,h4⟩:=hc m hm
 obtain⟨A2,b2,o2,c2,rfl,-⟩:=h4
 exact⟨b,o,rfl,hlt,A2,c2,h1⟩
set_option maxHeartbeats 1000000 in
theorem hasPlace_any(c:Ck)(x:Nd)(A0 A1 A2 A3 A4:Option Addr)(n0 c0 n1 c1 c2 n3 c3 n4 c4:Nat)(w:World)(B:Nat)(hB:B≤w.heap.size)(hn:Ms w B (.slice A2 c.mems.length c2) c.mems):
 Calls Tryd.prog 87 #[.agg #[.slice A0 n0 c0,.slice A1 n1 c1,.slice A2 c.mems.length c2,.slice A3 n3 c3],.agg #[.int .u8 x.kind,.slice A4 n4 c4,.int .i64 x.mem,.int .i64 x.bit]] w
  fun e w'=>e=.returned (.bool (placeOk c x))∧Below w.heap.size w w':=by
 obtain⟨y,HY⟩:=named (placeOk c x)
 rw[←HY.out]
 have hm2:c.mems.length≤maxLen:=by obtain⟨_,_,_,_,e,_,_,h,_⟩:=hn;exact h
 unfold maxLen at hm2
 obtain⟨kd,HK⟩:=named x.kind
 obtain⟨mm,HM⟩:=named x.mem
 obtain⟨bt,HT⟩:=named x.bit
 rw[←HK.out,←HM.out,←HT.out]
 have hy:placeOk c x=if kd=15 then isIdx c.mems.length mm&&isIdx (c.mems.getD mm.toNat default).data.length bt else mm==0&&bt==0:=by rw[HK.out,HM.out,HT.out];rfl
 have hbits:∀m:Nat,m<c.mems.length→_:=fun m=>mem_bits hn (m:=m)
 obtain⟨n,HN⟩:=named c.mems.length
 rw[←HN.out]at hm2 hy hbits
 rw[←HN.out]
 have HYY:=Lib.hid hy
 have HB:=Lib.hid hbits
 clear hy hn hbits
 by_cases h15:kd=15
 ·subst h15
  cases hi:isIdx n mm
  ·have HI:=Lib.hid hi
   clear hi
   go_enter Tryd.func87,Tryd.ntmps87
   go_wp2
   go_quiet (first|(go_at_call 92;exact Calls.quiet_of_same ((idx_any _ _ _).mono fun _ _ h=>⟨h.1.trans (by rw[HI.out]),h.2.symm⟩))|(go_at_call 92;exact Calls.quiet_of_same ((idx_any _ _ _).mono fun _ _ h=>⟨h.1,h.2.symm⟩)))
   go_wp2
   go_ret
   exact⟨ret_bool (by rw[HY.out,HYY.out,if_pos trivial,HI.out];rfl),below_drewN (((Below.refl _ _).alloc (Nat.le_refl _) _).alloc (by simp) _) _⟩
  ·obtain⟨h0,h1⟩:=isIdx_iff.1 hi
   obtain⟨m,rfl⟩:=Int.eq_ofNat_of_zero_le h0
   obtain⟨b,o,rfl,hlt,A',d',hcell⟩:=HB.out m (by omega)
   have hlt':b<w.heap.size:=by omega
   rw[Int.toNat_natCast]at HYY
   obtain⟨d,HD⟩:=named (c.mems.getD m default).data.length
   rw[←HD.out]at hcell
   have HI:=Lib.hid hi
   clear hi
   go_enter Tryd.func87,Tryd.ntmps87
   go_wp2
   go_quiet (first|(go_at_call 92;exact Calls.quiet_of_same ((idx_any _ _ _).mono fun _ _ h=>⟨h.1.trans (by rw[HI.out]),h.2.symm⟩))|(go_at_call 92;exact Calls.quiet_of_same ((idx_any _ _ _).mono fun _ _ h=>⟨h.1,h.2.symm⟩)))
   go_wp2
   go_ret
   exact⟨ret_bool (by rw[HY.out,HYY.out,if_pos trivial,HI.out,HD.out];rfl),below_drewN (((Below.refl _ _).alloc (Nat.le_refl _) _).alloc (by simp) _) _⟩
 ·have hne:(kd==15)=false:=by simpa using h15
  have H15:=Lib.hid h15
  clear h15
  cases h0:mm==0
  all_goals
   have H0:=Lib.hid h0
   go_enter Tryd.func87,Tryd.ntmps87
   go_wp2
   go_ret
   exact⟨ret_bool (by rw[HY.out,HYY.out,if_neg H15.out,H0.out];rfl),((Below.refl _ _).alloc (Nat.le_refl _) _).alloc (by simp) _⟩
set_option maxHeartbeats 2000000 in
theorem checkNode_any(c:Ck)(x:Nd)(A0 A1 A2 A3 A4:Option Addr)(c0 c1 c2 c3 c4:Nat)(w:World)(B:Nat)(hB:B≤w.heap.size)(hT:Tabs w)
 (hns:Ns w B (.slice A0 c.nodes.length c0) c.nodes) (hms:Ms w B (.slice A2 c.mems.length c2) c.mems) (hin:Is w B (.slice A4 x.ins.length c4) x.ins) (hk:0≤x.kind):
 Calls Tryd.prog 69 #[.agg #[.slice A0 c.nodes.length c0,.slice A1 c.names.length c1,.slice A2 c.mems.length c2,.slice A3 c.outs.length c3],.agg #[.int .u8 x.kind,.slice A4 x.ins.length c4,.int .i64 x.mem,.int .i64 x.bit]] w
  fun e w'=>e=.returned (.int .i64 (nodeErr c x))∧Below w.heap.size w w':=by
 obtain⟨W,HW⟩:=named ((w.alloc (.cells #[.slice A0 c.nodes.length c0,.slice A1 c.names.length c1,.slice A2 c.mems.length c2,.slice A3 c.outs.length c3] 39)).alloc (.cells #[.int .u8 x.kind,.slice A4 x.ins.length c4,.int .i64 x.mem,.int .i64 x.bit] 53))
 have hbW:Below w.heap.size w W:=by rw[HW.out];exact ((Below.refl _ _).alloc (Nat.le_refl _) _).alloc (by simp) _
 have hbox:W.cell? ⟨w.heap.size,0,none⟩=some (.slice A0 c.nodes.length c0):=by
  rw[HW.out,World.cell?_alloc_past _ _ _ (by simp),World.cell?_alloc_at _ _ _ _ rfl];rfl
 have hszW:w.heap.size+2=W.heap.size:=by rw[HW.out];simp
 have hF:=fanin_any x.kind hk W (hT.below hbW)
 have hA:∀m,Calls Tryd.prog 74 #[.agg #[.slice A0 c.nodes.length c0,.slice A1 c.names.length c1,.slice A2 c.mems.length c2,.slice A3 c.outs.length c3],.slice A4 x.ins.length c4] (W.drewN m) fun e w'=>e=.returned (.bool (areIdx c.nodes.length x.ins))∧Below (W.drewN m).heap.size (W.drewN m) w':=
  fun m=>areNets_any _ _ _ _ _ _ _ _ _ _ _ _ _ _ _ B (Nat.le_trans hB (below_drewN hbW m).size) (hin.below ((below_drewN hbW m).mono hB))
 have hC:areIdx c.nodes.length x.ins=true→∀m w1,Below (W.drewN m).heap.size (W.drewN m) w1→Calls Tryd.prog 85 #[.slice A4 x.ins.length c4,.func (.func 86) #[] #[.pointer (some ⟨w.heap.size,0,none⟩)]] w1 fun e w'=>e=.returned (.bool (anyP (notTri c) x.ins))∧w1=w':=by
  intro ha m w1 h1
  have hb1:Below w.heap.size w w1:=joinB (below_drewN hbW m) h1
  have hcell:w1.cell? ⟨w.heap.size,0,none⟩=some (.slice A0 c.nodes.length c0):=by
   rw[h1.cell (p:=⟨w.heap.size,0,none⟩) (by show w.heap.size<W.heap.size;omega)];exact hbox
  exact containsI_any _ _ _ _ _ _ B (hin.below (hb1.mono hB)) (fun k hk'=>tri1_any c _ A0 c0 _ w1 B hcell (hns.below (hb1.mono hB)) (areIdx_iff.1 ha _ (getD_mem' hk'))) (.inr rfl)
 have hP:∀m w1,Below (W.drewN m).heap.size (W.drewN m) w1→Calls Tryd.prog 87 #[.agg #[.slice A0 c.nodes.length c0,.slice A1 c.names.length c1,.slice A2 c.mems.length c2,.slice A3 c.outs.length c3],.agg #[.int .u8 x.kind,.slice A4 x.ins.length c4,.int .i64 x.mem,.int .i64 x.bit]] w1 fun e w'=>e=.returned (.bool (placeOk c x))∧Below w1.heap.size w1 w':=by
  intro m w1 h1
  have hb1:Below w.heap.size w w1:=joinB (below_drewN hbW m) h1
  exact hasPlace_any c x _ _ _ _ _ _ _ _ _ _ _ _ _ _ w1 B (Nat.le_trans hB hb1.size) (hms.below (hb1.mono hB))
 obtain⟨y,HY⟩:=named (nodeErr c x)
 rw[←HY.out]
 have hy:nodeErr c x=if 15<x.kind then 7 else if (x.ins.length:Int)<lo x.kind then 8 else if hi x.kind<(x.ins.length:Int) then 8 else if areIdx c.nodes.length x.ins=false then 1 else if x.kind=13∧anyP (notTri c) x.ins=true then 7 else if placeOk c x=false then 1 else 0:=rfl
 clear hns hms hin hT hbox
 generalize areIdx c.nodes.length x.ins=ok at hy hA hC
 generalize anyP (notTri c) x.ins=tri at hy hC
 generalize placeOk c x=pl at hy hP
 generalize lo x.kind=a at hy hF
 generalize hi x.kind=b at hy hF
 generalize x.kind=kd at hy hF hP hk HW ⊢
 generalize x.mem=mm at hP HW ⊢
 generalize x.bit=bt at hP HW ⊢
 generalize x.ins.length=ni at hy hA hC hP HW ⊢
 generalize c.nodes.length=n0 at hA hC hP HW ⊢
 generalize c.names.length=n1 at hA hP HW ⊢
 generalize c.mems.length=n2 at hA hP HW ⊢
 generalize c.outs.length=n3 at hA hP HW ⊢
 have HYY:=Lib.hid hy
 obtain rfl:=HW.out
 have HF:=Lib.hid hF
 have HA:=Lib.hid hA
 have HC:=Lib.hid hC
 have HP:=Lib.hid hP
 have HBW:=Lib.hid hbW
 clear hy hF hA hC hP HW hbW hszW
 by_cases h15:15<kd
 ·have hv:nodeErr c x=7:=by rw[HYY.out,if_pos h15]
  have HV:=Lib.hid hv
  clear hv
  go_enter Tryd.func69,Tryd.ntmps69
  go_wp2_with (go_at_call 84;(with_reducible refine HF.out.mono ?_);rintro e w' ⟨rfl,m,rfl⟩)
  go_ret
  exact⟨ret_int (by rw[HY.out,HV.out]),below_drewN HBW.out _⟩
 by_cases hl:(ni:Int)<a
 ·have hv:nodeErr c x=8:=by rw[HYY.out,if_neg h15,if_pos hl]
  have HV:=Lib.hid hv
  clear hv
  go_enter Tryd.func69,Tryd.ntmps69
  go_wp2_with (go_at_call 84;(with_reducible refine HF.out.mono ?_);rintro e w' ⟨rfl,m,rfl⟩)
  go_ret
  exact⟨ret_int (by rw[HY.out,HV.out]),below_drewN HBW.out _⟩
 by_cases hh:b<(ni:Int)
 ·have hv:nodeErr c x=8:=by rw[HYY.out,if_neg h15,if_neg hl,if_pos hh]
  have HV:=Lib.hid hv
  clear hv
  go_enter Tryd.func69,Tryd.ntmps69
  go_wp2_with (go_at_call 84;(with_reducible refine HF.out.mono ?_);rintro e w' ⟨rfl,m,rfl⟩)
  go_ret
  exact⟨ret_int (by rw[HY.out,HV.out]),below_drewN HBW.out _⟩
 cases ok
 ·have hv:nodeErr c x=1:=by rw[HYY.out,if_neg h15,if_neg hl,if_neg hh,if_pos rfl]
  have HV:=Lib.hid hv
  clear hv
  go_enter Tryd.func69,Tryd.ntmps69
  go_wp2_with (first
   |(go_at_call 84;(with_reducible refine HF.out.mono ?_);rintro e w' ⟨rfl,m,rfl⟩)
   |(go_at_call 74;(with_reducible refine (HA.out _).mono ?_);rintro e w1 ⟨rfl,hb⟩;have HB1:=Lib.hid hb;obtain⟨hc,hf⟩:=bcell hb;clear hb))
  go_ret
  exact⟨ret_int (by rw[HY.out,HV.out]),joinB (below_drewN HBW.out _) HB1.out⟩
 have HCC:=Lib.hid (HC.out rfl)
 clear HC
 have hok:¬(true=false):=by decide
 have HOK:=Lib.hid hok
 clear hok
 cases h13:(kd==13)
 ·have hn13:∀q:Prop,¬(kd=13∧q):=fun q h=>by rw[h.1]at h13;exact absurd h13 (by decide)
  have HN13:=Lib.hid hn13
  clear hn13
  cases pl
  ·have hv:nodeErr c x=1:=by rw[HYY.out,if_neg h15,if_neg hl,if_neg hh,if_neg HOK.out,if_neg (HN13.out _),if_pos rfl]
   have HV:=Lib.hid hv
   clear hv
   go_enter Tryd.func69,Tryd.ntmps69
   go_wp2_with (first
    |(go_at_call 84;(with_reducible refine HF.out.mono ?_);rintro e w' ⟨rfl,m,rfl⟩)
    |(go_at_call 74;(with_reducible refine (HA.out _).mono ?_);rintro e w1 ⟨rfl,hb⟩;have HB1:=Lib.hid hb;obtain⟨hc,hf⟩:=bcell hb;clear hb)
    |(go_at_call 87;(with_reducible refine (HP.out _ _ HB1.out).mono ?_);rintro e w2 ⟨rfl,hb⟩;have HB2:=Lib.hid hb;clear hb))
   go_ret
   exact⟨ret_int (by rw[HY.out,HV.out]),joinB (joinB (below_drewN HBW.out _) HB1.out) HB2.out⟩
  ·have hv:nodeErr c x=0:=by rw[HYY.out,if_neg h15,if_neg hl,if_neg hh,if_neg HOK.out,if_neg (HN13.out _),if_neg HOK.out]
   have HV:=Lib.hid hv
   clear hv
   go_enter Tryd.func69,Tryd.ntmps69
   go_wp2_with (first
    |(go_at_call 84;(with_reducible refine HF.out.mono ?_);rintro e w' ⟨rfl,m,rfl⟩)
    |(go_at_call 74;(with_reducible refine (HA.out _).mono ?_);rintro e w1 ⟨rfl,hb⟩;have HB1:=Lib.hid hb;obtain⟨hc,hf⟩:=bcell hb;clear hb)
    |(go_at_call 87;(with_reducible refine (HP.out _ _ HB1.out).mono ?_);rintro e w2 ⟨rfl,hb⟩;have HB2:=Lib.hid hb;clear hb))
   go_ret
   exact⟨ret_int (by rw[HY.out,HV.out]),joinB (joinB (below_drewN HBW.out _) HB1.out) HB2.out⟩
 ·have hk13:kd=13:=by simpa using h13
  have HK13:=Lib.hid hk13
  clear hk13
  have hft:∀q:Prop,¬(q∧false=true):=fun q h=>by cases h.2
  have HFT:=Lib.hid hft
  clear hft
  cases tri
  ·cases pl
   ·have hv:nodeErr c x=1:=by rw[HYY.out,if_neg h15,if_neg hl,if_neg hh,if_neg HOK.out,if_neg (HFT.out _),if_pos rfl]
    have HV:=Lib.hid hv
    clear hv
    go_enter Tryd.func69,Tryd.ntmps69
    go_wp2_with (first
     |(go_at_call 84;(with_reducible refine HF.out.mono ?_);rintro e w' ⟨rfl,m,rfl⟩)
     |(go_at_call 74;(with_reducible refine (HA.out _).mono ?_);rintro e w1 ⟨rfl,hb⟩;have HB1:=Lib.hid hb;obtain⟨hc,hf⟩:=bcell hb;clear hb)
     |(go_at_call 85;(with_reducible refine (HCC.out _ _ HB1.out).mono ?_);rintro e w2 ⟨rfl,rfl⟩)
     |(go_at_call 87;(with_reducible refine (HP.out _ _ HB1.out).mono ?_);rintro e w2 ⟨rfl,hb⟩;have HB2:=Lib.hid hb;clear hb))
    go_ret
    exact⟨ret_int (by rw[HY.out,HV.out]),joinB (joinB (below_drewN HBW.out _) HB1.out) HB2.out⟩
   ·have hv:nodeErr c x=0:=by rw[HYY.out,if_neg h15,if_neg hl,if_neg hh,if_neg HOK.out,if_neg (HFT.out _),if_neg HOK.out]
    have HV:=Lib.hid hv
    clear hv
    go_enter Tryd.func69,Tryd.ntmps69
    go_wp2_with (first
     |(go_at_call 84;(with_reducible refine HF.out.mono ?_);rintro e w' ⟨rfl,m,rfl⟩)
     |(go_at_call 74;(with_reducible refine (HA.out _).mono ?_);rintro e w1 ⟨rfl,hb⟩;have HB1:=Lib.hid hb;obtain⟨hc,hf⟩:=bcell hb;clear hb)
     |(go_at_call 85;(with_reducible refine (HCC.out _ _ HB1.out).mono ?_);rintro e w2 ⟨rfl,rfl⟩)
     |(go_at_call 87;(with_reducible refine (HP.out _ _ HB1.out).mono ?_);rintro e w2 ⟨rfl,hb⟩;have HB2:=Lib.hid hb;clear hb))
    go_ret
    exact⟨ret_int (by rw[HY.out,HV.out]),joinB (joinB (below_drewN HBW.out _) HB1.out) HB2.out⟩
  ·have hv:nodeErr c x=7:=by rw[HYY.out,if_neg h15,if_neg hl,if_neg hh,if_neg HOK.out,if_pos ⟨HK13.out,rfl⟩]
   have HV:=Lib.hid hv
   clear hv
   go_enter Tryd.func69,Tryd.ntmps69
   go_wp2_with (first
    |(go_at_call 84;(with_reducible refine HF.out.mono ?_);rintro e w' ⟨rfl,m,rfl⟩)
    |(go_at_call 74;(with_reducible refine (HA.out _).mono ?_);rintro e w1 ⟨rfl,hb⟩;have HB1:=Lib.hid hb;obtain⟨hc,hf⟩:=bcell hb;clear hb)
    |(go_at_call 85;(with_reducible refine (HCC.out _ _ HB1.out).mono ?_);rintro e w2 ⟨rfl,rfl⟩))
   go_ret
   exact⟨ret_int (by rw[HY.out,HV.out]),joinB (below_drewN HBW.out _) HB1.out⟩
end Go.Proofs.YtcbllelkgniogaaDoor
