/- The texts Fst. -/
import Derived.Test.YtcbllelkgniogaaDoorM05
namespace Go.Proofs.YtcbllelkgniogaaDoor
open Go.RowKit
def firstE{α:Type}(f:α→Int):List α→Int
 |[]=>0
 |x::l=>if f x=0 then firstE f l else f x
theorem firstE_hit{α:Type}(d:α)(f:α→Int):∀(l:List α) (k:Nat),k<l.length→(∀j,j<k→f (l.getD j d)=0)→f (l.getD k d)≠0→firstE f l=f (l.getD k d)
 |[],k,h,_,_=>absurd h (by simp)
 |x::l,0,_,_,h=>by simp only[firstE,List.getD_cons_zero]at h ⊢;rw[if_neg h]
 |x::l,k+1,h,h0,h1=>by
  have h00:=h0 0 (by omega)
  simp only[List.getD_cons_zero]at h00
  simp only[firstE,List.getD_cons_succ]at h1 ⊢
  rw[if_pos h00]
  exact firstE_hit d f l k (by simpa using h) (fun j hj=>by have:=h0 (j+1) (by omega);simpa using this) h1
theorem firstE_none{α:Type}(d:α)(f:α→Int):∀(l:List α),(∀j,j<l.length→f (l.getD j d)=0)→firstE f l=0
 |[],_=>rfl
 |x::l,h=>by
  have h00:=h 0 (by simp)
  simp only[List.getD_cons_zero]at h00
  simp only[firstE,if_pos h00]
  exact firstE_none d f l fun j hj=>by have:=h (j+1) (by simpa using hj);simpa using this
def Boxed(w:World)(q:Nat)(a0 a1 a2 a3:Value):Prop:=
 q<w.heap.size∧w.cell? ⟨q,0,none⟩=some a0∧w.cell? ⟨q,1,none⟩=some a1∧w.cell? ⟨q,2,none⟩=some a2∧w.cell? ⟨q,3,none⟩=some a3
theorem Boxed.below{w w':World}{q:Nat}{a0 a1 a2 a3:Value}(h:Boxed w q a0 a1 a2 a3)(hb:Below w.heap.size w w'):Boxed w' q a0 a1 a2 a3:=by
 obtain⟨h0,h1,h2,h3,h4⟩:=h
 exact⟨Nat.lt_of_lt_of_le h0 hb.size,(hb.cell (p:=⟨q,0,none⟩) h0).trans h1,(hb.cell (p:=⟨q,1,none⟩) h0).trans h2,(hb.cell (p:=⟨q,2,none⟩) h0).trans h3,(hb.cell (p:=⟨q,3,none⟩) h0).trans h4⟩
theorem Boxed.new(w:World)(a0 a1 a2 a3:Value)(t:TypeId):Boxed (w.alloc (.cells #[a0,a1,a2,a3] t)) w.heap.size a0 a1 a2 a3:=
 ⟨by simp,by rw[World.cell?_alloc_at _ _ _ _ rfl];rfl,by rw[World.cell?_alloc_at _ _ _ _ rfl];rfl,by rw[World.cell?_alloc_at _ _ _ _ rfl];rfl,by rw[World.cell?_alloc_at _ _ _ _ rfl];rfl⟩
set_option maxHeartbeats 1000000 in
theorem parts1_any(c:Ck)(x:Nd)(A0 A1 A2 A3 A4:Option Addr)(c0 c1 c2 c3 c4:Nat)(q:Nat)(w:World)(B:Nat)(hB:B≤w.heap.size)(hT:Tabs w)
 (hq:Boxed w q (.slice A0 c.nodes.length c0) (.slice A1 c.names.length c1) (.slice A2 c.mems.length c2) (.slice A3 c.outs.length c3))
 (hns:Ns w B (.slice A0 c.nodes.length c0) c.nodes) (hms:Ms w B (.slice A2 c.mems.length c2) c.mems) (hin:Is w B (.slice A4 x.ins.length c4) x.ins) (hk:0≤x.kind):
 Calls Tryd.prog 68 #[.agg #[.int .u8 x.kind,.slice A4 x.ins.length c4,.int .i64 x.mem,.int .i64 x.bit],.pointer (some ⟨q,0,none⟩)] w
  fun e w'=>e=.returned (.int .i64 (nodeErr c x))∧Below w.heap.size w w':=by
 obtain⟨hq0,h0,h1,h2,h3⟩:=hq
 have hb:Below w.heap.size w (w.alloc (.cells #[.int .u8 x.kind,.slice A4 x.ins.length c4,.int .i64 x.mem,.int .i64 x.bit] 53)):=(Below.refl _ _).alloc (Nat.le_refl _) _
 have hC:=checkNode_any c x A0 A1 A2 A3 A4 c0 c1 c2 c3 c4 _ B (Nat.le_trans hB hb.size) (hT.below hb) (hns.below (hb.mono hB)) (hms.below (hb.mono hB)) (hin.below (hb.mono hB)) hk
 generalize nodeErr c x=y at hC ⊢
 generalize x.kind=kd at hC hb ⊢
 generalize x.mem=mm at hC hb ⊢
 generalize x.bit=bt at hC hb ⊢
 generalize x.ins.length=ni at hC hb ⊢
 generalize c.nodes.length=n0 at hC h0 ⊢
 generalize c.names.length=n1 at hC h1 ⊢
 generalize c.mems.length=n2 at hC h2 ⊢
 generalize c.outs.length=n3 at hC h3 ⊢
 have HC:=Lib.hid hC
 have HB:=Lib.hid hb
 clear hC hb
 clear hns hms hin hT hk
 go_enter Tryd.func68,Tryd.ntmps68
 go_wp2_with (go_at_call 69;(with_reducible refine HC.out.mono ?_);rintro e w1 ⟨rfl,hb⟩;have HB1:=Lib.hid hb;clear hb)
 go_ret
 exact⟨rfl,joinB HB.out HB1.out⟩
set_option maxHeartbeats 1000000 in
theorem parts2_any(c:Ck)(x:Mm)(A0 A1 A2 A3 A4 A5:Option Addr)(c0 c1 c2 c3 c4 c5:Nat)(q:Nat)(w:World)(B:Nat)(hB:B≤w.heap.size)
 (hq:Boxed w q (.slice A0 c.nodes.length c0) (.slice A1 c.names.length c1) (.slice A2 c.mems.length c2) (.slice A3 c.outs.length c3))
 (ha:Is w B (.slice A4 x.addr.length c4) x.addr) (hd:Is w B (.slice A5 x.data.length c5) x.data):
 Calls Tryd.prog 72 #[.agg #[.slice A4 x.addr.length c4,.slice A5 x.data.length c5,.int .i64 x.write],.pointer (some ⟨q,0,none⟩)] w
  fun e w'=>e=.returned (.int .i64 (memErr c x))∧Below w.heap.size w w':=by
 obtain⟨hq0,h0,h1,h2,h3⟩:=hq
 have hb:Below w.heap.size w (w.alloc (.cells #[.slice A4 x.addr.length c4,.slice A5 x.data.length c5,.int .i64 x.write] 58)):=(Below.refl _ _).alloc (Nat.le_refl _) _
 have hC:=checkMem_any c x A0 A1 A2 A3 A4 A5 c0 c1 c2 c3 c4 c5 _ B (Nat.le_trans hB hb.size) (ha.below (hb.mono hB)) (hd.below (hb.mono hB))
 generalize memErr c x=y at hC ⊢
 generalize x.write=wr at hC hb ⊢
 generalize x.addr.length=na at hC hb ⊢
 generalize x.data.length=nd at hC hb ⊢
 generalize c.nodes.length=n0 at hC h0 ⊢
 generalize c.names.length=n1 at hC h1 ⊢
 generalize c.mems.length=n2 at hC h2 ⊢
 generalize c.outs.length=n3 at hC h3 ⊢
 have HC:=Lib.hid hC
 have HB:=Lib.hid hb
 clear hC hb
 clear ha hd
 go_enter Tryd.func72,Tryd.ntmps72
 go_wp2_with (go_at_call 73;(with_reducible refine HC.out.mono ?_);rintro e w1 ⟨rfl,hb⟩;have HB1:=Lib.hid hb;clear hb)
 go_ret
 exact⟨rfl,joinB HB.out HB1.out⟩
set_option maxHeartbeats 2000000 in
theorem firstN_any(f:Nd→Int)(env:Value)(l:List Nd)(A:Option Addr)(c:Nat)(w:World)(B:Nat)(hB:B≤w.heap.size)(hn:Ns w B (.slice A l.length c) l)
 (hcl:∀k,k<l.length→∀A4 c4 W1,Is w B (.slice A4 (l.getD k default).ins.length c4) (l.getD k default).ins→0≤(l.getD k default).kind→Below w.heap.size w W1→
   Calls Tryd.prog 68 #[.agg #[.int .u8 (l.getD k default).kind,.slice A4 (l.getD k default).ins.length c4,.int .i64 (l.getD k default).mem,.int .i64 (l.getD k default).bit],env] W1
    fun e w'=>e=.returned (.int .i64 (f (l.getD k default)))∧Below W1.heap.size W1 w'):
 Calls Tryd.prog 67 #[.slice A l.length c,.func (.func 68) #[] #[env]] w fun e w'=>e=.returned (.int .i64 (firstE f l))∧Below w.heap.size w w':=by
 obtain⟨y,HY⟩:=named (firstE f l)
 rw[←HY.out]
 obtain⟨A',b,o,c',e,hA,-,hm,hc⟩:=hn
 simp only[Value.slice.injEq,true_and]at e
 obtain⟨rfl,rfl⟩:=e
 unfold maxLen at hm
 have HC:=Lib.hid hc
 have HCL:=Lib.hid hcl
 have HAA:=Lib.hid hA
 clear hc hcl hA
 obtain⟨n,hnn⟩:∃n,n=l.length:=⟨_,rfl⟩
 rw[←hnn]at hm
 rw[←hnn]
 have HN:=Lib.hid hnn
 clear hnn
 go_enter Tryd.func67,Tryd.ntmps67
 go_wp2
 go_loopw [10] (fun i wr=>Below w.heap.size w wr∧∃k:Nat,k≤n∧i=.int .i64 k∧∀j,j<k→f (l.getD j default)=0) (fun i _=>n-(intOf i).toNat)
 case atStart=>exact⟨Below.refl _ _,0,Nat.zero_le _,rfl,fun j hj=>absurd hj (by omega)⟩
 case round=>
  obtain⟨hbr,k,hk,rfl,hno⟩:=hrel
  have HNO:=Lib.hid hno
  clear hno
  by_cases hlt:k<n
  ·obtain rfl:=HAA.out (by rw[←HN.out];omega)
   obtain⟨hlb,s,h0,h1,h2,h3,h4,h5,-⟩:=HC.out k (by rw[←HN.out];omega)
   have hlb':b<w.heap.size:=by omega
   have hcall:=HCL.out k (by rw[←HN.out];omega)
   obtain⟨A4,b4,o4,c4,rfl,hh4⟩:=id h4
   have hcall:=fun W1=>hcall A4 c4 W1 h4 h5
   have HH4:=Lib.hid hh4
   clear hh4 h4 h5
   generalize hx:l.getD k default=x at h0 h1 h2 h3 hcall HH4
   have HX:=Lib.hid hx
   clear hx
   generalize x.kind=kd at h0 hcall HH4
   generalize x.mem=mm at h2 hcall HH4
   generalize x.bit=bt at h3 hcall HH4
   have e0:=(hbr.cell (p:=⟨b,o+k*4,none⟩) hlb').trans h0
   have e1:=(hbr.cell (p:=⟨b,o+k*4+1,none⟩) hlb').trans h1
   have e2:=(hbr.cell (p:=⟨b,o+k*4+2,none⟩) hlb').trans h2
   have e3:=(hbr.cell (p:=⟨b,o+k*4+3,none⟩) hlb').trans h3
   clear h0 h1 h2 h3
   generalize x.ins.length=ni at e1 hcall HH4
   have HBR:=Lib.hid hbr
   have hal:=below_new hbr (.cells #[.int .u8 kd,.slice A4 ni c4,.int .i64 mm,.int .i64 bt] 53)
   have hcall:=hcall _ hal
   have HAL:=Lib.hid hal
   clear hal hbr
   by_cases hz:f x=0
   ·rw[hz]at hcall
    have HCALL:=Lib.hid hcall
    have HZ:=Lib.hid hz
    clear hcall hz
    go_wp2_with (go_at_call 68;(with_reducible refine HCALL.out.mono ?_);rintro e w1 ⟨rfl,hb⟩;have HB1:=Lib.hid (joinB HAL.out hb);clear hb)
    go_roundw
    case rel=>
     refine⟨HB1.out,k+1,by omega,by go_num,fun j hj=>?_⟩
     by_cases hjk:j=k
     ·rw[hjk,HX.out];exact HZ.out
     ·exact HNO.out j (by omega)
    case measure=>simp[intOf];omega
   ·obtain⟨v,HV⟩:=named (f x)
    rw[←HV.out]at hcall hz
    have hz':(v==0)=false:=by simpa using hz
    have HCALL:=Lib.hid hcall
    have HZ:=Lib.hid hz
    clear hcall hz
    go_wp2_with (go_at_call 68;(with_reducible refine HCALL.out.mono ?_);rintro e w1 ⟨rfl,hb⟩;have HB1:=Lib.hid (joinB HAL.out hb);clear hb)
    go_ret
    exact⟨ret_int (by rw[HY.out,firstE_hit default f l k (by rw[←HN.out];omega) HNO.out (by rw[HX.out,←HV.out];exact HZ.out),HX.out,HV.out]),HB1.out⟩
  ·go_wp2
   go_ret
   exact⟨ret_int (by rw[HY.out,firstE_none default f l (fun j hj=>HNO.out j (by rw[←HN.out]at hj;omega))]),hbr⟩
set_option maxHeartbeats 2000000 in
theorem firstM_any(f:Mm→Int)(env:Value)(l:List Mm)(A:Option Addr)(c:Nat)(w:World)(B:Nat)(hB:B≤w.heap.size)(hn:Ms w B (.slice A l.length c) l)
 (hcl:∀k,k<l.length→∀A4 c4 A5 c5 W1,Is w B (.slice A4 (l.getD k default).addr.length c4) (l.getD k default).addr→Is w B (.slice A5 (l.getD k default).data.length c5) (l.getD k default).data→Below w.heap.size w W1→
   Calls Tryd.prog 72 #[.agg #[.slice A4 (l.getD k default).addr.length c4,.slice A5 (l.getD k default).data.length c5,.int .i64 (l.getD k default).write],env] W1
    fun e w'=>e=.returned (.int .i64 (f (l.getD k default)))∧Below W1.heap.size W1 w'):
 Calls Tryd.prog 71 #[.slice A l.length c,.func (.func 72) #[] #[env]] w fun e w'=>e=.returned (.int .i64 (firstE f l))∧Below w.heap.size w w':=by
 obtain⟨y,HY⟩:=named (firstE f l)
 rw[←HY.out]
 obtain⟨A',b,o,c',e,hA,-,hm,hc⟩:=hn
 simp only[Value.slice.injEq,true_and]at e
 obtain⟨rfl,rfl⟩:=e
 unfold maxLen at hm
 have HC:=Lib.hid hc
 have HCL:=Lib.hid hcl
 have HAA:=Lib.hid hA
 clear hc hcl hA
 obtain⟨n,hnn⟩:∃n,n=l.length:=⟨_,rfl⟩
 rw[←hnn]at hm
 rw[←hnn]
 have HN:=Lib.hid hnn
 clear hnn
 go_enter Tryd.func71,Tryd.ntmps71
 go_wp2
 go_loopw [10] (fun i wr=>Below w.heap.size w wr∧∃k:Nat,k≤n∧i=.int .i64 k∧∀j,j<k→f (l.getD j default)=0) (fun i _=>n-(intOf i).toNat)
 case atStart=>exact⟨Below.refl _ _,0,Nat.zero_le _,rfl,fun j hj=>absurd hj (by omega)⟩
 case round=>
  obtain⟨hbr,k,hk,rfl,hno⟩:=hrel
  have HNO:=Lib.hid hno
  clear hno
  by_cases hlt:k<n
  ·obtain rfl:=HAA.out (by rw[←HN.out];omega)
   obtain⟨hlb,s,s',h0,h1,h2,h3,h4⟩:=HC.out k (by rw[←HN.out];omega)
   have hlb':b<w.heap.size:=by omega
   have hcall:=HCL.out k (by rw[←HN.out];omega)
   obtain⟨A4,b4,o4,c4,rfl,hh4⟩:=id h3
   obtain⟨A5,b5,o5,c5,rfl,hh5⟩:=id h4
   have hcall:=fun W1=>hcall A4 c4 A5 c5 W1 h3 h4
   have HH4:=Lib.hid hh4
   have HH5:=Lib.hid hh5
   clear hh4 h4 h3 hh5
   generalize hx:l.getD k default=x at h0 h1 h2 hcall HH4 HH5
   have HX:=Lib.hid hx
   clear hx
   generalize x.write=wt at h2 hcall HH4 HH5
   have e0:=(hbr.cell (p:=⟨b,o+k*3,none⟩) hlb').trans h0
   have e1:=(hbr.cell (p:=⟨b,o+k*3+1,none⟩) hlb').trans h1
   have e2:=(hbr.cell (p:=⟨b,o+k*3+2,none⟩) hlb').trans h2
   clear h0 h1 h2
   generalize x.addr.length=na at e0 hcall HH4
   generalize x.data.length=nd at e1 hcall HH5
   have HBR:=Lib.hid hbr
   have hal:=below_new hbr (.cells #[.slice A4 na c4,.slice A5 nd c5,.int .i64 wt] 58)
   have hcall:=hcall _ hal
   have HAL:=Lib.hid hal
   clear hal hbr
   by_cases hz:f x=0
   ·rw[hz]at hcall
    have HCALL:=Lib.hid hcall
    have HZ:=Lib.hid hz
    clear hcall hz
    go_wp2_with (go_at_call 72;(with_reducible refine HCALL.out.mono ?_);rintro e w1 ⟨rfl,hb⟩;have HB1:=Lib.hid (joinB HAL.out hb);clear hb)
    go_roundw
    case rel=>
     refine⟨HB1.out,k+1,by omega,by go_num,fun j hj=>?_⟩
     by_cases hjk:j=k
     ·rw[hjk,HX.out];exact HZ.out
     ·exact HNO.out j (by omega)
    case measure=>simp[intOf];omega
   ·obtain⟨v,HV⟩:=named (f x)
    rw[←HV.out]at hcall hz
    have hz':(v==0)=false:=by simpa using hz
    have HCALL:=Lib.hid hcall
    have HZ:=Lib.hid hz
    clear hcall hz
    go_wp2_with (go_at_call 72;(with_reducible refine HCALL.out.mono ?_);rintro e w1 ⟨rfl,hb⟩;have HB1:=Lib.hid (joinB HAL.out hb);clear hb)
    go_ret
    exact⟨ret_int (by rw[HY.out,firstE_hit default f l k (by rw[←HN.out];omega) HNO.out (by rw[HX.out,←HV.out];exact HZ.out),HX.out,HV.out]),HB1.out⟩
  ·go_wp2
   go_ret
   exact⟨ret_int (by rw[HY.out,firstE_none default f l (fun j hj=>HNO.out j (by rw[←HN.out]at hj;omega))]),hbr⟩
end Go.Proofs.YtcbllelkgniogaaDoor
