/- The texts Fst Unq. -/
import Derived.Test.YtemjmfpcopfdbaaGreatDoorM04
import Derived.Maps.OwnOps
import Derived.Maps.OwnSet
import Derived.Maps.Views
import Derived.StringKeys
import Derived.Deep.AppendLies
namespace Go.Proofs.YtemjmfpcopfdbaaGreatDoor
open Go.RowKit
def firstE{α:Type}(f:α→Int):List α→Int
 |[]=>0
 |x::l=>if f x=0 then firstE f l else f x
theorem firstE_hit{α:Type}(d:α)(f:α→Int):∀(l:List α) (k:Nat),k<l.length→(∀j,j<k→f (l.getD j d)=0)→f (l.getD k d)≠0→firstE f l=f (l.getD k d)
 |[],k,h,_,_=>absurd h (by simp)
 |x::l,0,_,_,h=>by simp only[firstE,List.getD_cons_zero]at h ⊢;rw[if_neg h]
 |x::l,k+1,h,h0,h1=>by
  have h00:=h0 0 (by omega)
  simp only[List.getD_cons_zero]at h00
  simp only[firstE,List.getD_cons_succ]at h1 ⊢
  rw[if_pos h00]
  exact firstE_hit d f l k (by simpa using h) (fun j hj=>by have:=h0 (j+1) (by omega);simpa using this) h1
theorem firstE_none{α:Type}(d:α)(f:α→Int):∀(l:List α),(∀j,j<l.length→f (l.getD j d)=0)→firstE f l=0
 |[],_=>rfl
 |x::l,h=>by
  have h00:=h 0 (by simp)
  simp only[List.getD_cons_zero]at h00
  simp only[firstE,if_pos h00]
  exact firstE_none d f l fun j hj=>by have:=h (j+1) (by simpa using hj);simpa using this
def Boxed(w:World)(q:Nat)(a0 a1 a2 a3:Value):Prop:=
 q<w.heap.size∧w.cell? ⟨q,0,none⟩=some a0∧w.cell? ⟨q,1,none⟩=some a1∧w.cell? ⟨q,2,none⟩=some a2∧w.cell? ⟨q,3,none⟩=some a3
theorem Boxed.below{w w':World}{q:Nat}{a0 a1 a2 a3:Value}(h:Boxed w q a0 a1 a2 a3)(hb:Below w.heap.size w w'):Boxed w' q a0 a1 a2 a3:=by
 obtain⟨h0,h1,h2,h3,h4⟩:=h
 exact⟨Nat.lt_of_lt_of_le h0 hb.size,(hb.cell (p:=⟨q,0,none⟩) h0).trans h1,(hb.cell (p:=⟨q,1,none⟩) h0).trans h2,(hb.cell (p:=⟨q,2,none⟩) h0).trans h3,(hb.cell (p:=⟨q,3,none⟩) h0).trans h4⟩
theorem Boxed.new(w:World)(a0 a1 a2 a3:Value)(t:TypeId):Boxed (w.alloc (.cells #[a0,a1,a2,a3] t)) w.heap.size a0 a1 a2 a3:=
 ⟨by simp,by rw[World.cell?_alloc_at _ _ _ _ rfl];rfl,by rw[World.cell?_alloc_at _ _ _ _ rfl];rfl,by rw[World.cell?_alloc_at _ _ _ _ rfl];rfl,by rw[World.cell?_alloc_at _ _ _ _ rfl];rfl⟩
set_option maxHeartbeats 1000000 in
theorem parts1_any(c:Ck)(x:Nd)(A0 A1 A2 A3 A4:Option Addr)(c0 c1 c2 c3 c4:Nat)(q:Nat)(w:World)(B:Nat)(hB:B≤w.heap.size)(hT:Tabs w)
 (hq:Boxed w q (.slice A0 c.nodes.length c0) (.slice A1 c.names.length c1) (.slice A2 c.mems.length c2) (.slice A3 c.outs.length c3))
 (hns:Ns w B (.slice A0 c.nodes.length c0) c.nodes) (hms:Ms w B (.slice A2 c.mems.length c2) c.mems) (hin:Is w B (.slice A4 x.ins.length c4) x.ins) (hk:0≤x.kind):
 Calls Tryz.prog 136 #[.agg #[.int .u8 x.kind,.slice A4 x.ins.length c4,.int .i64 x.mem,.int .i64 x.bit],.pointer (some ⟨q,0,none⟩)] w
  fun e w'=>e=.returned (.int .i64 (nodeErr c x))∧Below w.heap.size w w':=by
 obtain⟨hq0,h0,h1,h2,h3⟩:=hq
 have hb:Below w.heap.size w (w.alloc (.cells #[.int .u8 x.kind,.slice A4 x.ins.length c4,.int .i64 x.mem,.int .i64 x.bit] 65)):=(Below.refl _ _).alloc (Nat.le_refl _) _
 have hC:=checkNode_any c x A0 A1 A2 A3 A4 c0 c1 c2 c3 c4 _ B (Nat.le_trans hB hb.size) (hT.below hb) (hns.below (hb.mono hB)) (hms.below (hb.mono hB)) (hin.below (hb.mono hB)) hk
 generalize nodeErr c x=y at hC ⊢
 generalize x.kind=kd at hC hb ⊢
 generalize x.mem=mm at hC hb ⊢
 generalize x.bit=bt at hC hb ⊢
 generalize x.ins.length=ni at hC hb ⊢
 generalize c.nodes.length=n0 at hC h0 ⊢
 generalize c.names.length=n1 at hC h1 ⊢
 generalize c.mems.length=n2 at hC h2 ⊢
 generalize c.outs.length=n3 at hC h3 ⊢
 have HC:=Lib.hid hC
 have HB:=Lib.hid hb
 clear hC hb
 clear hns hms hin hT hk
 go_enter Tryz.func136,Tryz.ntmps136
 go_wp2_with (go_at_call 137;(with_reducible refine HC.out.mono ?_);rintro e w1 ⟨rfl,hb⟩;have HB1:=Lib.hid hb;clear hb)
 go_ret
 exact⟨rfl,joinB HB.out HB1.out⟩
set_option maxHeartbeats 1000000 in
theorem parts2_any(c:Ck)(x:Mm)(A0 A1 A2 A3 A4 A5:Option Addr)(c0 c1 c2 c3 c4 c5:Nat)(q:Nat)(w:World)(B:Nat)(hB:B≤w.heap.size)
 (hq:Boxed w q (.slice A0 c.nodes.length c0) (.slice A1 c.names.length c1) (.slice A2 c.mems.length c2) (.slice A3 c.outs.length c3))
 (ha:Is w B (.slice A4 x.addr.length c4) x.addr) (hd:Is w B (.slice A5 x.data.length c5) x.data):
 Calls Tryz.prog 140 #[.agg #[.slice A4 x.addr.length c4,.slice A5 x.data.length c5,.int .i64 x.write],.pointer (some ⟨q,0,none⟩)] w
  fun e w'=>e=.returned (.int .i64 (memErr c x))∧Below w.heap.size w w':=by
 obtain⟨hq0,h0,h1,h2,h3⟩:=hq
 have hb:Below w.heap.size w (w.alloc (.cells #[.slice A4 x.addr.length c4,.slice A5 x.data.length c5,.int .i64 x.write] 67)):=(Below.refl _ _).alloc (Nat.le_refl _) _
 have hC:=checkMem_any c x A0 A1 A2 A3 A4 A5 c0 c1 c2 c3 c4 c5 _ B (Nat.le_trans hB hb.size) (ha.below (hb.mono hB)) (hd.below (hb.mono hB))
 generalize memErr c x=y at hC ⊢
 generalize x.write=wr at hC hb ⊢
 generalize x.addr.length=na at hC hb ⊢
 generalize x.data.length=nd at hC hb ⊢
 generalize c.nodes.length=n0 at hC h0 ⊢
 generalize c.names.length=n1 at hC h1 ⊢
 generalize c.mems.length=n2 at hC h2 ⊢
 generalize c.outs.length=n3 at hC h3 ⊢
 have HC:=Lib.hid hC
 have HB:=Lib.hid hb
 clear hC hb
 clear ha hd
 go_enter Tryz.func140,Tryz.ntmps140
 go_wp2_with (go_at_call 141;(with_reducible refine HC.out.mono ?_);rintro e w1 ⟨rfl,hb⟩;have HB1:=Lib.hid hb;clear hb)
 go_ret
 exact⟨rfl,joinB HB.out HB1.out⟩
set_option maxHeartbeats 2000000 in
theorem firstN_any(f:Nd→Int)(env:Value)(l:List Nd)(A:Option Addr)(c:Nat)(w:World)(B:Nat)(hB:B≤w.heap.size)(hn:Ns w B (.slice A l.length c) l)
 (hcl:∀k,k<l.length→∀A4 c4 W1,Is w B (.slice A4 (l.getD k default).ins.length c4) (l.getD k default).ins→0≤(l.getD k default).kind→Below w.heap.size w W1→
   Calls Tryz.prog 136 #[.agg #[.int .u8 (l.getD k default).kind,.slice A4 (l.getD k default).ins.length c4,.int .i64 (l.getD k default).mem,.int .i64 (l.getD k default).bit],env] W1
    fun e w'=>e=.returned (.int .i64 (f (l.getD k default)))∧Below W1.heap.size W1 w'):
 Calls Tryz.prog 135 #[.slice A l.length c,.func (.func 136) #[] #[env]] w fun e w'=>e=.returned (.int .i64 (firstE f l))∧Below w.heap.size w w':=by
 obtain⟨y,HY⟩:=named (firstE f l)
 rw[←HY.out]
 obtain⟨A',b,o,c',e,hA,-,hm,hc⟩:=hn
 simp only[Value.slice.injEq,true_and]at e
 obtain⟨rfl,rfl⟩:=e
 unfold maxLen at hm
 have HC:=Lib.hid hc
 have HCL:=Lib.hid hcl
 have HAA:=Lib.hid hA
 clear hc hcl hA
 obtain⟨n,hnn⟩:∃n,n=l.length:=⟨_,rfl⟩
 rw[←hnn]at hm
 rw[←hnn]
 have HN:=Lib.hid hnn
 clear hnn
 go_enter Tryz.func135,Tryz.ntmps135
 go_wp2
 go_loopw [10] (fun i wr=>Below w.heap.size w wr∧∃k:Nat,k≤n∧i=.int .i64 k∧∀j,j<k→f (l.getD j default)=0) (fun i _=>n-(intOf i).toNat)
 case atStart=>exact⟨Below.refl _ _,0,Nat.zero_le _,rfl,fun j hj=>absurd hj (by omega)⟩
 case round=>
  obtain⟨hbr,k,hk,rfl,hno⟩:=hrel
  have HNO:=Lib.hid hno
  clear hno
  by_cases hlt:k<n
  ·obtain rfl:=HAA.out (by rw[←HN.out];omega)
   obtain⟨hlb,s,h0,h1,h2,h3,h4,h5,-⟩:=HC.out k (by rw[←HN.out];omega)
   have hlb':b<w.heap.size:=by omega
   have hcall:=HCL.out k (by rw[←HN.out];omega)
   obtain⟨A4,b4,o4,c4,rfl,hh4⟩:=id h4
   have hcall:=fun W1=>hcall A4 c4 W1 h4 h5
   have HH4:=Lib.hid hh4
   clear hh4 h4 h5
   generalize hx:l.getD k default=x at h0 h1 h2 h3 hcall HH4
   have HX:=Lib.hid hx
   clear hx
   generalize x.kind=kd at h0 hcall HH4
   generalize x.mem=mm at h2 hcall HH4
   generalize x.bit=bt at h3 hcall HH4
   have e0:=(hbr.cell (p:=⟨b,o+k*4,none⟩) hlb').trans h0
   have e1:=(hbr.cell (p:=⟨b,o+k*4+1,none⟩) hlb').trans h1
   have e2:=(hbr.cell (p:=⟨b,o+k*4+2,none⟩) hlb').trans h2
   have e3:=(hbr.cell (p:=⟨b,o+k*4+3,none⟩) hlb').trans h3
   clear h0 h1 h2 h3
   generalize x.ins.length=ni at e1 hcall HH4
   have HBR:=Lib.hid hbr
   have hal:=below_new hbr (.cells #[.int .u8 kd,.slice A4 ni c4,.int .i64 mm,.int .i64 bt] 65)
   have hcall:=hcall _ hal
   have HAL:=Lib.hid hal
   clear hal hbr
   by_cases hz:f x=0
   ·rw[hz]at hcall
    have HCALL:=Lib.hid hcall
    have HZ:=Lib.hid hz
    clear hcall hz
    go_wp2_with (go_at_call 136;(with_reducible refine HCALL.out.mono ?_);rintro e w1 ⟨rfl,hb⟩;have HB1:=Lib.hid (joinB HAL.out hb);clear hb)
    go_roundw
    case rel=>
     refine⟨HB1.out,k+1,by omega,by go_num,fun j hj=>?_⟩
     by_cases hjk:j=k
     ·rw[hjk,HX.out];exact HZ.out
     ·exact HNO.out j (by omega)
    case measure=>simp[intOf];omega
   ·obtain⟨v,HV⟩:=named (f x)
    rw[←HV.out]at hcall hz
    have hz':(v==0)=false:=by simpa using hz
    have HCALL:=Lib.hid hcall
    have HZ:=Lib.hid hz
    clear hcall hz
    go_wp2_with (go_at_call 136;(with_reducible refine HCALL.out.mono ?_);rintro e w1 ⟨rfl,hb⟩;have HB1:=Lib.hid (joinB HAL.out hb);clear hb)
    go_ret
    exact⟨ret_int (by rw[HY.out,firstE_hit default f l k (by rw[←HN.out];omega) HNO.out (by rw[HX.out,←HV.out];exact HZ.out),HX.out,HV.out]),HB1.out⟩
  ·go_wp2
   go_ret
   exact⟨ret_int (by rw[HY.out,firstE_none default f l (fun j hj=>HNO.out j (by rw[←HN.out]at hj;omega))]),hbr⟩
set_option maxHeartbeats 2000000 in
theorem firstM_any(f:Mm→Int)(env:Value)(l:List Mm)(A:Option Addr)(c:Nat)(w:World)(B:Nat)(hB:B≤w.heap.size)(hn:Ms w B (.slice A l.length c) l)
 (hcl:∀k,k<l.length→∀A4 c4 A5 c5 W1,Is w B (.slice A4 (l.getD k default).addr.length c4) (l.getD k default).addr→Is w B (.slice A5 (l.getD k default).data.length c5) (l.getD k default).data→Below w.heap.size w W1→
   Calls Tryz.prog 140 #[.agg #[.slice A4 (l.getD k default).addr.length c4,.slice A5 (l.getD k default).data.length c5,.int .i64 (l.getD k default).write],env] W1
    fun e w'=>e=.returned (.int .i64 (f (l.getD k default)))∧Below W1.heap.size W1 w'):
 Calls Tryz.prog 139 #[.slice A l.length c,.func (.func 140) #[] #[env]] w fun e w'=>e=.returned (.int .i64 (firstE f l))∧Below w.heap.size w w':=by
 obtain⟨y,HY⟩:=named (firstE f l)
 rw[←HY.out]
 obtain⟨A',b,o,c',e,hA,-,hm,hc⟩:=hn
 simp only[Value.slice.injEq,true_and]at e
 obtain⟨rfl,rfl⟩:=e
 unfold maxLen at hm
 have HC:=Lib.hid hc
 have HCL:=Lib.hid hcl
 have HAA:=Lib.hid hA
 clear hc hcl hA
 obtain⟨n,hnn⟩:∃n,n=l.length:=⟨_,rfl⟩
 rw[←hnn]at hm
 rw[←hnn]
 have HN:=Lib.hid hnn
 clear hnn
 go_enter Tryz.func139,Tryz.ntmps139
 go_wp2
 go_loopw [10] (fun i wr=>Below w.heap.size w wr∧∃k:Nat,k≤n∧i=.int .i64 k∧∀j,j<k→f (l.getD j default)=0) (fun i _=>n-(intOf i).toNat)
 case atStart=>exact⟨Below.refl _ _,0,Nat.zero_le _,rfl,fun j hj=>absurd hj (by omega)⟩
 case round=>
  obtain⟨hbr,k,hk,rfl,hno⟩:=hrel
  have HNO:=Lib.hid hno
  clear hno
  by_cases hlt:k<n
  ·obtain rfl:=HAA.out (by rw[←HN.out];omega)
   obtain⟨hlb,s,s',h0,h1,h2,h3,h4⟩:=HC.out k (by rw[←HN.out];omega)
   have hlb':b<w.heap.size:=by omega
   have hcall:=HCL.out k (by rw[←HN.out];omega)
   obtain⟨A4,b4,o4,c4,rfl,hh4⟩:=id h3
   obtain⟨A5,b5,o5,c5,rfl,hh5⟩:=id h4
   have hcall:=fun W1=>hcall A4 c4 A5 c5 W1 h3 h4
   have HH4:=Lib.hid hh4
   have HH5:=Lib.hid hh5
   clear hh4 h4 h3 hh5
   generalize hx:l.getD k default=x at h0 h1 h2 hcall HH4 HH5
   have HX:=Lib.hid hx
   clear hx
   generalize x.write=wt at h2 hcall HH4 HH5
   have e0:=(hbr.cell (p:=⟨b,o+k*3,none⟩) hlb').trans h0
   have e1:=(hbr.cell (p:=⟨b,o+k*3+1,none⟩) hlb').trans h1
   have e2:=(hbr.cell (p:=⟨b,o+k*3+2,none⟩) hlb').trans h2
   clear h0 h1 h2
   generalize x.addr.length=na at e0 hcall HH4
   generalize x.data.length=nd at e1 hcall HH5
   have HBR:=Lib.hid hbr
   have hal:=below_new hbr (.cells #[.slice A4 na c4,.slice A5 nd c5,.int .i64 wt] 67)
   have hcall:=hcall _ hal
   have HAL:=Lib.hid hal
   clear hal hbr
   by_cases hz:f x=0
   ·rw[hz]at hcall
    have HCALL:=Lib.hid hcall
    have HZ:=Lib.hid hz
    clear hcall hz
    go_wp2_with (go_at_call 140;(with_reducible refine HCALL.out.mono ?_);rintro e w1 ⟨rfl,hb⟩;have HB1:=Lib.hid (joinB HAL.out hb);clear hb)
    go_roundw
    case rel=>
     refine⟨HB1.out,k+1,by omega,by go_num,fun j hj=>?_⟩
     by_cases hjk:j=k
     ·rw[hjk,HX.out];exact HZ.out
     ·exact HNO.out j (by omega)
    case measure=>simp[intOf];omega
   ·obtain⟨v,HV⟩:=named (f x)
    rw[←HV.out]at hcall hz
    have hz':(v==0)=false:=by simpa using hz
    have HCALL:=Lib.hid hcall
    have HZ:=Lib.hid hz
    clear hcall hz
    go_wp2_with (go_at_call 140;(with_reducible refine HCALL.out.mono ?_);rintro e w1 ⟨rfl,hb⟩;have HB1:=Lib.hid (joinB HAL.out hb);clear hb)
    go_ret
    exact⟨ret_int (by rw[HY.out,firstE_hit default f l k (by rw[←HN.out];omega) HNO.out (by rw[HX.out,←HV.out];exact HZ.out),HX.out,HV.out]),HB1.out⟩
  ·go_wp2
   go_ret
   exact⟨ret_int (by rw[HY.out,firstE_none default f l (fun j hj=>HNO.out j (by rw[←HN.out]at hj;omega))]),hbr⟩
open Go.RowKit Go.Maps Go.WideMaps
theorem lawS:Keyed Tryz.prog 9:=string_keyed Tryz.underlying9
theorem zeroB(w:World):(zeroValue 4).run Tryz.prog w=.ok (.bool false) w:=by kernel_rfl
theorem makeMap_hint(n:Nat)(w:World):(Instr.makeMap 189 (some (.int .i64 n))).run Tryz.prog w=.ok (.map (some w.heap.size)) (w.alloc (.map #[] 0)):=by
 simp[Instr.makeMap,run_underlying Tryz.underlying189,asInt,asIntOf,Result.andThen]
theorem plainElem_bool_inv{H:Type}{P:Program}{e:TypeId}(he:P.underlying e=some .bool){v:Value}{z:DataW H×List MemPlace}(h:plainElem P e v=some z):∃x,v=.bool x∧z=(.lit (.bool x),[]):=by
 unfold plainElem at h
 rw[he]at h
 cases v<;>simp at h
 exact⟨_,rfl,h.symm⟩
def Noted(w:World)(b:Nat)(ks:List (List UInt8)):Prop:=
 ∃D:DataW Unit,w.ownsMap Tryz.prog 9 (plainElem Tryz.prog 4) b ks.length D∧IsMap D∧∀s:List UInt8,D.atKey (.string s) (.lit (.bool false))=.lit (.bool (decide (s∈ks)))
theorem Noted.lt{w:World}{b:Nat}{ks:List (List UInt8)}(h:Noted w b ks):b<w.heap.size:=by obtain⟨D,h,-⟩:=h;exact h.lt
theorem Noted.start(w:World):Noted (w.alloc (.map #[] 0)) w.heap.size []:=
 ⟨.map [],World.ownsMap_made _ _ _ _,isMap_empty,fun s=>by rw[atKey_of_not_has (by simp[has_eq])];simp⟩
theorem Noted.kept{w w':World}{b:Nat}{ks:List (List UInt8)}(h:Noted w b ks)(hb:Below w.heap.size w w'):Noted w' b ks:=by
 obtain⟨D,hD,h2,h3⟩:=h
 refine⟨D,?_,h2,h3⟩
 have hlt:=hD.lt
 obtain⟨es,clock,hb',F,hs,e⟩:=hD
 exact⟨es,clock,(hb.block b hlt).trans hb',F,hs,e⟩
def NmPost(w:World)(b:Nat)(ks:List (List UInt8))(s:List UInt8)(e:Ending)(w':World):Prop:=
 e=.returned (.bool (decide (s∈ks)|| !nameOk s))∧Noted w' b (ks++[s])∧w.grownBy w' (some b)
set_option maxHeartbeats 1000000 in
theorem names1_any(s:ByteArray)(hs:s.size≤maxLen)(ks:List (List UInt8))(hk:ks.length<1000000)(b q:Nat)(w:World)(hN:Noted w b ks)(hq:w.cell? ⟨q,0,none⟩=some (.map (some b))):
 Calls Tryz.prog 154 #[.string s,.pointer (some ⟨q,0,none⟩)] w (NmPost w b ks s.data.toList):=by
 obtain⟨D,hown,hM,hat⟩:=hN
 have hkey:keyOf Tryz.prog 9 (.string s)=some (.string s.data.toList):=keyOf_string_mk Tryz.underlying9 hs
 obtain⟨v,ps,hrun,hv⟩:=hown.lookup lawS Tryz.underlying189 (zeroB w) (plainElem_bool Tryz.underlying4 false) hkey
 rw[hat]at hv
 obtain⟨x,rfl,hx⟩:=plainElem_bool_inv Tryz.underlying4 hv
 have hx':decide (s.data.toList∈ks)=x:=by have:=congrArg Prod.fst hx;simpa using this
 have hqb:q≠b:=by
  rintro rfl
  obtain⟨es,clock,hb',-⟩:=hown
  simp[World.cell?,hb']at hq
 have hI:=fun w=>isName_any s w
 have hstep:∀w1,w1.ownsMap Tryz.prog 9 (plainElem Tryz.prog 4) b (ks.length+1) (D.put (.string s.data.toList) (.lit (.bool true)))→Noted w1 b (ks++[s.data.toList]):=by
  intro w1 h1
  refine⟨_,by simpa using h1,hM.put _ _,fun t=>?_⟩
  by_cases ht:t=s.data.toList
  ·subst ht
   rw[atKey_put_same hM (by exact trivial)]
   simp
  ·rw[atKey_put_other (fun e=>ht (by injection e)),hat]
   simp[ht]
 obtain⟨z,HZ⟩:=named (nameOk s.data.toList)
 rw[←HZ.out]at hI
 have HI:=Lib.hid hI
 have HX:=Lib.hid hx'
 have HS:=Lib.hid hstep
 have HAT:=Lib.hid hat
 have HOWN:=Lib.hid hown
 have HKEY:=Lib.hid hkey
 have hqb':some q≠some b:=by simpa using hqb
 have HQB:=Lib.hid hqb'
 clear hx hv hx' hI hstep hat hown hkey hM hqb'
 cases x
 all_goals
  go_enter Tryz.func154,Tryz.ntmps154
  go_wp2_with (first
   |(at_mapUpdate;refine wpList_mapUpdate_own _ rfl _ _ _ 189 rfl 9 4 lawS Tryz.underlying189 _ b ks.length D rfl HOWN.out (by unfold maxLen;omega) _ _ _ rfl rfl HKEY.out _ [] (plainElem_bool Tryz.underlying4 _) ?_;intro w1 hown1 hgrow1;have HO1:=Lib.hid (HS.out _ hown1);have HG1:=Lib.hid hgrow1;have hq1:=hgrow1.cell hq HQB.out;clear hown1 hgrow1)
   |(go_at_call 155;(with_reducible refine (HI.out _).mono ?_);rintro e w' ⟨rfl,rfl⟩))
  go_ret
  exact⟨ret_bool (by rw[HX.out,←HZ.out];rfl),HO1.out,HG1.out⟩
def badName(l:List ByteArray)(k:Nat):Bool:=decide ((l.getD k ByteArray.empty).data.toList∈(l.take k).map fun s=>s.data.toList)|| !nameOk (l.getD k ByteArray.empty).data.toList
def namesOk(l:List ByteArray):Bool:=(List.range l.length).all fun k=> !badName l k
theorem namesOk_no{l:List ByteArray}(k:Nat)(hk:k<l.length)(h:badName l k=true):namesOk l=false:=by
 unfold namesOk
 rw[List.all_eq_false]
 exact⟨k,by simpa using hk,by simp[h]⟩
theorem namesOk_yes{l:List ByteArray}(h:∀k,k<l.length→badName l k=false):namesOk l=true:=by
 unfold namesOk
 rw[List.all_eq_true]
 intro k hk
 simp[h k (by simpa using hk)]
theorem take_map_snoc(l:List ByteArray)(k:Nat)(h:k<l.length):(l.take (k+1)).map (fun s=>s.data.toList)=(l.take k).map (fun s=>s.data.toList)++[(l.getD k ByteArray.empty).data.toList]:=by
 rw[List.take_succ_eq_append_getElem h,List.getD_eq_getElem?_getD,List.getElem?_eq_getElem h,List.map_append];rfl
def IdxB(b:Bool)(w0:World)(e:Ending)(w':World):Prop:=∃i:Int,e=.returned (.int .i64 i)∧(0≤i↔b=true)∧Below w0.heap.size w0 w'
set_option maxHeartbeats 1000000 in
theorem indexS_any(l:List ByteArray)(hl:l.length<1000000)(s:Value)(w0 w:World)(B b q:Nat)(hB:B≤w0.heap.size)(hs:Ss w0 B s l)(hb0:Below w0.heap.size w0 w)(hbb:w0.heap.size≤b)(hN:Noted w b [])(hq:w.cell? ⟨q,0,none⟩=some (.map (some b))):
 Calls Tryz.prog 161 #[s,.func (.func 154) #[] #[.pointer (some ⟨q,0,none⟩)]] w (IdxB (!namesOk l) w0):=by
 obtain⟨A,bs,o,c,rfl,hA,-,hm,hc⟩:=hs.opens
 unfold maxLen at hm
 have HC:=Lib.hid hc
 have HAA:=Lib.hid hA
 have HN0:=Lib.hid hN
 have HQ0:=Lib.hid hq
 have HB0:=Lib.hid hb0
 clear hc hA hs hN hq hb0
 obtain⟨n,hn⟩:∃n,n=l.length:=⟨_,rfl⟩
 rw[←hn]at hm hl
 rw[←hn]
 have HN:=Lib.hid hn
 clear hn
 go_enter Tryz.func161,Tryz.ntmps161
 go_wp2
 go_loopw [8] (fun i wr=>Below w0.heap.size w0 wr∧∃k:Nat,k≤n∧i=.int .i64 k∧Noted wr b ((l.take k).map fun s=>s.data.toList)∧wr.cell? ⟨q,0,none⟩=some (.map (some b))∧∀j,j<k→badName l j=false) (fun i _=>n-(intOf i).toNat)
 case atStart=>exact⟨HB0.out,0,Nat.zero_le _,rfl,HN0.out,HQ0.out,fun j hj=>absurd hj (by omega)⟩
 case round=>
  obtain⟨hbr,k,hk,rfl,hN,hq,hno⟩:=hrel
  have HNO:=Lib.hid hno
  clear hno
  by_cases hlt:k<n
  ·obtain rfl:=HAA.out (by rw[←HN.out];omega)
   obtain⟨hlb,hcell,hsz⟩:=HC.out k (by rw[←HN.out];omega)
   have hcell:=(hbr.cell (p:=⟨bs,o+k,none⟩) (by show bs<w0.heap.size;omega)).trans hcell
   have htk:=take_map_snoc l k (by rw[←HN.out];exact hlt)
   have hbad:badName l k=(decide ((l.getD k ByteArray.empty).data.toList∈(l.take k).map fun s=>s.data.toList)|| !nameOk (l.getD k ByteArray.empty).data.toList):=rfl
   have hlk:((l.take k).map fun s=>s.data.toList).length<1000000:=by simp;omega
   obtain⟨ks,HKS⟩:=named ((l.take k).map fun s=>s.data.toList)
   rw[←HKS.out]at hN htk hbad hlk
   obtain⟨x,HX⟩:=named (l.getD k ByteArray.empty)
   rw[←HX.out]at hcell htk hsz hbad
   have hcall:=names1_any x hsz ks hlk b q wr hN hq
   have hqb:some q≠some b:=by
    rintro e
    obtain rfl:q=b:=by injection e
    obtain⟨D,hown,-⟩:=hN
    obtain⟨es,clock,hb',-⟩:=hown
    simp[World.cell?,hb']at hq
   unfold NmPost at hcall
   rw[←hbad]at hcall
   rw[←htk]at hcall
   have HT:=Lib.hid htk
   have HQB:=Lib.hid hqb
   have HQ:=Lib.hid hq
   have HBR:=Lib.hid hbr
   have hlt':=hN.lt
   have HBL:=Lib.hid hlt'
   clear htk hbad hsz hN hqb hq hbr hlk hlt'
   cases hv:badName l k
   all_goals
    rw[hv]at hcall
    have HCALL:=Lib.hid hcall
    have HV:=Lib.hid hv
    clear hcall hv
    go_wp2_with (go_at_call 154;(with_reducible refine HCALL.out.mono ?_);rintro e w1 ⟨rfl,hN1,hg1⟩;have HN1:=Lib.hid hN1;have HG1:=Lib.hid hg1;clear hN1 hg1)
    have HB1:=Lib.hid (HBR.out.grown HG1.out HBR.out.size (fun j hj=>by cases hj;exact hbb))
   ·go_roundw
    case rel=>
     refine⟨HB1.out,k+1,by omega,by go_num,HN1.out,HG1.out.cell HQ.out HQB.out,fun j hj=>?_⟩
     by_cases hjk:j=k
     ·rw[hjk];exact HV.out
     ·exact HNO.out j (by omega)
    case measure=>simp[intOf];omega
   ·go_ret
    exact⟨k,rfl,⟨fun _=>by rw[namesOk_no k (by rw[←HN.out];exact hlt) HV.out];rfl,fun _=>by omega⟩,HB1.out⟩
  ·go_wp2
   go_ret
   exact⟨-1,rfl,⟨fun h=>absurd h (by omega),fun h=>by rw[namesOk_yes (fun j hj=>HNO.out j (by rw[←HN.out]at hj;omega))]at h;cases h⟩,hbr⟩
set_option maxHeartbeats 400000 in
theorem containsS_any(l:List ByteArray)(hl:l.length<1000000)(s:Value)(w0 w:World)(B b q:Nat)(hB:B≤w0.heap.size)(hs:Ss w0 B s l)(hb0:Below w0.heap.size w0 w)(hbb:w0.heap.size≤b)(hN:Noted w b [])(hq:w.cell? ⟨q,0,none⟩=some (.map (some b))):
 Calls Tryz.prog 153 #[s,.func (.func 154) #[] #[.pointer (some ⟨q,0,none⟩)]] w fun e w'=>e=.returned (.bool (!namesOk l))∧Below w0.heap.size w0 w':=by
 obtain⟨y,HY⟩:=named (!namesOk l)
 rw[←HY.out]
 have hI:=indexS_any l hl s w0 w B b q hB hs hb0 hbb hN hq
 rw[←HY.out]at hI
 have HI:=Lib.hid hI
 clear hI hs hb0 hN hq
 go_enter Tryz.func153,Tryz.ntmps153
 go_wp2_with (go_at_call 161;(with_reducible refine HI.out.mono ?_);rintro e w' ⟨i,rfl,hi,hb⟩;have HI2:=Lib.hid hi;have HB:=Lib.hid hb;clear hi hb)
 go_ret
 exact⟨ret_bool (Bool.eq_iff_iff.2 (by simpa using HI2.out)),HB.out⟩
set_option maxHeartbeats 400000 in
theorem areNames_any(l:List ByteArray)(hl:l.length<1000000)(A:Option Addr)(c:Nat)(w:World)(B:Nat)(hB:B≤w.heap.size)(hs:Ss w B (.slice A l.length c) l):
 Calls Tryz.prog 138 #[.slice A l.length c] w fun e w'=>e=.returned (.bool (namesOk l))∧Below w.heap.size w w':=by
 obtain⟨W,HW⟩:=named ((w.alloc (.map #[] 0)).alloc (.cells #[.map (some w.heap.size)] 189))
 have hbW:Below w.heap.size w W:=by rw[HW.out];exact ((Below.refl _ _).alloc (Nat.le_refl _) _).alloc (by simp) _
 have hN:Noted W w.heap.size []:=by rw[HW.out];exact (Noted.start w).kept ((Below.refl _ _).alloc (Nat.le_refl _) _)
 have hq:W.cell? ⟨w.heap.size+1,0,none⟩=some (.map (some w.heap.size)):=by
  rw[HW.out,World.cell?_alloc_at _ _ _ _ (by simp)];rfl
 have hC:=containsS_any l hl _ w W B w.heap.size (w.heap.size+1) hB hs hbW (Nat.le_refl _) hN hq
 obtain⟨y,HY⟩:=named (namesOk l)
 rw[←HY.out]at hC ⊢
 generalize l.length=n at hC ⊢
 have hmk:=makeMap_hint n w
 obtain rfl:=HW.out
 have HC:=Lib.hid hC
 clear hC hs hN hq hbW HW
 go_enter Tryz.func138,Tryz.ntmps138
 go_wp2_with (go_at_call 153;(with_reducible refine HC.out.mono ?_);rintro e w' ⟨rfl,hb⟩;have HB:=Lib.hid hb;clear hb)
 go_ret
 exact⟨ret_bool (by simp),HB.out⟩
end Go.Proofs.YtemjmfpcopfdbaaGreatDoor
