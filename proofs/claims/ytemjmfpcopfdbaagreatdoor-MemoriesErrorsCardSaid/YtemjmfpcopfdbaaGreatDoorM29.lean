/- The texts Cc9. -/
import Derived.Test.YtemjmfpcopfdbaaGreatDoorM28
import Derived.Test.YtemjmfpcopfdbaaGreatDoorM21
import Derived.Test.YtemjmfpcopfdbaaGreatDoorM25
namespace Go.Proofs.YtemjmfpcopfdbaaGreatDoor
open Go.RowKit
def yesI(_ _:Int):Bool:=true
def lowI(a _:Int):Bool:=decide (a≤2)
def higV(a:Int):Bool:=decide (3<a)
theorem yesI_any(a b:Int)(w:World):Calls Tryz.prog 80 #[.int .u8 a,.int .u8 b] w fun e w'=>e=.returned (.bool (yesI a b))∧w'=w:=by
 go_enter Tryz.func80,Tryz.ntmps80
 go_wp2
 go_ret
 exact⟨rfl,rfl⟩
theorem lowI_any(a b:Int)(w:World):Calls Tryz.prog 83 #[.int .u8 a,.int .u8 b] w fun e w'=>e=.returned (.bool (lowI a b))∧w'=w:=by
 obtain⟨r,HR⟩:=named (lowI a b)
 have hr:r=decide (a≤2):=HR.out
 rw[←HR.out]
 have HR2:=Lib.hid hr
 clear hr
 go_enter Tryz.func83,Tryz.ntmps83
 go_wp2
 go_ret
 exact⟨ret_bool HR2.out.symm,rfl⟩
theorem higV_any(a:Int)(w:World):Calls Tryz.prog 82 #[.int .u8 a] w fun e w'=>e=.returned (.bool (higV a))∧w=w':=by
 obtain⟨r,HR⟩:=named (higV a)
 have hr:r=decide (3<a):=HR.out
 rw[←HR.out]
 have HR2:=Lib.hid hr
 clear hr
 go_enter Tryz.func82,Tryz.ntmps82
 go_wp2
 go_ret
 exact⟨ret_bool HR2.out.symm,rfl⟩
set_option maxHeartbeats 2000000 in
theorem meqY_any(l l':List Int)(s s':Value)(w:World)(B B':Nat)(h:Ks w B s l)(h':Ks w B' s' l'):
 Calls Tryz.prog 96 #[s,s',.func (.func 80) #[] #[]] w fun e w'=>e=.returned (.bool (relL yesI l l'))∧w'=w:=by
 obtain⟨y,HY⟩:=named (relL yesI l l')
 rw[←HY.out]
 obtain⟨A,b,o,c,rfl,hA,-,hm,hc⟩:=h.opens
 obtain⟨A',b',o',c',rfl,hA',-,hm',hc'⟩:=h'.opens
 unfold maxLen at hm hm'
 have HC:=Lib.hid hc
 have HC':=Lib.hid hc'
 have HAA:=Lib.hid hA
 have HAA':=Lib.hid hA'
 have HCL:=Lib.hid yesI_any
 clear hc hc' hA hA' h h'
 obtain⟨n,hn⟩:∃n,n=l.length:=⟨_,rfl⟩
 obtain⟨n',hn'⟩:∃n',n'=l'.length:=⟨_,rfl⟩
 rw[←hn]at hm
 rw[←hn']at hm'
 rw[←hn,←hn']
 have HN:=Lib.hid hn
 have HN':=Lib.hid hn'
 clear hn hn'
 by_cases hnn:n=n'
 rotate_left
 ·have hv:y=false:=by rw[HY.out];unfold relL;rw[←HN.out,←HN'.out,beq_eq_false_iff_ne.2 hnn];rfl
  have hb:((n:Int) != (n':Int))=true:=by rw[bne_iff_ne];omega
  have HV:=Lib.hid hv
  clear hv hnn
  go_enter Tryz.func96,Tryz.ntmps96
  go_wp2
  go_ret
  exact⟨ret_bool (by rw[HV.out]),rfl⟩
 subst hnn
 go_enter Tryz.func96,Tryz.ntmps96
 go_wp2
 go_loopw [17] (fun i wr=>wr=w∧∃k:Nat,k≤n∧i=.int .i64 k∧∀j,j<k→yesI (l.getD j 0) (l'.getD j 0)=true) (fun i _=>n-(intOf i).toNat)
 case atStart=>exact⟨rfl,0,Nat.zero_le _,rfl,fun j hj=>absurd hj (by omega)⟩
 case round=>
  obtain⟨rfl,k,hk,rfl,hno⟩:=hrel
  have HNO:=Lib.hid hno
  clear hno
  by_cases hlt:k<n
  ·obtain rfl:=HAA.out (by rw[←HN.out];omega)
   obtain rfl:=HAA'.out (by rw[←HN'.out];omega)
   have e0:=(HC.out k (by rw[←HN.out];omega)).2
   have e0':=(HC'.out k (by rw[←HN'.out];omega)).2
   obtain⟨x,HX⟩:=named (l.getD k 0)
   obtain⟨x',HX'⟩:=named (l'.getD k 0)
   rw[←HX.out]at e0
   rw[←HX'.out]at e0'
   have hcall:=fun W=>HCL.out x x' W
   obtain⟨r,HR⟩:=named (yesI x x')
   rw[←HR.out]at hcall
   have HCALL:=Lib.hid hcall
   clear hcall
   cases r
   ·go_wp2_with (go_at_call 80;(with_reducible refine (HCALL.out _).mono ?_);rintro e w1 ⟨rfl,rfl⟩)
    go_ret
    exact⟨ret_bool (by rw[HY.out];exact (allEq_not 0 yesI (j:=k) (by rw[←HN.out];omega) (HN.out.symm.trans HN'.out) (by rw[←HX.out,←HX'.out];exact HR.out.symm)).symm),rfl⟩
   ·go_wp2_with (go_at_call 80;(with_reducible refine (HCALL.out _).mono ?_);rintro e w1 ⟨rfl,rfl⟩)
    go_roundw
    case rel=>
     refine⟨by trivial,k+1,by omega,by go_num,fun j hj=>?_⟩
     by_cases hjk:j=k
     ·rw[hjk,←HX.out,←HX'.out];exact HR.out.symm
     ·exact HNO.out j (by omega)
    case measure=>simp[intOf];omega
  ·go_wp2
   go_ret
   exact⟨ret_bool (by rw[HY.out];exact (allEq_of 0 yesI l l' (HN.out.symm.trans HN'.out) (fun j hj=>HNO.out j (by rw[←HN.out]at hj;omega))).symm),rfl⟩
set_option maxHeartbeats 2000000 in
theorem meqL_any(l l':List Int)(s s':Value)(w:World)(B B':Nat)(h:Ks w B s l)(h':Ks w B' s' l'):
 Calls Tryz.prog 96 #[s,s',.func (.func 83) #[] #[]] w fun e w'=>e=.returned (.bool (relL lowI l l'))∧w'=w:=by
 obtain⟨y,HY⟩:=named (relL lowI l l')
 rw[←HY.out]
 obtain⟨A,b,o,c,rfl,hA,-,hm,hc⟩:=h.opens
 obtain⟨A',b',o',c',rfl,hA',-,hm',hc'⟩:=h'.opens
 unfold maxLen at hm hm'
 have HC:=Lib.hid hc
 have HC':=Lib.hid hc'
 have HAA:=Lib.hid hA
 have HAA':=Lib.hid hA'
 have HCL:=Lib.hid lowI_any
 clear hc hc' hA hA' h h'
 obtain⟨n,hn⟩:∃n,n=l.length:=⟨_,rfl⟩
 obtain⟨n',hn'⟩:∃n',n'=l'.length:=⟨_,rfl⟩
 rw[←hn]at hm
 rw[←hn']at hm'
 rw[←hn,←hn']
 have HN:=Lib.hid hn
 have HN':=Lib.hid hn'
 clear hn hn'
 by_cases hnn:n=n'
 rotate_left
 ·have hv:y=false:=by rw[HY.out];unfold relL;rw[←HN.out,←HN'.out,beq_eq_false_iff_ne.2 hnn];rfl
  have hb:((n:Int) != (n':Int))=true:=by rw[bne_iff_ne];omega
  have HV:=Lib.hid hv
  clear hv hnn
  go_enter Tryz.func96,Tryz.ntmps96
  go_wp2
  go_ret
  exact⟨ret_bool (by rw[HV.out]),rfl⟩
 subst hnn
 go_enter Tryz.func96,Tryz.ntmps96
 go_wp2
 go_loopw [17] (fun i wr=>wr=w∧∃k:Nat,k≤n∧i=.int .i64 k∧∀j,j<k→lowI (l.getD j 0) (l'.getD j 0)=true) (fun i _=>n-(intOf i).toNat)
 case atStart=>exact⟨rfl,0,Nat.zero_le _,rfl,fun j hj=>absurd hj (by omega)⟩
 case round=>
  obtain⟨rfl,k,hk,rfl,hno⟩:=hrel
  have HNO:=Lib.hid hno
  clear hno
  by_cases hlt:k<n
  ·obtain rfl:=HAA.out (by rw[←HN.out];omega)
   obtain rfl:=HAA'.out (by rw[←HN'.out];omega)
   have e0:=(HC.out k (by rw[←HN.out];omega)).2
   have e0':=(HC'.out k (by rw[←HN'.out];omega)).2
   obtain⟨x,HX⟩:=named (l.getD k 0)
   obtain⟨x',HX'⟩:=named (l'.getD k 0)
   rw[←HX.out]at e0
   rw[←HX'.out]at e0'
   have hcall:=fun W=>HCL.out x x' W
   obtain⟨r,HR⟩:=named (lowI x x')
   rw[←HR.out]at hcall
   have HCALL:=Lib.hid hcall
   clear hcall
   cases r
   ·go_wp2_with (go_at_call 83;(with_reducible refine (HCALL.out _).mono ?_);rintro e w1 ⟨rfl,rfl⟩)
    go_ret
    exact⟨ret_bool (by rw[HY.out];exact (allEq_not 0 lowI (j:=k) (by rw[←HN.out];omega) (HN.out.symm.trans HN'.out) (by rw[←HX.out,←HX'.out];exact HR.out.symm)).symm),rfl⟩
   ·go_wp2_with (go_at_call 83;(with_reducible refine (HCALL.out _).mono ?_);rintro e w1 ⟨rfl,rfl⟩)
    go_roundw
    case rel=>
     refine⟨by trivial,k+1,by omega,by go_num,fun j hj=>?_⟩
     by_cases hjk:j=k
     ·rw[hjk,←HX.out,←HX'.out];exact HR.out.symm
     ·exact HNO.out j (by omega)
    case measure=>simp[intOf];omega
  ·go_wp2
   go_ret
   exact⟨ret_bool (by rw[HY.out];exact (allEq_of 0 lowI l l' (HN.out.symm.trans HN'.out) (fun j hj=>HNO.out j (by rw[←HN.out]at hj;omega))).symm),rfl⟩
set_option maxHeartbeats 1000000 in
theorem indexH_any(l:List Int)(s:Value)(w:World)(B:Nat)(hs:Ks w B s l):
 Calls Tryz.prog 125 #[s,.func (.func 82) #[] #[]] w (IdxP (anyP higV l) w):=by
 obtain⟨A,b,o,c,rfl,hA,-,hm,hc⟩:=hs.opens
 unfold maxLen at hm
 have HC:=Lib.hid hc
 have HAA:=Lib.hid hA
 clear hc hA hs
 obtain⟨n,hn⟩:∃n,n=l.length:=⟨_,rfl⟩
 rw[←hn]at hm
 rw[←hn]
 have HN:=Lib.hid hn
 have HAB:=Lib.hid higV_any
 clear hn
 go_enter Tryz.func125,Tryz.ntmps125
 go_wp2
 go_loopw [8] (fun i wr=>wr=w∧∃k:Nat,k≤n∧i=.int .i64 k∧∀j,j<k→higV (l.getD j 0)=false) (fun i _=>n-(intOf i).toNat)
 case atStart=>exact⟨rfl,0,Nat.zero_le _,rfl,fun j hj=>absurd hj (by omega)⟩
 case round=>
  obtain⟨rfl,k,hk,rfl,hno⟩:=hrel
  have HNO:=Lib.hid hno
  clear hno
  by_cases hlt:k<n
  ·obtain rfl:=HAA.out (by rw[←HN.out];omega)
   have hcell:=(HC.out k (by rw[←HN.out];omega)).2
   obtain⟨y,HX⟩:=named (l.getD k 0)
   rw[←HX.out]at hcell
   have HA1:=Lib.hid (fun w=>HAB.out y w)
   cases hv:higV y
   ·have HV:=Lib.hid hv
    rw[hv]at HA1
    go_wp2_with (go_at_call 82;(with_reducible refine (HA1.out _).mono ?_);rintro e w' ⟨rfl,rfl⟩)
    go_roundw
    case rel=>
     refine⟨by trivial,k+1,by omega,by go_num,fun j hj=>?_⟩
     by_cases hjk:j=k
     ·rw[hjk,←HX.out];exact HV.out
     ·exact HNO.out j (by omega)
    case measure=>simp[intOf];omega
   ·have HV:=Lib.hid hv
    rw[hv]at HA1
    go_wp2_with (go_at_call 82;(with_reducible refine (HA1.out _).mono ?_);rintro e w' ⟨rfl,rfl⟩)
    go_ret
    exact⟨k,rfl,⟨fun _=>anyP_yes k (by rw[←HN.out];omega) (by rw[←HX.out];exact HV.out),fun _=>by omega⟩,rfl⟩
  ·go_wp2
   go_ret
   exact⟨-1,rfl,⟨fun h=>absurd h (by omega),fun h=>by rw[anyP_no (fun j hj=>HNO.out j (by rw[←HN.out]at hj;omega))]at h;cases h⟩,rfl⟩
set_option maxHeartbeats 400000 in
theorem containsH_any(l:List Int)(s:Value)(w:World)(B:Nat)(hs:Ks w B s l):
 Calls Tryz.prog 81 #[s,.func (.func 82) #[] #[]] w fun e w'=>e=.returned (.bool (anyP higV l))∧w=w':=by
 obtain⟨y,HY⟩:=named (anyP higV l)
 rw[←HY.out]
 have HI:=Lib.hid (indexH_any l s w B hs)
 clear hs
 rw[←HY.out]at HI
 go_enter Tryz.func81,Tryz.ntmps81
 go_wp2_with (go_at_call 125;(with_reducible refine HI.out.mono ?_);rintro e w' ⟨i,rfl,hi,rfl⟩;have HI2:=Lib.hid hi;clear hi)
 go_ret
 exact⟨ret_bool (Bool.eq_iff_iff.2 (by simpa using HI2.out)),rfl⟩
def blS(c:Ck)(ns m:Nat):Stt:=⟨List.replicate ns 2,(List.range m).map fun j=>(List.range (blN c.mems j)).map (blW c.mems j),(List.range m).map (blR c.mems)⟩
def ckC(c:Ck)(ni ns m:Nat)(s:Stt)(inp:List Int):Int:=
 if ((inp.length:Int) != (ni:Int))=true then 8 else if relS yesI s (blS c ns m)=false then 8 else if anyP higV inp=true then 1 else if relS lowI s (blS c ns m)=false then 1 else 0
set_option maxRecDepth 100000 in
set_option maxHeartbeats 8000000 in
theorem ckcyc_any(c:Ck)(s9:Stt)(inp:List Int)(A0 A1 A2 A3 As0 As1 As2 Ai:Option Addr)(n n1 m n3 c0 c1 c2 c3 p0 p1 p2 d0 d1 d2 mi ci ns ni:Nat)(w:World)(hC:Cir w w.heap.size (.agg #[.slice A0 n c0,.slice A1 n1 c1,.slice A2 m c2,.slice A3 n3 c3]) c) (hS:StR w w.heap.size As0 As1 As2 p0 p1 p2 d0 d1 d2 s9) (hI:Ks w w.heap.size (.slice Ai mi ci) inp) (hsz:c.nodes.length≤1000000) (hns:(ofTo c.nodes [14] c.nodes.length).length=ns) (hni:(ofTo c.nodes [0] c.nodes.length).length=ni) (hns1:ns≤1000000) (hm1:m≤1000)
 (hp:∀k,k<m→(c.mems.getD k default).addr.length≤16∧(c.mems.getD k default).data.length≤1000):
 Calls Tryz.prog 34 #[.agg #[.slice A0 n c0,.slice A1 n1 c1,.slice A2 m c2,.slice A3 n3 c3],.agg #[.slice As0 p0 d0,.slice As1 p1 d1,.slice As2 p2 d2],.slice Ai mi ci] w fun e w'=>e=.returned (.int .i64 (ckC c ni ns m s9 inp))∧BelW w w':=by
 have hil:inp.length=mi:=by
  obtain⟨_,_,_,_,e,-⟩:=hI.opens
  simp only[Value.slice.injEq]at e
  exact e.2.1.symm
 have hml:True:=trivial
 obtain⟨W3,HW3⟩:=named ((w.alloc (.cells #[.slice A0 n c0,.slice A1 n1 c1,.slice A2 m c2,.slice A3 n3 c3] 39)).alloc (.cells #[.slice As0 p0 d0,.slice As1 p1 d1,.slice As2 p2 d2] 45))
 have hb3:BelW w W3:=by rw[HW3.out];exact below_new (below_new (Below.refl _ _) _) _
 have hfc:Fr W3 w.heap.size 39 [.slice A0 n c0,.slice A1 n1 c1,.slice A2 m c2,.slice A3 n3 c3]:=by rw[HW3.out];exact Fr.alloc (Fr.made _ [.slice A0 n c0,.slice A1 n1 c1,.slice A2 m c2,.slice A3 n3 c3] _ rfl) _
 have hfs:Fr W3 (w.heap.size+1) 45 [.slice As0 p0 d0,.slice As1 p1 d1,.slice As2 p2 d2]:=by rw[HW3.out];exact Fr.made _ [.slice As0 p0 d0,.slice As1 p1 d1,.slice As2 p2 d2] _ (by simp)
 obtain⟨s,HS⟩:=named w.heap.size
 rw[←HS.out]at hfc hfs
 have HBL:=Lib.hid (mblank_any c A0 A1 A2 A3 n n1 m n3 c0 c1 c2 c3 ns W3 ((hC.below hb3).more (Below.size hb3)) hsz hns hns1 hm1 hp)
 have HFC:=Lib.hid hfc
 have HFS:=Lib.hid hfs
 have HCI:=Lib.hid hC
 have HB3:=Lib.hid hb3
 have HSR:=Lib.hid hS
 have HIR:=Lib.hid hI
 have HIL:=Lib.hid hil
 have HNI:Hid (∀W,BelW w W→Calls Tryz.prog 36 #[.agg #[.slice A0 n c0,.slice A1 n1 c1,.slice A2 m c2,.slice A3 n3 c3]] W fun e w'=>∃A,e=.returned (.slice A ni ni)∧BelW W w'):=Lib.hid fun W h=>
  (inputs_any c _ W W.heap.size (Nat.le_refl _) ((hC.below h).more (Below.size h)) hsz).mono fun e w' ⟨A,he,_,hb⟩=>⟨A,by rw[←hni];exact he,hb⟩
 have x0:=hfc.cell 0
 have x1:=hfc.cell 1
 have x2:=hfc.cell 2
 have x3:=hfc.cell 3
 have HPN:Hid (∀j,j<m→blN c.mems j≤maxLen):=Lib.hid fun j hj=>by
  have h1:=(hp j hj).1
  unfold blN maxLen
  exact Nat.le_trans (Nat.pow_le_pow_right (by decide) h1) (by decide)
 have HNS1:=Lib.hid hns1
 have HM1:=Lib.hid hm1
 clear hC hS hI hsz hns hni hns1 hm1 hp hfc hfs hb3 hil hml
 go_enter Tryz.func34,Tryz.ntmps34
 go_upto_region 1 with (fail)
 rw[←HW3.out,←HS.out]
 go_upto_region 2 with (go_at_call 60;(with_reducible refine HBL.out.mono ?_);rintro e w4 ⟨gB,D1,D2,rfl,hv4,hst4,hb4⟩;have HV4:=Lib.hid hv4;have HST4:=Lib.hid hst4;have HB4:Hid (BelW W3 w4):=Lib.hid hb4;clear hv4 hst4 hb4)
 obtain⟨W5,HW5⟩:=named (w4.alloc (.cells #[.slice (some ⟨gB,0,none⟩) ns ns,.slice (some ⟨D1,0,none⟩) m m,.slice (some ⟨D2,0,none⟩) m m] 45))
 rw[←HW5.out]
 have hb45:BelW w4 W5:=by rw[HW5.out];exact below_new (Below.refl _ _) _
 have hfm:Fr W5 w4.heap.size 45 [.slice (some ⟨gB,0,none⟩) ns ns,.slice (some ⟨D1,0,none⟩) m m,.slice (some ⟨D2,0,none⟩) m m]:=by rw[HW5.out];exact Fr.made _ [.slice (some ⟨gB,0,none⟩) ns ns,.slice (some ⟨D1,0,none⟩) m m,.slice (some ⟨D2,0,none⟩) m m] _ rfl
 have hb5':BelW W3 W5:=joinB HB4.out hb45
 have hb5w:BelW w W5:=joinB HB3.out hb5'
 have hSR5:StR W5 W5.heap.size As0 As1 As2 p0 p1 p2 d0 d1 d2 s9:=HSR.out.keep (Nat.le_refl _) hb5w (Below.size hb5w)
 have hMR5:StR W5 W5.heap.size (some ⟨gB,0,none⟩) (some ⟨D1,0,none⟩) (some ⟨D2,0,none⟩) ns m m ns m m (blS c ns m):=by
  obtain⟨L,-,hst⟩:=HST4.out
  have hst5:=hst.below hb45
  obtain⟨r1,r2⟩:=hst5.reads (by have:=HM1.out;unfold maxLen;omega) HPN.out
  have r0:=(HV4.out.below hb45).ks
  rw[List.length_replicate]at r0
  exact⟨r0,r1,r2⟩
 have HA1:Hid (∀W,BelW W5 W→Calls Tryz.prog 48 #[.agg #[.slice As0 p0 d0,.slice As1 p1 d1,.slice As2 p2 d2],.agg #[.slice (some ⟨gB,0,none⟩) ns ns,.slice (some ⟨D1,0,none⟩) m m,.slice (some ⟨D2,0,none⟩) m m],.func (.func 80) #[] #[]] W fun e w'=>e=.returned (.bool (relS yesI s9 (blS c ns m)))∧BelW W w'):=Lib.hid fun W h=>
  agree_any _ yesI (fun l l' s s' w B B' h h'=>meqY_any l l' s s' w B B' h h') s9 (blS c ns m) _ _ _ _ _ _ _ _ _ _ _ _ _ _ _ _ _ _ W W.heap.size (Nat.le_refl _) (hSR5.keep (Nat.le_refl _) h (Below.size h)) (hMR5.keep (Nat.le_refl _) h (Below.size h))
 have HA3:Hid (∀W,BelW W5 W→Calls Tryz.prog 48 #[.agg #[.slice As0 p0 d0,.slice As1 p1 d1,.slice As2 p2 d2],.agg #[.slice (some ⟨gB,0,none⟩) ns ns,.slice (some ⟨D1,0,none⟩) m m,.slice (some ⟨D2,0,none⟩) m m],.func (.func 83) #[] #[]] W fun e w'=>e=.returned (.bool (relS lowI s9 (blS c ns m)))∧BelW W w'):=Lib.hid fun W h=>
  agree_any _ lowI (fun l l' s s' w B B' h h'=>meqL_any l l' s s' w B B' h h') s9 (blS c ns m) _ _ _ _ _ _ _ _ _ _ _ _ _ _ _ _ _ _ W W.heap.size (Nat.le_refl _) (hSR5.keep (Nat.le_refl _) h (Below.size h)) (hMR5.keep (Nat.le_refl _) h (Below.size h))
 have HIN:Hid (∀W,BelW W5 W→Calls Tryz.prog 36 #[.agg #[.slice A0 n c0,.slice A1 n1 c1,.slice A2 m c2,.slice A3 n3 c3]] W fun e w'=>∃A,e=.returned (.slice A ni ni)∧BelW W w'):=Lib.hid fun W h=>HNI.out W (joinB hb5w h)
 have HCF:Hid (∀W,BelW W5 W→Calls Tryz.prog 81 #[.slice Ai mi ci,.func (.func 82) #[] #[]] W fun e w'=>e=.returned (.bool (anyP higV inp))∧W=w'):=Lib.hid fun W h=>
  containsH_any inp _ W W.heap.size (Arr.keep stays_u8 HIR.out (Below.size (joinB hb5w h)) fun _ hp=>Below.cell (joinB hb5w h) hp)
 obtain⟨u,HU⟩:=named w4.heap.size
 rw[←HU.out]at hfm
 rw[←HU.out]
 have hfc5:=HFC.out.below hb5'
 have hfs5:=HFS.out.below hb5'
 have HCE:Hid (∀W,BelW W5 W→W.cell? ⟨s,0,none⟩=some (.slice A0 n c0)∧W.cell? ⟨s,1,none⟩=some (.slice A1 n1 c1)∧W.cell? ⟨s,2,none⟩=some (.slice A2 m c2)∧W.cell? ⟨s,3,none⟩=some (.slice A3 n3 c3)∧W.cell? ⟨s+1,0,none⟩=some (.slice As0 p0 d0)∧W.cell? ⟨s+1,1,none⟩=some (.slice As1 p1 d1)∧W.cell? ⟨s+1,2,none⟩=some (.slice As2 p2 d2)∧W.cell? ⟨u,0,none⟩=some (.slice (some ⟨gB,0,none⟩) ns ns)∧W.cell? ⟨u,1,none⟩=some (.slice (some ⟨D1,0,none⟩) m m)∧W.cell? ⟨u,2,none⟩=some (.slice (some ⟨D2,0,none⟩) m m)):=Lib.hid fun W h=>⟨(hfc5.below h).cell 0,(hfc5.below h).cell 1,(hfc5.below h).cell 2,(hfc5.below h).cell 3,(hfs5.below h).cell 0,(hfs5.below h).cell 1,(hfs5.below h).cell 2,(hfm.below h).cell 0,(hfm.below h).cell 1,(hfm.below h).cell 2⟩
 have hb5:BelW W5 W5:=Below.refl _ _
 have HE5:Hid (∀W,BelW W5 W→BelW w W):=Lib.hid fun W h=>joinB hb5w h
 have HCK:Hid (ckC c ni ns m s9 inp=if ((inp.length:Int) != (ni:Int))=true then 8 else if relS yesI s9 (blS c ns m)=false then 8 else if anyP higV inp=true then 1 else if relS lowI s9 (blS c ns m)=false then 1 else 0):=Lib.hid rfl
 rw[HIL.out]at HCK
 obtain⟨z,HZ⟩:=named (ckC c ni ns m s9 inp)
 rw[←HZ.out]at HCK
 obtain⟨r1,HR1⟩:=named (relS yesI s9 (blS c ns m))
 rw[←HR1.out]at HA1 HCK
 obtain⟨r2,HR2⟩:=named (anyP higV inp)
 rw[←HR2.out]at HCF HCK
 obtain⟨r3,HR3⟩:=named (relS lowI s9 (blS c ns m))
 rw[←HR3.out]at HA3 HCK
 obtain⟨q0,q1,q2,q3,s0,s1,s2,m0,m1,m2⟩:=HCE.out W5 hb5
 clear x0 x1 x2 x3 hb45 hfm hb5' hb5w hSR5 hMR5 hfc5 hfs5
 cases ht:((mi:Int) != (ni:Int))
 rotate_left
 ·have HF:Hid (z=8):=Lib.hid (by rw[HCK.out,if_pos ht])
  go_wp2_with (go_at_call 36;(with_reducible refine (HIN.out _ hb5).mono ?_);rintro e w6 ⟨A6,rfl,hb6⟩;have HB6:Hid (BelW W5 w6):=Lib.hid hb6;obtain⟨q0,q1,q2,q3,s0,s1,s2,m0,m1,m2⟩:=HCE.out w6 hb6;clear hb6)
  go_ret
  exact⟨by rw[←HZ.out,HF.out];rfl,HE5.out _ HB6.out⟩
 have h0:=ht
 cases r1
 ·have HF:Hid (z=8):=Lib.hid (by rw[HCK.out,h0];rfl)
  go_wp2_with (first
   |(go_at_call 36;(with_reducible refine (HIN.out _ hb5).mono ?_);rintro e w6 ⟨A6,rfl,hb6⟩;have HB6:Hid (BelW W5 w6):=Lib.hid hb6;obtain⟨q0,q1,q2,q3,s0,s1,s2,m0,m1,m2⟩:=HCE.out w6 hb6;clear hb6)
   |(go_at_call 48;(with_reducible refine (HA1.out w6 HB6.out).mono ?_);rintro e w7 ⟨rfl,hb7⟩;have HB7:Hid (BelW W5 w7):=Lib.hid (joinB HB6.out hb7);clear hb7;clear q0 q1 q2 q3 s0 s1 s2 m0 m1 m2;obtain⟨q0,q1,q2,q3,s0,s1,s2,m0,m1,m2⟩:=HCE.out w7 HB7.out))
  go_ret
  exact⟨by rw[←HZ.out,HF.out];rfl,HE5.out _ HB7.out⟩
 cases r2
 rotate_left
 ·have HF:Hid (z=1):=Lib.hid (by rw[HCK.out,h0];rfl)
  go_wp2_with (first
   |(go_at_call 36;(with_reducible refine (HIN.out _ hb5).mono ?_);rintro e w6 ⟨A6,rfl,hb6⟩;have HB6:Hid (BelW W5 w6):=Lib.hid hb6;obtain⟨q0,q1,q2,q3,s0,s1,s2,m0,m1,m2⟩:=HCE.out w6 hb6;clear hb6)
   |(go_at_call 48;(with_reducible refine (HA1.out w6 HB6.out).mono ?_);rintro e w7 ⟨rfl,hb7⟩;have HB7:Hid (BelW W5 w7):=Lib.hid (joinB HB6.out hb7);clear hb7;clear q0 q1 q2 q3 s0 s1 s2 m0 m1 m2;obtain⟨q0,q1,q2,q3,s0,s1,s2,m0,m1,m2⟩:=HCE.out w7 HB7.out)
   |(go_at_call 81;(with_reducible refine (HCF.out w7 HB7.out).mono ?_);rintro e w8 ⟨rfl,hw8⟩;obtain rfl:w7=w8:=hw8))
  go_ret
  exact⟨by rw[←HZ.out,HF.out];rfl,HE5.out _ HB7.out⟩
 cases r3
 ·have HF:Hid (z=1):=Lib.hid (by rw[HCK.out,h0];rfl)
  go_wp2_with (first
   |(go_at_call 36;(with_reducible refine (HIN.out _ hb5).mono ?_);rintro e w6 ⟨A6,rfl,hb6⟩;have HB6:Hid (BelW W5 w6):=Lib.hid hb6;obtain⟨q0,q1,q2,q3,s0,s1,s2,m0,m1,m2⟩:=HCE.out w6 hb6;clear hb6)
   |(go_at_call 48;(with_reducible refine (HA1.out w6 HB6.out).mono ?_);rintro e w7 ⟨rfl,hb7⟩;have HB7:Hid (BelW W5 w7):=Lib.hid (joinB HB6.out hb7);clear hb7;clear q0 q1 q2 q3 s0 s1 s2 m0 m1 m2;obtain⟨q0,q1,q2,q3,s0,s1,s2,m0,m1,m2⟩:=HCE.out w7 HB7.out)
   |(go_at_call 81;(with_reducible refine (HCF.out w7 HB7.out).mono ?_);rintro e w8 ⟨rfl,hw8⟩;obtain rfl:w7=w8:=hw8)
   |(go_at_call 48;(with_reducible refine (HA3.out w7 HB7.out).mono ?_);rintro e w9 ⟨rfl,hb9⟩;have HB9:Hid (BelW W5 w9):=Lib.hid (joinB HB7.out hb9);clear hb9))
  go_ret
  exact⟨by rw[←HZ.out,HF.out];rfl,HE5.out _ HB9.out⟩
 ·have HF:Hid (z=0):=Lib.hid (by rw[HCK.out,h0];rfl)
  go_wp2_with (first
   |(go_at_call 36;(with_reducible refine (HIN.out _ hb5).mono ?_);rintro e w6 ⟨A6,rfl,hb6⟩;have HB6:Hid (BelW W5 w6):=Lib.hid hb6;obtain⟨q0,q1,q2,q3,s0,s1,s2,m0,m1,m2⟩:=HCE.out w6 hb6;clear hb6)
   |(go_at_call 48;(with_reducible refine (HA1.out w6 HB6.out).mono ?_);rintro e w7 ⟨rfl,hb7⟩;have HB7:Hid (BelW W5 w7):=Lib.hid (joinB HB6.out hb7);clear hb7;clear q0 q1 q2 q3 s0 s1 s2 m0 m1 m2;obtain⟨q0,q1,q2,q3,s0,s1,s2,m0,m1,m2⟩:=HCE.out w7 HB7.out)
   |(go_at_call 81;(with_reducible refine (HCF.out w7 HB7.out).mono ?_);rintro e w8 ⟨rfl,hw8⟩;obtain rfl:w7=w8:=hw8)
   |(go_at_call 48;(with_reducible refine (HA3.out w7 HB7.out).mono ?_);rintro e w9 ⟨rfl,hb9⟩;have HB9:Hid (BelW W5 w9):=Lib.hid (joinB HB7.out hb9);clear hb9))
  go_ret
  exact⟨by rw[←HZ.out,HF.out];rfl,HE5.out _ HB9.out⟩
end Go.Proofs.YtemjmfpcopfdbaaGreatDoor
