/- The texts Cc9 Cy9 Ows. -/
import Derived.Test.YtemjmfpcopfdbaaGreatDoorM17
import Derived.Test.YtemjmfpcopfdbaaGreatDoorM12
import Derived.Test.YtemjmfpcopfdbaaGreatDoorM15
import Derived.Test.YtemjmfpcopfdbaaGreatDoorM16
import Derived.Test.YtemjmfpcopfdbaaGreatDoorM08
import Derived.Test.YtemjmfpcopfdbaaGreatDoorM09
namespace Go.Proofs.YtemjmfpcopfdbaaGreatDoor
open Go.RowKit
def yesI(_ _:Int):Bool:=true
def lowI(a _:Int):Bool:=decide (a≤2)
def higV(a:Int):Bool:=decide (3<a)
theorem yesI_any(a b:Int)(w:World):Calls Tryz.prog 80 #[.int .u8 a,.int .u8 b] w fun e w'=>e=.returned (.bool (yesI a b))∧w'=w:=by
 go_enter Tryz.func80,Tryz.ntmps80
 go_wp2
 go_ret
 exact⟨rfl,rfl⟩
theorem lowI_any(a b:Int)(w:World):Calls Tryz.prog 83 #[.int .u8 a,.int .u8 b] w fun e w'=>e=.returned (.bool (lowI a b))∧w'=w:=by
 obtain⟨r,HR⟩:=named (lowI a b)
 have hr:r=decide (a≤2):=HR.out
 rw[←HR.out]
 have HR2:=Lib.hid hr
 clear hr
 go_enter Tryz.func83,Tryz.ntmps83
 go_wp2
 go_ret
 exact⟨ret_bool HR2.out.symm,rfl⟩
theorem higV_any(a:Int)(w:World):Calls Tryz.prog 82 #[.int .u8 a] w fun e w'=>e=.returned (.bool (higV a))∧w=w':=by
 obtain⟨r,HR⟩:=named (higV a)
 have hr:r=decide (3<a):=HR.out
 rw[←HR.out]
 have HR2:=Lib.hid hr
 clear hr
 go_enter Tryz.func82,Tryz.ntmps82
 go_wp2
 go_ret
 exact⟨ret_bool HR2.out.symm,rfl⟩
set_option maxHeartbeats 2000000 in
theorem meqY_any(l l':List Int)(s s':Value)(w:World)(B B':Nat)(h:Ks w B s l)(h':Ks w B' s' l'):
 Calls Tryz.prog 96 #[s,s',.func (.func 80) #[] #[]] w fun e w'=>e=.returned (.bool (relL yesI l l'))∧w'=w:=by
 obtain⟨y,HY⟩:=named (relL yesI l l')
 rw[←HY.out]
 obtain⟨A,b,o,c,rfl,hA,-,hm,hc⟩:=h.opens
 obtain⟨A',b',o',c',rfl,hA',-,hm',hc'⟩:=h'.opens
 unfold maxLen at hm hm'
 have HC:=Lib.hid hc
 have HC':=Lib.hid hc'
 have HAA:=Lib.hid hA
 have HAA':=Lib.hid hA'
 have HCL:=Lib.hid yesI_any
 clear hc hc' hA hA' h h'
 obtain⟨n,hn⟩:∃n,n=l.length:=⟨_,rfl⟩
 obtain⟨n',hn'⟩:∃n',n'=l'.length:=⟨_,rfl⟩
 rw[←hn]at hm
 rw[←hn']at hm'
 rw[←hn,←hn']
 have HN:=Lib.hid hn
 have HN':=Lib.hid hn'
 clear hn hn'
 by_cases hnn:n=n'
 rotate_left
 ·have hv:y=false:=by rw[HY.out];unfold relL;rw[←HN.out,←HN'.out,beq_eq_false_iff_ne.2 hnn];rfl
  have hb:((n:Int) != (n':Int))=true:=by rw[bne_iff_ne];omega
  have HV:=Lib.hid hv
  clear hv hnn
  go_enter Tryz.func96,Tryz.ntmps96
  go_wp2
  go_ret
  exact⟨ret_bool (by rw[HV.out]),rfl⟩
 subst hnn
 go_enter Tryz.func96,Tryz.ntmps96
 go_wp2
 go_loopw [17] (fun i wr=>wr=w∧∃k:Nat,k≤n∧i=.int .i64 k∧∀j,j<k→yesI (l.getD j 0) (l'.getD j 0)=true) (fun i _=>n-(intOf i).toNat)
 case atStart=>exact⟨rfl,0,Nat.zero_le _,rfl,fun j hj=>absurd hj (by omega)⟩
 case round=>
  obtain⟨rfl,k,hk,rfl,hno⟩:=hrel
  have HNO:=Lib.hid hno
  clear hno
  by_cases hlt:k<n
  ·obtain rfl:=HAA.out (by rw[←HN.out];omega)
   obtain rfl:=HAA'.out (by rw[←HN'.out];omega)
   have e0:=(HC.out k (by rw[←HN.out];omega)).2
   have e0':=(HC'.out k (by rw[←HN'.out];omega)).2
   obtain⟨x,HX⟩:=named (l.getD k 0)
   obtain⟨x',HX'⟩:=named (l'.getD k 0)
   rw[←HX.out]at e0
   rw[←HX'.out]at e0'
   have hcall:=fun W=>HCL.out x x' W
   obtain⟨r,HR⟩:=named (yesI x x')
   rw[←HR.out]at hcall
   have HCALL:=Lib.hid hcall
   clear hcall
   cases r
   ·go_wp2_with (go_at_call 80;(with_reducible refine (HCALL.out _).mono ?_);rintro e w1 ⟨rfl,rfl⟩)
    go_ret
    exact⟨ret_bool (by rw[HY.out];exact (allEq_not 0 yesI (j:=k) (by rw[←HN.out];omega) (HN.out.symm.trans HN'.out) (by rw[←HX.out,←HX'.out];exact HR.out.symm)).symm),rfl⟩
   ·go_wp2_with (go_at_call 80;(with_reducible refine (HCALL.out _).mono ?_);rintro e w1 ⟨rfl,rfl⟩)
    go_roundw
    case rel=>
     refine⟨by trivial,k+1,by omega,by go_num,fun j hj=>?_⟩
     by_cases hjk:j=k
     ·rw[hjk,←HX.out,←HX'.out];exact HR.out.symm
     ·exact HNO.out j (by omega)
    case measure=>simp[intOf];omega
  ·go_wp2
   go_ret
   exact⟨ret_bool (by rw[HY.out];exact (allEq_of 0 yesI l l' (HN.out.symm.trans HN'.out) (fun j hj=>HNO.out j (by rw[←HN.out]at hj;omega))).symm),rfl⟩
set_option maxHeartbeats 2000000 in
theorem meqL_any(l l':List Int)(s s':Value)(w:World)(B B':Nat)(h:Ks w B s l)(h':Ks w B' s' l'):
 Calls Tryz.prog 96 #[s,s',.func (.func 83) #[] #[]] w fun e w'=>e=.returned (.bool (relL lowI l l'))∧w'=w:=by
 obtain⟨y,HY⟩:=named (relL lowI l l')
 rw[←HY.out]
 obtain⟨A,b,o,c,rfl,hA,-,hm,hc⟩:=h.opens
 obtain⟨A',b',o',c',rfl,hA',-,hm',hc'⟩:=h'.opens
 unfold maxLen at hm hm'
 have HC:=Lib.hid hc
 have HC':=Lib.hid hc'
 have HAA:=Lib.hid hA
 have HAA':=Lib.hid hA'
 have HCL:=Lib.hid lowI_any
 clear hc hc' hA hA' h h'
 obtain⟨n,hn⟩:∃n,n=l.length:=⟨_,rfl⟩
 obtain⟨n',hn'⟩:∃n',n'=l'.length:=⟨_,rfl⟩
 rw[←hn]at hm
 rw[←hn']at hm'
 rw[←hn,←hn']
 have HN:=Lib.hid hn
 have HN':=Lib.hid hn'
 clear hn hn'
 by_cases hnn:n=n'
 rotate_left
 ·have hv:y=false:=by rw[HY.out];unfold relL;rw[←HN.out,←HN'.out,beq_eq_false_iff_ne.2 hnn];rfl
  have hb:((n:Int) != (n':Int))=true:=by rw[bne_iff_ne];omega
  have HV:=Lib.hid hv
  clear hv hnn
  go_enter Tryz.func96,Tryz.ntmps96
  go_wp2
  go_ret
  exact⟨ret_bool (by rw[HV.out]),rfl⟩
 subst hnn
 go_enter Tryz.func96,Tryz.ntmps96
 go_wp2
 go_loopw [17] (fun i wr=>wr=w∧∃k:Nat,k≤n∧i=.int .i64 k∧∀j,j<k→lowI (l.getD j 0) (l'.getD j 0)=true) (fun i _=>n-(intOf i).toNat)
 case atStart=>exact⟨rfl,0,Nat.zero_le _,rfl,fun j hj=>absurd hj (by omega)⟩
 case round=>
  obtain⟨rfl,k,hk,rfl,hno⟩:=hrel
  have HNO:=Lib.hid hno
  clear hno
  by_cases hlt:k<n
  ·obtain rfl:=HAA.out (by rw[←HN.out];omega)
   obtain rfl:=HAA'.out (by rw[←HN'.out];omega)
   have e0:=(HC.out k (by rw[←HN.out];omega)).2
   have e0':=(HC'.out k (by rw[←HN'.out];omega)).2
   obtain⟨x,HX⟩:=named (l.getD k 0)
   obtain⟨x',HX'⟩:=named (l'.getD k 0)
   rw[←HX.out]at e0
   rw[←HX'.out]at e0'
   have hcall:=fun W=>HCL.out x x' W
   obtain⟨r,HR⟩:=named (lowI x x')
   rw[←HR.out]at hcall
   have HCALL:=Lib.hid hcall
   clear hcall
   cases r
   ·go_wp2_with (go_at_call 83;(with_reducible refine (HCALL.out _).mono ?_);rintro e w1 ⟨rfl,rfl⟩)
    go_ret
    exact⟨ret_bool (by rw[HY.out];exact (allEq_not 0 lowI (j:=k) (by rw[←HN.out];omega) (HN.out.symm.trans HN'.out) (by rw[←HX.out,←HX'.out];exact HR.out.symm)).symm),rfl⟩
   ·go_wp2_with (go_at_call 83;(with_reducible refine (HCALL.out _).mono ?_);rintro e w1 ⟨rfl,rfl⟩)
    go_roundw
    case rel=>
     refine⟨by trivial,k+1,by omega,by go_num,fun j hj=>?_⟩
     by_cases hjk:j=k
     ·rw[hjk,←HX.out,←HX'.out];exact HR.out.symm
     ·exact HNO.out j (by omega)
    case measure=>simp[intOf];omega
  ·go_wp2
   go_ret
   exact⟨ret_bool (by rw[HY.out];exact (allEq_of 0 lowI l l' (HN.out.symm.trans HN'.out) (fun j hj=>HNO.out j (by rw[←HN.out]at hj;omega))).symm),rfl⟩
set_option maxHeartbeats 1000000 in
theorem indexH_any(l:List Int)(s:Value)(w:World)(B:Nat)(hs:Ks w B s l):
 Calls Tryz.prog 125 #[s,.func (.func 82) #[] #[]] w (IdxP (anyP higV l) w):=by
 obtain⟨A,b,o,c,rfl,hA,-,hm,hc⟩:=hs.opens
 unfold maxLen at hm
 have HC:=Lib.hid hc
 have HAA:=Lib.hid hA
 clear hc hA hs
 obtain⟨n,hn⟩:∃n,n=l.length:=⟨_,rfl⟩
 rw[←hn]at hm
 rw[←hn]
 have HN:=Lib.hid hn
 have HAB:=Lib.hid higV_any
 clear hn
 go_enter Tryz.func125,Tryz.ntmps125
 go_wp2
 go_loopw [8] (fun i wr=>wr=w∧∃k:Nat,k≤n∧i=.int .i64 k∧∀j,j<k→higV (l.getD j 0)=false) (fun i _=>n-(intOf i).toNat)
 case atStart=>exact⟨rfl,0,Nat.zero_le _,rfl,fun j hj=>absurd hj (by omega)⟩
 case round=>
  obtain⟨rfl,k,hk,rfl,hno⟩:=hrel
  have HNO:=Lib.hid hno
  clear hno
  by_cases hlt:k<n
  ·obtain rfl:=HAA.out (by rw[←HN.out];omega)
   have hcell:=(HC.out k (by rw[←HN.out];omega)).2
   obtain⟨y,HX⟩:=named (l.getD k 0)
   rw[←HX.out]at hcell
   have HA1:=Lib.hid (fun w=>HAB.out y w)
   cases hv:higV y
   ·have HV:=Lib.hid hv
    rw[hv]at HA1
    go_wp2_with (go_at_call 82;(with_reducible refine (HA1.out _).mono ?_);rintro e w' ⟨rfl,rfl⟩)
    go_roundw
    case rel=>
     refine⟨by trivial,k+1,by omega,by go_num,fun j hj=>?_⟩
     by_cases hjk:j=k
     ·rw[hjk,←HX.out];exact HV.out
     ·exact HNO.out j (by omega)
    case measure=>simp[intOf];omega
   ·have HV:=Lib.hid hv
    rw[hv]at HA1
    go_wp2_with (go_at_call 82;(with_reducible refine (HA1.out _).mono ?_);rintro e w' ⟨rfl,rfl⟩)
    go_ret
    exact⟨k,rfl,⟨fun _=>anyP_yes k (by rw[←HN.out];omega) (by rw[←HX.out];exact HV.out),fun _=>by omega⟩,rfl⟩
  ·go_wp2
   go_ret
   exact⟨-1,rfl,⟨fun h=>absurd h (by omega),fun h=>by rw[anyP_no (fun j hj=>HNO.out j (by rw[←HN.out]at hj;omega))]at h;cases h⟩,rfl⟩
set_option maxHeartbeats 400000 in
theorem containsH_any(l:List Int)(s:Value)(w:World)(B:Nat)(hs:Ks w B s l):
 Calls Tryz.prog 81 #[s,.func (.func 82) #[] #[]] w fun e w'=>e=.returned (.bool (anyP higV l))∧w=w':=by
 obtain⟨y,HY⟩:=named (anyP higV l)
 rw[←HY.out]
 have HI:=Lib.hid (indexH_any l s w B hs)
 clear hs
 rw[←HY.out]at HI
 go_enter Tryz.func81,Tryz.ntmps81
 go_wp2_with (go_at_call 125;(with_reducible refine HI.out.mono ?_);rintro e w' ⟨i,rfl,hi,rfl⟩;have HI2:=Lib.hid hi;clear hi)
 go_ret
 exact⟨ret_bool (Bool.eq_iff_iff.2 (by simpa using HI2.out)),rfl⟩
def blS(c:Ck)(ns m:Nat):Stt:=⟨List.replicate ns 2,(List.range m).map fun j=>(List.range (blN c.mems j)).map (blW c.mems j),(List.range m).map (blR c.mems)⟩
def ckC(c:Ck)(ni ns m:Nat)(s:Stt)(inp:List Int):Int:=
 if ((inp.length:Int) != (ni:Int))=true then 8 else if relS yesI s (blS c ns m)=false then 8 else if anyP higV inp=true then 1 else if relS lowI s (blS c ns m)=false then 1 else 0
set_option maxRecDepth 100000 in
set_option maxHeartbeats 8000000 in
theorem ckcyc_any(c:Ck)(s9:Stt)(inp:List Int)(A0 A1 A2 A3 As0 As1 As2 Ai:Option Addr)(n n1 m n3 c0 c1 c2 c3 p0 p1 p2 d0 d1 d2 mi ci ns ni:Nat)(w:World)(hC:Cir w w.heap.size (.agg #[.slice A0 n c0,.slice A1 n1 c1,.slice A2 m c2,.slice A3 n3 c3]) c) (hS:StR w w.heap.size As0 As1 As2 p0 p1 p2 d0 d1 d2 s9) (hI:Ks w w.heap.size (.slice Ai mi ci) inp) (hsz:c.nodes.length≤1000000) (hns:(ofTo c.nodes [14] c.nodes.length).length=ns) (hni:(ofTo c.nodes [0] c.nodes.length).length=ni) (hns1:ns≤1000000) (hm1:m≤1000)
 (hp:∀k,k<m→(c.mems.getD k default).addr.length≤16∧(c.mems.getD k default).data.length≤1000):
 Calls Tryz.prog 34 #[.agg #[.slice A0 n c0,.slice A1 n1 c1,.slice A2 m c2,.slice A3 n3 c3],.agg #[.slice As0 p0 d0,.slice As1 p1 d1,.slice As2 p2 d2],.slice Ai mi ci] w fun e w'=>e=.returned (.int .i64 (ckC c ni ns m s9 inp))∧BelW w w':=by
 have hil:inp.length=mi:=by
  obtain⟨_,_,_,_,e,-⟩:=hI.opens
  simp only[Value.slice.injEq]at e
  exact e.2.1.symm
 have hml:True:=trivial
 obtain⟨W3,HW3⟩:=named ((w.alloc (.cells #[.slice A0 n c0,.slice A1 n1 c1,.slice A2 m c2,.slice A3 n3 c3] 39)).alloc (.cells #[.slice As0 p0 d0,.slice As1 p1 d1,.slice As2 p2 d2] 45))
 have hb3:BelW w W3:=by rw[HW3.out];exact below_new (below_new (Below.refl _ _) _) _
 have hfc:Fr W3 w.heap.size 39 [.slice A0 n c0,.slice A1 n1 c1,.slice A2 m c2,.slice A3 n3 c3]:=by rw[HW3.out];exact Fr.alloc (Fr.made _ [.slice A0 n c0,.slice A1 n1 c1,.slice A2 m c2,.slice A3 n3 c3] _ rfl) _
 have hfs:Fr W3 (w.heap.size+1) 45 [.slice As0 p0 d0,.slice As1 p1 d1,.slice As2 p2 d2]:=by rw[HW3.out];exact Fr.made _ [.slice As0 p0 d0,.slice As1 p1 d1,.slice As2 p2 d2] _ (by simp)
 obtain⟨s,HS⟩:=named w.heap.size
 rw[←HS.out]at hfc hfs
 have HBL:=Lib.hid (mblank_any c A0 A1 A2 A3 n n1 m n3 c0 c1 c2 c3 ns W3 ((hC.below hb3).more (Below.size hb3)) hsz hns hns1 hm1 hp)
 have HFC:=Lib.hid hfc
 have HFS:=Lib.hid hfs
 have HCI:=Lib.hid hC
 have HB3:=Lib.hid hb3
 have HSR:=Lib.hid hS
 have HIR:=Lib.hid hI
 have HIL:=Lib.hid hil
 have HNI:Hid (∀W,BelW w W→Calls Tryz.prog 36 #[.agg #[.slice A0 n c0,.slice A1 n1 c1,.slice A2 m c2,.slice A3 n3 c3]] W fun e w'=>∃A,e=.returned (.slice A ni ni)∧BelW W w'):=Lib.hid fun W h=>
  (inputs_any c _ W W.heap.size (Nat.le_refl _) ((hC.below h).more (Below.size h)) hsz).mono fun e w' ⟨A,he,_,hb⟩=>⟨A,by rw[←hni];exact he,hb⟩
 have x0:=hfc.cell 0
 have x1:=hfc.cell 1
 have x2:=hfc.cell 2
 have x3:=hfc.cell 3
 have HPN:Hid (∀j,j<m→blN c.mems j≤maxLen):=Lib.hid fun j hj=>by
  have h1:=(hp j hj).1
  unfold blN maxLen
  exact Nat.le_trans (Nat.pow_le_pow_right (by decide) h1) (by decide)
 have HNS1:=Lib.hid hns1
 have HM1:=Lib.hid hm1
 clear hC hS hI hsz hns hni hns1 hm1 hp hfc hfs hb3 hil hml
 go_enter Tryz.func34,Tryz.ntmps34
 go_upto_region 1 with (fail)
 rw[←HW3.out,←HS.out]
 go_upto_region 2 with (go_at_call 60;(with_reducible refine HBL.out.mono ?_);rintro e w4 ⟨gB,D1,D2,rfl,hv4,hst4,hb4⟩;have HV4:=Lib.hid hv4;have HST4:=Lib.hid hst4;have HB4:Hid (BelW W3 w4):=Lib.hid hb4;clear hv4 hst4 hb4)
 obtain⟨W5,HW5⟩:=named (w4.alloc (.cells #[.slice (some ⟨gB,0,none⟩) ns ns,.slice (some ⟨D1,0,none⟩) m m,.slice (some ⟨D2,0,none⟩) m m] 45))
 rw[←HW5.out]
 have hb45:BelW w4 W5:=by rw[HW5.out];exact below_new (Below.refl _ _) _
 have hfm:Fr W5 w4.heap.size 45 [.slice (some ⟨gB,0,none⟩) ns ns,.slice (some ⟨D1,0,none⟩) m m,.slice (some ⟨D2,0,none⟩) m m]:=by rw[HW5.out];exact Fr.made _ [.slice (some ⟨gB,0,none⟩) ns ns,.slice (some ⟨D1,0,none⟩) m m,.slice (some ⟨D2,0,none⟩) m m] _ rfl
 have hb5':BelW W3 W5:=joinB HB4.out hb45
 have hb5w:BelW w W5:=joinB HB3.out hb5'
 have hSR5:StR W5 W5.heap.size As0 As1 As2 p0 p1 p2 d0 d1 d2 s9:=HSR.out.keep (Nat.le_refl _) hb5w (Below.size hb5w)
 have hMR5:StR W5 W5.heap.size (some ⟨gB,0,none⟩) (some ⟨D1,0,none⟩) (some ⟨D2,0,none⟩) ns m m ns m m (blS c ns m):=by
  obtain⟨L,-,hst⟩:=HST4.out
  have hst5:=hst.below hb45
  obtain⟨r1,r2⟩:=hst5.reads (by have:=HM1.out;unfold maxLen;omega) HPN.out
  have r0:=(HV4.out.below hb45).ks
  rw[List.length_replicate]at r0
  exact⟨r0,r1,r2⟩
 have HA1:Hid (∀W,BelW W5 W→Calls Tryz.prog 48 #[.agg #[.slice As0 p0 d0,.slice As1 p1 d1,.slice As2 p2 d2],.agg #[.slice (some ⟨gB,0,none⟩) ns ns,.slice (some ⟨D1,0,none⟩) m m,.slice (some ⟨D2,0,none⟩) m m],.func (.func 80) #[] #[]] W fun e w'=>e=.returned (.bool (relS yesI s9 (blS c ns m)))∧BelW W w'):=Lib.hid fun W h=>
  agree_any _ yesI (fun l l' s s' w B B' h h'=>meqY_any l l' s s' w B B' h h') s9 (blS c ns m) _ _ _ _ _ _ _ _ _ _ _ _ _ _ _ _ _ _ W W.heap.size (Nat.le_refl _) (hSR5.keep (Nat.le_refl _) h (Below.size h)) (hMR5.keep (Nat.le_refl _) h (Below.size h))
 have HA3:Hid (∀W,BelW W5 W→Calls Tryz.prog 48 #[.agg #[.slice As0 p0 d0,.slice As1 p1 d1,.slice As2 p2 d2],.agg #[.slice (some ⟨gB,0,none⟩) ns ns,.slice (some ⟨D1,0,none⟩) m m,.slice (some ⟨D2,0,none⟩) m m],.func (.func 83) #[] #[]] W fun e w'=>e=.returned (.bool (relS lowI s9 (blS c ns m)))∧BelW W w'):=Lib.hid fun W h=>
  agree_any _ lowI (fun l l' s s' w B B' h h'=>meqL_any l l' s s' w B B' h h') s9 (blS c ns m) _ _ _ _ _ _ _ _ _ _ _ _ _ _ _ _ _ _ W W.heap.size (Nat.le_refl _) (hSR5.keep (Nat.le_refl _) h (Below.size h)) (hMR5.keep (Nat.le_refl _) h (Below.size h))
 have HIN:Hid (∀W,BelW W5 W→Calls Tryz.prog 36 #[.agg #[.slice A0 n c0,.slice A1 n1 c1,.slice A2 m c2,.slice A3 n3 c3]] W fun e w'=>∃A,e=.returned (.slice A ni ni)∧BelW W w'):=Lib.hid fun W h=>HNI.out W (joinB hb5w h)
 have HCF:Hid (∀W,BelW W5 W→Calls Tryz.prog 81 #[.slice Ai mi ci,.func (.func 82) #[] #[]] W fun e w'=>e=.returned (.bool (anyP higV inp))∧W=w'):=Lib.hid fun W h=>
  containsH_any inp _ W W.heap.size (Arr.keep stays_u8 HIR.out (Below.size (joinB hb5w h)) fun _ hp=>Below.cell (joinB hb5w h) hp)
 obtain⟨u,HU⟩:=named w4.heap.size
 rw[←HU.out]at hfm
 rw[←HU.out]
 have hfc5:=HFC.out.below hb5'
 have hfs5:=HFS.out.below hb5'
 have HCE:Hid (∀W,BelW W5 W→W.cell? ⟨s,0,none⟩=some (.slice A0 n c0)∧W.cell? ⟨s,1,none⟩=some (.slice A1 n1 c1)∧W.cell? ⟨s,2,none⟩=some (.slice A2 m c2)∧W.cell? ⟨s,3,none⟩=some (.slice A3 n3 c3)∧W.cell? ⟨s+1,0,none⟩=some (.slice As0 p0 d0)∧W.cell? ⟨s+1,1,none⟩=some (.slice As1 p1 d1)∧W.cell? ⟨s+1,2,none⟩=some (.slice As2 p2 d2)∧W.cell? ⟨u,0,none⟩=some (.slice (some ⟨gB,0,none⟩) ns ns)∧W.cell? ⟨u,1,none⟩=some (.slice (some ⟨D1,0,none⟩) m m)∧W.cell? ⟨u,2,none⟩=some (.slice (some ⟨D2,0,none⟩) m m)):=Lib.hid fun W h=>⟨(hfc5.below h).cell 0,(hfc5.below h).cell 1,(hfc5.below h).cell 2,(hfc5.below h).cell 3,(hfs5.below h).cell 0,(hfs5.below h).cell 1,(hfs5.below h).cell 2,(hfm.below h).cell 0,(hfm.below h).cell 1,(hfm.below h).cell 2⟩
 have hb5:BelW W5 W5:=Below.refl _ _
 have HE5:Hid (∀W,BelW W5 W→BelW w W):=Lib.hid fun W h=>joinB hb5w h
 have HCK:Hid (ckC c ni ns m s9 inp=if ((inp.length:Int) != (ni:Int))=true then 8 else if relS yesI s9 (blS c ns m)=false then 8 else if anyP higV inp=true then 1 else if relS lowI s9 (blS c ns m)=false then 1 else 0):=Lib.hid rfl
 rw[HIL.out]at HCK
 obtain⟨z,HZ⟩:=named (ckC c ni ns m s9 inp)
 rw[←HZ.out]at HCK
 obtain⟨r1,HR1⟩:=named (relS yesI s9 (blS c ns m))
 rw[←HR1.out]at HA1 HCK
 obtain⟨r2,HR2⟩:=named (anyP higV inp)
 rw[←HR2.out]at HCF HCK
 obtain⟨r3,HR3⟩:=named (relS lowI s9 (blS c ns m))
 rw[←HR3.out]at HA3 HCK
 obtain⟨q0,q1,q2,q3,s0,s1,s2,m0,m1,m2⟩:=HCE.out W5 hb5
 clear x0 x1 x2 x3 hb45 hfm hb5' hb5w hSR5 hMR5 hfc5 hfs5
 cases ht:((mi:Int) != (ni:Int))
 rotate_left
 ·have HF:Hid (z=8):=Lib.hid (by rw[HCK.out,if_pos ht])
  go_wp2_with (go_at_call 36;(with_reducible refine (HIN.out _ hb5).mono ?_);rintro e w6 ⟨A6,rfl,hb6⟩;have HB6:Hid (BelW W5 w6):=Lib.hid hb6;obtain⟨q0,q1,q2,q3,s0,s1,s2,m0,m1,m2⟩:=HCE.out w6 hb6;clear hb6)
  go_ret
  exact⟨by rw[←HZ.out,HF.out];rfl,HE5.out _ HB6.out⟩
 have h0:=ht
 cases r1
 ·have HF:Hid (z=8):=Lib.hid (by rw[HCK.out,h0];rfl)
  go_wp2_with (first
   |(go_at_call 36;(with_reducible refine (HIN.out _ hb5).mono ?_);rintro e w6 ⟨A6,rfl,hb6⟩;have HB6:Hid (BelW W5 w6):=Lib.hid hb6;obtain⟨q0,q1,q2,q3,s0,s1,s2,m0,m1,m2⟩:=HCE.out w6 hb6;clear hb6)
   |(go_at_call 48;(with_reducible refine (HA1.out w6 HB6.out).mono ?_);rintro e w7 ⟨rfl,hb7⟩;have HB7:Hid (BelW W5 w7):=Lib.hid (joinB HB6.out hb7);clear hb7;clear q0 q1 q2 q3 s0 s1 s2 m0 m1 m2;obtain⟨q0,q1,q2,q3,s0,s1,s2,m0,m1,m2⟩:=HCE.out w7 HB7.out))
  go_ret
  exact⟨by rw[←HZ.out,HF.out];rfl,HE5.out _ HB7.out⟩
 cases r2
 rotate_left
 ·have HF:Hid (z=1):=Lib.hid (by rw[HCK.out,h0];rfl)
  go_wp2_with (first
   |(go_at_call 36;(with_reducible refine (HIN.out _ hb5).mono ?_);rintro e w6 ⟨A6,rfl,hb6⟩;have HB6:Hid (BelW W5 w6):=Lib.hid hb6;obtain⟨q0,q1,q2,q3,s0,s1,s2,m0,m1,m2⟩:=HCE.out w6 hb6;clear hb6)
   |(go_at_call 48;(with_reducible refine (HA1.out w6 HB6.out).mono ?_);rintro e w7 ⟨rfl,hb7⟩;have HB7:Hid (BelW W5 w7):=Lib.hid (joinB HB6.out hb7);clear hb7;clear q0 q1 q2 q3 s0 s1 s2 m0 m1 m2;obtain⟨q0,q1,q2,q3,s0,s1,s2,m0,m1,m2⟩:=HCE.out w7 HB7.out)
   |(go_at_call 81;(with_reducible refine (HCF.out w7 HB7.out).mono ?_);rintro e w8 ⟨rfl,hw8⟩;obtain rfl:w7=w8:=hw8))
  go_ret
  exact⟨by rw[←HZ.out,HF.out];rfl,HE5.out _ HB7.out⟩
 cases r3
 ·have HF:Hid (z=1):=Lib.hid (by rw[HCK.out,h0];rfl)
  go_wp2_with (first
   |(go_at_call 36;(with_reducible refine (HIN.out _ hb5).mono ?_);rintro e w6 ⟨A6,rfl,hb6⟩;have HB6:Hid (BelW W5 w6):=Lib.hid hb6;obtain⟨q0,q1,q2,q3,s0,s1,s2,m0,m1,m2⟩:=HCE.out w6 hb6;clear hb6)
   |(go_at_call 48;(with_reducible refine (HA1.out w6 HB6.out).mono ?_);rintro e w7 ⟨rfl,hb7⟩;have HB7:Hid (BelW W5 w7):=Lib.hid (joinB HB6.out hb7);clear hb7;clear q0 q1 q2 q3 s0 s1 s2 m0 m1 m2;obtain⟨q0,q1,q2,q3,s0,s1,s2,m0,m1,m2⟩:=HCE.out w7 HB7.out)
   |(go_at_call 81;(with_reducible refine (HCF.out w7 HB7.out).mono ?_);rintro e w8 ⟨rfl,hw8⟩;obtain rfl:w7=w8:=hw8)
   |(go_at_call 48;(with_reducible refine (HA3.out w7 HB7.out).mono ?_);rintro e w9 ⟨rfl,hb9⟩;have HB9:Hid (BelW W5 w9):=Lib.hid (joinB HB7.out hb9);clear hb9))
  go_ret
  exact⟨by rw[←HZ.out,HF.out];rfl,HE5.out _ HB9.out⟩
 ·have HF:Hid (z=0):=Lib.hid (by rw[HCK.out,h0];rfl)
  go_wp2_with (first
   |(go_at_call 36;(with_reducible refine (HIN.out _ hb5).mono ?_);rintro e w6 ⟨A6,rfl,hb6⟩;have HB6:Hid (BelW W5 w6):=Lib.hid hb6;obtain⟨q0,q1,q2,q3,s0,s1,s2,m0,m1,m2⟩:=HCE.out w6 hb6;clear hb6)
   |(go_at_call 48;(with_reducible refine (HA1.out w6 HB6.out).mono ?_);rintro e w7 ⟨rfl,hb7⟩;have HB7:Hid (BelW W5 w7):=Lib.hid (joinB HB6.out hb7);clear hb7;clear q0 q1 q2 q3 s0 s1 s2 m0 m1 m2;obtain⟨q0,q1,q2,q3,s0,s1,s2,m0,m1,m2⟩:=HCE.out w7 HB7.out)
   |(go_at_call 81;(with_reducible refine (HCF.out w7 HB7.out).mono ?_);rintro e w8 ⟨rfl,hw8⟩;obtain rfl:w7=w8:=hw8)
   |(go_at_call 48;(with_reducible refine (HA3.out w7 HB7.out).mono ?_);rintro e w9 ⟨rfl,hb9⟩;have HB9:Hid (BelW W5 w9):=Lib.hid (joinB HB7.out hb9);clear hb9))
  go_ret
  exact⟨by rw[←HZ.out,HF.out];rfl,HE5.out _ HB9.out⟩
theorem gtrans{w w1 w2:World}{r:Option Nat}(h:w.grownBy w1 r)(k:w1.grownBy w2 r):w.grownBy w2 r:=by
 obtain⟨a1,a2,a3,a4,a5⟩:=h
 obtain⟨b1,b2,b3,b4,b5⟩:=k
 exact⟨b1.trans a1,b2.trans a2,b3.trans a3,Nat.le_trans a4 b4,fun i hi hne=>(b5 i (Nat.lt_of_lt_of_le hi a4) hne).trans (a5 i hi hne)⟩
theorem results_row2_tmp2{P:Program}{fn:Func}{p p' t1 t2:Tmp}{ty ty':TypeId}(h:fn.results= #[.cell p ty,.cell p' ty',.tmp t1,.tmp t2]) (tmps:Array Value) (w:World) (g g':Nat) (t t':TypeId) (cs cs':Array Value) (fr fr':Nat×Nat) (d d':TypeDesc)
 (hp:tmps.getD p undef=.pointer (some ⟨g,0,none⟩)) (hg:w.heap[g]? =some (.cells cs t fr)) (hp':tmps.getD p' undef=.pointer (some ⟨g',0,none⟩)) (hg':w.heap[g']? =some (.cells cs' t' fr'))
 (hu:P.underlying ty=some d) (hd:(match d with| .struct _| .array _ _=>true|_=>false)=true) (hi:(P.info? ty).map (·.size)=some cs.size)
 (hu':P.underlying ty'=some d') (hd':(match d' with| .struct _| .array _ _=>true|_=>false)=true) (hi':(P.info? ty').map (·.size)=some cs'.size):
 (results fn tmps).run P w=.ok (.tuple #[.agg cs,.agg cs',tmps.getD t1 undef,tmps.getD t2 undef]) w:=by
 have q:tmps[p]?.getD undef=.pointer (some ⟨g,0,none⟩):=by simpa using hp
 have q':tmps[p']?.getD undef=.pointer (some ⟨g',0,none⟩):=by simpa using hp'
 simp[results,h,q,q',asAddr,run_loadVar_row w g t ty cs fr d hg hu hd hi,run_loadVar_row w g' t' ty' cs' fr' d' hg' hu' hd' hi',Sem.run_bind,Result.andThen]
theorem OSt.offT{w:World}{D1 D2 L m k1 k2 b:Nat}{nw:Nat→Nat}{fw:Nat→Nat→List Int}{fr:Nat→List Int}{t:TypeId}{l:List Value}(h:OSt w D1 D2 L m nw fw fr k1 k2)(hf:Fr w b t l)(ht1:t≠43)(ht2:t≠41)(ht3:t≠77)(hb:b<L)(j:Nat)(x:Value):OSt (w.setCell ⟨b,j,none⟩ x) D1 D2 L m nw fw fr k1 k2:=by
 obtain⟨⟨vs,a1,a2,a3⟩,⟨us,b1,b2,b3⟩,d1,d2,ne⟩:=h
 exact⟨⟨vs,a1.other (a:=⟨b,j,none⟩) (hf.apart9 a1 ht1) _,a2,fun i hi=>by
  obtain⟨D,T,e,s,l⟩:=a3 i hi
  exact⟨D,T,e,s.other (a:=⟨b,j,none⟩) (Nat.lt_of_lt_of_le hb l) _,l⟩⟩,⟨us,b1.other (a:=⟨b,j,none⟩) (hf.apart9 b1 ht2) _,b2,fun i hi=>by
  obtain⟨g,e,v⟩:=b3 i hi
  exact⟨g,e,v.other (a:=⟨b,j,none⟩) (hf.apart9 v.fr ht3) _⟩⟩,d1,d2,ne⟩
def cyB(c:Ck)(n:Nat)(s9:Stt)(inp:List Int):List Int:=asg (asg (List.replicate n 0) (ofTo c.nodes [0] c.nodes.length) inp) (ofTo c.nodes [14] c.nodes.length) s9.dff
structure CyOk(c:Ck)(s9:Stt)(inp:List Int)(n ni ns m:Nat):Prop where
 hn:c.nodes.length=n
 hm:c.mems.length=m
 hni:(ofTo c.nodes [0] c.nodes.length).length=ni
 hns:(ofTo c.nodes [14] c.nodes.length).length=ns
 ck:ckC c ni ns m s9 inp=0
 li:inp.length=ni
 ld:s9.dff.length=ns
 wf:Wf c.nodes
 pins:∀k,k<c.nodes.length→(c.nodes.getD k default).ins.length≤16
 mem:MemOk c.nodes s9.read
 nx:NxOk c.mems s9.words n
 nsz:n≤1000000
 msz:m≤1000
 port:∀k,k<m→(c.mems.getD k default).addr.length≤16∧(c.mems.getD k default).data.length≤1000
 outs:c.outs.length≤17592186044416
set_option maxRecDepth 100000 in
set_option maxHeartbeats 8000000 in
theorem mcycle_ok(c:Ck)(s9:Stt)(inp:List Int)(P:List Int→Prop)(A0 A1 A2 A3 As0 As1 As2 Ai:Option Addr)(n n1 m n3 c0 c1 c2 c3 p2 d0 d1 d2 ci ns ni:Nat)(w:World)(hT:Lg.Tabs w)(hC:Cir w w.heap.size (.agg #[.slice A0 n c0,.slice A1 n1 c1,.slice A2 m c2,.slice A3 n3 c3]) c) (hS:StR w w.heap.size As0 As1 As2 ns m p2 d0 d1 d2 s9) (hI:Ks w w.heap.size (.slice Ai ni ci) inp) (ok:CyOk c s9 inp n ni ns m)
 (hor:∀W,BelW w W→Calls Tryz.prog 33 #[.agg #[.slice A0 n c0,.slice A1 n1 c1,.slice A2 m c2,.slice A3 n3 c3]] W fun e w'=>∃R d,(P R∧R.length=n∧∀x∈R,0≤x∧x<(n:Int))∧e=.returned (.tuple #[.slice (some ⟨d,0,none⟩) n n,.int .i64 0])∧W.heap.size≤d∧Row w' d R∧BelW W w'):
 Calls Tryz.prog 9 #[.agg #[.slice A0 n c0,.slice A1 n1 c1,.slice A2 m c2,.slice A3 n3 c3],.agg #[.slice As0 ns d0,.slice As1 m d1,.slice As2 p2 d2],.slice Ai ni ci] w fun e w'=>∃R gB D1 D2 go gn g,P R∧e=.returned (.tuple #[.agg #[.slice (some ⟨gB,0,none⟩) ns ns,.slice (some ⟨D1,0,none⟩) m m,.slice (some ⟨D2,0,none⟩) m m],.agg #[.slice (some ⟨go,0,none⟩) (outV c (stmK c.nodes s9.read (cyB c n s9 inp) R n)).length (outV c (stmK c.nodes s9.read (cyB c n s9 inp) R n)).length,.slice (some ⟨gn,0,none⟩) ns ns],.slice (some ⟨g,0,none⟩) n n,.int .i64 0])
  ∧VRow w' g (stmK c.nodes s9.read (cyB c n s9 inp) R n)∧VRow w' go (outV c (stmK c.nodes s9.read (cyB c n s9 inp) R n))∧VRow w' gn (nextV c (stmK c.nodes s9.read (cyB c n s9 inp) R n))∧VRow w' gB (bitsL (nextV c (stmK c.nodes s9.read (cyB c n s9 inp) R n)) ns)
  ∧(∃L,OSt w' D1 D2 L m (fun k=>(s9.words.getD k []).length) (nxW c.mems s9.words (stmK c.nodes s9.read (cyB c n s9 inp) R n)) (nxR c.mems s9.words (stmK c.nodes s9.read (cyB c n s9 inp) R n)) m m)∧BelW w w':=by
 obtain⟨y0,y1,y2,y3,e,hN,hNm,hM,hO⟩:=id hC
 simp only[Value.agg.injEq,Array.mk.injEq,List.cons.injEq,and_true]at e
 obtain⟨rfl,rfl,rfl,rfl⟩:=e
 obtain⟨W1,HW1⟩:=named ((((w.alloc (.cells #[.slice A0 n c0,.slice A1 n1 c1,.slice A2 m c2,.slice A3 n3 c3] 39)).alloc (.cells #[.slice As0 ns d0,.slice As1 m d1,.slice As2 p2 d2] 45)).alloc (.cells #[.slice none 0 0,.slice none 0 0,.slice none 0 0] 45)).alloc (.cells #[.slice none 0 0,.slice none 0 0] 49))
 have hb1:BelW w W1:=by rw[HW1.out];exact below_new (below_new (below_new (below_new (Below.refl _ _) _) _) _) _
 have hfc:Fr W1 w.heap.size 39 [.slice A0 n c0,.slice A1 n1 c1,.slice A2 m c2,.slice A3 n3 c3]:=by rw[HW1.out];exact Fr.alloc (Fr.alloc (Fr.alloc (Fr.made _ [.slice A0 n c0,.slice A1 n1 c1,.slice A2 m c2,.slice A3 n3 c3] _ rfl) _) _) _
 have hfs:Fr W1 (w.heap.size+1) 45 [.slice As0 ns d0,.slice As1 m d1,.slice As2 p2 d2]:=by rw[HW1.out];exact Fr.alloc (Fr.alloc (Fr.made _ [.slice As0 ns d0,.slice As1 m d1,.slice As2 p2 d2] _ (by simp)) _) _
 have hft:Fr W1 (w.heap.size+1+1) 45 [.slice none 0 0,.slice none 0 0,.slice none 0 0]:=by rw[HW1.out];exact Fr.alloc (Fr.made _ [.slice none 0 0,.slice none 0 0,.slice none 0 0] _ (by simp)) _
 have hfr:Fr W1 (w.heap.size+1+1+1) 49 [.slice none 0 0,.slice none 0 0]:=by rw[HW1.out];exact Fr.made _ [.slice none 0 0,.slice none 0 0] _ (by simp)
 obtain⟨s,HS⟩:=named w.heap.size
 have HSW:Hid (w.heap.size≤s):=Lib.hid (by rw[HS.out];exact Nat.le_refl _)
 rw[←HS.out]at hfc hfs hft hfr
 have HB1:Hid (∀W,BelW W1 W→BelW w W):=Lib.hid fun W h=>joinB hb1 h
 have HCE:Hid (∀W,BelW W1 W→W.cell? ⟨s,0,none⟩=some (.slice A0 n c0)∧W.cell? ⟨s,1,none⟩=some (.slice A1 n1 c1)∧W.cell? ⟨s,2,none⟩=some (.slice A2 m c2)∧W.cell? ⟨s,3,none⟩=some (.slice A3 n3 c3)∧W.cell? ⟨s+1,0,none⟩=some (.slice As0 ns d0)∧W.cell? ⟨s+1,1,none⟩=some (.slice As1 m d1)∧W.cell? ⟨s+1,2,none⟩=some (.slice As2 p2 d2)):=Lib.hid fun W h=>⟨(hfc.below h).cell 0,(hfc.below h).cell 1,(hfc.below h).cell 2,(hfc.below h).cell 3,(hfs.below h).cell 0,(hfs.below h).cell 1,(hfs.below h).cell 2⟩
 have HFC:=Lib.hid hfc
 have HFS:=Lib.hid hfs
 have HFT:=Lib.hid hft
 have HFR:=Lib.hid hfr
 have HOR:Hid (∀W,BelW W1 W→Calls Tryz.prog 33 #[.agg #[.slice A0 n c0,.slice A1 n1 c1,.slice A2 m c2,.slice A3 n3 c3]] W fun e w'=>∃R d,(P R∧R.length=n∧∀x∈R,0≤x∧x<(n:Int))∧e=.returned (.tuple #[.slice (some ⟨d,0,none⟩) n n,.int .i64 0])∧W.heap.size≤d∧Row w' d R∧BelW W w'):=Lib.hid fun W h=>hor W (joinB hb1 h)
 have HCK:Hid (∀W,BelW W1 W→Calls Tryz.prog 34 #[.agg #[.slice A0 n c0,.slice A1 n1 c1,.slice A2 m c2,.slice A3 n3 c3],.agg #[.slice As0 ns d0,.slice As1 m d1,.slice As2 p2 d2],.slice Ai ni ci] W fun e w'=>e=.returned (.int .i64 0)∧BelW W w'):=Lib.hid fun W h=>by
  have hbw:=joinB hb1 h
  have:=ckcyc_any c s9 inp A0 A1 A2 A3 As0 As1 As2 Ai n n1 m n3 c0 c1 c2 c3 ns m p2 d0 d1 d2 ni ci ns ni W ((hC.below hbw).more (Below.size hbw)) (hS.keep (Nat.le_refl _) hbw (Below.size hbw)) (Arr.keep stays_u8 hI (Below.size hbw) fun _ hp=>Below.cell hbw hp) (by rw[ok.hn];exact ok.nsz) ok.hns ok.hni (by rw[←ok.hns];exact Nat.le_trans (ofTo_len _ _ _) (by rw[ok.hn];exact ok.nsz)) ok.msz ok.port
  rw[ok.ck]at this
  exact this
 have HIN:Hid (∀W,BelW w W→Calls Tryz.prog 36 #[.agg #[.slice A0 n c0,.slice A1 n1 c1,.slice A2 m c2,.slice A3 n3 c3]] W fun e w'=>∃A,e=.returned (.slice A ni ni)∧Is w' w'.heap.size (.slice A ni ni) (ofTo c.nodes [0] c.nodes.length)∧BelW W w'):=Lib.hid fun W h=>
  (inputs_any c _ W W.heap.size (Nat.le_refl _) ((hC.below h).more (Below.size h)) (by rw[ok.hn];exact ok.nsz)).mono fun e w' ⟨A,he,hi,hb⟩=>⟨A,by rw[←ok.hni];exact he,by rw[←ok.hni];exact hi,hb⟩
 have HSN:Hid (∀W,BelW w W→Calls Tryz.prog 37 #[.agg #[.slice A0 n c0,.slice A1 n1 c1,.slice A2 m c2,.slice A3 n3 c3]] W fun e w'=>∃A,e=.returned (.slice A ns ns)∧Is w' w'.heap.size (.slice A ns ns) (ofTo c.nodes [14] c.nodes.length)∧BelW W w'):=Lib.hid fun W h=>
  (states_any c _ W W.heap.size (Nat.le_refl _) ((hC.below h).more (Below.size h)) (by rw[ok.hn];exact ok.nsz)).mono fun e w' ⟨A,he,hi,hb⟩=>⟨A,by rw[←ok.hns];exact he,by rw[←ok.hns];exact hi,hb⟩
 have HOK:=Lib.hid ok
 have HTB:=Lib.hid hT
 have HCI:=Lib.hid hC
 have HSR:=Lib.hid hS
 have HIR:=Lib.hid hI
 have h1n:c.names.length=n1:=by
  obtain⟨_,_,_,_,e,-⟩:=id hNm
  simp only[Value.slice.injEq]at e
  exact e.2.1.symm
 have h3n:c.outs.length=n3:=by
  obtain⟨_,_,_,_,e,-⟩:=id hO
  simp only[Value.slice.injEq]at e
  exact e.2.1.symm
 have HLN:=Lib.hid (And.intro h1n h3n)
 have HNN:=Lib.hid hN
 have HMM:=Lib.hid hM
 have hnz:=ok.nsz
 have hb11:BelW W1 W1:=Below.refl _ _
 obtain⟨x0,x1,x2,x3,y0,y1,y2⟩:=HCE.out W1 hb11
 clear h1n h3n hT hC hS hI ok hor hN hNm hM hO hb1 hfc hfs hft hfr
 go_enter Tryz.func9,Tryz.ntmps9
 go_upto_region 1 with (fail)
 rw[←HW1.out,←HS.out]
 go_upto_region 6 with (first
  |(go_at_call 33;(with_reducible refine (HOR.out _ hb11).mono ?_);rintro e w2 ⟨R,d,hR,rfl,hd2,hrow2,hb2⟩;have HR:=Lib.hid hR;have HB2:Hid (BelW W1 w2):=Lib.hid hb2;have HD2:=Lib.hid hrow2;clear x0 x1 x2 x3 y0 y1 y2;obtain⟨x0,x1,x2,x3,y0,y1,y2⟩:=HCE.out w2 hb2;clear hR hd2 hrow2 hb2)
  |(go_at_call 34;(with_reducible refine (HCK.out _ HB2.out).mono ?_);rintro e w3 ⟨rfl,hb3⟩;have HB23:Hid (BelW W1 w3):=Lib.hid (joinB HB2.out hb3);have HD3:=Lib.hid (HD2.out.below hb3);clear x0 x1 x2 x3 y0 y1 y2 hb3))
 refine wp_region_held_drew (S:=fun w'=>Below w3.heap.size w3 w') (by kernel_rfl) (Below.refl _ _).drew (fun hHeld=>?_)
 refine wpAnyH_take (i:=0) (oi:=⟨some 30,_,_,_,_,_⟩) (v:=.agg #[.slice A0 n c0,.slice A1 n1 c1,.slice A2 m c2,.slice A3 n3 c3]) rfl (by kernel_rfl) (by kernel_rfl) (by kernel_rfl) (fun _ _ _ h=>h) (Or.inl ⟨by rfl,?_⟩) hHeld ?_
 ·intro w' hSw;obtain⟨x0,x1,x2,x3,y0,y1,y2⟩:=HCE.out w' (joinB HB23.out hSw);first|(go_simp;done)|(go_simp;with_reducible rfl)
 simp only[Act.put,List.setIfInBounds_toArray,List.set_cons_zero,List.set_cons_succ]
 refine wpAnyH_take (i:=1) (oi:=⟨some 31,_,_,_,_,_⟩) (v:=.agg #[.slice As0 ns d0,.slice As1 m d1,.slice As2 p2 d2]) rfl (by kernel_rfl) (by kernel_rfl) (by kernel_rfl) (fun _ _ _ h=>h) (Or.inl ⟨by rfl,?_⟩) hHeld ?_
 ·intro w' hSw;obtain⟨x0,x1,x2,x3,y0,y1,y2⟩:=HCE.out w' (joinB HB23.out hSw);first|(go_simp;done)|(go_simp;with_reducible rfl)
 simp only[Act.put,List.setIfInBounds_toArray,List.set_cons_zero,List.set_cons_succ]
 refine wpAnyH_take (i:=2) (oi:=⟨some 32,_,_,_,_,_⟩) (v:=.slice (some ⟨d,0,none⟩) n n) rfl (by kernel_rfl) (by kernel_rfl) (by kernel_rfl) (fun _ _ _ h=>h) (Or.inl ⟨by rfl,?_⟩) hHeld ?_
 ·intro w' hSw;obtain⟨x0,x1,x2,x3,y0,y1,y2⟩:=HCE.out w' (joinB HB23.out hSw);first|(go_simp;done)|(go_simp;with_reducible rfl)
 simp only[Act.put,List.setIfInBounds_toArray,List.set_cons_zero,List.set_cons_succ]
 refine wpAnyH_take (i:=3) (oi:=⟨some 33,_,_,_,_,_⟩) (v:=.int .i64 (n:Int)) rfl (by kernel_rfl) (by kernel_rfl) (by kernel_rfl) (fun _ _ _ h=>h) (Or.inl ⟨by rfl,?_⟩) hHeld ?_
 ·intro w' hSw;obtain⟨x0,x1,x2,x3,y0,y1,y2⟩:=HCE.out w' (joinB HB23.out hSw);first|(go_simp;done)|(go_simp;with_reducible rfl)
 simp only[Act.put,List.setIfInBounds_toArray,List.set_cons_zero,List.set_cons_succ]
 refine cy_reg (n:=n) (wb:=w3) _ hnz rfl (by kernel_rfl) ⟨_,rfl,rfl,rfl,rfl,by kernel_rfl⟩ ⟨_,rfl,rfl,rfl,rfl,by kernel_rfl⟩ ⟨_,rfl,rfl,rfl,rfl,by kernel_rfl⟩ ⟨_,rfl,rfl,rfl,rfl,by kernel_rfl⟩ (Nat.le_of_ble_eq_true (by rfl)) rfl rfl rfl ?_ ?_ _ hHeld
 ·rfl
 intro v12 v34 v35 g gm W6 I
 obtain⟨rfl,rfl,rfl,hb36,hv6,hg6,hgm6,hfm6⟩:=cy_end I
 clear I hHeld
 simp only[Gcy,Act.put,List.setIfInBounds_toArray,List.set_cons_zero,List.set_cons_succ]
 have hB6:BelW W1 W6:=joinB HB23.out hb36
 have hw3:W1.heap.size≤w3.heap.size:=Below.size HB23.out
 have hg1:W1.heap.size≤g:=Nat.le_trans hw3 hg6
 have hd6:=HD3.out.below hb36
 have hdg:d≠g:=by have:=HD3.out.lt;omega
 have hmg:gm≠g:=hfm6.apart9 hv6.fr (by decide)
 have HGB:Hid (∀W,W6.grownBy W (some g)→BelW W1 W):=Lib.hid fun W h=>bgrown hB6 h hg1
 have HMC:Hid (∀W,W6.grownBy W (some g)→W.cell? ⟨gm,0,none⟩=some (.slice A0 n c0)∧W.cell? ⟨gm,1,none⟩=some (.slice A1 n1 c1)∧W.cell? ⟨gm,2,none⟩=some (.slice A2 m c2)∧W.cell? ⟨gm,3,none⟩=some (.slice A3 n3 c3)∧W.cell? ⟨gm,4,none⟩=some (.slice As0 ns d0)∧W.cell? ⟨gm,5,none⟩=some (.slice As1 m d1)∧W.cell? ⟨gm,6,none⟩=some (.slice As2 p2 d2)∧W.cell? ⟨gm,7,none⟩=some (.slice (some ⟨g,0,none⟩) n n)):=Lib.hid fun W h=>by
  have h2:some gm≠some g:=by simpa using hmg
  exact⟨h.cell (hfm6.cell 0) h2,h.cell (hfm6.cell 1) h2,h.cell (hfm6.cell 2) h2,h.cell (hfm6.cell 3) h2,h.cell (hfm6.cell 4) h2,h.cell (hfm6.cell 5) h2,h.cell (hfm6.cell 6) h2,h.cell (hfm6.cell 7) h2⟩
 have HKE:Hid (∀w',W6.grownBy w' (some g)→W6.grownBy w' (some g)∧w'.cell? ⟨s,0,none⟩=some (.slice A0 n c0)∧w'.cell? ⟨s,1,none⟩=some (.slice A1 n1 c1)∧w'.cell? ⟨s,2,none⟩=some (.slice A2 m c2)∧w'.cell? ⟨s,3,none⟩=some (.slice A3 n3 c3)∧w'.cell? ⟨s+1,0,none⟩=some (.slice As0 ns d0)∧w'.cell? ⟨s+1,1,none⟩=some (.slice As1 m d1)∧w'.cell? ⟨s+1,2,none⟩=some (.slice As2 p2 d2)∧w'.cell? ⟨gm,0,none⟩=some (.slice A0 n c0)∧w'.cell? ⟨gm,1,none⟩=some (.slice A1 n1 c1)∧w'.cell? ⟨gm,2,none⟩=some (.slice A2 m c2)∧w'.cell? ⟨gm,3,none⟩=some (.slice A3 n3 c3)∧w'.cell? ⟨gm,4,none⟩=some (.slice As0 ns d0)∧w'.cell? ⟨gm,5,none⟩=some (.slice As1 m d1)∧w'.cell? ⟨gm,6,none⟩=some (.slice As2 p2 d2)∧w'.cell? ⟨gm,7,none⟩=some (.slice (some ⟨g,0,none⟩) n n)):=Lib.hid fun w' h=>by
  obtain⟨q0,q1,q2,q3,q4,q5,q6⟩:=HCE.out w' (HGB.out w' h)
  obtain⟨z0,z1,z2,z3,z4,z5,z6,z7⟩:=HMC.out w' h
  exact⟨h,q0,q1,q2,q3,q4,q5,q6,z0,z1,z2,z3,z4,z5,z6,z7⟩
 have HV6:=Lib.hid hv6
 have HFM:Hid (∀W,W6.grownBy W (some g)→Fr W gm 90 [.slice A0 n c0,.slice A1 n1 c1,.slice A2 m c2,.slice A3 n3 c3,.slice As0 ns d0,.slice As1 m d1,.slice As2 p2 d2,.slice (some ⟨g,0,none⟩) n n]):=Lib.hid fun W h=>hfm6.kept h (by simpa using hmg)
 have HD6:=Lib.hid hd6
 have HDG:=Lib.hid hdg
 have HGG:Hid (w.heap.size≤g):=Lib.hid (Nat.le_trans (Below.size (HB1.out W1 (Below.refl _ _))) hg1)
 have HAS1:Hid (∀W A,W6.grownBy W (some g)→Is W W.heap.size (.slice A ni ni) (ofTo c.nodes [0] c.nodes.length)→VRow W g (List.replicate n 0)→Calls Tryz.prog 35 #[.agg #[.slice A0 n c0,.slice A1 n1 c1,.slice A2 m c2,.slice A3 n3 c3,.slice As0 ns d0,.slice As1 m d1,.slice As2 p2 d2,.slice (some ⟨g,0,none⟩) n n],.slice A ni ni,.slice Ai ni ci] W fun e w'=>e=.returned (.tuple #[])∧VRow w' g (asg (List.replicate n 0) (ofTo c.nodes [0] c.nodes.length) inp)∧W.grownBy w' (some g)):=Lib.hid fun W A h hi hv=>by
  have hbw:=HB1.out W (HGB.out W h)
  exact massign_any (List.replicate n 0) (ofTo c.nodes [0] c.nodes.length) inp _ _ _ _ _ _ _ A Ai ni ci g n ni w.heap.size W hv hi (Arr.keep stays_u8 HIR.out (Nat.le_refl _) fun _ hp=>Below.cell hbw hp) HGG.out HOK.out.hni.symm HOK.out.li.symm (List.length_replicate ..).symm (fun x hx=>by have:=ofTo_in hx;rw[HOK.out.hn]at this;exact this)
 have HAS2:Hid (∀W A,W6.grownBy W (some g)→Is W W.heap.size (.slice A ns ns) (ofTo c.nodes [14] c.nodes.length)→VRow W g (asg (List.replicate n 0) (ofTo c.nodes [0] c.nodes.length) inp)→Calls Tryz.prog 35 #[.agg #[.slice A0 n c0,.slice A1 n1 c1,.slice A2 m c2,.slice A3 n3 c3,.slice As0 ns d0,.slice As1 m d1,.slice As2 p2 d2,.slice (some ⟨g,0,none⟩) n n],.slice A ns ns,.slice As0 ns d0] W fun e w'=>e=.returned (.tuple #[])∧VRow w' g (cyB c n s9 inp)∧W.grownBy w' (some g)):=Lib.hid fun W A h hi hv=>by
  have hbw:=HB1.out W (HGB.out W h)
  exact massign_any _ (ofTo c.nodes [14] c.nodes.length) s9.dff _ _ _ _ _ _ _ A As0 ns d0 g n ns w.heap.size W hv hi (Arr.keep stays_u8 HSR.out.sd (Nat.le_refl _) fun _ hp=>Below.cell hbw hp) HGG.out HOK.out.hns.symm HOK.out.ld.symm (by rw[asg_len,List.length_replicate]) (fun x hx=>by have:=ofTo_in hx;rw[HOK.out.hn]at this;exact this)
 have HEV:Hid (∀W,W6.grownBy W (some g)→VRow W g (cyB c n s9 inp)→Calls Tryz.prog 38 #[.agg #[.slice A0 n c0,.slice A1 n1 c1,.slice A2 m c2,.slice A3 n3 c3,.slice As0 ns d0,.slice As1 m d1,.slice As2 p2 d2,.slice (some ⟨g,0,none⟩) n n],.slice (some ⟨d,0,none⟩) n n] W fun e w'=>e=.returned (.tuple #[])∧VRow w' g (stmK c.nodes s9.read (cyB c n s9 inp) R n)∧W.grownBy w' (some g)):=Lib.hid fun W h hv=>by
  have hbw:=HB1.out W (HGB.out W h)
  have hok:=HOK.out
  have hdW:Row W d R:=HD6.out.kept h (by simpa using HDG.out)
  exact (meval_any c.nodes s9.read (cyB c n s9 inp) R A0 As2 _ _ _ _ _ n c0 p2 d2 g d n w W hbw HGG.out HTB.out HNN.out HSR.out.sr hv (by unfold cyB;rw[asg_len,asg_len,List.length_replicate]) hdW HDG.out HR.out.2.1 HR.out.2.2 hok.wf hok.pins hok.mem hok.nsz).mono fun e w' ⟨h1,h2,_,h4⟩=>⟨h1,h2,h4⟩
 have hg0:W6.grownBy W6 (some g):=World.grownBy.refl _ _
 have hv60:VRow W6.drew g (List.replicate n 0):=hv6.below (BelW.drew (Below.refl _ _))
 have hbd:BelW w W6.drew:=HB1.out _ (HGB.out _ (gdrew hg0))
 clear hB6 hw3 hg1 hd6 hdg hmg hb36 hv6 hg6 hgm6 hfm6
 go_upto_region 7 with (fail)
 go_region_held3 (fun w'=>W6.grownBy w' (some g)∧w'.cell? ⟨s,0,none⟩=some (.slice A0 n c0)∧w'.cell? ⟨s,1,none⟩=some (.slice A1 n1 c1)∧w'.cell? ⟨s,2,none⟩=some (.slice A2 m c2)∧w'.cell? ⟨s,3,none⟩=some (.slice A3 n3 c3)∧w'.cell? ⟨s+1,0,none⟩=some (.slice As0 ns d0)∧w'.cell? ⟨s+1,1,none⟩=some (.slice As1 m d1)∧w'.cell? ⟨s+1,2,none⟩=some (.slice As2 p2 d2)∧w'.cell? ⟨gm,0,none⟩=some (.slice A0 n c0)∧w'.cell? ⟨gm,1,none⟩=some (.slice A1 n1 c1)∧w'.cell? ⟨gm,2,none⟩=some (.slice A2 m c2)∧w'.cell? ⟨gm,3,none⟩=some (.slice A3 n3 c3)∧w'.cell? ⟨gm,4,none⟩=some (.slice As0 ns d0)∧w'.cell? ⟨gm,5,none⟩=some (.slice As1 m d1)∧w'.cell? ⟨gm,6,none⟩=some (.slice As2 p2 d2)∧w'.cell? ⟨gm,7,none⟩=some (.slice (some ⟨g,0,none⟩) n n))
  ((refine HKE.out _ ?_;first|(with_reducible assumption)|(refine gdrew ?_;with_reducible assumption)))
  (first
    |(go_at_call 36;(refine Calls.mono (HIN.out _ hbd) ?_)
      rintro e w7 ⟨Ai2,rfl,his7,hb7⟩
      have hg7:W6.grownBy w7 (some g):=gnext (gdrew hg0) hb7
      have hv7:VRow w7 g (List.replicate n 0):=hv60.below hb7)
    |(go_at_call 35;(with_reducible refine Calls.mono (HAS1.out w7 Ai2 hg7 his7 hv7) ?_)
      rintro e w8 ⟨rfl,hv8,hg78⟩
      have hg8:W6.grownBy w8 (some g):=gtrans hg7 hg78))
 have HV8:=Lib.hid hv8
 have HG8:=Lib.hid hg8
 have hv80:VRow w8.drew g (asg (List.replicate n 0) (ofTo c.nodes [0] c.nodes.length) inp):=hv8.below (BelW.drew (Below.refl _ _))
 have hbd8:BelW w w8.drew:=HB1.out _ (HGB.out _ (gdrew hg8))
 clear hg0 hv60 hbd his7 hb7 hg7 hv7 hv8 hg78
 go_upto_region 8 with (fail)
 go_region_held3 (fun w'=>W6.grownBy w' (some g)∧w'.cell? ⟨s,0,none⟩=some (.slice A0 n c0)∧w'.cell? ⟨s,1,none⟩=some (.slice A1 n1 c1)∧w'.cell? ⟨s,2,none⟩=some (.slice A2 m c2)∧w'.cell? ⟨s,3,none⟩=some (.slice A3 n3 c3)∧w'.cell? ⟨s+1,0,none⟩=some (.slice As0 ns d0)∧w'.cell? ⟨s+1,1,none⟩=some (.slice As1 m d1)∧w'.cell? ⟨s+1,2,none⟩=some (.slice As2 p2 d2)∧w'.cell? ⟨gm,0,none⟩=some (.slice A0 n c0)∧w'.cell? ⟨gm,1,none⟩=some (.slice A1 n1 c1)∧w'.cell? ⟨gm,2,none⟩=some (.slice A2 m c2)∧w'.cell? ⟨gm,3,none⟩=some (.slice A3 n3 c3)∧w'.cell? ⟨gm,4,none⟩=some (.slice As0 ns d0)∧w'.cell? ⟨gm,5,none⟩=some (.slice As1 m d1)∧w'.cell? ⟨gm,6,none⟩=some (.slice As2 p2 d2)∧w'.cell? ⟨gm,7,none⟩=some (.slice (some ⟨g,0,none⟩) n n))
  ((refine HKE.out _ ?_;first|(with_reducible assumption)|(refine gdrew ?_;with_reducible assumption)))
  (first
    |(go_at_call 37;(refine Calls.mono (HSN.out _ hbd8) ?_)
      rintro e w9 ⟨Ai3,rfl,his9,hb9⟩
      have hg9:W6.grownBy w9 (some g):=gnext (gdrew hg8) hb9
      have hv9:=hv80.below hb9)
    |(go_at_call 35;(with_reducible refine Calls.mono (HAS2.out w9 Ai3 hg9 his9 hv9) ?_)
      rintro e w10 ⟨rfl,hv10,hg910⟩
      have hg10:W6.grownBy w10 (some g):=gtrans hg9 hg910))
 have HEV10:=Lib.hid (HEV.out w10 hg10 hv10)
 have HG10:=Lib.hid hg10
 obtain⟨-,x0,x1,x2,x3,y0,y1,y2,z0,z1,z2,z3,z4,z5,z6,z7⟩:=HKE.out w10 hg10
 clear hg8 hv80 hbd8 his9 hb9 hg9 hv9 hv10 hg910 hg10
 go_upto_region 10 with (go_at_call 38;(with_reducible refine HEV10.out.mono ?_);rintro e w11 ⟨rfl,hv11,hg11⟩;have HV11:=Lib.hid hv11;have HG11:Hid (W6.grownBy w11 (some g)):=Lib.hid (gtrans HG10.out hg11);clear x0 x1 x2 x3 y0 y1 y2 z0 z1 z2 z3 z4 z5 z6 z7 hv11 hg11)
 obtain⟨nets,HNE⟩:=named (stmK c.nodes s9.read (cyB c n s9 inp) R n)
 have HND:Hid (nets=stmK c.nodes s9.read (cyB c n s9 inp) R n):=HNE
 rw[←HNE.out]at HV11
 have hnl:nets.length=n:=by rw[HNE.out,stmK_len];unfold cyB;rw[asg_len,asg_len,List.length_replicate]
 have hnx:(nextV c nets).length=ns:=by unfold nextV;rw[List.length_map];exact HOK.out.hns
 have HOB:Hid (Calls Tryz.prog 39 #[.agg #[.slice A0 n c0,.slice A1 n1 c1,.slice A2 m c2,.slice A3 n3 c3],.slice (some ⟨g,0,none⟩) n n] w11 fun e w'=>∃go gn,e=.returned (.agg #[.slice (some ⟨go,0,none⟩) (outV c nets).length (outV c nets).length,.slice (some ⟨gn,0,none⟩) ns ns])∧VRow w' go (outV c nets)∧VRow w' gn (nextV c nets)∧BelW w11 w'):=Lib.hid (by
  have hbw:=HB1.out w11 (HGB.out w11 HG11.out)
  have hcc:=(HCI.out.below hbw).more (Below.size hbw)
  rw[←HOK.out.hn,←HLN.out.1,←HOK.out.hm,←HLN.out.2]at hcc
  have hks:=HV11.out.ks
  rw[hnl]at hks
  have:=observe_any c nets A0 A1 A2 A3 (some ⟨g,0,none⟩) c0 c1 c2 c3 n n w11 w11.heap.size (Nat.le_refl _) hcc hks (by rw[HOK.out.hn];exact hnz) HOK.out.outs
  rw[HOK.out.hn,HLN.out.1,HOK.out.hm,HLN.out.2]at this
  refine this.mono fun e w' ⟨go,gn,h1,h2,h3,_,_,_,h7⟩=>⟨go,gn,?_,h2,h3,h7⟩
  rw[h1,hnx])
 obtain⟨-,x0,x1,x2,x3,y0,y1,y2,z0,z1,z2,z3,z4,z5,z6,z7⟩:=HKE.out w11 HG11.out
 have HNL:=Lib.hid hnl
 have HNX:=Lib.hid hnx
 clear hnl hnx
 go_upto_region 11 with (go_at_call 39;(with_reducible refine HOB.out.mono ?_);rintro e w12 ⟨go,gn,rfl,hvo,hvn,hb12⟩;have HVO:=Lib.hid hvo;have HVN:=Lib.hid hvn;have HB12:Hid (BelW w11 w12):=Lib.hid hb12;clear x0 x1 x2 x3 y0 y1 y2 z0 z1 z2 z3 z4 z5 z6 z7 hvo hvn hb12)
 obtain⟨lo,HLO⟩:=named (outV c nets).length
 rw[←HLO.out]
 obtain⟨W13,HW13⟩:=named (w12.alloc (.cells #[.slice (some ⟨go,0,none⟩) lo lo,.slice (some ⟨gn,0,none⟩) ns ns] 49))
 rw[←HW13.out]
 have hb1213:BelW w12 W13:=by rw[HW13.out];exact below_new (Below.refl _ _) _
 have hfu:Fr W13 w12.heap.size 49 [.slice (some ⟨go,0,none⟩) lo lo,.slice (some ⟨gn,0,none⟩) ns ns]:=by rw[HW13.out];exact Fr.made _ [.slice (some ⟨go,0,none⟩) lo lo,.slice (some ⟨gn,0,none⟩) ns ns] _ rfl
 obtain⟨u,HU⟩:=named w12.heap.size
 rw[←HU.out]at hfu
 rw[←HU.out]
 have hb13:BelW w11 W13:=joinB HB12.out hb1213
 have hbw13:BelW W1 W13:=joinB (HGB.out w11 HG11.out) hb13
 have HB13:Hid (∀W,BelW W13 W→BelW w W):=Lib.hid fun W h=>HB1.out W (joinB hbw13 h)
 have hfm13:Fr W13 gm 90 [.slice A0 n c0,.slice A1 n1 c1,.slice A2 m c2,.slice A3 n3 c3,.slice As0 ns d0,.slice As1 m d1,.slice As2 p2 d2,.slice (some ⟨g,0,none⟩) n n]:=(HFM.out w11 HG11.out).below hb13
 have HMU:Hid (∀W,BelW W13 W→W.cell? ⟨u,0,none⟩=some (.slice (some ⟨go,0,none⟩) lo lo)∧W.cell? ⟨u,1,none⟩=some (.slice (some ⟨gn,0,none⟩) ns ns)∧W.cell? ⟨gm,0,none⟩=some (.slice A0 n c0)∧W.cell? ⟨gm,1,none⟩=some (.slice A1 n1 c1)∧W.cell? ⟨gm,2,none⟩=some (.slice A2 m c2)∧W.cell? ⟨gm,3,none⟩=some (.slice A3 n3 c3)∧W.cell? ⟨gm,4,none⟩=some (.slice As0 ns d0)∧W.cell? ⟨gm,5,none⟩=some (.slice As1 m d1)∧W.cell? ⟨gm,6,none⟩=some (.slice As2 p2 d2)∧W.cell? ⟨gm,7,none⟩=some (.slice (some ⟨g,0,none⟩) n n)):=Lib.hid fun W h=>⟨(hfu.below h).cell 0,(hfu.below h).cell 1,(hfm13.below h).cell 0,(hfm13.below h).cell 1,(hfm13.below h).cell 2,(hfm13.below h).cell 3,(hfm13.below h).cell 4,(hfm13.below h).cell 5,(hfm13.below h).cell 6,(hfm13.below h).cell 7⟩
 have hns1:ns≤1000000:=by rw[←HOK.out.hns];exact Nat.le_trans (ofTo_len _ _ _) (by rw[HOK.out.hn];exact hnz)
 have hvn13:=HVN.out.below hb1213
 have HNXT:Hid (∀W,BelW W13 W→Calls Tryz.prog 40 #[.agg #[.slice A0 n c0,.slice A1 n1 c1,.slice A2 m c2,.slice A3 n3 c3,.slice As0 ns d0,.slice As1 m d1,.slice As2 p2 d2,.slice (some ⟨g,0,none⟩) n n],.slice (some ⟨gn,0,none⟩) ns ns] W fun e w'=>∃gB D1 D2,e=.returned (.agg #[.slice (some ⟨gB,0,none⟩) ns ns,.slice (some ⟨D1,0,none⟩) m m,.slice (some ⟨D2,0,none⟩) m m])∧VRow w' gB (bitsL (nextV c nets) ns)∧(∃L,W.heap.size≤L∧OSt w' D1 D2 L m (fun k=>(s9.words.getD k []).length) (nxW c.mems s9.words nets) (nxR c.mems s9.words nets) m m)∧BelW W w'):=Lib.hid fun W h=>by
  have hbw:=HB13.out W h
  have hks:=(hvn13.below h).ks
  rw[HNX.out]at hks
  exact mnext_any c.mems s9.words nets (nextV c nets) A2 As1 (some ⟨gn,0,none⟩) _ _ _ _ _ m c2 d1 g n ns ns W ((HMM.out.below hbw).more (Below.size hbw)) (Arr.keep stays_wws HSR.out.sw (Below.size hbw) fun _ hp=>Below.cell hbw hp) ((HV11.out.below hb13).below h) HNL.out hks HOK.out.nx HOK.out.msz hns1
 have HS3:Hid (∀W gB D1 D2,BelW W13 W→(BelW w (((W.setCell ⟨s+1+1,0,none⟩ (.slice (some ⟨gB,0,none⟩) ns ns)).setCell ⟨s+1+1,1,none⟩ (.slice (some ⟨D1,0,none⟩) m m)).setCell ⟨s+1+1,2,none⟩ (.slice (some ⟨D2,0,none⟩) m m))∧(((W.setCell ⟨s+1+1,0,none⟩ (.slice (some ⟨gB,0,none⟩) ns ns)).setCell ⟨s+1+1,1,none⟩ (.slice (some ⟨D1,0,none⟩) m m)).setCell ⟨s+1+1,2,none⟩ (.slice (some ⟨D2,0,none⟩) m m)).cell? ⟨u,0,none⟩=some (.slice (some ⟨go,0,none⟩) lo lo)∧(((W.setCell ⟨s+1+1,0,none⟩ (.slice (some ⟨gB,0,none⟩) ns ns)).setCell ⟨s+1+1,1,none⟩ (.slice (some ⟨D1,0,none⟩) m m)).setCell ⟨s+1+1,2,none⟩ (.slice (some ⟨D2,0,none⟩) m m)).cell? ⟨u,1,none⟩=some (.slice (some ⟨gn,0,none⟩) ns ns)∧(((W.setCell ⟨s+1+1,0,none⟩ (.slice (some ⟨gB,0,none⟩) ns ns)).setCell ⟨s+1+1,1,none⟩ (.slice (some ⟨D1,0,none⟩) m m)).setCell ⟨s+1+1,2,none⟩ (.slice (some ⟨D2,0,none⟩) m m)).cell? ⟨gm,0,none⟩=some (.slice A0 n c0)∧(((W.setCell ⟨s+1+1,0,none⟩ (.slice (some ⟨gB,0,none⟩) ns ns)).setCell ⟨s+1+1,1,none⟩ (.slice (some ⟨D1,0,none⟩) m m)).setCell ⟨s+1+1,2,none⟩ (.slice (some ⟨D2,0,none⟩) m m)).cell? ⟨gm,1,none⟩=some (.slice A1 n1 c1)∧(((W.setCell ⟨s+1+1,0,none⟩ (.slice (some ⟨gB,0,none⟩) ns ns)).setCell ⟨s+1+1,1,none⟩ (.slice (some ⟨D1,0,none⟩) m m)).setCell ⟨s+1+1,2,none⟩ (.slice (some ⟨D2,0,none⟩) m m)).cell? ⟨gm,2,none⟩=some (.slice A2 m c2)∧(((W.setCell ⟨s+1+1,0,none⟩ (.slice (some ⟨gB,0,none⟩) ns ns)).setCell ⟨s+1+1,1,none⟩ (.slice (some ⟨D1,0,none⟩) m m)).setCell ⟨s+1+1,2,none⟩ (.slice (some ⟨D2,0,none⟩) m m)).cell? ⟨gm,3,none⟩=some (.slice A3 n3 c3)∧(((W.setCell ⟨s+1+1,0,none⟩ (.slice (some ⟨gB,0,none⟩) ns ns)).setCell ⟨s+1+1,1,none⟩ (.slice (some ⟨D1,0,none⟩) m m)).setCell ⟨s+1+1,2,none⟩ (.slice (some ⟨D2,0,none⟩) m m)).cell? ⟨gm,4,none⟩=some (.slice As0 ns d0)∧(((W.setCell ⟨s+1+1,0,none⟩ (.slice (some ⟨gB,0,none⟩) ns ns)).setCell ⟨s+1+1,1,none⟩ (.slice (some ⟨D1,0,none⟩) m m)).setCell ⟨s+1+1,2,none⟩ (.slice (some ⟨D2,0,none⟩) m m)).cell? ⟨gm,5,none⟩=some (.slice As1 m d1)∧(((W.setCell ⟨s+1+1,0,none⟩ (.slice (some ⟨gB,0,none⟩) ns ns)).setCell ⟨s+1+1,1,none⟩ (.slice (some ⟨D1,0,none⟩) m m)).setCell ⟨s+1+1,2,none⟩ (.slice (some ⟨D2,0,none⟩) m m)).cell? ⟨gm,6,none⟩=some (.slice As2 p2 d2)∧(((W.setCell ⟨s+1+1,0,none⟩ (.slice (some ⟨gB,0,none⟩) ns ns)).setCell ⟨s+1+1,1,none⟩ (.slice (some ⟨D1,0,none⟩) m m)).setCell ⟨s+1+1,2,none⟩ (.slice (some ⟨D2,0,none⟩) m m)).cell? ⟨gm,7,none⟩=some (.slice (some ⟨g,0,none⟩) n n))∧(BelW w (((((W.setCell ⟨s+1+1,0,none⟩ (.slice (some ⟨gB,0,none⟩) ns ns)).setCell ⟨s+1+1,1,none⟩ (.slice (some ⟨D1,0,none⟩) m m)).setCell ⟨s+1+1,2,none⟩ (.slice (some ⟨D2,0,none⟩) m m)).setCell ⟨s+1+1+1,0,none⟩ (.slice (some ⟨go,0,none⟩) lo lo)).setCell ⟨s+1+1+1,1,none⟩ (.slice (some ⟨gn,0,none⟩) ns ns))∧(((((W.setCell ⟨s+1+1,0,none⟩ (.slice (some ⟨gB,0,none⟩) ns ns)).setCell ⟨s+1+1,1,none⟩ (.slice (some ⟨D1,0,none⟩) m m)).setCell ⟨s+1+1,2,none⟩ (.slice (some ⟨D2,0,none⟩) m m)).setCell ⟨s+1+1+1,0,none⟩ (.slice (some ⟨go,0,none⟩) lo lo)).setCell ⟨s+1+1+1,1,none⟩ (.slice (some ⟨gn,0,none⟩) ns ns)).cell? ⟨u,0,none⟩=some (.slice (some ⟨go,0,none⟩) lo lo)∧(((((W.setCell ⟨s+1+1,0,none⟩ (.slice (some ⟨gB,0,none⟩) ns ns)).setCell ⟨s+1+1,1,none⟩ (.slice (some ⟨D1,0,none⟩) m m)).setCell ⟨s+1+1,2,none⟩ (.slice (some ⟨D2,0,none⟩) m m)).setCell ⟨s+1+1+1,0,none⟩ (.slice (some ⟨go,0,none⟩) lo lo)).setCell ⟨s+1+1+1,1,none⟩ (.slice (some ⟨gn,0,none⟩) ns ns)).cell? ⟨u,1,none⟩=some (.slice (some ⟨gn,0,none⟩) ns ns)∧(((((W.setCell ⟨s+1+1,0,none⟩ (.slice (some ⟨gB,0,none⟩) ns ns)).setCell ⟨s+1+1,1,none⟩ (.slice (some ⟨D1,0,none⟩) m m)).setCell ⟨s+1+1,2,none⟩ (.slice (some ⟨D2,0,none⟩) m m)).setCell ⟨s+1+1+1,0,none⟩ (.slice (some ⟨go,0,none⟩) lo lo)).setCell ⟨s+1+1+1,1,none⟩ (.slice (some ⟨gn,0,none⟩) ns ns)).cell? ⟨gm,0,none⟩=some (.slice A0 n c0)∧(((((W.setCell ⟨s+1+1,0,none⟩ (.slice (some ⟨gB,0,none⟩) ns ns)).setCell ⟨s+1+1,1,none⟩ (.slice (some ⟨D1,0,none⟩) m m)).setCell ⟨s+1+1,2,none⟩ (.slice (some ⟨D2,0,none⟩) m m)).setCell ⟨s+1+1+1,0,none⟩ (.slice (some ⟨go,0,none⟩) lo lo)).setCell ⟨s+1+1+1,1,none⟩ (.slice (some ⟨gn,0,none⟩) ns ns)).cell? ⟨gm,1,none⟩=some (.slice A1 n1 c1)∧(((((W.setCell ⟨s+1+1,0,none⟩ (.slice (some ⟨gB,0,none⟩) ns ns)).setCell ⟨s+1+1,1,none⟩ (.slice (some ⟨D1,0,none⟩) m m)).setCell ⟨s+1+1,2,none⟩ (.slice (some ⟨D2,0,none⟩) m m)).setCell ⟨s+1+1+1,0,none⟩ (.slice (some ⟨go,0,none⟩) lo lo)).setCell ⟨s+1+1+1,1,none⟩ (.slice (some ⟨gn,0,none⟩) ns ns)).cell? ⟨gm,2,none⟩=some (.slice A2 m c2)∧(((((W.setCell ⟨s+1+1,0,none⟩ (.slice (some ⟨gB,0,none⟩) ns ns)).setCell ⟨s+1+1,1,none⟩ (.slice (some ⟨D1,0,none⟩) m m)).setCell ⟨s+1+1,2,none⟩ (.slice (some ⟨D2,0,none⟩) m m)).setCell ⟨s+1+1+1,0,none⟩ (.slice (some ⟨go,0,none⟩) lo lo)).setCell ⟨s+1+1+1,1,none⟩ (.slice (some ⟨gn,0,none⟩) ns ns)).cell? ⟨gm,3,none⟩=some (.slice A3 n3 c3)∧(((((W.setCell ⟨s+1+1,0,none⟩ (.slice (some ⟨gB,0,none⟩) ns ns)).setCell ⟨s+1+1,1,none⟩ (.slice (some ⟨D1,0,none⟩) m m)).setCell ⟨s+1+1,2,none⟩ (.slice (some ⟨D2,0,none⟩) m m)).setCell ⟨s+1+1+1,0,none⟩ (.slice (some ⟨go,0,none⟩) lo lo)).setCell ⟨s+1+1+1,1,none⟩ (.slice (some ⟨gn,0,none⟩) ns ns)).cell? ⟨gm,4,none⟩=some (.slice As0 ns d0)∧(((((W.setCell ⟨s+1+1,0,none⟩ (.slice (some ⟨gB,0,none⟩) ns ns)).setCell ⟨s+1+1,1,none⟩ (.slice (some ⟨D1,0,none⟩) m m)).setCell ⟨s+1+1,2,none⟩ (.slice (some ⟨D2,0,none⟩) m m)).setCell ⟨s+1+1+1,0,none⟩ (.slice (some ⟨go,0,none⟩) lo lo)).setCell ⟨s+1+1+1,1,none⟩ (.slice (some ⟨gn,0,none⟩) ns ns)).cell? ⟨gm,5,none⟩=some (.slice As1 m d1)∧(((((W.setCell ⟨s+1+1,0,none⟩ (.slice (some ⟨gB,0,none⟩) ns ns)).setCell ⟨s+1+1,1,none⟩ (.slice (some ⟨D1,0,none⟩) m m)).setCell ⟨s+1+1,2,none⟩ (.slice (some ⟨D2,0,none⟩) m m)).setCell ⟨s+1+1+1,0,none⟩ (.slice (some ⟨go,0,none⟩) lo lo)).setCell ⟨s+1+1+1,1,none⟩ (.slice (some ⟨gn,0,none⟩) ns ns)).cell? ⟨gm,6,none⟩=some (.slice As2 p2 d2)∧(((((W.setCell ⟨s+1+1,0,none⟩ (.slice (some ⟨gB,0,none⟩) ns ns)).setCell ⟨s+1+1,1,none⟩ (.slice (some ⟨D1,0,none⟩) m m)).setCell ⟨s+1+1,2,none⟩ (.slice (some ⟨D2,0,none⟩) m m)).setCell ⟨s+1+1+1,0,none⟩ (.slice (some ⟨go,0,none⟩) lo lo)).setCell ⟨s+1+1+1,1,none⟩ (.slice (some ⟨gn,0,none⟩) ns ns)).cell? ⟨gm,7,none⟩=some (.slice (some ⟨g,0,none⟩) n n))):=Lib.hid fun W gB D1 D2 h=>by
  have ft:=HFT.out.below (joinB hbw13 h)
  have frr:=HFR.out.below (joinB hbw13 h)
  have fu:=hfu.below h
  have fm:=hfm13.below h
  have hsw:=HSW.out
  have hlt:=HFR.out.lt
  have hu2:W1.heap.size≤u:=by rw[HU.out];exact Nat.le_trans (Below.size (HGB.out w11 HG11.out)) (Below.size HB12.out)
  have n1:s+1+1≠u:=by omega
  have n3:s+1+1+1≠u:=by omega
  have n2:=ft.apart9 fm (by decide)
  have n4:=frr.apart9 fm (by decide)
  have hw:=HB13.out W h
  have a1:=(((fu.other (a:=⟨s+1+1,0,none⟩) n1 (.slice (some ⟨gB,0,none⟩) ns ns)).other (a:=⟨s+1+1,1,none⟩) n1 (.slice (some ⟨D1,0,none⟩) m m)).other (a:=⟨s+1+1,2,none⟩) n1 (.slice (some ⟨D2,0,none⟩) m m))
  have a2:=(((fm.other (a:=⟨s+1+1,0,none⟩) n2 (.slice (some ⟨gB,0,none⟩) ns ns)).other (a:=⟨s+1+1,1,none⟩) n2 (.slice (some ⟨D1,0,none⟩) m m)).other (a:=⟨s+1+1,2,none⟩) n2 (.slice (some ⟨D2,0,none⟩) m m))
  have b1:=(((((fu.other (a:=⟨s+1+1,0,none⟩) n1 (.slice (some ⟨gB,0,none⟩) ns ns)).other (a:=⟨s+1+1,1,none⟩) n1 (.slice (some ⟨D1,0,none⟩) m m)).other (a:=⟨s+1+1,2,none⟩) n1 (.slice (some ⟨D2,0,none⟩) m m)).other (a:=⟨s+1+1+1,0,none⟩) n3 (.slice (some ⟨go,0,none⟩) lo lo)).other (a:=⟨s+1+1+1,1,none⟩) n3 (.slice (some ⟨gn,0,none⟩) ns ns))
  have b2:=(((((fm.other (a:=⟨s+1+1,0,none⟩) n2 (.slice (some ⟨gB,0,none⟩) ns ns)).other (a:=⟨s+1+1,1,none⟩) n2 (.slice (some ⟨D1,0,none⟩) m m)).other (a:=⟨s+1+1,2,none⟩) n2 (.slice (some ⟨D2,0,none⟩) m m)).other (a:=⟨s+1+1+1,0,none⟩) n4 (.slice (some ⟨go,0,none⟩) lo lo)).other (a:=⟨s+1+1+1,1,none⟩) n4 (.slice (some ⟨gn,0,none⟩) ns ns))
  exact⟨⟨(((hw.setCell (p:=⟨s+1+1,0,none⟩) (by show w.heap.size≤s+1+1;omega) (.slice (some ⟨gB,0,none⟩) ns ns)).setCell (p:=⟨s+1+1,1,none⟩) (by show w.heap.size≤s+1+1;omega) (.slice (some ⟨D1,0,none⟩) m m)).setCell (p:=⟨s+1+1,2,none⟩) (by show w.heap.size≤s+1+1;omega) (.slice (some ⟨D2,0,none⟩) m m)),a1.cell 0,a1.cell 1,a2.cell 0,a2.cell 1,a2.cell 2,a2.cell 3,a2.cell 4,a2.cell 5,a2.cell 6,a2.cell 7⟩,⟨(((((hw.setCell (p:=⟨s+1+1,0,none⟩) (by show w.heap.size≤s+1+1;omega) (.slice (some ⟨gB,0,none⟩) ns ns)).setCell (p:=⟨s+1+1,1,none⟩) (by show w.heap.size≤s+1+1;omega) (.slice (some ⟨D1,0,none⟩) m m)).setCell (p:=⟨s+1+1,2,none⟩) (by show w.heap.size≤s+1+1;omega) (.slice (some ⟨D2,0,none⟩) m m)).setCell (p:=⟨s+1+1+1,0,none⟩) (by show w.heap.size≤s+1+1+1;omega) (.slice (some ⟨go,0,none⟩) lo lo)).setCell (p:=⟨s+1+1+1,1,none⟩) (by show w.heap.size≤s+1+1+1;omega) (.slice (some ⟨gn,0,none⟩) ns ns)),b1.cell 0,b1.cell 1,b2.cell 0,b2.cell 1,b2.cell 2,b2.cell 3,b2.cell 4,b2.cell 5,b2.cell 6,b2.cell 7⟩⟩
 have HF5:Hid (∀W gB D1 D2 L,BelW W13 W→VRow W gB (bitsL (nextV c nets) ns)→W13.heap.size≤L→OSt W D1 D2 L m (fun k=>(s9.words.getD k []).length) (nxW c.mems s9.words nets) (nxR c.mems s9.words nets) m m→VRow (((((W.setCell ⟨s+1+1,0,none⟩ (.slice (some ⟨gB,0,none⟩) ns ns)).setCell ⟨s+1+1,1,none⟩ (.slice (some ⟨D1,0,none⟩) m m)).setCell ⟨s+1+1,2,none⟩ (.slice (some ⟨D2,0,none⟩) m m)).setCell ⟨s+1+1+1,0,none⟩ (.slice (some ⟨go,0,none⟩) lo lo)).setCell ⟨s+1+1+1,1,none⟩ (.slice (some ⟨gn,0,none⟩) ns ns)) g nets∧VRow (((((W.setCell ⟨s+1+1,0,none⟩ (.slice (some ⟨gB,0,none⟩) ns ns)).setCell ⟨s+1+1,1,none⟩ (.slice (some ⟨D1,0,none⟩) m m)).setCell ⟨s+1+1,2,none⟩ (.slice (some ⟨D2,0,none⟩) m m)).setCell ⟨s+1+1+1,0,none⟩ (.slice (some ⟨go,0,none⟩) lo lo)).setCell ⟨s+1+1+1,1,none⟩ (.slice (some ⟨gn,0,none⟩) ns ns)) go (outV c nets)∧VRow (((((W.setCell ⟨s+1+1,0,none⟩ (.slice (some ⟨gB,0,none⟩) ns ns)).setCell ⟨s+1+1,1,none⟩ (.slice (some ⟨D1,0,none⟩) m m)).setCell ⟨s+1+1,2,none⟩ (.slice (some ⟨D2,0,none⟩) m m)).setCell ⟨s+1+1+1,0,none⟩ (.slice (some ⟨go,0,none⟩) lo lo)).setCell ⟨s+1+1+1,1,none⟩ (.slice (some ⟨gn,0,none⟩) ns ns)) gn (nextV c nets)∧VRow (((((W.setCell ⟨s+1+1,0,none⟩ (.slice (some ⟨gB,0,none⟩) ns ns)).setCell ⟨s+1+1,1,none⟩ (.slice (some ⟨D1,0,none⟩) m m)).setCell ⟨s+1+1,2,none⟩ (.slice (some ⟨D2,0,none⟩) m m)).setCell ⟨s+1+1+1,0,none⟩ (.slice (some ⟨go,0,none⟩) lo lo)).setCell ⟨s+1+1+1,1,none⟩ (.slice (some ⟨gn,0,none⟩) ns ns)) gB (bitsL (nextV c nets) ns)∧(OSt (((((W.setCell ⟨s+1+1,0,none⟩ (.slice (some ⟨gB,0,none⟩) ns ns)).setCell ⟨s+1+1,1,none⟩ (.slice (some ⟨D1,0,none⟩) m m)).setCell ⟨s+1+1,2,none⟩ (.slice (some ⟨D2,0,none⟩) m m)).setCell ⟨s+1+1+1,0,none⟩ (.slice (some ⟨go,0,none⟩) lo lo)).setCell ⟨s+1+1+1,1,none⟩ (.slice (some ⟨gn,0,none⟩) ns ns)) D1 D2 L m (fun k=>(s9.words.getD k []).length) (nxW c.mems s9.words nets) (nxR c.mems s9.words nets) m m)∧BelW w (((((W.setCell ⟨s+1+1,0,none⟩ (.slice (some ⟨gB,0,none⟩) ns ns)).setCell ⟨s+1+1,1,none⟩ (.slice (some ⟨D1,0,none⟩) m m)).setCell ⟨s+1+1,2,none⟩ (.slice (some ⟨D2,0,none⟩) m m)).setCell ⟨s+1+1+1,0,none⟩ (.slice (some ⟨go,0,none⟩) lo lo)).setCell ⟨s+1+1+1,1,none⟩ (.slice (some ⟨gn,0,none⟩) ns ns))∧Fr (((((W.setCell ⟨s+1+1,0,none⟩ (.slice (some ⟨gB,0,none⟩) ns ns)).setCell ⟨s+1+1,1,none⟩ (.slice (some ⟨D1,0,none⟩) m m)).setCell ⟨s+1+1,2,none⟩ (.slice (some ⟨D2,0,none⟩) m m)).setCell ⟨s+1+1+1,0,none⟩ (.slice (some ⟨go,0,none⟩) lo lo)).setCell ⟨s+1+1+1,1,none⟩ (.slice (some ⟨gn,0,none⟩) ns ns)) (s+1+1) 45 [.slice (some ⟨gB,0,none⟩) ns ns,.slice (some ⟨D1,0,none⟩) m m,.slice (some ⟨D2,0,none⟩) m m]∧Fr (((((W.setCell ⟨s+1+1,0,none⟩ (.slice (some ⟨gB,0,none⟩) ns ns)).setCell ⟨s+1+1,1,none⟩ (.slice (some ⟨D1,0,none⟩) m m)).setCell ⟨s+1+1,2,none⟩ (.slice (some ⟨D2,0,none⟩) m m)).setCell ⟨s+1+1+1,0,none⟩ (.slice (some ⟨go,0,none⟩) lo lo)).setCell ⟨s+1+1+1,1,none⟩ (.slice (some ⟨gn,0,none⟩) ns ns)) (s+1+1+1) 49 [.slice (some ⟨go,0,none⟩) lo lo,.slice (some ⟨gn,0,none⟩) ns ns]):=Lib.hid fun W gB D1 D2 L h hvB hL hst=>by
  have ft:=HFT.out.below (joinB hbw13 h)
  have frr:=HFR.out.below (joinB hbw13 h)
  have hsw:=HSW.out
  have hlt:=HFR.out.lt
  have hlt2:=Below.size hbw13
  have hw:=HB13.out W h
  have v1:=(HV11.out.below hb13).below h
  have v2:=(HVO.out.below hb1213).below h
  have v3:=hvn13.below h
  have frn:=(((frr.other (a:=⟨s+1+1,0,none⟩) (by show s+1+1≠s+1+1+1;omega) (.slice (some ⟨gB,0,none⟩) ns ns)).other (a:=⟨s+1+1,1,none⟩) (by show s+1+1≠s+1+1+1;omega) (.slice (some ⟨D1,0,none⟩) m m)).other (a:=⟨s+1+1,2,none⟩) (by show s+1+1≠s+1+1+1;omega) (.slice (some ⟨D2,0,none⟩) m m))
  have e1:=(((ft.set 0 (.slice (some ⟨gB,0,none⟩) ns ns)).set 1 (.slice (some ⟨D1,0,none⟩) m m)).set 2 (.slice (some ⟨D2,0,none⟩) m m))
  have e2:=((frn.set 0 (.slice (some ⟨go,0,none⟩) lo lo)).set 1 (.slice (some ⟨gn,0,none⟩) ns ns))
  refine⟨(((((v1.other (a:=⟨s+1+1,0,none⟩) (ft.apart9 v1.fr (by decide)) (.slice (some ⟨gB,0,none⟩) ns ns)).other (a:=⟨s+1+1,1,none⟩) (ft.apart9 v1.fr (by decide)) (.slice (some ⟨D1,0,none⟩) m m)).other (a:=⟨s+1+1,2,none⟩) (ft.apart9 v1.fr (by decide)) (.slice (some ⟨D2,0,none⟩) m m)).other (a:=⟨s+1+1+1,0,none⟩) (frr.apart9 v1.fr (by decide)) (.slice (some ⟨go,0,none⟩) lo lo)).other (a:=⟨s+1+1+1,1,none⟩) (frr.apart9 v1.fr (by decide)) (.slice (some ⟨gn,0,none⟩) ns ns)),(((((v2.other (a:=⟨s+1+1,0,none⟩) (ft.apart9 v2.fr (by decide)) (.slice (some ⟨gB,0,none⟩) ns ns)).other (a:=⟨s+1+1,1,none⟩) (ft.apart9 v2.fr (by decide)) (.slice (some ⟨D1,0,none⟩) m m)).other (a:=⟨s+1+1,2,none⟩) (ft.apart9 v2.fr (by decide)) (.slice (some ⟨D2,0,none⟩) m m)).other (a:=⟨s+1+1+1,0,none⟩) (frr.apart9 v2.fr (by decide)) (.slice (some ⟨go,0,none⟩) lo lo)).other (a:=⟨s+1+1+1,1,none⟩) (frr.apart9 v2.fr (by decide)) (.slice (some ⟨gn,0,none⟩) ns ns)),(((((v3.other (a:=⟨s+1+1,0,none⟩) (ft.apart9 v3.fr (by decide)) (.slice (some ⟨gB,0,none⟩) ns ns)).other (a:=⟨s+1+1,1,none⟩) (ft.apart9 v3.fr (by decide)) (.slice (some ⟨D1,0,none⟩) m m)).other (a:=⟨s+1+1,2,none⟩) (ft.apart9 v3.fr (by decide)) (.slice (some ⟨D2,0,none⟩) m m)).other (a:=⟨s+1+1+1,0,none⟩) (frr.apart9 v3.fr (by decide)) (.slice (some ⟨go,0,none⟩) lo lo)).other (a:=⟨s+1+1+1,1,none⟩) (frr.apart9 v3.fr (by decide)) (.slice (some ⟨gn,0,none⟩) ns ns)),(((((hvB.other (a:=⟨s+1+1,0,none⟩) (ft.apart9 hvB.fr (by decide)) (.slice (some ⟨gB,0,none⟩) ns ns)).other (a:=⟨s+1+1,1,none⟩) (ft.apart9 hvB.fr (by decide)) (.slice (some ⟨D1,0,none⟩) m m)).other (a:=⟨s+1+1,2,none⟩) (ft.apart9 hvB.fr (by decide)) (.slice (some ⟨D2,0,none⟩) m m)).other (a:=⟨s+1+1+1,0,none⟩) (frr.apart9 hvB.fr (by decide)) (.slice (some ⟨go,0,none⟩) lo lo)).other (a:=⟨s+1+1+1,1,none⟩) (frr.apart9 hvB.fr (by decide)) (.slice (some ⟨gn,0,none⟩) ns ns)),(((((hst.off ft (by omega) 0 (.slice (some ⟨gB,0,none⟩) ns ns)).off (ft.set 0 (.slice (some ⟨gB,0,none⟩) ns ns)) (by omega) 1 (.slice (some ⟨D1,0,none⟩) m m)).off ((ft.set 0 (.slice (some ⟨gB,0,none⟩) ns ns)).set 1 (.slice (some ⟨D1,0,none⟩) m m)) (by omega) 2 (.slice (some ⟨D2,0,none⟩) m m)).offT frn (by decide) (by decide) (by decide) (by omega) 0 (.slice (some ⟨go,0,none⟩) lo lo)).offT (frn.set 0 (.slice (some ⟨go,0,none⟩) lo lo)) (by decide) (by decide) (by decide) (by omega) 1 (.slice (some ⟨gn,0,none⟩) ns ns)),(((((hw.setCell (p:=⟨s+1+1,0,none⟩) (by show w.heap.size≤s+1+1;omega) (.slice (some ⟨gB,0,none⟩) ns ns)).setCell (p:=⟨s+1+1,1,none⟩) (by show w.heap.size≤s+1+1;omega) (.slice (some ⟨D1,0,none⟩) m m)).setCell (p:=⟨s+1+1,2,none⟩) (by show w.heap.size≤s+1+1;omega) (.slice (some ⟨D2,0,none⟩) m m)).setCell (p:=⟨s+1+1+1,0,none⟩) (by show w.heap.size≤s+1+1+1;omega) (.slice (some ⟨go,0,none⟩) lo lo)).setCell (p:=⟨s+1+1+1,1,none⟩) (by show w.heap.size≤s+1+1+1;omega) (.slice (some ⟨gn,0,none⟩) ns ns)),((e1.other (a:=⟨s+1+1+1,0,none⟩) (by show s+1+1+1≠s+1+1;omega) (.slice (some ⟨go,0,none⟩) lo lo)).other (a:=⟨s+1+1+1,1,none⟩) (by show s+1+1+1≠s+1+1;omega) (.slice (some ⟨gn,0,none⟩) ns ns)),e2⟩
 have hs13:BelW W13 W13:=Below.refl _ _
 have HRB:Hid (∀W,BelW W13 W→W.cell? ⟨s+1+1,0,none⟩=some (.slice none 0 0)∧W.cell? ⟨s+1+1,1,none⟩=some (.slice none 0 0)∧W.cell? ⟨s+1+1,2,none⟩=some (.slice none 0 0)∧W.cell? ⟨s+1+1+1,0,none⟩=some (.slice none 0 0)∧W.cell? ⟨s+1+1+1,1,none⟩=some (.slice none 0 0)∧(W.frozen? ⟨s+1+1,0,none⟩=false∧W.frozen? ⟨s+1+1,1,none⟩=false∧W.frozen? ⟨s+1+1,2,none⟩=false)∧W.frozen? ⟨s+1+1+1,0,none⟩=false∧W.frozen? ⟨s+1+1+1,1,none⟩=false):=Lib.hid fun W h=>by
  have ft:=HFT.out.below (joinB hbw13 h)
  have frr:=HFR.out.below (joinB hbw13 h)
  exact⟨ft.cell 0,ft.cell 1,ft.cell 2,frr.cell 0,frr.cell 1,⟨ft.frozen 0,ft.frozen 1,ft.frozen 2⟩,frr.frozen 0,frr.frozen 1⟩
 have HK11:Hid (∀w',BelW W13 w'→BelW w w'∧w'.cell? ⟨u,0,none⟩=some (.slice (some ⟨go,0,none⟩) lo lo)∧w'.cell? ⟨u,1,none⟩=some (.slice (some ⟨gn,0,none⟩) ns ns)∧w'.cell? ⟨gm,0,none⟩=some (.slice A0 n c0)∧w'.cell? ⟨gm,1,none⟩=some (.slice A1 n1 c1)∧w'.cell? ⟨gm,2,none⟩=some (.slice A2 m c2)∧w'.cell? ⟨gm,3,none⟩=some (.slice A3 n3 c3)∧w'.cell? ⟨gm,4,none⟩=some (.slice As0 ns d0)∧w'.cell? ⟨gm,5,none⟩=some (.slice As1 m d1)∧w'.cell? ⟨gm,6,none⟩=some (.slice As2 p2 d2)∧w'.cell? ⟨gm,7,none⟩=some (.slice (some ⟨g,0,none⟩) n n)):=Lib.hid fun w' h=>by
  obtain⟨r0,r1,z0,z1,z2,z3,z4,z5,z6,z7⟩:=HMU.out w' h
  exact⟨HB13.out w' h,r0,r1,z0,z1,z2,z3,z4,z5,z6,z7⟩
 have HSZ:Hid (∀W L,BelW W13 W→W.heap.size≤L→W13.heap.size≤L):=Lib.hid fun W L h hl=>Nat.le_trans (Below.size h) hl
 clear hb1213 hfu hb13 hbw13 hfm13 hns1 hvn13
 go_region_held3 (fun w'=>BelW w w'∧w'.cell? ⟨u,0,none⟩=some (.slice (some ⟨go,0,none⟩) lo lo)∧w'.cell? ⟨u,1,none⟩=some (.slice (some ⟨gn,0,none⟩) ns ns)∧w'.cell? ⟨gm,0,none⟩=some (.slice A0 n c0)∧w'.cell? ⟨gm,1,none⟩=some (.slice A1 n1 c1)∧w'.cell? ⟨gm,2,none⟩=some (.slice A2 m c2)∧w'.cell? ⟨gm,3,none⟩=some (.slice A3 n3 c3)∧w'.cell? ⟨gm,4,none⟩=some (.slice As0 ns d0)∧w'.cell? ⟨gm,5,none⟩=some (.slice As1 m d1)∧w'.cell? ⟨gm,6,none⟩=some (.slice As2 p2 d2)∧w'.cell? ⟨gm,7,none⟩=some (.slice (some ⟨g,0,none⟩) n n))
  ((first|(with_reducible exact h14a)|(with_reducible exact h14b)|(refine HK11.out _ ?_;with_reducible repeat (first|assumption|refine BelW.drew ?_|refine BelW.alloc ?_ _))))
  ((go_at_call 40;(refine Calls.mono (HNXT.out _ (BelW.drew hs13)) ?_)
    rintro e w14 ⟨gB,D1,D2,rfl,hvB,⟨L,hL,hst⟩,hb14⟩
    have hk14:BelW W13 w14:=BelW.trans (BelW.drew hs13) hb14
    have hL13:=HSZ.out _ L (BelW.drew hs13) hL
    obtain⟨h14a,h14b⟩:=HS3.out w14 gB D1 D2 hk14
    obtain⟨t0,t1,t2,t3,t4,⟨t5,t6,t7⟩,t8,t9⟩:=HRB.out w14 hk14))
 obtain⟨f1,f2,f3,f4,f5,f6,f7,f8⟩:=HF5.out w14 gB D1 D2 L hk14 hvB hL13 hst
 (try simp only[Exit.inBlock,Exit.then])
 have hgo:(outV c nets).length=lo:=HLO.out.symm
 have HFN:=Lib.hid (And.intro f1 (And.intro f2 (And.intro f3 (And.intro f4 (And.intro f5 f6)))))
 clear h14a h14b t0 t1 t2 t3 t4 t5 t6 t7 t8 t9 f1 f2 f3 f4 f5 f6
 go_wp2
 (try simp only[Exit.inBlock,Exit.then])
 refine bodyPost_ret (results_row2_tmp2 rfl _ _ _ _ _ _ _ _ _ _ _ _ rfl f7 rfl f8 Tryz.underlying45 rfl (by kernel_rfl) Tryz.underlying49 rfl (by kernel_rfl)) rfl ?_
 refine⟨R,gB,D1,D2,go,gn,g,HR.out.1,?_⟩
 rw[←HNE.out,hgo]
 exact⟨rfl,HFN.out.1,HFN.out.2.1,HFN.out.2.2.1,HFN.out.2.2.2.1,⟨L,HFN.out.2.2.2.2.1⟩,HFN.out.2.2.2.2.2⟩
theorem own_ne9{w:World}{b b':Nat}{e e':TypeId}{s s' n n':Nat}{v u:Value}{xs ys:List Value}(he:e≠e')(h:w.ownsRow b e s v n xs)(h':w.ownsRow b' e' s' u n' ys):u.ownBlock=none∨u.ownBlock≠v.ownBlock:=by
 rcases h'.2 with⟨rfl,-⟩| ⟨g',c',cur',rfl,-,hg',-⟩
 ·exact .inl rfl
 ·refine .inr fun e1=>?_
  rcases h.2 with⟨rfl,-⟩| ⟨g,c,cur,rfl,-,hg,-⟩
  ·simp[Value.ownBlock]at e1
  ·simp only[Value.ownBlock,Option.some.injEq]at e1
   rw[e1]at hg'
   have h2:=Option.some.inj (hg.symm.trans hg')
   injection h2 with _ h3 _
   exact he h3
theorem own_bel{w w':World}{b n s:Nat}{e:TypeId}{v:Value}{xs:List Value}(h:w.ownsRow b e s v n xs)(hb:BelW w w'):w'.ownsRow b e s v n xs:=by
 refine World.ownsRow.kept h (row:=none) ⟨hb.os,hb.tape,hb.output,hb.size,fun i hi _=>hb.block i hi⟩ ?_
 rcases ho:v.ownBlock with _|q
 ·exact .inl rfl
 ·exact .inr (by simp)
theorem own_set{w:World}{b g n s:Nat}{e t:TypeId}{v:Value}{xs cs:List Value}(h:w.ownsRow b e s v n xs)(hf:Fr w g t cs)(he:t≠e)(j:Nat)(x:Value):(w.setCell ⟨g,j,none⟩ x).ownsRow b e s v n xs:=by
 refine World.ownsRow.kept h (grown_v (g:=g) (World.grownBy.refl w _) j x) ?_
 rcases h.2 with⟨rfl,-⟩| ⟨g',c',cur',rfl,-,hg',-⟩
 ·exact .inl rfl
 ·refine .inr fun e1=>?_
  simp only[Value.ownBlock,Option.some.injEq]at e1
  subst e1
  unfold Fr at hf
  have h2:=Option.some.inj (hf.symm.trans hg')
  injection h2 with _ h3 _
  exact he h3
theorem VStk.keptT{w w':World}{B:Nat}{v:Value}{l:List Int}(h:VStk w B v l){b s n:Nat}{e:TypeId}{u:Value}{xs:List Value}(hu:w.ownsRow b e s u n xs)(q1:e≠77)(hg:w.grownBy w' u.ownBlock):VStk w' B v l:=World.ownsRow.kept h hg (own_ne9 q1 hu h)
theorem VStk.setF{w:World}{B:Nat}{v:Value}{l:List Int}(h:VStk w B v l){g:Nat}{t:TypeId}{cs:List Value}(hf:Fr w g t cs)(q1:t≠77)(j:Nat)(x:Value):VStk (w.setCell ⟨g,j,none⟩ x) B v l:=own_set h hf q1 j x
def WS(w:World)(B:Nat)(v:Value)(l:List (List Int)):Prop:=
 ∃vs:List Value,vs.length=l.length∧w.ownsRow B 41 1 v l.length vs∧∀j,j<l.length→∃A c,vs[j]? =some (.slice A (l.getD j []).length c)∧VStk w B (.slice A (l.getD j []).length c) (l.getD j [])
section
variable {w w':World} {B:Nat} {v v':Value} {l:List (List Int)}
theorem WS.nil(w:World)(B:Nat):WS w B (.slice none 0 0) []:=⟨[],rfl,World.ownsRow_nil _ _ _ _,fun j hj=>absurd hj (by simp)⟩
theorem WS.below(h:WS w B v l)(hb:BelW w w'):WS w' B v l:=by
 obtain⟨vs,h1,h2,h3⟩:=h
 exact⟨vs,h1,own_bel h2 hb,fun j hj=>by obtain⟨A,c,e,hp⟩:=h3 j hj;exact⟨A,c,e,hp.below hb⟩⟩
theorem WS.keptT(h:WS w B v l){b s n:Nat}{e:TypeId}{u:Value}{xs:List Value}(hu:w.ownsRow b e s u n xs)(q1:e≠41)(q2:e≠77)(hg:w.grownBy w' u.ownBlock):WS w' B v l:=by
 obtain⟨vs,h1,h2,h3⟩:=h
 exact⟨vs,h1,World.ownsRow.kept h2 hg (own_ne9 q1 hu h2),fun j hj=>by
  obtain⟨A,c,e,hp⟩:=h3 j hj
  exact⟨A,c,e,hp.keptT hu q2 hg⟩⟩
theorem WS.setF(h:WS w B v l){g:Nat}{t:TypeId}{cs:List Value}(hf:Fr w g t cs)(q1:t≠41)(q2:t≠77)(j:Nat)(x:Value):WS (w.setCell ⟨g,j,none⟩ x) B v l:=by
 obtain⟨vs,h1,h2,h3⟩:=h
 exact⟨vs,h1,own_set h2 hf q1 j x,fun j hj=>by
  obtain⟨A,c,e,hp⟩:=h3 j hj
  exact⟨A,c,e,hp.setF hf q2 _ x⟩⟩
theorem WS.add{vs:List Value}{p:List Int}{A:Option Addr}{c:Nat}(h1:vs.length=l.length)(h2:w.ownsRow B 41 1 v l.length vs)(h3:∀j,j<l.length→∃A c,vs[j]? =some (.slice A (l.getD j []).length c)∧VStk w B (.slice A (l.getD j []).length c) (l.getD j []))
 (hg:w.grownBy w' v.ownBlock) (ho:w'.ownsRow B 41 1 v' (l.length+1) (vs++[.slice A p.length c])) (hp:VStk w B (.slice A p.length c) p):WS w' B v' (l++[p]):=by
 have hlen:(l++[p]).length=l.length+1:=by simp
 refine⟨vs++[.slice A p.length c],by simp[h1],by rw[hlen];exact ho,fun j hj=>?_⟩
 by_cases hlt:j<l.length
 ·obtain⟨A',c',e,hp'⟩:=h3 j hlt
  have e2:(l++[p]).getD j []=l.getD j []:=by rw[List.getD_eq_getElem?_getD,List.getElem?_append_left hlt,←List.getD_eq_getElem?_getD]
  rw[e2]
  exact⟨A',c',by rw[List.getElem?_append_left (by omega)];exact e,hp'.keptT h2 (by decide) hg⟩
 ·obtain rfl:j=l.length:=by omega
  have e2:(l++[p]).getD l.length []=p:=by rw[List.getD_eq_getElem?_getD,List.getElem?_append_right (Nat.le_refl _),Nat.sub_self];rfl
  rw[e2]
  exact⟨A,c,by rw[List.getElem?_append_right (by omega),h1,Nat.sub_self];rfl,hp.keptT h2 (by decide) hg⟩
end
def WWS(w:World)(B:Nat)(v:Value)(l:List (List (List Int))):Prop:=
 ∃vs:List Value,vs.length=l.length∧w.ownsRow B 43 1 v l.length vs∧∀j,j<l.length→∃A c,vs[j]? =some (.slice A (l.getD j []).length c)∧WS w B (.slice A (l.getD j []).length c) (l.getD j [])
section
variable {w w':World} {B:Nat} {v v':Value} {l:List (List (List Int))}
theorem WWS.below(h:WWS w B v l)(hb:BelW w w'):WWS w' B v l:=by
 obtain⟨vs,h1,h2,h3⟩:=h
 exact⟨vs,h1,own_bel h2 hb,fun j hj=>by obtain⟨A,c,e,hp⟩:=h3 j hj;exact⟨A,c,e,hp.below hb⟩⟩
end
theorem WS.wds{w:World}{B:Nat}{v:Value}{l:List (List Int)}(h:WS w B v l):Wrds w w.heap.size v l:=by
 obtain⟨vs,h1,h2,h3⟩:=h
 rcases id h2.2 with⟨rfl,h0⟩| ⟨g,cap,cur,rfl,hb,hg,hle,hm,-⟩
 ·obtain rfl:l=[]:=List.eq_nil_of_length_eq_zero h0
  exact Arr.nil _ _ _ _ _
 ·refine⟨some ⟨g,0,none⟩,g,0,cap,rfl,fun _=>rfl,hle,Nat.le_trans hle hm,fun k hk=>⟨(World.ownsRow.lt h2 g rfl).2,?_⟩⟩
  obtain⟨A,c,e,hp⟩:=h3 k hk
  refine⟨A,c,?_,hp.ks⟩
  rw[Nat.zero_add,Nat.mul_one,World.ownsRow.cellAt h2 k (by omega),e]
theorem WWS.wwss{w:World}{B:Nat}{v:Value}{l:List (List (List Int))}(h:WWS w B v l):Wwss w w.heap.size v l:=by
 obtain⟨vs,h1,h2,h3⟩:=h
 rcases id h2.2 with⟨rfl,h0⟩| ⟨g,cap,cur,rfl,hb,hg,hle,hm,-⟩
 ·obtain rfl:l=[]:=List.eq_nil_of_length_eq_zero h0
  exact Arr.nil _ _ _ _ _
 ·refine⟨some ⟨g,0,none⟩,g,0,cap,rfl,fun _=>rfl,hle,Nat.le_trans hle hm,fun k hk=>⟨(World.ownsRow.lt h2 g rfl).2,?_⟩⟩
  obtain⟨A,c,e,hp⟩:=h3 k hk
  refine⟨A,c,?_,hp.wds⟩
  rw[Nat.zero_add,Nat.mul_one,World.ownsRow.cellAt h2 k (by omega),e]
end Go.Proofs.YtemjmfpcopfdbaaGreatDoor
