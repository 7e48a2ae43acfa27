/- The texts Eq2 Ag9 Ost. -/
import Derived.Test.YtemjmfpcopfdbaaGreatDoorM24
import Derived.Laws.EntriesVeiled
import Derived.Test.YtemjmfpcopfdbaaGreatDoorM23
namespace Go.Proofs.YtemjmfpcopfdbaaGreatDoor
open Go.RowKit
def relX{α:Type}(f:List α→List α→Bool)(l l':List (List α)):Bool:=l.length==l'.length&&(l.zip l').all fun q=>f q.1 q.2
def relW(p:Int→Int→Bool)(l l':List (List Int)):Bool:=relX (relL p) l l'
def relV(p:Int→Int→Bool)(l l':List (List (List Int))):Bool:=relX (relW p) l l'
def WwsAt(w:World)(B b p:Nat)(x:List (List Int)):Prop:=∃A c,w.cell? ⟨b,p,none⟩=some (.slice A x.length c)∧Wrds w B (.slice A x.length c) x
def Wwss(w:World)(B:Nat)(v:Value)(l:List (List (List Int))):Prop:=Arr [] 1 WwsAt w B v l
theorem stays_wws:Stays WwsAt:=fun w w' B B' b p x hb hB ⟨A,c,h1,h2⟩ hk=>⟨A,c,(hk ⟨b,p,none⟩ hb).trans h1,Arr.keep stays_wds h2 hB hk⟩
def Fits1(fit:Value)(p:Int→Int→Bool):Prop:=∀(l l':List Int) (s s':Value) (w:World) (B B':Nat),Ks w B s l→Ks w B' s' l'→Calls Tryz.prog 96 #[s,s',fit] w fun e w'=>e=.returned (.bool (relL p l l'))∧w'=w
theorem lists_any(fit:Value)(p:Int→Int→Bool)(hf:Fits1 fit p)(l l':List Int)(s s':Value)(q:Nat)(w:World)(B B':Nat)(h:Ks w B s l)(h':Ks w B' s' l')(hq:w.cell? ⟨q,0,none⟩=some fit):
 Calls Tryz.prog 95 #[s,s',.pointer (some ⟨q,0,none⟩)] w fun e w'=>e=.returned (.bool (relL p l l'))∧w'=w:=by
 have HF:=Lib.hid (hf l l' s s' w B B' h h')
 obtain⟨r,HR⟩:=named (relL p l l')
 rw[←HR.out]at HF ⊢
 clear hf h h'
 go_enter Tryz.func95,Tryz.ntmps95
 go_wp2_with (go_at_call 96;(with_reducible refine HF.out.mono ?_);rintro e w1 ⟨rfl,rfl⟩)
 go_ret
 exact⟨rfl,rfl⟩
set_option maxHeartbeats 2000000 in
theorem eqW_any(p:Int→Int→Bool)(l l':List (List Int))(s s':Value)(q:Nat)(w:World)(B B':Nat)(hB:B≤w.heap.size)(hB':B'≤w.heap.size)(h:Wrds w B s l)(h':Wrds w B' s' l')
 (HCL:Hid (∀x x' A n c A' n' c' W,BelW w W→Ks W W.heap.size (.slice A n c) x→Ks W W.heap.size (.slice A' n' c') x'→Calls Tryz.prog 95 #[.slice A n c,.slice A' n' c',.pointer (some ⟨q,0,none⟩)] W fun e w'=>e=.returned (.bool (relL p x x'))∧BelW W w')):
 Calls Tryz.prog 98 #[s,s',.func (.func 95) #[] #[.pointer (some ⟨q,0,none⟩)]] w fun e w'=>e=.returned (.bool (relX (relL p) l l'))∧BelW w w':=by
 obtain⟨y,HY⟩:=named (relX (relL p) l l')
 rw[←HY.out]
 obtain⟨A,b,o,c,rfl,hA,-,hm,hc⟩:=h
 obtain⟨A',b',o',c',rfl,hA',-,hm',hc'⟩:=h'
 unfold maxLen at hm hm'
 have HC:=Lib.hid hc
 have HC':=Lib.hid hc'
 have HAA:=Lib.hid hA
 have HAA':=Lib.hid hA'
 have HBB:=Lib.hid (And.intro hB hB')
 clear hc hc' hA hA' hB hB'
 obtain⟨n,hn⟩:∃n,n=l.length:=⟨_,rfl⟩
 obtain⟨n',hn'⟩:∃n',n'=l'.length:=⟨_,rfl⟩
 rw[←hn]at hm
 rw[←hn']at hm'
 rw[←hn,←hn']
 have HN:=Lib.hid hn
 have HN':=Lib.hid hn'
 clear hn hn'
 by_cases hnn:n=n'
 rotate_left
 ·have hv:y=false:=by rw[HY.out];unfold relX;rw[←HN.out,←HN'.out,beq_eq_false_iff_ne.2 hnn];rfl
  have hb:((n:Int) != (n':Int))=true:=by rw[bne_iff_ne];omega
  have HV:=Lib.hid hv
  clear hv hnn
  go_enter Tryz.func98,Tryz.ntmps98
  go_wp2
  go_ret
  exact⟨ret_bool (by rw[HV.out]),Below.refl _ _⟩
 subst hnn
 go_enter Tryz.func98,Tryz.ntmps98
 go_wp2
 go_loopw [17] (fun i wr=>BelW w wr∧∃k:Nat,k≤n∧i=.int .i64 k∧∀j,j<k→relL p (l.getD j []) (l'.getD j [])=true) (fun i _=>n-(intOf i).toNat)
 case atStart=>exact⟨Below.refl _ _,0,Nat.zero_le _,rfl,fun j hj=>absurd hj (by omega)⟩
 case round=>
  obtain⟨hbr,k,hk,rfl,hno⟩:=hrel
  have HNO:=Lib.hid hno
  clear hno
  by_cases hlt:k<n
  ·obtain rfl:=HAA.out (by rw[←HN.out];omega)
   obtain rfl:=HAA'.out (by rw[←HN'.out];omega)
   obtain⟨hlb,A4,c4,h0,h1⟩:=HC.out k (by rw[←HN.out];omega)
   obtain⟨hlb',A5,c5,h0',h1'⟩:=HC'.out k (by rw[←HN'.out];omega)
   rw[Nat.mul_one]at h0 h0'
   have e0:=(Below.cell hbr (p:=⟨b,o+k,none⟩) (Nat.lt_of_lt_of_le hlb HBB.out.1)).trans h0
   have e0':=(Below.cell hbr (p:=⟨b',o'+k,none⟩) (Nat.lt_of_lt_of_le hlb' HBB.out.2)).trans h0'
   have k1:Ks wr wr.heap.size (.slice A4 (l.getD k []).length c4) (l.getD k []):=Arr.keep stays_u8 h1 (Nat.le_trans HBB.out.1 (Below.size hbr)) fun _ hp=>Below.cell hbr (Nat.lt_of_lt_of_le hp HBB.out.1)
   have k1':Ks wr wr.heap.size (.slice A5 (l'.getD k []).length c5) (l'.getD k []):=Arr.keep stays_u8 h1' (Nat.le_trans HBB.out.2 (Below.size hbr)) fun _ hp=>Below.cell hbr (Nat.lt_of_lt_of_le hp HBB.out.2)
   have HCALL:=Lib.hid (HCL.out _ _ A4 _ c4 A5 _ c5 wr hbr k1 k1')
   clear h0 h0' h1 h1' k1 k1'
   generalize hx:l.getD k []=x at e0 HCALL
   generalize hx':l'.getD k []=x' at e0' HCALL
   have HX:=Lib.hid hx
   have HX':=Lib.hid hx'
   clear hx hx'
   obtain⟨r,HR⟩:=named (relL p x x')
   rw[←HR.out]at HCALL
   generalize x.length=nx at e0 HCALL
   generalize x'.length=nx' at e0' HCALL
   have HBR:=Lib.hid hbr
   clear hbr
   cases r
   ·go_wp2_with (go_at_call 95;(with_reducible refine HCALL.out.mono ?_);rintro e w1 ⟨rfl,hb⟩;have HB1:Hid (BelW wr w1):=Lib.hid hb;clear hb)
    go_ret
    exact⟨ret_bool (by rw[HY.out];exact (allEq_not [] (relL p) (j:=k) (by rw[←HN.out];omega) (HN.out.symm.trans HN'.out) (by rw[HX.out,HX'.out];exact HR.out.symm)).symm),joinB HBR.out HB1.out⟩
   ·go_wp2_with (go_at_call 95;(with_reducible refine HCALL.out.mono ?_);rintro e w1 ⟨rfl,hb⟩;have HB1:Hid (BelW wr w1):=Lib.hid hb;clear hb)
    go_roundw
    case rel=>
     refine⟨joinB HBR.out HB1.out,k+1,by omega,by go_num,fun j hj=>?_⟩
     by_cases hjk:j=k
     ·rw[hjk,HX.out,HX'.out];exact HR.out.symm
     ·exact HNO.out j (by omega)
    case measure=>simp[intOf];omega
  ·go_wp2
   go_ret
   exact⟨ret_bool (by rw[HY.out];exact (allEq_of [] (relL p) l l' (HN.out.symm.trans HN'.out) (fun j hj=>HNO.out j (by rw[←HN.out]at hj;omega))).symm),hbr⟩
theorem words_any(fit:Value)(p:Int→Int→Bool)(hf:Fits1 fit p)(l l':List (List Int))(s s':Value)(q qf:Nat)(w:World)(B B':Nat)(hB:B≤w.heap.size)(hB':B'≤w.heap.size)(h:Wrds w B s l)(h':Wrds w B' s' l')(hq:w.cell? ⟨q,0,none⟩=some (.func (.func 95) #[] #[.pointer (some ⟨qf,0,none⟩)])) (hqf:w.cell? ⟨qf,0,none⟩=some fit):
 Calls Tryz.prog 97 #[s,s',.pointer (some ⟨q,0,none⟩)] w fun e w'=>e=.returned (.bool (relW p l l'))∧BelW w w':=by
 have HF:=Lib.hid (eqW_any p l l' s s' qf w B B' hB hB' h h' (Lib.hid fun x x' A n c A' n' c' W hb k k'=>(lists_any fit p hf x x' _ _ qf W _ _ k k' ((Below.cell hb (p:=⟨qf,0,none⟩) (cell_lt hqf)).trans hqf)).mono fun e w' h=>⟨h.1,by rw[h.2];exact Below.refl _ _⟩))
 change Hid (Calls _ _ _ _ fun e w'=>e=.returned (.bool (relW p l l'))∧BelW w w') at HF
 obtain⟨r,HR⟩:=named (relW p l l')
 rw[←HR.out]at HF ⊢
 clear hf h h'
 go_enter Tryz.func97,Tryz.ntmps97
 go_wp2_with (go_at_call 98;(with_reducible refine HF.out.mono ?_);rintro e w1 ⟨rfl,hb⟩;have HB:Hid (BelW w w1):=Lib.hid hb;clear hb)
 go_ret
 exact⟨rfl,HB.out⟩
set_option maxHeartbeats 2000000 in
theorem eqV_any(p:Int→Int→Bool)(l l':List (List (List Int)))(s s':Value)(q:Nat)(w:World)(B B':Nat)(hB:B≤w.heap.size)(hB':B'≤w.heap.size)(h:Wwss w B s l)(h':Wwss w B' s' l')
 (HCL:Hid (∀x x' A n c A' n' c' W,BelW w W→Wrds W W.heap.size (.slice A n c) x→Wrds W W.heap.size (.slice A' n' c') x'→Calls Tryz.prog 97 #[.slice A n c,.slice A' n' c',.pointer (some ⟨q,0,none⟩)] W fun e w'=>e=.returned (.bool (relW p x x'))∧BelW W w')):
 Calls Tryz.prog 99 #[s,s',.func (.func 97) #[] #[.pointer (some ⟨q,0,none⟩)]] w fun e w'=>e=.returned (.bool (relX (relW p) l l'))∧BelW w w':=by
 obtain⟨y,HY⟩:=named (relX (relW p) l l')
 rw[←HY.out]
 obtain⟨A,b,o,c,rfl,hA,-,hm,hc⟩:=h
 obtain⟨A',b',o',c',rfl,hA',-,hm',hc'⟩:=h'
 unfold maxLen at hm hm'
 have HC:=Lib.hid hc
 have HC':=Lib.hid hc'
 have HAA:=Lib.hid hA
 have HAA':=Lib.hid hA'
 have HBB:=Lib.hid (And.intro hB hB')
 clear hc hc' hA hA' hB hB'
 obtain⟨n,hn⟩:∃n,n=l.length:=⟨_,rfl⟩
 obtain⟨n',hn'⟩:∃n',n'=l'.length:=⟨_,rfl⟩
 rw[←hn]at hm
 rw[←hn']at hm'
 rw[←hn,←hn']
 have HN:=Lib.hid hn
 have HN':=Lib.hid hn'
 clear hn hn'
 by_cases hnn:n=n'
 rotate_left
 ·have hv:y=false:=by rw[HY.out];unfold relX;rw[←HN.out,←HN'.out,beq_eq_false_iff_ne.2 hnn];rfl
  have hb:((n:Int) != (n':Int))=true:=by rw[bne_iff_ne];omega
  have HV:=Lib.hid hv
  clear hv hnn
  go_enter Tryz.func99,Tryz.ntmps99
  go_wp2
  go_ret
  exact⟨ret_bool (by rw[HV.out]),Below.refl _ _⟩
 subst hnn
 go_enter Tryz.func99,Tryz.ntmps99
 go_wp2
 go_loopw [17] (fun i wr=>BelW w wr∧∃k:Nat,k≤n∧i=.int .i64 k∧∀j,j<k→relW p (l.getD j []) (l'.getD j [])=true) (fun i _=>n-(intOf i).toNat)
 case atStart=>exact⟨Below.refl _ _,0,Nat.zero_le _,rfl,fun j hj=>absurd hj (by omega)⟩
 case round=>
  obtain⟨hbr,k,hk,rfl,hno⟩:=hrel
  have HNO:=Lib.hid hno
  clear hno
  by_cases hlt:k<n
  ·obtain rfl:=HAA.out (by rw[←HN.out];omega)
   obtain rfl:=HAA'.out (by rw[←HN'.out];omega)
   obtain⟨hlb,A4,c4,h0,h1⟩:=HC.out k (by rw[←HN.out];omega)
   obtain⟨hlb',A5,c5,h0',h1'⟩:=HC'.out k (by rw[←HN'.out];omega)
   rw[Nat.mul_one]at h0 h0'
   have e0:=(Below.cell hbr (p:=⟨b,o+k,none⟩) (Nat.lt_of_lt_of_le hlb HBB.out.1)).trans h0
   have e0':=(Below.cell hbr (p:=⟨b',o'+k,none⟩) (Nat.lt_of_lt_of_le hlb' HBB.out.2)).trans h0'
   have k1:Wrds wr wr.heap.size (.slice A4 (l.getD k []).length c4) (l.getD k []):=Arr.keep stays_wds h1 (Nat.le_trans HBB.out.1 (Below.size hbr)) fun _ hp=>Below.cell hbr (Nat.lt_of_lt_of_le hp HBB.out.1)
   have k1':Wrds wr wr.heap.size (.slice A5 (l'.getD k []).length c5) (l'.getD k []):=Arr.keep stays_wds h1' (Nat.le_trans HBB.out.2 (Below.size hbr)) fun _ hp=>Below.cell hbr (Nat.lt_of_lt_of_le hp HBB.out.2)
   have HCALL:=Lib.hid (HCL.out _ _ A4 _ c4 A5 _ c5 wr hbr k1 k1')
   clear h0 h0' h1 h1' k1 k1'
   generalize hx:l.getD k []=x at e0 HCALL
   generalize hx':l'.getD k []=x' at e0' HCALL
   have HX:=Lib.hid hx
   have HX':=Lib.hid hx'
   clear hx hx'
   obtain⟨r,HR⟩:=named (relW p x x')
   rw[←HR.out]at HCALL
   generalize x.length=nx at e0 HCALL
   generalize x'.length=nx' at e0' HCALL
   have HBR:=Lib.hid hbr
   clear hbr
   cases r
   ·go_wp2_with (go_at_call 97;(with_reducible refine HCALL.out.mono ?_);rintro e w1 ⟨rfl,hb⟩;have HB1:Hid (BelW wr w1):=Lib.hid hb;clear hb)
    go_ret
    exact⟨ret_bool (by rw[HY.out];exact (allEq_not [] (relW p) (j:=k) (by rw[←HN.out];omega) (HN.out.symm.trans HN'.out) (by rw[HX.out,HX'.out];exact HR.out.symm)).symm),joinB HBR.out HB1.out⟩
   ·go_wp2_with (go_at_call 97;(with_reducible refine HCALL.out.mono ?_);rintro e w1 ⟨rfl,hb⟩;have HB1:Hid (BelW wr w1):=Lib.hid hb;clear hb)
    go_roundw
    case rel=>
     refine⟨joinB HBR.out HB1.out,k+1,by omega,by go_num,fun j hj=>?_⟩
     by_cases hjk:j=k
     ·rw[hjk,HX.out,HX'.out];exact HR.out.symm
     ·exact HNO.out j (by omega)
    case measure=>simp[intOf];omega
  ·go_wp2
   go_ret
   exact⟨ret_bool (by rw[HY.out];exact (allEq_of [] (relW p) l l' (HN.out.symm.trans HN'.out) (fun j hj=>HNO.out j (by rw[←HN.out]at hj;omega))).symm),hbr⟩
structure Stt where
 dff:List Int
 words:List (List (List Int))
 read:List (List Int)
structure StR(w:World)(B:Nat)(A0 A1 A2:Option Addr)(n0 n1 n2 c0 c1 c2:Nat)(s:Stt):Prop where
 sd:Ks w B (.slice A0 n0 c0) s.dff
 sw:Wwss w B (.slice A1 n1 c1) s.words
 sr:Wrds w B (.slice A2 n2 c2) s.read
theorem StR.keep{w w':World}{B B':Nat}{A0 A1 A2:Option Addr}{n0 n1 n2 c0 c1 c2:Nat}{s:Stt}(h:StR w B A0 A1 A2 n0 n1 n2 c0 c1 c2 s)(hB:B≤w.heap.size)(hb:BelW w w')(hB':B≤B'):StR w' B' A0 A1 A2 n0 n1 n2 c0 c1 c2 s:=
 ⟨Arr.keep stays_u8 h.sd hB' fun _ hp=>Below.cell hb (Nat.lt_of_lt_of_le hp hB),Arr.keep stays_wws h.sw hB' fun _ hp=>Below.cell hb (Nat.lt_of_lt_of_le hp hB),Arr.keep stays_wds h.sr hB' fun _ hp=>Below.cell hb (Nat.lt_of_lt_of_le hp hB)⟩
def relS(p:Int→Int→Bool)(a b:Stt):Bool:=relL p a.dff b.dff&&relV p a.words b.words&&relW p a.read b.read
theorem relL_refl(p:Int→Int→Bool)(h:∀x,p x x=true)(l:List Int):relL p l l=true:=allEq_of 0 p l l rfl fun _ _=>h _
theorem relW_refl(p:Int→Int→Bool)(h:∀x,p x x=true)(l:List (List Int)):relW p l l=true:=allEq_of [] (relL p) l l rfl fun _ _=>relL_refl p h _
theorem relV_refl(p:Int→Int→Bool)(h:∀x,p x x=true)(l:List (List (List Int))):relV p l l=true:=allEq_of [] (relW p) l l rfl fun _ _=>relW_refl p h _
theorem relS_refl(p:Int→Int→Bool)(h:∀x,p x x=true)(a:Stt):relS p a a=true:=by unfold relS;rw[relL_refl p h,relW_refl p h,relV_refl p h];rfl
set_option maxRecDepth 100000 in
set_option maxHeartbeats 4000000 in
theorem agree_any(fn:Nat)(p:Int→Int→Bool)(hf:Fits1 (.func (.func fn) #[] #[]) p) (a b:Stt) (A0a A1a A2a A0b A1b A2b:Option Addr) (n0a n1a n2a c0a c1a c2a n0b n1b n2b c0b c1b c2b:Nat) (w:World) (B:Nat) (hB:B≤w.heap.size) (ha:StR w B A0a A1a A2a n0a n1a n2a c0a c1a c2a a) (hb:StR w B A0b A1b A2b n0b n1b n2b c0b c1b c2b b):
 Calls Tryz.prog 48 #[.agg #[.slice A0a n0a c0a,.slice A1a n1a c1a,.slice A2a n2a c2a],.agg #[.slice A0b n0b c0b,.slice A1b n1b c1b,.slice A2b n2b c2b],.func (.func fn) #[] #[]] w fun e w'=>e=.returned (.bool (relS p a b))∧BelW w w':=by
 obtain⟨W4,HW4⟩:=named ((((w.alloc (.cells #[.slice A0a n0a c0a,.slice A1a n1a c1a,.slice A2a n2a c2a] 45)).alloc (.cells #[.slice A0b n0b c0b,.slice A1b n1b c1b,.slice A2b n2b c2b] 45)).alloc (.cells #[.func (.func fn) #[] #[]] 103)).alloc (.cells #[.func (.func 95) #[] #[.pointer (some ⟨w.heap.size+2,0,none⟩)]] 141))
 have hb4:BelW w W4:=by rw[HW4.out];exact below_new (below_new (below_new (below_new (Below.refl _ _) _) _) _) _
 have hfa:Fr W4 w.heap.size 45 [.slice A0a n0a c0a,.slice A1a n1a c1a,.slice A2a n2a c2a]:=by rw[HW4.out];exact Fr.alloc (Fr.alloc (Fr.alloc (Fr.made _ [.slice A0a n0a c0a,.slice A1a n1a c1a,.slice A2a n2a c2a] _ rfl) _) _) _
 have hfb:Fr W4 (w.heap.size+1) 45 [.slice A0b n0b c0b,.slice A1b n1b c1b,.slice A2b n2b c2b]:=by rw[HW4.out];exact Fr.alloc (Fr.alloc (Fr.made _ [.slice A0b n0b c0b,.slice A1b n1b c1b,.slice A2b n2b c2b] _ (by simp)) _) _
 have hff:Fr W4 (w.heap.size+2) 103 [.func (.func fn) #[] #[]]:=by rw[HW4.out];exact Fr.alloc (Fr.made _ [.func (.func fn) #[] #[]] _ (by simp)) _
 have hfl:Fr W4 (w.heap.size+3) 141 [.func (.func 95) #[] #[.pointer (some ⟨w.heap.size+2,0,none⟩)]]:=by rw[HW4.out];exact Fr.made _ [.func (.func 95) #[] #[.pointer (some ⟨w.heap.size+2,0,none⟩)]] _ (by simp)
 have HSA:=Lib.hid (fun W (h:BelW W4 W)=>ha.keep hB (joinB hb4 h) (Nat.le_trans hB (Below.size (joinB hb4 h))))
 have HSB:=Lib.hid (fun W (h:BelW W4 W)=>hb.keep hB (joinB hb4 h) (Nat.le_trans hB (Below.size (joinB hb4 h))))
 obtain⟨r1,H1⟩:=named (relL p a.dff b.dff)
 obtain⟨r2,H2⟩:=named (relV p a.words b.words)
 obtain⟨r3,H3⟩:=named (relW p a.read b.read)
 have HRS:Hid (relS p a b=(r1&&r2&&r3)):=Lib.hid (by rw[H1.out,H2.out,H3.out];rfl)
 have HC1:Hid (∀W,BelW W4 W→Calls Tryz.prog 95 #[.slice A0a n0a c0a,.slice A0b n0b c0b,.pointer (some ⟨w.heap.size+2,0,none⟩)] W fun e w'=>e=.returned (.bool r1)∧w'=W):=Lib.hid fun W h=>by
  rw[H1.out]
  exact lists_any _ p hf a.dff b.dff _ _ _ W _ _ (HSA.out W h).sd (HSB.out W h).sd ((hff.below h).cell 0)
 have HC3:Hid (∀W,BelW W4 W→Calls Tryz.prog 97 #[.slice A2a n2a c2a,.slice A2b n2b c2b,.pointer (some ⟨w.heap.size+3,0,none⟩)] W fun e w'=>e=.returned (.bool r3)∧BelW W w'):=Lib.hid fun W h=>by
  rw[H3.out]
  exact words_any _ p hf a.read b.read _ _ _ _ W W.heap.size W.heap.size (Nat.le_refl _) (Nat.le_refl _) (HSA.out W h).sr (HSB.out W h).sr ((hfl.below h).cell 0) ((hff.below h).cell 0)
 have HC2:Hid (∀W,BelW W4 W→Calls Tryz.prog 99 #[.slice A1a n1a c1a,.slice A1b n1b c1b,.func (.func 97) #[] #[.pointer (some ⟨w.heap.size+3,0,none⟩)]] W fun e w'=>e=.returned (.bool r2)∧BelW W w'):=Lib.hid fun W h=>by
  rw[H2.out]
  exact eqV_any p a.words b.words _ _ _ W W.heap.size W.heap.size (Nat.le_refl _) (Nat.le_refl _) (HSA.out W h).sw (HSB.out W h).sw (Lib.hid fun x x' A n c A' n' c' W' hb' k k'=>words_any _ p hf x x' _ _ _ _ W' W'.heap.size W'.heap.size (Nat.le_refl _) (Nat.le_refl _) k k' ((hfl.below (joinB h hb')).cell 0) ((hff.below (joinB h hb')).cell 0))
 have x0:=hfa.cell 0
 have x1:=hfa.cell 1
 have x2:=hfa.cell 2
 have y0:=hfb.cell 0
 have y1:=hfb.cell 1
 have y2:=hfb.cell 2
 have z0:=hfl.cell 0
 have HCE:Hid (∀W,BelW W4 W→W.cell? ⟨w.heap.size,2,none⟩=some (.slice A2a n2a c2a)∧W.cell? ⟨w.heap.size+1,2,none⟩=some (.slice A2b n2b c2b)):=Lib.hid fun W h=>⟨(hfa.below h).cell 2,(hfb.below h).cell 2⟩
 have HB4:=Lib.hid hb4
 have h40:BelW W4 W4:=Below.refl _ _
 clear hf ha hb hfa hfb hff hfl hb4 HSA HSB
 rw[HRS.out]
 go_enter Tryz.func48,Tryz.ntmps48
 go_upto_region 3 with (fail)
 rw[←HW4.out]
 cases r1
 ·go_wp2_with (go_at_call 95;(with_reducible refine (HC1.out _ h40).mono ?_);rintro e w5 ⟨rfl,hw5⟩;obtain rfl:W4=w5:=hw5.symm)
  go_ret
  exact⟨rfl,HB4.out⟩
 ·cases r2
  ·go_wp2_with (first
    |(go_at_call 95;(with_reducible refine (HC1.out _ h40).mono ?_);rintro e w5 ⟨rfl,hw5⟩;obtain rfl:W4=w5:=hw5.symm)
    |(go_at_call 99;(with_reducible refine (HC2.out _ h40).mono ?_);rintro e w6 ⟨rfl,hb6⟩;have HB6:Hid (BelW W4 w6):=Lib.hid hb6;clear hb6))
   go_ret
   exact⟨rfl,joinB HB4.out HB6.out⟩
  ·go_wp2_with (first
    |(go_at_call 95;(with_reducible refine (HC1.out _ h40).mono ?_);rintro e w5 ⟨rfl,hw5⟩;obtain rfl:W4=w5:=hw5.symm)
    |(go_at_call 99;(with_reducible refine (HC2.out _ h40).mono ?_);rintro e w6 ⟨rfl,hb6⟩;have HB6:Hid (BelW W4 w6):=Lib.hid hb6;obtain⟨u1,u2⟩:=HCE.out w6 hb6;clear hb6)
    |(go_at_call 97;(with_reducible refine (HC3.out _ HB6.out).mono ?_);rintro e w7 ⟨rfl,hb7⟩;have HB7:Hid (BelW w6 w7):=Lib.hid hb7;clear hb7))
   go_ret
   exact⟨by first|rfl|(cases r3<;>rfl),joinB HB4.out (joinB HB6.out HB7.out)⟩
theorem msame_any(a b:Stt)(A0a A1a A2a A0b A1b A2b:Option Addr)(n0a n1a n2a c0a c1a c2a n0b n1b n2b c0b c1b c2b:Nat)(w:World)(B:Nat)(hB:B≤w.heap.size)(ha:StR w B A0a A1a A2a n0a n1a n2a c0a c1a c2a a)(hb:StR w B A0b A1b A2b n0b n1b n2b c0b c1b c2b b):
 Calls Tryz.prog 15 #[.agg #[.slice A0a n0a c0a,.slice A1a n1a c1a,.slice A2a n2a c2a],.agg #[.slice A0b n0b c0b,.slice A1b n1b c1b,.slice A2b n2b c2b]] w fun e w'=>e=.returned (.bool (relS eqI a b))∧BelW w w':=by
 have hb2:BelW w ((w.alloc (.cells #[.slice A0a n0a c0a,.slice A1a n1a c1a,.slice A2a n2a c2a] 45)).alloc (.cells #[.slice A0b n0b c0b,.slice A1b n1b c1b,.slice A2b n2b c2b] 45)):=below_new (below_new (Below.refl _ _) _) _
 have HC:=Lib.hid (agree_any 49 eqI (fun l l' s s' w B B' h h'=>meqS_any l l' s s' w B B' h h') a b A0a A1a A2a A0b A1b A2b n0a n1a n2a c0a c1a c2a n0b n1b n2b c0b c1b c2b _ B (Nat.le_trans hB (Below.size hb2)) (ha.keep hB hb2 (Nat.le_refl _)) (hb.keep hB hb2 (Nat.le_refl _)))
 have HB2:=Lib.hid hb2
 obtain⟨r,HR⟩:=named (relS eqI a b)
 rw[←HR.out]at HC ⊢
 clear ha hb hb2
 go_enter Tryz.func15,Tryz.ntmps15
 go_wp2_with (go_at_call 48;(with_reducible refine HC.out.mono ?_);rintro e w5 ⟨rfl,hb⟩;have HB:Hid (BelW w w5):=Lib.hid (joinB HB2.out hb);clear hb)
 go_ret
 exact⟨rfl,HB.out⟩
theorem SRow.other{w:World}{D m k T:Nat}{f:Nat→List Int}(h:SRow w D f m k T){a:Addr}(ha:a.block<D)(x:Value):SRow (w.setCell a x) D f m k T:=by
 obtain⟨vs,gf,h1,h2,h3,h4⟩:=h
 exact⟨vs,gf,h1.other (by omega) x,h2,fun j hj=>by
  obtain⟨e,v,n,t⟩:=h3 j hj
  exact⟨e,v.other (by omega) x,n,t⟩,h4⟩
theorem Fr.apart9{w:World}{g g':Nat}{t t':TypeId}{cs cs':List Value}(h:Fr w g t cs)(h':Fr w g' t' cs')(ht:t≠t'):g≠g':=fun e=>by
 subst e
 unfold Fr at h h'
 rw[h]at h'
 simp only[Option.some.injEq,Obj.cells.injEq]at h'
 exact ht h'.2.1
theorem VRow.fr{w:World}{g:Nat}{l:List Int}(h:VRow w g l):Fr w g 77 (l.map (Value.int .u8)):=vrow_heap h
structure OSt(w:World)(D1 D2 L m:Nat)(nw:Nat→Nat)(fw:Nat→Nat→List Int)(fr:Nat→List Int)(k1 k2:Nat):Prop where
 r1:∃vs:List Value,Fr w D1 43 vs∧vs.length=m∧∀j,j<k1→∃D T,vs[j]? =some (.slice (some ⟨D,0,none⟩) (nw j) (nw j))∧SRow w D (fw j) (nw j) (nw j) T∧L≤D
 r2:∃vs:List Value,Fr w D2 41 vs∧vs.length=m∧∀j,j<k2→∃g,vs[j]? =some (.slice (some ⟨g,0,none⟩) (fr j).length (fr j).length)∧VRow w g (fr j)
 d1:D1<L
 d2:D2<L
 ne:D1≠D2
section
variable {w w':World} {D1 D2 L m k1 k2:Nat} {nw:Nat→Nat} {fw:Nat→Nat→List Int} {fr:Nat→List Int}
theorem OSt.below(h:OSt w D1 D2 L m nw fw fr k1 k2)(hb:BelW w w'):OSt w' D1 D2 L m nw fw fr k1 k2:=by
 obtain⟨⟨vs,a1,a2,a3⟩,⟨us,b1,b2,b3⟩,d1,d2,ne⟩:=h
 exact⟨⟨vs,a1.below hb,a2,fun j hj=>by
  obtain⟨D,T,e,s,l⟩:=a3 j hj
  exact⟨D,T,e,s.below hb,l⟩⟩,⟨us,b1.below hb,b2,fun j hj=>by
  obtain⟨g,e,s⟩:=b3 j hj
  exact⟨g,e,s.below hb⟩⟩,d1,d2,ne⟩
theorem OSt.lt(h:OSt w D1 D2 L m nw fw fr k1 k2):D1<w.heap.size∧D2<w.heap.size:=by
 obtain⟨⟨vs,a1,-⟩,⟨us,b1,-⟩,-⟩:=h
 exact⟨a1.lt,b1.lt⟩
theorem OSt.there(h:OSt w D1 D2 L m nw fw fr k1 k2){j:Nat}(hj:j<m):(∃u,w.cell? ⟨D1,j,none⟩=some u)∧∃u,w.cell? ⟨D2,j,none⟩=some u:=by
 obtain⟨⟨vs,a1,a2,-⟩,⟨us,b1,b2,-⟩,-⟩:=h
 exact⟨⟨vs[j],by rw[a1.cell,List.getElem?_eq_getElem (by omega)]⟩,⟨us[j],by rw[b1.cell,List.getElem?_eq_getElem (by omega)]⟩⟩
theorem OSt.frozen(h:OSt w D1 D2 L m nw fw fr k1 k2)(j:Nat):w.frozen? ⟨D1,j,none⟩=false∧w.frozen? ⟨D2,j,none⟩=false:=by
 obtain⟨⟨vs,a1,-⟩,⟨us,b1,-⟩,-⟩:=h
 exact⟨a1.frozen j,b1.frozen j⟩
theorem OSt.set1(h:OSt w D1 D2 L m nw fw fr k1 k2)(hk:k1<m){D T:Nat}(s:SRow w D (fw k1) (nw k1) (nw k1) T)(l:L≤D):OSt (w.setCell ⟨D1,k1,none⟩ (.slice (some ⟨D,0,none⟩) (nw k1) (nw k1))) D1 D2 L m nw fw fr (k1+1) k2:=by
 obtain⟨⟨vs,a1,a2,a3⟩,⟨us,b1,b2,b3⟩,d1,d2,ne⟩:=h
 refine⟨⟨vs.set k1 (.slice (some ⟨D,0,none⟩) (nw k1) (nw k1)),a1.set _ _,by rw[List.length_set];exact a2,fun j hj=>?_⟩,⟨us,b1.other (a:=⟨D1,k1,none⟩) (by show D1≠D2;exact ne) _,b2,fun j hj=>?_⟩,d1,d2,ne⟩
 ·by_cases e:j=k1
  ·subst e
   exact⟨D,T,by rw[List.getElem?_set];simp[a2,hk],s.other (a:=⟨D1,_,none⟩) (by show D1<D;omega) _,l⟩
  ·obtain⟨D',T',e',s',l'⟩:=a3 j (by omega)
   exact⟨D',T',by rw[List.getElem?_set,if_neg (by omega)];exact e',s'.other (a:=⟨D1,_,none⟩) (by show D1<D';omega) _,l'⟩
 ·obtain⟨g,e,v⟩:=b3 j hj
  exact⟨g,e,v.other (a:=⟨D1,k1,none⟩) (a1.apart9 v.fr (by decide)) _⟩
theorem OSt.set2(h:OSt w D1 D2 L m nw fw fr k1 k2)(hk:k2<m){g:Nat}(v:VRow w g (fr k2)):OSt (w.setCell ⟨D2,k2,none⟩ (.slice (some ⟨g,0,none⟩) (fr k2).length (fr k2).length)) D1 D2 L m nw fw fr k1 (k2+1):=by
 obtain⟨⟨vs,a1,a2,a3⟩,⟨us,b1,b2,b3⟩,d1,d2,ne⟩:=h
 refine⟨⟨vs,a1.other (a:=⟨D2,k2,none⟩) (by show D2≠D1;omega) _,a2,fun j hj=>?_⟩,⟨us.set k2 (.slice (some ⟨g,0,none⟩) (fr k2).length (fr k2).length),b1.set _ _,by rw[List.length_set];exact b2,fun j hj=>?_⟩,d1,d2,ne⟩
 ·obtain⟨D',T',e',s',l'⟩:=a3 j hj
  exact⟨D',T',e',s'.other (a:=⟨D2,_,none⟩) (by show D2<D';omega) _,l'⟩
 ·by_cases e:j=k2
  ·subst e
   exact⟨g,by rw[List.getElem?_set];simp[b2,hk],v.other (a:=⟨D2,_,none⟩) (b1.apart9 v.fr (by decide)) _⟩
  ·obtain⟨g',e',v'⟩:=b3 j (by omega)
   exact⟨g',by rw[List.getElem?_set,if_neg (by omega)];exact e',v'.other (a:=⟨D2,_,none⟩) (b1.apart9 v'.fr (by decide)) _⟩
theorem OSt.start{v1 v2:List Value}(h1:Fr w D1 43 v1)(h2:Fr w D2 41 v2)(l1:v1.length=m)(l2:v2.length=m)(d1:D1<L)(d2:D2<L)(ne:D1≠D2):OSt w D1 D2 L m nw fw fr 0 0:=
 ⟨⟨v1,h1,l1,fun j hj=>absurd hj (by omega)⟩,⟨v2,h2,l2,fun j hj=>absurd hj (by omega)⟩,d1,d2,ne⟩
theorem OSt.reads(h:OSt w D1 D2 L m nw fw fr m m)(hm:m≤maxLen)(hn:∀j,j<m→nw j≤maxLen):Wwss w w.heap.size (.slice (some ⟨D1,0,none⟩) m m) ((List.range m).map fun j=>(List.range (nw j)).map (fw j))∧Wrds w w.heap.size (.slice (some ⟨D2,0,none⟩) m m) ((List.range m).map fr):=by
 obtain⟨⟨vs,a1,a2,a3⟩,⟨us,b1,b2,b3⟩,-,-,-⟩:=h
 constructor
 ·refine⟨_,D1,0,m,by rw[List.length_map,List.length_range],fun _=>rfl,by simp,by simpa using hm,fun k hk=>⟨a1.lt,?_⟩⟩
  have hkm:k<m:=by simpa using hk
  have e:((List.range m).map fun j=>(List.range (nw j)).map (fw j)).getD k []=(List.range (nw k)).map (fw k):=by simp[hkm,List.getD_eq_getElem?_getD]
  rw[e,Nat.mul_one,Nat.zero_add]
  obtain⟨D,T,e1,s,-⟩:=a3 k hkm
  obtain⟨gf,g1,-⟩:=s.open
  refine⟨_,nw k,by rw[List.length_map,List.length_range,a1.cell,e1],?_⟩
  refine⟨_,D,0,nw k,by rw[List.length_map,List.length_range],fun _=>rfl,by simp,by simpa using hn k hkm,fun i hi=>⟨s.lt,?_⟩⟩
  have him:i<nw k:=by simpa using hi
  have e2:((List.range (nw k)).map (fw k)).getD i []=fw k i:=by simp[him,List.getD_eq_getElem?_getD]
  rw[e2,Nat.mul_one,Nat.zero_add]
  obtain⟨c1,c2,-⟩:=g1 i him
  exact⟨_,_,c1,c2.ks⟩
 ·refine⟨_,D2,0,m,by rw[List.length_map,List.length_range],fun _=>rfl,by simp,by simpa using hm,fun k hk=>⟨b1.lt,?_⟩⟩
  have hkm:k<m:=by simpa using hk
  have e:((List.range m).map fr).getD k []=fr k:=by simp[hkm,List.getD_eq_getElem?_getD]
  rw[e,Nat.mul_one,Nat.zero_add]
  obtain⟨g,e1,v⟩:=b3 k hkm
  exact⟨_,_,by rw[b1.cell,e1],v.ks⟩
end
theorem mk_run{t e:TypeId}{ti:TypeInfo}{z:Value}(h1: Tryz.prog.underlying t=some (.slice e))(h2: Tryz.prog.info? e=some ti)(h3:ti.zero=some z)(n:Nat)(hb:ti.bytes*n≤281474976710656)(hn:n≤1000000)(w:World):
 (Instr.makeSlice t (.int .i64 (n:Int)) (.int .i64 (n:Int))).run Tryz.prog w=.ok (.slice (some ⟨w.heap.size,0,none⟩) n n) (w.alloc (.cells (madeCells z.cells (n*ti.size)) e)):=by
 have key:=run_make (P:=Tryz.prog) w t e ti z h1 h2 h3 .i64 .i64 (n:Int) (n:Int) (by omega) (by omega) (by have:=Int.ofNat_le.2 hb;rwa [Int.natCast_mul]at this) (by omega)
 simpa using key
theorem info_wds:(Tryz.prog.info? 43).map (fun i=>(i.zero,i.size,i.bytes))=some (some (.slice none 0 0),1,24):=by kernel_rfl
end Go.Proofs.YtemjmfpcopfdbaaGreatDoor
