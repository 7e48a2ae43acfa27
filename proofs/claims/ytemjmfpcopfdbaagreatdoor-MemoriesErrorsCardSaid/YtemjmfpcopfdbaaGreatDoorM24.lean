/- The texts Eqf Eq1. -/
import Derived.Test.YtemjmfpcopfdbaaGreatDoorM01
import Derived.Test.YtemjmfpcopfdbaaGreatDoorM11
import Derived.Test.YtemjmfpcopfdbaaGreatDoorM03
import Derived.Test.YtemjmfpcopfdbaaGreatDoorM05
import Derived.Test.YtemjmfpcopfdbaaGreatDoorM21
namespace Go.Proofs.YtemjmfpcopfdbaaGreatDoor
open Go.RowKit
theorem allEq_of{α:Type}(d:α)(f:α→α→Bool):∀(l l':List α),l.length=l'.length→(∀j,j<l.length→f (l.getD j d) (l'.getD j d)=true)→(l.length==l'.length&&(l.zip l').all fun p=>f p.1 p.2)=true:=by
 intro l l' hl h
 simp only[hl,BEq.rfl,Bool.true_and,List.all_eq_true]
 intro p hp
 obtain⟨j,hj,rfl⟩:=List.mem_iff_getElem.1 hp
 rw[List.length_zip]at hj
 have:=h j (by omega)
 simpa [List.getD_eq_getElem?_getD,List.getElem?_eq_getElem (show j<l.length by omega),List.getElem?_eq_getElem (show j<l'.length by omega)]using this
theorem allEq_not{α:Type}(d:α)(f:α→α→Bool){l l':List α}{j:Nat}(hj:j<l.length)(hl:l.length=l'.length)(h:f (l.getD j d) (l'.getD j d)=false):(l.length==l'.length&&(l.zip l').all fun p=>f p.1 p.2)=false:=by
 cases he:(l.length==l'.length&&(l.zip l').all fun p=>f p.1 p.2)
 ·rfl
 ·simp only[Bool.and_eq_true,List.all_eq_true]at he
  have hz:j<(l.zip l').length:=by rw[List.length_zip];omega
  have:=he.2 _ (List.getElem_mem hz)
  rw[List.getElem_zip]at this
  rw[List.getD_eq_getElem?_getD,List.getD_eq_getElem?_getD,List.getElem?_eq_getElem hj,List.getElem?_eq_getElem (by omega)]at h
  simp only[Option.getD_some]at h
  rw[h]at this
  cases this
def relL(p:Int→Int→Bool)(l l':List Int):Bool:=l.length==l'.length&&(l.zip l').all fun q=>p q.1 q.2
def eqI(a b:Int):Bool:=a==b
theorem meq_any(a b:Int)(w:World):Calls Tryz.prog 49 #[.int .u8 a,.int .u8 b] w fun e w'=>e=.returned (.bool (eqI a b))∧w'=w:=by
 obtain⟨r,HR⟩:=named (eqI a b)
 have hr:r=(a==b):=HR.out
 rw[←HR.out]
 have HR2:=Lib.hid hr
 clear hr
 go_enter Tryz.func49,Tryz.ntmps49
 go_wp2
 go_ret
 exact⟨ret_bool HR2.out.symm,rfl⟩
set_option maxHeartbeats 2000000 in
theorem meqS_any(l l':List Int)(s s':Value)(w:World)(B B':Nat)(h:Ks w B s l)(h':Ks w B' s' l'):
 Calls Tryz.prog 96 #[s,s',.func (.func 49) #[] #[]] w fun e w'=>e=.returned (.bool (relL eqI l l'))∧w'=w:=by
 obtain⟨y,HY⟩:=named (relL eqI l l')
 rw[←HY.out]
 obtain⟨A,b,o,c,rfl,hA,-,hm,hc⟩:=h.opens
 obtain⟨A',b',o',c',rfl,hA',-,hm',hc'⟩:=h'.opens
 unfold maxLen at hm hm'
 have HC:=Lib.hid hc
 have HC':=Lib.hid hc'
 have HAA:=Lib.hid hA
 have HAA':=Lib.hid hA'
 have HCL:=Lib.hid meq_any
 clear hc hc' hA hA' h h'
 obtain⟨n,hn⟩:∃n,n=l.length:=⟨_,rfl⟩
 obtain⟨n',hn'⟩:∃n',n'=l'.length:=⟨_,rfl⟩
 rw[←hn]at hm
 rw[←hn']at hm'
 rw[←hn,←hn']
 have HN:=Lib.hid hn
 have HN':=Lib.hid hn'
 clear hn hn'
 by_cases hnn:n=n'
 rotate_left
 ·have hv:y=false:=by rw[HY.out];unfold relL;rw[←HN.out,←HN'.out,beq_eq_false_iff_ne.2 hnn];rfl
  have hb:((n:Int) != (n':Int))=true:=by rw[bne_iff_ne];omega
  have HV:=Lib.hid hv
  clear hv hnn
  go_enter Tryz.func96,Tryz.ntmps96
  go_wp2
  go_ret
  exact⟨ret_bool (by rw[HV.out]),rfl⟩
 subst hnn
 go_enter Tryz.func96,Tryz.ntmps96
 go_wp2
 go_loopw [17] (fun i wr=>wr=w∧∃k:Nat,k≤n∧i=.int .i64 k∧∀j,j<k→eqI (l.getD j 0) (l'.getD j 0)=true) (fun i _=>n-(intOf i).toNat)
 case atStart=>exact⟨rfl,0,Nat.zero_le _,rfl,fun j hj=>absurd hj (by omega)⟩
 case round=>
  obtain⟨rfl,k,hk,rfl,hno⟩:=hrel
  have HNO:=Lib.hid hno
  clear hno
  by_cases hlt:k<n
  ·obtain rfl:=HAA.out (by rw[←HN.out];omega)
   obtain rfl:=HAA'.out (by rw[←HN'.out];omega)
   have e0:=(HC.out k (by rw[←HN.out];omega)).2
   have e0':=(HC'.out k (by rw[←HN'.out];omega)).2
   obtain⟨x,HX⟩:=named (l.getD k 0)
   obtain⟨x',HX'⟩:=named (l'.getD k 0)
   rw[←HX.out]at e0
   rw[←HX'.out]at e0'
   have hcall:=fun W=>HCL.out x x' W
   obtain⟨r,HR⟩:=named (eqI x x')
   rw[←HR.out]at hcall
   have HCALL:=Lib.hid hcall
   clear hcall
   cases r
   ·go_wp2_with (go_at_call 49;(with_reducible refine (HCALL.out _).mono ?_);rintro e w1 ⟨rfl,rfl⟩)
    go_ret
    exact⟨ret_bool (by rw[HY.out];exact (allEq_not 0 eqI (j:=k) (by rw[←HN.out];omega) (HN.out.symm.trans HN'.out) (by rw[←HX.out,←HX'.out];exact HR.out.symm)).symm),rfl⟩
   ·go_wp2_with (go_at_call 49;(with_reducible refine (HCALL.out _).mono ?_);rintro e w1 ⟨rfl,rfl⟩)
    go_roundw
    case rel=>
     refine⟨by trivial,k+1,by omega,by go_num,fun j hj=>?_⟩
     by_cases hjk:j=k
     ·rw[hjk,←HX.out,←HX'.out];exact HR.out.symm
     ·exact HNO.out j (by omega)
    case measure=>simp[intOf];omega
  ·go_wp2
   go_ret
   exact⟨ret_bool (by rw[HY.out];exact (allEq_of 0 eqI l l' (HN.out.symm.trans HN'.out) (fun j hj=>HNO.out j (by rw[←HN.out]at hj;omega))).symm),rfl⟩
end Go.Proofs.YtemjmfpcopfdbaaGreatDoor
