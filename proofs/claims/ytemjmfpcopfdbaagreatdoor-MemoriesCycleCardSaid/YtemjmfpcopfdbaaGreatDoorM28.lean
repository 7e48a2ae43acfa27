/- The texts Rh9 Rk9 Rq9 LgCntp LgClass LgCtlw. -/
import Derived.Test.YtemjmfpcopfdbaaGreatDoorM27
import Derived.Test.YtemjmfpcopfdbaaGreatDoorM09
import Derived.Test.YtemjmfpcopfdbaaGreatDoorM17
import Derived.Test.YtemjmfpcopfdbaaGreatDoorM19
import Derived.Test.YtemjmfpcopfdbaaGreatDoorM26
import Derived.WalkKit
import Derived.Test.YtemjmfpcopfdbaaGreatDoorM01
import Derived.Deep.RegionHeld3
import Derived.Deep.DeepCutAuto
namespace Go.Proofs.YtemjmfpcopfdbaaGreatDoor
open Go.RowKit
theorem vstk_low{w:World}{base base':Nat}{v:Value}{l:List Int}(h:VStk w base v l)(hb:base'≤base):VStk w base' v l:=by
 refine⟨h.1,?_⟩
 rcases h.2 with h2| ⟨g,cap,cur,e,hb',h3⟩
 ·exact .inl h2
 ·exact .inr ⟨g,cap,cur,e,Nat.le_trans hb hb',h3⟩
theorem bw_len(w:List Int)(b:Nat):(bw w b).length≤2:=by
 rcases bw_spec w b with⟨-,e⟩| ⟨-,e⟩| ⟨-,e⟩ <;>rw[e]<;>decide
theorem bw_01(w:List Int)(b:Nat)(x:Int)(h:x∈bw w b):x=0∨x=1:=by
 rcases bw_spec w b with⟨-,e⟩| ⟨-,e⟩| ⟨-,e⟩ <;>rw[e]at h<;>simp at h
 ·exact h
 ·exact .inl h
 ·exact .inr h
def gE(word data:List Int)(at_:Int)(b:Nat)(a e:Int):List Int:=if e=1∧a=at_ then bw data b else bw word b
theorem gE_len(word data:List Int)(at_:Int)(b:Nat)(a e:Int):(gE word data at_ b a e).length≤2:=by unfold gE;split<;>exact bw_len _ _
theorem gE_01(word data:List Int)(at_:Int)(b:Nat)(a e x:Int)(h:x∈gE word data at_ b a e):x=0∨x=1:=by
 unfold gE at h
 split at h
 ·exact bw_01 _ _ _ h
 ·exact bw_01 _ _ _ h
theorem flat_len(l:List Int)(f:Int→List Int)(m:Nat)(h:∀x,(f x).length≤m):(l.flatMap f).length≤l.length*m:=by
 induction l with
 |nil=>simp
 |cons a t ih=>
  rw[List.flatMap_cons,List.length_append,List.length_cons,Nat.add_mul,Nat.one_mul]
  have:=h a
  omega
theorem refS_eq(word:List Int)(at_:Int)(ad data:List Int)(en:Int)(b:Nat):refS word at_ ad data en b=(adS ad ad.length).flatMap fun a=>(Lg.chc en false).flatMap (gE word data at_ b a):=rfl
theorem refS_01(word:List Int)(at_:Int)(ad data:List Int)(en:Int)(b:Nat)(x:Int)(h:x∈refS word at_ ad data en b):x=0∨x=1:=by
 rw[refS_eq]at h
 simp only[List.mem_flatMap]at h
 obtain⟨a,-,e,-,hx⟩:=h
 exact gE_01 _ _ _ _ _ _ _ hx
def refW(word:List Int)(at_:Int)(ad data:List Int)(en:Int)(k:Nat):List Int:=(List.range k).map fun b=>valL (refS word at_ ad data en b)
theorem refW_succ(word:List Int)(at_:Int)(ad data:List Int)(en:Int)(k:Nat):refW word at_ ad data en (k+1)=refW word at_ ad data en k++[valL (refS word at_ ad data en k)]:=by unfold refW;rw[List.range_succ,List.map_append];rfl
theorem refW_len(word:List Int)(at_:Int)(ad data:List Int)(en:Int)(k:Nat):(refW word at_ ad data en k).length=k:=by simp[refW]
set_option maxRecDepth 100000 in
set_option maxHeartbeats 8000000 in
theorem rstore_any(word ad dt:List Int)(at_ en:Int)(A Aa Ad:Option Addr)(m c ma ca md cd:Nat)(w:World)(B:Nat)(hB:B≤w.heap.size)(hw:Ks w B (.slice A m c) word)(ha:Ks w B (.slice Aa ma ca) ad)(hd:Ks w B (.slice Ad md cd) dt)(h6:ma≤6)(hm:m≤1000):
 Calls Tryz.prog 45 #[.slice A m c,.int .i64 at_,.slice Aa ma ca,.slice Ad md cd,.int .u8 en] w fun e w'=>∃v,e=.returned v∧VStk w' w.heap.size v (refW word at_ ad dt en m)∧BelW w w':=by
 have hal:ma=ad.length:=by
  obtain⟨_,_,_,_,e,-⟩:=ha.opens
  simp only[Value.slice.injEq]at e
  exact e.2.1
 have HKW:Hid (∀W,BelW w W→Ks W W.heap.size (.slice A m c) word):=Lib.hid fun W h=>Arr.keep stays_u8 hw (Nat.le_trans hB (Below.size h)) fun _ hp=>Below.cell h (Nat.lt_of_lt_of_le hp hB)
 have HKD:Hid (∀W,BelW w W→Ks W W.heap.size (.slice Ad md cd) dt):=Lib.hid fun W h=>Arr.keep stays_u8 hd (Nat.le_trans hB (Below.size h)) fun _ hp=>Below.cell h (Nat.lt_of_lt_of_le hp hB)
 have HCA:=Lib.hid (adr_any ad Aa ma ca w B hB ha h6)
 have HOL:=Lib.hid (Nat.le_trans (adS_len ad ma) (Nat.le_trans (Nat.pow_le_pow_right (by decide) h6) (by decide:2^6≤64)))
 have HRS:Hid (∀b,refS word at_ ad dt en b=(adS ad ma).flatMap fun a=>(Lg.chc en false).flatMap (gE word dt at_ b a)):=Lib.hid fun b=>by rw[refS_eq,hal]
 have HR01:=Lib.hid (fun b x h=>refS_01 word at_ ad dt en b x h)
 have HRW:=Lib.hid (fun k=>refW_succ word at_ ad dt en k)
 have HRL:=Lib.hid (fun k=>refW_len word at_ ad dt en k)
 have HCE:=Lib.hid (fun W=>Lg.choices_any en false W)
 have hel:(Lg.chc en false).length≤2:=by rcases chc_01 en with e|e|e<;>rw[e]<;>decide
 obtain⟨E,HE⟩:=named (Lg.chc en false)
 rw[←HE.out]at HRS HCE hel
 obtain⟨ne,HNE⟩:=named E.length
 rw[←HNE.out]at HCE hel
 obtain⟨O,HO⟩:=named (adS ad ma)
 rw[←HO.out]at HCA HOL HRS
 have hol:=HOL.out
 obtain⟨no,HNO⟩:=named O.length
 rw[←HNO.out]at HCA hol
 obtain⟨ii,hji,hy0,hy1,hy2⟩:=info_parts info_int
 have HJ:=Lib.hid (And.intro hji (And.intro hy0 (And.intro hy1 hy2)))
 obtain⟨iv,hvi,hv0,hv1,hv2⟩:=info_parts info_val
 have HV:=Lib.hid (And.intro hvi (And.intro hv0 (And.intro hv1 hv2)))
 clear hw ha hd hal HOL hji hy0 hy1 hy2 hvi hv0 hv1 hv2
 go_enter Tryz.func45,Tryz.ntmps45
 go_upto_region 3 with (go_at_call 90;(with_reducible refine HCA.out.mono ?_);rintro e w1 ⟨Ao,co,rfl,hio,hb1⟩;have HIO1:=Lib.hid hio;have HB1:Hid (BelW w w1):=Lib.hid hb1;clear hio hb1)
 obtain⟨X,HX⟩:=named (w1.alloc (.cells (E.map (Value.int .i64)).toArray 3))
 have HCE1:=Lib.hid (HCE.out w1)
 rw[←HX.out]at HCE1
 have hbX1:BelW w1 X:=by rw[HX.out];exact below_new (Below.refl _ _) _
 have hfX:Fr X w1.heap.size 3 (E.map (Value.int .i64)):=by rw[HX.out];exact Fr.made _ _ _ rfl
 have HEX:Hid (∀j,j<ne→∀W,BelW X W→W.cell? ⟨w1.heap.size,j,none⟩=some (.int .i64 (E.getD j 0))):=Lib.hid fun j hj W h=>by
  rw[HNE.out]at hj
  rw[(hfX.below h).cell,List.getElem?_map,List.getElem?_eq_getElem hj,List.getD_eq_getElem?_getD,List.getElem?_eq_getElem hj];rfl
 obtain⟨Ao',bo,oo,co',e,hAo,-,-,hco⟩:=HIO1.out
 simp only[Value.slice.injEq]at e
 obtain⟨rfl,-,rfl⟩:=e
 have HAO:Hid (0<no→Ao=some ⟨bo,oo,none⟩):=Lib.hid (by rw[HNO.out];exact hAo)
 have HOX:Hid (∀i,i<no→∀W,BelW X W→W.cell? ⟨bo,oo+i,none⟩=some (.int .i64 (O.getD i 0))):=Lib.hid fun i hi W h=>by
  rw[HNO.out]at hi
  have h2:w1.cell? ⟨bo,oo+i*1,none⟩=some (.int .i64 (O.getD i 0)):=(hco i hi).2
  rw[Nat.mul_one]at h2
  exact (Below.cell (BelW.trans hbX1 h) (p:=⟨bo,oo+i,none⟩) (hco i hi).1).trans h2
 obtain⟨ge,HGE⟩:=named w1.heap.size
 rw[←HGE.out]at HEX HCE1
 have HBX:Hid (BelW w X):=Lib.hid (BelW.trans HB1.out hbX1)
 clear hbX1 hfX hAo hco HCE
 obtain⟨gx,HGX⟩:=named X.heap.size
 have HBT:Hid (∀(b:Nat) (W:World),BelW X W→Calls Tryz.prog 92 #[.slice A m c,.int .i64 (b:Int)] W fun e w'=>e=.returned (.slice (some ⟨W.heap.size,0,none⟩) (bw word b).length (bw word b).length)∧w'=W.alloc (.cells ((bw word b).map (Value.int .i64)).toArray 3)):=Lib.hid fun b W h=>rbit_any word A m c b W W.heap.size (HKW.out W (BelW.trans HBX.out h))
 have HBD:Hid (∀(b:Nat) (W:World),BelW X W→Calls Tryz.prog 92 #[.slice Ad md cd,.int .i64 (b:Int)] W fun e w'=>e=.returned (.slice (some ⟨W.heap.size,0,none⟩) (bw dt b).length (bw dt b).length)∧w'=W.alloc (.cells ((bw dt b).map (Value.int .i64)).toArray 3)):=Lib.hid fun b W h=>rbit_any dt Ad md cd b W W.heap.size (HKD.out W (BelW.trans HBX.out h))
 go_wp2_with (go_at_call 91;(with_reducible refine HCE1.out.mono ?_);rintro e w2 ⟨rfl,hw2⟩;obtain rfl:X=w2:=hw2.symm)
 go_loopw [11,14] (fun ov bv wr=>∃b:Nat,b≤m∧bv=.int .i64 b∧VStk wr gx ov (refW word at_ ad dt en b)∧BelW X wr) (fun _ bv _=>m-(intOf bv).toNat)
 case atStart=>exact⟨0,Nat.zero_le _,rfl,VStk.nil _ _,Below.refl _ _⟩
 case round=>
  obtain⟨bq,hbq,rfl,hst,hby⟩:=hrel
  obtain⟨Y,rfl⟩:∃z,z=wr:=⟨_,rfl⟩
  obtain⟨ov,rfl⟩:∃z,z=u11:=⟨_,rfl⟩
  have HVS:=Lib.hid hst
  have HBY:=Lib.hid hby
  by_cases hlb:bq<m
  ·have hb2:(bq:Int)<(m:Int):=by omega
   have HBTB:=Lib.hid (HBT.out bq)
   have HBDB:=Lib.hid (HBD.out bq)
   have HRSB:=Lib.hid (HRS.out bq)
   have HR1B:=Lib.hid (HR01.out bq)
   have HRWB:=Lib.hid (HRW.out bq)
   have hrl:=HRL.out bq
   obtain⟨RS,HRSN⟩:=named (refS word at_ ad dt en bq)
   rw[←HRSN.out]at HRSB HR1B HRWB
   obtain⟨RB,HRB⟩:=named (refW word at_ ad dt en bq)
   rw[←HRB.out]at HRWB hrl HVS
   obtain⟨gl,HGL⟩:=named Y.heap.size
   have HTO:Hid (∀i,i<no→(O.take (i+1)).flatMap (fun a=>E.flatMap (gE word dt at_ bq a))=(O.take i).flatMap (fun a=>E.flatMap (gE word dt at_ bq a))++E.flatMap (gE word dt at_ bq (O.getD i 0))):=Lib.hid fun i hi=>take_flat _ (by rw[←HNO.out];exact hi)
   have HTL:Hid (∀i,i≤no→((O.take i).flatMap (fun a=>E.flatMap (gE word dt at_ bq a))).length≤256):=Lib.hid fun i hi=>by
    refine Nat.le_trans (flat_len _ _ 4 fun a=>Nat.le_trans (flat_len _ _ 2 fun e=>gE_len _ _ _ _ _ _) (by rw[←HNE.out];omega)) ?_
    rw[List.length_take];omega
   obtain⟨FF,HFF⟩:=named (fun a=>E.flatMap (gE word dt at_ bq a))
   have hffa:∀a,FF a=E.flatMap (gE word dt at_ bq a):=fun a=>by rw[HFF.out]
   have HFA:=Lib.hid hffa
   rw[←HFF.out]at HTO HTL HRSB
   clear hst hby hffa
   go_wp2_with fail
   go_loopw [15,16] (fun lv iv w3=>∃i:Nat,i≤no∧iv=.int .i64 i∧Stk w3 gl lv ((O.take i).flatMap FF)∧BelW Y w3) (fun _ iv _=>no-(intOf iv).toNat)
   case atStart=>exact⟨0,Nat.zero_le _,rfl,Stk.nil _ _,Below.refl _ _⟩
   case round=>
    obtain⟨i,hi,rfl,hst,hbx⟩:=hrel
    by_cases hli:i<no
    ·have HTI:=Lib.hid (HTO.out i hli)
     have htl:=HTL.out i hi
     have hi2:(i:Int)<(no:Int):=by omega
     have HOI:=Lib.hid (HOX.out i hli)
     obtain rfl:=HAO.out (by omega)
     obtain⟨x,HXX⟩:=named (O.getD i 0)
     rw[←HXX.out]at HTI HOI
     obtain⟨P,HP⟩:=named ((O.take i).flatMap FF)
     rw[←HP.out]at HTI htl hst
     have HPT:Hid (∀k,k<ne→P++(E.take (k+1)).flatMap (gE word dt at_ bq x)=(P++(E.take k).flatMap (gE word dt at_ bq x))++gE word dt at_ bq x (E.getD k 0)):=Lib.hid fun k hk=>by rw[take_flat _ (by rw[←HNE.out];exact hk),List.append_assoc]
     have HPL:Hid (∀k,k≤ne→(P++(E.take k).flatMap (gE word dt at_ bq x)).length≤260):=Lib.hid fun k hk=>by
      rw[List.length_append]
      have:=flat_len (E.take k) (gE word dt at_ bq x) 2 (fun e=>gE_len _ _ _ _ _ _)
      rw[List.length_take]at this
      have h2:min k E.length*2≤4:=by rw[←HNE.out];omega
      omega
     have HST0:=Lib.hid hst
     have HBX0:=Lib.hid hbx
     clear hst hbx
     go_wp2_with fail
     go_loopw [15,17] (fun lv kv w4=>∃k:Nat,k≤ne∧kv=.int .i64 k∧Stk w4 gl lv (P++(E.take k).flatMap (gE word dt at_ bq x))∧BelW Y w4) (fun _ kv _=>ne-(intOf kv).toNat)
     case atStart=>exact⟨0,Nat.zero_le _,rfl,by rw[List.take_zero,List.flatMap_nil,List.append_nil];exact HST0.out,HBX0.out⟩
     case round=>
      obtain⟨kk,hk,rfl,hst,hbx⟩:=hrel
      obtain⟨lv,rfl⟩:∃z,z=u15:=⟨_,rfl⟩
      by_cases hlk:kk<ne
      ·have hge:=HPT.out kk hlk
       have hpl:=HPL.out kk hk
       have hk2:(kk:Int)<(ne:Int):=by omega
       have y1:=HEX.out kk hlk wr (BelW.trans HBY.out hbx)
       have y2:=HOI.out wr (BelW.trans HBY.out hbx)
       obtain⟨ee,HEE⟩:=named (E.getD kk 0)
       rw[←HEE.out]at hge y1
       obtain⟨PK,HPK⟩:=named (P++(E.take kk).flatMap (gE word dt at_ bq x))
       rw[←HPK.out]at hge hpl hst
       have HST2:=Lib.hid hst
       have HQ:Hid (∀q,lv.ownBlock=some q→gl≤q):=Lib.hid fun q hq=>(World.ownsRow.lt hst q hq).1
       clear hst
       by_cases he1:ee=1
       ·subst he1
        by_cases hxa:x=at_
        ·replace hge:=hge.trans (congrArg (PK++ ·) (if_pos ⟨rfl,hxa⟩))
         have t1:(x==at_)=true:=by simp[hxa]
         clear hxa
         have HBT:=Lib.hid (HBDB.out wr (BelW.trans HBY.out hbx))
         have HGB:=Lib.hid hge
         obtain⟨D,HD⟩:=named (bw dt bq)
         rw[←HD.out]at HBT HGB
         have hdl:D.length≤2:=by rw[HD.out];exact bw_len _ _
         obtain⟨nd,HND⟩:=named D.length
         rw[←HND.out]at HBT hdl
         have HPN:Hid ((PK++D).length=PK.length+nd):=Lib.hid (by rw[List.length_append,HND.out])
         have hgl:gl≤wr.heap.size:=by rw[HGL.out];exact Below.size hbx
         have HWX:Hid (BelW wr (wr.alloc (.cells (D.map (Value.int .i64)).toArray 3))):=Lib.hid (below_new (Below.refl _ _) _)
         have HCD:Hid (∀(j:Nat) (u:Value),(D.map (Value.int .i64))[j]? =some u→(wr.alloc (.cells (D.map (Value.int .i64)).toArray 3)).cell? ((⟨wr.heap.size,0,none⟩:Addr).add j)=some u):=Lib.hid fun j u h=>by
          rw[WideShapes.add_plain,World.cell?_alloc_at _ _ _ _ rfl,Nat.zero_add]
          simpa using h
         have hst2:=HST2.out.below HWX.out
         have HST3:=Lib.hid hst2
         have HBX:=Lib.hid hbx
         clear hbx hst2 hge
         go_wp2_with (first
          |(go_at_call 92;(with_reducible refine HBT.out.mono ?_);rintro e w5 ⟨rfl,rfl⟩)
          |(at_builtin;refine wpList_append_own_at _ rfl _ _ 37 rfl gl 3 ii (.int .i64 0) 1 8 Tryz.underlying37 HJ.out.1 HJ.out.2.1 HJ.out.2.2.1 HJ.out.2.2.2 rfl (by decide) lv PK.length (PK.map (Value.int .i64)) rfl HST3.out ⟨wr.heap.size,0,none⟩ nd nd (D.map (Value.int .i64)) rfl (by rw[List.length_map,HND.out,Nat.mul_one]) HCD.out (ints_oneCell .i64 D) (by unfold maxLen;omega) (by omega) (by simp;omega) ?_;intro v6 w6 hown6 hgrow6 hnil6 hloc6;have HS6:Hid (Stk w6 gl v6 (PK++D)):=Lib.hid (by unfold Stk;rw[List.length_append,List.map_append,←HND.out];exact hown6);have HB6:Hid (BelW Y w6):=Lib.hid (by rw[HGL.out]at hown6;exact Below.grown (BelW.trans HBX.out HWX.out) hgrow6 (by simp;rw[←HGL.out];omega) (fun q hq=>by rw[←HGL.out];exact HQ.out q hq));clear hown6 hgrow6 hnil6 hloc6))
         go_roundw
         case rel=>exact⟨kk+1,by omega,by go_num,by rw[HGB.out];exact HS6.out,HB6.out⟩
         case measure=>simp[intOf];omega
        ·replace hge:=hge.trans (congrArg (PK++ ·) (if_neg fun h=>hxa h.2))
         have t1:(x==at_)=false:=by simpa using hxa
         clear hxa
         have HBT:=Lib.hid (HBTB.out wr (BelW.trans HBY.out hbx))
         have HGB:=Lib.hid hge
         obtain⟨D,HD⟩:=named (bw word bq)
         rw[←HD.out]at HBT HGB
         have hdl:D.length≤2:=by rw[HD.out];exact bw_len _ _
         obtain⟨nd,HND⟩:=named D.length
         rw[←HND.out]at HBT hdl
         have HPN:Hid ((PK++D).length=PK.length+nd):=Lib.hid (by rw[List.length_append,HND.out])
         have hgl:gl≤wr.heap.size:=by rw[HGL.out];exact Below.size hbx
         have HWX:Hid (BelW wr (wr.alloc (.cells (D.map (Value.int .i64)).toArray 3))):=Lib.hid (below_new (Below.refl _ _) _)
         have HCD:Hid (∀(j:Nat) (u:Value),(D.map (Value.int .i64))[j]? =some u→(wr.alloc (.cells (D.map (Value.int .i64)).toArray 3)).cell? ((⟨wr.heap.size,0,none⟩:Addr).add j)=some u):=Lib.hid fun j u h=>by
          rw[WideShapes.add_plain,World.cell?_alloc_at _ _ _ _ rfl,Nat.zero_add]
          simpa using h
         have hst2:=HST2.out.below HWX.out
         have HST3:=Lib.hid hst2
         have HBX:=Lib.hid hbx
         clear hbx hst2 hge
         go_wp2_with (first
          |(go_at_call 92;(with_reducible refine HBT.out.mono ?_);rintro e w5 ⟨rfl,rfl⟩)
          |(at_builtin;refine wpList_append_own_at _ rfl _ _ 37 rfl gl 3 ii (.int .i64 0) 1 8 Tryz.underlying37 HJ.out.1 HJ.out.2.1 HJ.out.2.2.1 HJ.out.2.2.2 rfl (by decide) lv PK.length (PK.map (Value.int .i64)) rfl HST3.out ⟨wr.heap.size,0,none⟩ nd nd (D.map (Value.int .i64)) rfl (by rw[List.length_map,HND.out,Nat.mul_one]) HCD.out (ints_oneCell .i64 D) (by unfold maxLen;omega) (by omega) (by simp;omega) ?_;intro v6 w6 hown6 hgrow6 hnil6 hloc6;have HS6:Hid (Stk w6 gl v6 (PK++D)):=Lib.hid (by unfold Stk;rw[List.length_append,List.map_append,←HND.out];exact hown6);have HB6:Hid (BelW Y w6):=Lib.hid (by rw[HGL.out]at hown6;exact Below.grown (BelW.trans HBX.out HWX.out) hgrow6 (by simp;rw[←HGL.out];omega) (fun q hq=>by rw[←HGL.out];exact HQ.out q hq));clear hown6 hgrow6 hnil6 hloc6))
         go_roundw
         case rel=>exact⟨kk+1,by omega,by go_num,by rw[HGB.out];exact HS6.out,HB6.out⟩
         case measure=>simp[intOf];omega
       ·replace hge:=hge.trans (congrArg (PK++ ·) (if_neg fun h=>he1 h.1))
        have t1:(ee==1)=false:=by simpa using he1
        clear he1
        have HBT:=Lib.hid (HBTB.out wr (BelW.trans HBY.out hbx))
        have HGB:=Lib.hid hge
        obtain⟨D,HD⟩:=named (bw word bq)
        rw[←HD.out]at HBT HGB
        have hdl:D.length≤2:=by rw[HD.out];exact bw_len _ _
        obtain⟨nd,HND⟩:=named D.length
        rw[←HND.out]at HBT hdl
        have HPN:Hid ((PK++D).length=PK.length+nd):=Lib.hid (by rw[List.length_append,HND.out])
        have hgl:gl≤wr.heap.size:=by rw[HGL.out];exact Below.size hbx
        have HWX:Hid (BelW wr (wr.alloc (.cells (D.map (Value.int .i64)).toArray 3))):=Lib.hid (below_new (Below.refl _ _) _)
        have HCD:Hid (∀(j:Nat) (u:Value),(D.map (Value.int .i64))[j]? =some u→(wr.alloc (.cells (D.map (Value.int .i64)).toArray 3)).cell? ((⟨wr.heap.size,0,none⟩:Addr).add j)=some u):=Lib.hid fun j u h=>by
         rw[WideShapes.add_plain,World.cell?_alloc_at _ _ _ _ rfl,Nat.zero_add]
         simpa using h
        have hst2:=HST2.out.below HWX.out
        have HST3:=Lib.hid hst2
        have HBX:=Lib.hid hbx
        clear hbx hst2 hge
        go_wp2_with (first
         |(go_at_call 92;(with_reducible refine HBT.out.mono ?_);rintro e w5 ⟨rfl,rfl⟩)
         |(at_builtin;refine wpList_append_own_at _ rfl _ _ 37 rfl gl 3 ii (.int .i64 0) 1 8 Tryz.underlying37 HJ.out.1 HJ.out.2.1 HJ.out.2.2.1 HJ.out.2.2.2 rfl (by decide) lv PK.length (PK.map (Value.int .i64)) rfl HST3.out ⟨wr.heap.size,0,none⟩ nd nd (D.map (Value.int .i64)) rfl (by rw[List.length_map,HND.out,Nat.mul_one]) HCD.out (ints_oneCell .i64 D) (by unfold maxLen;omega) (by omega) (by simp;omega) ?_;intro v6 w6 hown6 hgrow6 hnil6 hloc6;have HS6:Hid (Stk w6 gl v6 (PK++D)):=Lib.hid (by unfold Stk;rw[List.length_append,List.map_append,←HND.out];exact hown6);have HB6:Hid (BelW Y w6):=Lib.hid (by rw[HGL.out]at hown6;exact Below.grown (BelW.trans HBX.out HWX.out) hgrow6 (by simp;rw[←HGL.out];omega) (fun q hq=>by rw[←HGL.out];exact HQ.out q hq));clear hown6 hgrow6 hnil6 hloc6))
        go_roundw
        case rel=>exact⟨kk+1,by omega,by go_num,by rw[HGB.out];exact HS6.out,HB6.out⟩
        case measure=>simp[intOf];omega
      ·obtain rfl:ne=kk:=by omega
       have HSX:Hid (Stk wr gl lv ((O.take (i+1)).flatMap FF)):=Lib.hid (by
        rw[HTI.out]
        rw[HNE.out,List.take_length]at hst
        exact hst)
       have HBX:=Lib.hid hbx
       clear hst hbx
       go_wp2_with fail
       go_roundw
       case rel=>exact⟨i+1,by omega,by go_num,HSX.out,HBX.out⟩
       case measure=>simp[intOf];omega
    ·obtain rfl:no=i:=by omega
     obtain⟨lv,rfl⟩:∃z,z=u15:=⟨_,rfl⟩
     rw[HNO.out,List.take_length,←HRSB.out]at hst
     obtain⟨Al,cl,rfl,his⟩:=stk_is hst
     have hrs:RS.length≤256:=by
      have:=HTL.out no (Nat.le_refl _)
      rwa [HNO.out,List.take_length,←HRSB.out]at this
     have HVA:=Lib.hid (rval_any RS Al RS.length cl wr wr.heap.size his (fun x h=>HR1B.out x h) (by omega))
     obtain⟨vv,HVV⟩:=named (valL RS)
     rw[←HVV.out]at HVA HRWB
     have HBX:=Lib.hid hbx
     have HVS2:=Lib.hid (HVS.out.below hbx)
     clear hst his hbx
     go_wp2_with (first
      |(go_at_call 93;(with_reducible refine HVA.out.mono ?_);rintro e w5 ⟨rfl,hb5⟩;have HB5:Hid (BelW wr w5):=Lib.hid hb5;have HVS5:=Lib.hid (HVS2.out.below hb5);have HBX5:Hid (BelW X w5):=Lib.hid (BelW.trans HBY.out (BelW.trans HBX.out hb5));have hsz5:gx≤w5.heap.size:=(by rw[HGX.out];exact Below.size (BelW.trans HBY.out (BelW.trans HBX.out hb5)));clear hb5)
      |(at_builtin;refine wpList_append_own_at _ rfl _ _ 41 rfl gx 77 iv (.int .u8 0) 1 1 Tryz.underlying41 HV.out.1 HV.out.2.1 HV.out.2.2.1 HV.out.2.2.2 rfl (by decide) ov RB.length (RB.map (Value.int .u8)) rfl (World.ownsRow.alloc HVS5.out _) ⟨w5.heap.size,0,none⟩ 1 1 [.int .u8 vv] rfl rfl (by have:=one_new w5 (.int .u8 vv) 77;simpa using this) (by intro u hu;obtain rfl:=List.mem_singleton.1 hu;rfl) (by unfold maxLen;omega) (by omega) (by simp;omega) ?_;intro v6 w6 hown6 hgrow6 hnil6 hloc6;have HF:=Lib.hid (vpush (g:=gx) (x:=vv) hsz5 (by rw[HGX.out];exact HBX5.out) HVS5.out hown6 hgrow6);clear hown6 hgrow6 hnil6 hloc6))
     go_roundw
     case rel=>exact⟨bq+1,by omega,by go_num,by rw[HRWB.out];exact HF.out.2,by have:=HF.out.1;rwa [HGX.out]at this⟩
     case measure=>simp[intOf];omega
  ·obtain rfl:m=bq:=by omega
   clear hst hby
   go_wp2_with fail
   go_ret
   exact⟨ov,rfl,vstk_low HVS.out (by rw[HGX.out];exact Below.size HBX.out),BelW.trans HBX.out HBY.out⟩
set_option maxRecDepth 100000 in
set_option maxHeartbeats 4000000 in
theorem rvs_any(nets l:List Int)(An Al:Option Addr)(nn cn m cl:Nat)(w:World)(B:Nat)(hB:B≤w.heap.size)(hn:Ks w B (.slice An nn cn) nets)(hl:Is w B (.slice Al m cl) l)(hin:∀x∈l,0≤x∧x<(nn:Int))(hm:m≤1000000):
 Calls Tryz.prog 44 #[.slice An nn cn,.slice Al m cl] w fun e w'=>∃A c,e=.returned (.slice A m c)∧VStk w' w.heap.size (.slice A m c) (nvs nets l)∧BelW w w':=by
 obtain⟨A,bl,ol,cc,e,hAl,-,-,hcl⟩:=hl.opens
 simp only[Value.slice.injEq]at e
 obtain⟨rfl,hml,rfl⟩:=e
 obtain⟨A,bn,on,cc,e,hAn,-,-,hcn⟩:=hn.opens
 simp only[Value.slice.injEq]at e
 obtain⟨rfl,hnl,rfl⟩:=e
 rw[←hml]at hAl hcl
 rw[←hnl]at hAn hcn
 have HAL:=Lib.hid hAl
 have HAN:=Lib.hid hAn
 have HCL:Hid (∀W,BelW w W→∀k,k<m→W.cell? ⟨bl,ol+k,none⟩=some (.int .i64 (l.getD k 0))):=Lib.hid fun W h k hk=>(h.cell (p:=⟨bl,ol+k,none⟩) (Nat.lt_of_lt_of_le (hcl k hk).1 hB)).trans (hcl k hk).2
 have HCN:Hid (∀W,BelW w W→∀k,k<nn→W.cell? ⟨bn,on+k,none⟩=some (.int .u8 (nets.getD k 0))):=Lib.hid fun W h k hk=>(h.cell (p:=⟨bn,on+k,none⟩) (Nat.lt_of_lt_of_le (hcn k hk).1 hB)).trans (hcn k hk).2
 have HIN:Hid (∀k,k<m→0≤l.getD k 0∧l.getD k 0<(nn:Int)):=Lib.hid fun k hk=>hin _ (getD_mem (by rw[←hml];exact hk))
 have HTK:Hid (∀k,k<m→nvs nets (l.take (k+1))=nvs nets (l.take k)++[lat nets (l.getD k 0)]):=Lib.hid fun k hk=>by
  unfold nvs
  rw[take_succ_getD _ _ (by rw[←hml];exact hk),List.map_append];rfl
 have HTL:Hid (∀k,k≤m→(nvs nets (l.take k)).length=k):=Lib.hid fun k hk=>by unfold nvs;rw[List.length_map,List.length_take,←hml];omega
 have HTA:Hid (nvs nets (l.take m)=nvs nets l):=Lib.hid (by rw[hml,List.take_length])
 obtain⟨i1,hi1,hz0,hz1,hz2⟩:=info_parts info_val
 have HI:=Lib.hid (And.intro hi1 (And.intro hz0 (And.intro hz1 hz2)))
 clear hi1 hz0 hz1 hz2 hAl hAn hcl hcn hn hl hin hml hnl
 go_enter Tryz.func44,Tryz.ntmps44
 go_wp2
 go_loopw [5,6] (fun ov iv wr=>∃k:Nat,k≤m∧iv=.int .i64 k∧BelW w wr∧VStk wr w.heap.size ov (nvs nets (l.take k))) (fun _ iv _=>m-(intOf iv).toNat)
 case atStart=>exact⟨0,Nat.zero_le _,rfl,Below.refl _ _,VStk.nil _ _⟩
 case round=>
  obtain⟨k,hk,rfl,hb,hst⟩:=hrel
  obtain⟨A6,c6,rfl,hle6,hc6,-⟩:=hst.form
  have hol:=HTL.out k hk
  rw[hol]at hle6
  rw[hol]
  have HST2:Hid (VStk wr w.heap.size (.slice A6 k c6) (nvs nets (l.take k))):=Lib.hid (by have:=hst;rw[hol]at this;exact this)
  have HB:=Lib.hid hb
  by_cases hlt:k<m
  ·have hlt2:(k:Int)<(m:Int):=by omega
   obtain rfl:=HAL.out (by omega)
   have f5:=HCL.out wr hb k hlt
   obtain⟨p0,p1⟩:=HIN.out k hlt
   have HTKK:=Lib.hid (HTK.out k hlt)
   obtain⟨x,HX⟩:=named (l.getD k 0)
   rw[←HX.out]at f5 p0 p1 HTKK
   obtain⟨xn,hxn⟩:=Int.eq_ofNat_of_zero_le p0
   subst hxn
   have hxn:xn<nn:=by omega
   obtain rfl:=HAN.out (by omega)
   have f6:=HCN.out wr hb xn hxn
   obtain⟨y,HY⟩:=named (nets.getD xn 0)
   have HYE:Hid (lat nets (xn:Int)=y):=Lib.hid (by rw[HY.out];unfold lat;rw[Int.toNat_natCast])
   rw[←HY.out]at f6
   rw[HYE.out]at HTKK
   obtain⟨st,HL⟩:=named (nvs nets (l.take k))
   rw[←HL.out]at HST2 hol HTKK
   have HOL:=Lib.hid hol
   have HSTR:Hid (wr.ownsRow w.heap.size 77 1 (.slice A6 k c6) k (st.map (Value.int .u8))):=Lib.hid (by have:=HST2.out;unfold VStk at this;rw[HOL.out]at this;exact this)
   have hwz:w.heap.size≤wr.heap.size:=Below.size hb
   clear hst hb hol
   go_wp2_with (at_builtin;refine wpList_append_own_at _ rfl _ _ 41 rfl w.heap.size 77 i1 (.int .u8 0) 1 1 Tryz.underlying41 HI.out.1 HI.out.2.1 HI.out.2.2.1 HI.out.2.2.2 rfl (by decide) _ _ _ rfl (World.ownsRow.alloc HSTR.out _) ⟨wr.heap.size,0,none⟩ 1 1 [.int .u8 y] rfl rfl (by have:=one_new wr (.int .u8 y) 77;simpa using this) (ints_oneCell .u8 [y]) (by unfold maxLen;omega) (by omega) (by first|omega|(simp;omega)) ?_;intro v' w5 hown' hgrow hnil hloc;have HF5:=Lib.hid (vpush (x:=y) (by first|omega|(simp;omega)) HB.out HST2.out (by rw[HOL.out];exact hown') hgrow);clear hown' hgrow hnil hloc)
   go_roundw
   case rel=>exact⟨k+1,by omega,by go_num,HF5.out.1,by rw[HTKK.out];exact HF5.out.2⟩
   case measure=>simp[intOf];omega
  ·obtain rfl:m=k:=by omega
   clear hst hb
   go_wp2
   go_ret
   exact⟨A6,c6,rfl,by rw[←HTA.out];exact HST2.out,HB.out⟩
def lkbF(ws:List (List Int))(b:Nat)(a:Int):List Int:=if a<(ws.length:Int) then bw (ws.getD a.toNat []) b else []
def lkbL(ws:List (List Int))(ad:List Int)(b:Nat):List Int:=(adS ad ad.length).flatMap (lkbF ws b)
def rlkL(ws:List (List Int))(ad:List Int)(k:Nat):List Int:=(List.range k).map fun b=>valL (lkbL ws ad b)
theorem rlkL_succ(ws:List (List Int))(ad:List Int)(k:Nat):rlkL ws ad (k+1)=rlkL ws ad k++[valL (lkbL ws ad k)]:=by unfold rlkL;rw[List.range_succ,List.map_append];rfl
theorem rlkL_len(ws:List (List Int))(ad:List Int)(k:Nat):(rlkL ws ad k).length=k:=by simp[rlkL]
theorem lkbF_len(ws:List (List Int))(b:Nat)(a:Int):(lkbF ws b a).length≤2:=by
 unfold lkbF
 split
 ·exact bw_len _ _
 ·simp
theorem lkbL_01(ws:List (List Int))(ad:List Int)(b:Nat)(x:Int)(h:x∈lkbL ws ad b):x=0∨x=1:=by
 unfold lkbL at h
 simp only[List.mem_flatMap]at h
 obtain⟨a,-,hx⟩:=h
 unfold lkbF at hx
 split at hx
 ·exact bw_01 _ _ _ hx
 ·cases hx
set_option maxRecDepth 100000 in
set_option maxHeartbeats 8000000 in
theorem rlook_any(ws:List (List Int))(ad:List Int)(Aw Aa:Option Addr)(mw cw ma ca n:Nat)(w:World)(B:Nat)(hB:B≤w.heap.size)(hw:Wrds w B (.slice Aw mw cw) ws)(ha:Ks w B (.slice Aa ma ca) ad)(h6:ma≤6)(hpos:0<mw)(hln:∀i,i<mw→(ws.getD i []).length=n)(hn1:n≤1000):
 Calls Tryz.prog 46 #[.slice Aw mw cw,.slice Aa ma ca] w fun e w'=>∃v,e=.returned v∧VStk w' w.heap.size v (rlkL ws ad n)∧BelW w w':=by
 have hal:ma=ad.length:=by
  obtain⟨_,_,_,_,e,-⟩:=ha.opens
  simp only[Value.slice.injEq]at e
  exact e.2.1
 have HCA:=Lib.hid (adr_any ad Aa ma ca w B hB ha h6)
 have HOL:=Lib.hid (Nat.le_trans (adS_len ad ma) (Nat.le_trans (Nat.pow_le_pow_right (by decide) h6) (by decide:2^6≤64)))
 have HON:Hid (∀x∈adS ad ma,0≤x):=Lib.hid fun x h=>(adS_bnd ad ma x h).1
 obtain⟨A',bW,oW,c',e,hA,-,hmm,hc⟩:=hw
 simp only[Value.slice.injEq]at e
 obtain⟨rfl,hwl,rfl⟩:=e
 obtain rfl:=hA (by omega)
 have hmw:mw≤maxLen:=by rw[hwl];exact hmm
 unfold maxLen at hmw
 have HWD:Hid (∀x,x<mw→∃Ax cx,∀W,BelW w W→W.cell? ⟨bW,oW+x,none⟩=some (.slice Ax n cx)∧∀b:Nat,Calls Tryz.prog 92 #[.slice Ax n cx,.int .i64 (b:Int)] W fun e w'=>e=.returned (.slice (some ⟨W.heap.size,0,none⟩) (bw (ws.getD x []) b).length (bw (ws.getD x []) b).length)∧w'=W.alloc (.cells ((bw (ws.getD x []) b).map (Value.int .i64)).toArray 3)):=Lib.hid fun x hx=>by
  obtain⟨hb,Ax,cx,h1,h2⟩:=hc x (by omega)
  rw[Nat.mul_one]at h1
  rw[hln x hx]at h1 h2
  refine⟨Ax,cx,fun W h=>⟨(Below.cell h (p:=⟨bW,oW+x,none⟩) (Nat.lt_of_lt_of_le hb hB)).trans h1,fun b=>?_⟩⟩
  exact rbit_any (ws.getD x []) Ax n cx b W W.heap.size (Arr.keep stays_u8 h2 (Nat.le_trans hB (Below.size h)) fun _ hp=>Below.cell h (Nat.lt_of_lt_of_le hp hB))
 have HRS:Hid (∀b,lkbL ws ad b=(adS ad ma).flatMap (lkbF ws b)):=Lib.hid fun b=>by unfold lkbL;rw[hal]
 have HFF:Hid (∀b a,lkbF ws b a=if a<(mw:Int) then bw (ws.getD a.toNat []) b else []):=Lib.hid fun b a=>by unfold lkbF;rw[hwl]
 have HFL:=Lib.hid (lkbF_len ws)
 have HR01:=Lib.hid (fun b x h=>lkbL_01 ws ad b x h)
 have HRW:=Lib.hid (fun k=>rlkL_succ ws ad k)
 have HRL:=Lib.hid (fun k=>rlkL_len ws ad k)
 obtain⟨O,HO⟩:=named (adS ad ma)
 rw[←HO.out]at HCA HOL HON HRS
 have hol:=HOL.out
 obtain⟨no,HNO⟩:=named O.length
 rw[←HNO.out]at HCA hol
 obtain⟨ii,hji,hy0,hy1,hy2⟩:=info_parts info_int
 have HJ:=Lib.hid (And.intro hji (And.intro hy0 (And.intro hy1 hy2)))
 obtain⟨iv,hvi,hv0,hv1,hv2⟩:=info_parts info_val
 have HV:=Lib.hid (And.intro hvi (And.intro hv0 (And.intro hv1 hv2)))
 have hpos2:(0:Int)<(mw:Int):=by omega
 clear hc ha hal HOL hji hy0 hy1 hy2 hvi hv0 hv1 hv2 hwl hln hmm hA
 go_enter Tryz.func46,Tryz.ntmps46
 go_wp2_with (go_at_call 90;(with_reducible refine HCA.out.mono ?_);rintro e w1 ⟨Ao,co,rfl,hio,hb1⟩;have HIO1:=Lib.hid hio;have HB1:Hid (BelW w w1):=Lib.hid hb1;clear hio hb1)
 obtain⟨X,HX⟩:∃X:World,Hid (X=w1):=⟨_,Lib.hid rfl⟩
 obtain⟨Ao',bo,oo,co',e,hAo,-,-,hco⟩:=HIO1.out
 simp only[Value.slice.injEq]at e
 obtain⟨rfl,-,rfl⟩:=e
 have HAO:Hid (0<no→Ao=some ⟨bo,oo,none⟩):=Lib.hid (by rw[HNO.out];exact hAo)
 have HOX:Hid (∀i,i<no→∀W,BelW w1 W→W.cell? ⟨bo,oo+i,none⟩=some (.int .i64 (O.getD i 0))):=Lib.hid fun i hi W h=>by
  rw[HNO.out]at hi
  have h2:w1.cell? ⟨bo,oo+i*1,none⟩=some (.int .i64 (O.getD i 0)):=(hco i hi).2
  rw[Nat.mul_one]at h2
  exact (Below.cell h (p:=⟨bo,oo+i,none⟩) (hco i hi).1).trans h2
 have HBX:=HB1
 clear hAo hco
 obtain⟨gx,HGX⟩:=named w1.heap.size
 obtain⟨Z0,zc0,hz⟩:=HWD.out 0 hpos
 have HZ0:Hid (∀W,BelW w1 W→W.cell? ⟨bW,oW,none⟩=some (.slice Z0 n zc0)):=Lib.hid fun W h=>by have:=(hz W (BelW.trans HB1.out h)).1;rwa [Nat.add_zero]at this
 clear hz
 go_wp2
 go_loopw [5,7] (fun ov bv wr=>∃b:Nat,b≤n∧bv=.int .i64 b∧VStk wr gx ov (rlkL ws ad b)∧BelW w1 wr) (fun _ bv _=>n-(intOf bv).toNat)
 case atStart=>exact⟨0,Nat.zero_le _,rfl,VStk.nil _ _,Below.refl _ _⟩
 case round=>
  obtain⟨bq,hbq,rfl,hst,hby⟩:=hrel
  obtain⟨Y,rfl⟩:∃z,z=wr:=⟨_,rfl⟩
  obtain⟨ov,rfl⟩:∃z,z=u5:=⟨_,rfl⟩
  have HVS:=Lib.hid hst
  have HBY:=Lib.hid hby
  have hz0:=HZ0.out Y hby
  by_cases hlb:bq<n
  ·have hb2:(bq:Int)<(n:Int):=by omega
   have HRSB:=Lib.hid (HRS.out bq)
   have HFFB:=Lib.hid (HFF.out bq)
   have HFLB:=Lib.hid (HFL.out bq)
   have HR1B:=Lib.hid (HR01.out bq)
   have HRWB:=Lib.hid (HRW.out bq)
   have hrl:=HRL.out bq
   obtain⟨RS,HRSN⟩:=named (lkbL ws ad bq)
   rw[←HRSN.out]at HRSB HR1B HRWB
   obtain⟨RB,HRB⟩:=named (rlkL ws ad bq)
   rw[←HRB.out]at HRWB hrl HVS
   obtain⟨gl,HGL⟩:=named Y.heap.size
   obtain⟨FF,HFN⟩:=named (lkbF ws bq)
   rw[←HFN.out]at HRSB HFFB HFLB
   have HTO:Hid (∀i,i<no→(O.take (i+1)).flatMap FF=(O.take i).flatMap FF++FF (O.getD i 0)):=Lib.hid fun i hi=>take_flat _ (by rw[←HNO.out];exact hi)
   have HTL:Hid (∀i,i≤no→((O.take i).flatMap FF).length≤128):=Lib.hid fun i hi=>by
    refine Nat.le_trans (flat_len _ _ 2 fun a=>HFLB.out a) ?_
    rw[List.length_take];omega
   clear hst hby
   go_wp2_with fail
   clear hz0
   go_loopw [8,9] (fun lv iv w3=>∃i:Nat,i≤no∧iv=.int .i64 i∧Stk w3 gl lv ((O.take i).flatMap FF)∧BelW Y w3) (fun _ iv _=>no-(intOf iv).toNat)
   case atStart=>exact⟨0,Nat.zero_le _,rfl,Stk.nil _ _,Below.refl _ _⟩
   case round=>
    obtain⟨i,hi,rfl,hst,hbx⟩:=hrel
    obtain⟨lv,rfl⟩:∃z,z=u8:=⟨_,rfl⟩
    by_cases hli:i<no
    ·have hge:=HTO.out i hli
     have hpl:=HTL.out i hi
     have hi2:(i:Int)<(no:Int):=by omega
     have y2:=HOX.out i hli wr (BelW.trans HBY.out hbx)
     have hx0:=HON.out (O.getD i 0) (getD_mem (by rw[←HNO.out];exact hli))
     obtain rfl:=HAO.out (by omega)
     obtain⟨x,HXX⟩:=named (O.getD i 0)
     rw[←HXX.out]at hge y2 hx0
     rw[HFFB.out]at hge
     obtain⟨PK,HPK⟩:=named ((O.take i).flatMap FF)
     rw[←HPK.out]at hge hpl hst
     have HST2:=Lib.hid hst
     have HQ:Hid (∀q,lv.ownBlock=some q→gl≤q):=Lib.hid fun q hq=>(World.ownsRow.lt hst q hq).1
     obtain⟨xn,hxn⟩:=Int.eq_ofNat_of_zero_le hx0
     subst hxn
     clear hst
     by_cases hxm:xn<mw
     ·have hxm2:(xn:Int)<(mw:Int):=by omega
      rw[if_pos hxm2,Int.toNat_natCast]at hge
      obtain⟨Ax,cx,hz⟩:=HWD.out xn hxm
      obtain⟨y3,hbt⟩:=hz wr (BelW.trans HBX.out (BelW.trans HBY.out hbx))
      have HBT:=Lib.hid (hbt bq)
      have HGB:=Lib.hid hge
      obtain⟨D,HD⟩:=named (bw (ws.getD xn []) bq)
      rw[←HD.out]at HBT HGB
      have hdl:D.length≤2:=by rw[HD.out];exact bw_len _ _
      obtain⟨nd,HND⟩:=named D.length
      rw[←HND.out]at HBT hdl
      have HPN:Hid ((PK++D).length=PK.length+nd):=Lib.hid (by rw[List.length_append,HND.out])
      have hgl:gl≤wr.heap.size:=by rw[HGL.out];exact Below.size hbx
      have HWX:Hid (BelW wr (wr.alloc (.cells (D.map (Value.int .i64)).toArray 3))):=Lib.hid (below_new (Below.refl _ _) _)
      have HCD:Hid (∀(j:Nat) (u:Value),(D.map (Value.int .i64))[j]? =some u→(wr.alloc (.cells (D.map (Value.int .i64)).toArray 3)).cell? ((⟨wr.heap.size,0,none⟩:Addr).add j)=some u):=Lib.hid fun j u h=>by
       rw[WideShapes.add_plain,World.cell?_alloc_at _ _ _ _ rfl,Nat.zero_add]
       simpa using h
      have hst2:=HST2.out.below HWX.out
      have HST3:=Lib.hid hst2
      have HBX2:=Lib.hid hbx
      clear hbx hst2 hge hz hbt
      go_wp2_with (first
       |(go_at_call 92;(with_reducible refine HBT.out.mono ?_);rintro e w5 ⟨rfl,rfl⟩)
       |(at_builtin;refine wpList_append_own_at _ rfl _ _ 37 rfl gl 3 ii (.int .i64 0) 1 8 Tryz.underlying37 HJ.out.1 HJ.out.2.1 HJ.out.2.2.1 HJ.out.2.2.2 rfl (by decide) lv PK.length (PK.map (Value.int .i64)) rfl HST3.out ⟨wr.heap.size,0,none⟩ nd nd (D.map (Value.int .i64)) rfl (by rw[List.length_map,HND.out,Nat.mul_one]) HCD.out (ints_oneCell .i64 D) (by unfold maxLen;omega) (by omega) (by simp;omega) ?_;intro v6 w6 hown6 hgrow6 hnil6 hloc6;have HS6:Hid (Stk w6 gl v6 (PK++D)):=Lib.hid (by unfold Stk;rw[List.length_append,List.map_append,←HND.out];exact hown6);have HB6:Hid (BelW Y w6):=Lib.hid (by rw[HGL.out]at hown6;exact Below.grown (BelW.trans HBX2.out HWX.out) hgrow6 (by simp;rw[←HGL.out];omega) (fun q hq=>by rw[←HGL.out];exact HQ.out q hq));clear hown6 hgrow6 hnil6 hloc6))
      go_roundw
      case rel=>exact⟨i+1,by omega,by go_num,by rw[HGB.out];exact HS6.out,HB6.out⟩
      case measure=>simp[intOf];omega
     ·have hxm2:¬(xn:Int)<(mw:Int):=by omega
      rw[if_neg hxm2,List.append_nil]at hge
      have HGB:=Lib.hid hge
      have HBX2:=Lib.hid hbx
      clear hbx hge
      go_wp2_with fail
      go_roundw
      case rel=>exact⟨i+1,by omega,by go_num,by rw[HGB.out];exact HST2.out,HBX2.out⟩
      case measure=>simp[intOf];omega
    ·obtain rfl:no=i:=by omega
     rw[HNO.out,List.take_length,←HRSB.out]at hst
     obtain⟨Al,cl,rfl,his⟩:=stk_is hst
     have hrs:RS.length≤128:=by
      have:=HTL.out no (Nat.le_refl _)
      rwa [HNO.out,List.take_length,←HRSB.out]at this
     have HVA:=Lib.hid (rval_any RS Al RS.length cl wr wr.heap.size his (fun x h=>HR1B.out x h) (by omega))
     obtain⟨vv,HVV⟩:=named (valL RS)
     rw[←HVV.out]at HVA HRWB
     have HBX2:=Lib.hid hbx
     have HVS2:=Lib.hid (HVS.out.below hbx)
     clear hst his hbx
     go_wp2_with (first
      |(go_at_call 93;(with_reducible refine HVA.out.mono ?_);rintro e w5 ⟨rfl,hb5⟩;have HB5:Hid (BelW wr w5):=Lib.hid hb5;have HVS5:=Lib.hid (HVS2.out.below hb5);have HBX5:Hid (BelW w1 w5):=Lib.hid (BelW.trans HBY.out (BelW.trans HBX2.out hb5));have hsz5:gx≤w5.heap.size:=(by rw[HGX.out];exact Below.size (BelW.trans HBY.out (BelW.trans HBX2.out hb5)));clear hb5)
      |(at_builtin;refine wpList_append_own_at _ rfl _ _ 41 rfl gx 77 iv (.int .u8 0) 1 1 Tryz.underlying41 HV.out.1 HV.out.2.1 HV.out.2.2.1 HV.out.2.2.2 rfl (by decide) ov RB.length (RB.map (Value.int .u8)) rfl (World.ownsRow.alloc HVS5.out _) ⟨w5.heap.size,0,none⟩ 1 1 [.int .u8 vv] rfl rfl (by have:=one_new w5 (.int .u8 vv) 77;simpa using this) (by intro u hu;obtain rfl:=List.mem_singleton.1 hu;rfl) (by unfold maxLen;omega) (by omega) (by simp;omega) ?_;intro v6 w6 hown6 hgrow6 hnil6 hloc6;have HF:=Lib.hid (vpush (g:=gx) (x:=vv) hsz5 (by rw[HGX.out];exact HBX5.out) HVS5.out hown6 hgrow6);clear hown6 hgrow6 hnil6 hloc6))
     go_roundw
     case rel=>exact⟨bq+1,by omega,by go_num,by rw[HRWB.out];exact HF.out.2,by have:=HF.out.1;rwa [HGX.out]at this⟩
     case measure=>simp[intOf];omega
  ·obtain rfl:n=bq:=by omega
   clear hst hby
   go_wp2_with fail
   go_ret
   exact⟨ov,rfl,vstk_low HVS.out (by rw[HGX.out];exact Below.size HBX.out),BelW.trans HBX.out HBY.out⟩
theorem lkS_012(ws:List (List Int))(ad:List Int)(n j:Nat)(hj:j<n)(k:Nat):(lkS ws ad n k).2.getD j 0=0∨(lkS ws ad n k).2.getD j 0=1∨(lkS ws ad n k).2.getD j 0=2:=by
 have hb:∀l:List Int,(bitsL l n).getD j 0=0∨(bitsL l n).getD j 0=1∨(bitsL l n).getD j 0=2:=fun l=>by
  rw[bitsL_at _ _ _ hj]
  rcases bw_spec l j with⟨h,-⟩| ⟨h,-⟩| ⟨h,-⟩ <;>rw[h]<;>simp
 induction k with
 |zero=>
  refine .inr (.inr ?_)
  show (List.replicate n (2:Int)).getD j 0=2
  rw[List.getD_eq_getElem?_getD,List.getElem?_replicate,if_pos hj];rfl
 |succ k ih=>
  rw[lkS_succ]
  unfold lkStep
  by_cases hm:mat ad k=true
  ·rw[if_pos hm]
   by_cases hs:(lkS ws ad n k).1=true
   ·rw[if_pos hs]
    show (agL _ _).getD j 0=0∨(agL _ _).getD j 0=1∨(agL _ _).getD j 0=2
    rw[agL_get (by rw[lkS_len];exact hj)]
    unfold agB
    by_cases e:(lkS ws ad n k).2.getD j 0=(bitsL (ws.getD k []) n).getD j 0
    ·rw[if_pos e];exact ih
    ·rw[if_neg e];exact .inr (.inr rfl)
   ·rw[if_neg hs];exact hb _
  ·rw[if_neg hm];exact ih
theorem lkbL_mem(ws:List (List Int))(ad:List Int)(b:Nat)(x:Int):x∈lkbL ws ad b↔∃i:Nat,i<ws.length∧mat ad i=true∧x∈bw (ws.getD i []) b:=by
 unfold lkbL
 simp only[List.mem_flatMap]
 constructor
 ·rintro⟨a,ha,hx⟩
  obtain⟨i,rfl,-,-⟩:=(adS_mem _ _ _).1 ha
  unfold lkbF at hx
  by_cases h:(i:Int)<(ws.length:Int)
  ·rw[if_pos h,Int.toNat_natCast]at hx
   exact⟨i,by omega,(adS_mat ad i).1 ha,hx⟩
  ·rw[if_neg h]at hx;cases hx
 ·rintro⟨i,hi,hm,hx⟩
  refine⟨(i:Int),(adS_mat ad i).2 hm,?_⟩
  unfold lkbF
  rw[if_pos (by omega),Int.toNat_natCast]
  exact hx
theorem look_ref(ws:List (List Int))(ad:List Int)(n b:Nat)(hb:b<n)(hl:2^ad.length≤ws.length):valL (lkbL ws ad b)=(lkS ws ad n ws.length).2.getD b 0:=by
 obtain⟨i0,hi0,hm0⟩:=mat_ex ad
 have hi0':i0<ws.length:=by omega
 have hall:=fun x hx=>lk_all ws ad n b hb x hx ws.length
 have hone:∀x:Int,(x=0∨x=1)→(∀i,i<ws.length→mat ad i=true→rdb (ws.getD i []) b=x)→valL (lkbL ws ad b)=(lkS ws ad n ws.length).2.getD b 0:=fun x hx h=>by
  rw[((hall x hx).2 ⟨⟨i0,hi0',hm0⟩,fun i hi hm=>by rw[bitsL_at _ _ _ hb];exact h i hi hm⟩).2]
  have hbw:∀i,i<ws.length→mat ad i=true→bw (ws.getD i []) b=[x]:=fun i hi hm=>by
   have h1:=h i hi hm
   rcases bw_spec (ws.getD i []) b with⟨h2,h3⟩| ⟨h2,h3⟩| ⟨h2,h3⟩
   ·omega
   ·rw[h3,←h1,h2]
   ·rw[h3,←h1,h2]
  refine valL_all (fun e=>?_) fun y hy=>?_
  ·have:=(lkbL_mem ws ad b x).2 ⟨i0,hi0',hm0,by rw[hbw i0 hi0' hm0];exact List.mem_singleton.2 rfl⟩
   rw[e]at this;cases this
  ·obtain⟨i,hi,hm,hy2⟩:=(lkbL_mem ws ad b y).1 hy
   rw[hbw i hi hm]at hy2
   exact List.mem_singleton.1 hy2
 by_cases h0:∀i,i<ws.length→mat ad i=true→rdb (ws.getD i []) b=0
 ·exact hone 0 (.inl rfl) h0
 by_cases h1:∀i,i<ws.length→mat ad i=true→rdb (ws.getD i []) b=1
 ·exact hone 1 (.inr rfl) h1
 have hn:∀x:Int,(x=0∨x=1)→(¬∀i,i<ws.length→mat ad i=true→rdb (ws.getD i []) b=x)→∃i,i<ws.length∧mat ad i=true∧rdb (ws.getD i []) b≠x:=fun x _ h=>by
  refine Classical.byContradiction fun hc=>h fun i hi hm=>Classical.byContradiction fun he=>hc ⟨i,hi,hm,he⟩
 obtain⟨i,hi,hmi,hri⟩:=hn 0 (.inl rfl) h0
 obtain⟨j,hj,hmj,hrj⟩:=hn 1 (.inr rfl) h1
 have hne:∀x:Int,(x=0∨x=1)→(∃i,i<ws.length∧mat ad i=true∧rdb (ws.getD i []) b≠x)→(lkS ws ad n ws.length).2.getD b 0≠x:=fun x hx ⟨i,hi,hm,hr⟩ e=>by
  have hfst:(lkS ws ad n ws.length).1=true:=by
   refine Classical.byContradiction fun hc=>?_
   have hz:∀k,i0<k→(lkS ws ad n k).1=true:=fun k=>by
    induction k with
    |zero=>intro h;omega
    |succ k ih=>
     intro h
     rw[lkS_succ]
     unfold lkStep
     by_cases hm:mat ad k=true
     ·rw[if_pos hm]
     ·rw[if_neg hm]
      exact ih (by
       have:i0≠k:=fun e=>hm (e▸hm0)
       omega)
   exact hc (hz _ hi0')
  have:=((hall x hx).1 ⟨hfst,e⟩).2 i hi hm
  rw[bitsL_at _ _ _ hb]at this
  exact hr this
 have hv:(lkS ws ad n ws.length).2.getD b 0=2:=by
  rcases lkS_012 ws ad n b hb ws.length with e|e|e
  ·exact absurd e (hne 0 (.inl rfl) ⟨i,hi,hmi,hri⟩)
  ·exact absurd e (hne 1 (.inr rfl) ⟨j,hj,hmj,hrj⟩)
  ·exact e
 rw[hv]
 refine valL_mix (x:=0) (y:=1) ((lkbL_mem ws ad b 0).2 ⟨j,hj,hmj,?_⟩) ((lkbL_mem ws ad b 1).2 ⟨i,hi,hmi,?_⟩) (by decide)
 ·rcases bw_spec (ws.getD j []) b with⟨h2,h3⟩| ⟨h2,h3⟩| ⟨h2,h3⟩
  ·rw[h3];simp
  ·rw[h3];simp
  ·exact absurd h2 hrj
 ·rcases bw_spec (ws.getD i []) b with⟨h2,h3⟩| ⟨h2,h3⟩| ⟨h2,h3⟩
  ·rw[h3];simp
  ·exact absurd h2 hri
  ·rw[h3];simp
theorem ext_getD0{l l':List Int}(h:l.length=l'.length)(hh:∀i,i<l.length→l.getD i 0=l'.getD i 0):l=l':=List.ext_getElem h fun i h1 h2=>by
 have:=hh i h1
 rw[List.getD_eq_getElem?_getD,List.getElem?_eq_getElem h1,List.getD_eq_getElem?_getD,List.getElem?_eq_getElem h2]at this
 simpa using this
theorem rlkL_eq(ws:List (List Int))(ad:List Int)(n:Nat)(hl:2^ad.length≤ws.length):rlkL ws ad n=(lkS ws ad n ws.length).2:=by
 refine ext_getD0 (by rw[rlkL_len,lkS_len]) fun b h1=>?_
 have hb:b<n:=by rw[rlkL_len]at h1;exact h1
 rw[←look_ref ws ad n b hb hl]
 unfold rlkL
 exact getD_range_map _ _ _ _ hb
theorem refW_eq(ws:List (List Int))(ad dt:List Int)(en:Int)(j:Nat):refW (ws.getD j []) j ad dt en (ws.getD j []).length=stW ws ad dt en j:=by
 refine ext_getD0 (by rw[refW_len,stW_len]) fun b h1=>?_
 have hb:b<(ws.getD j []).length:=by rw[refW_len]at h1;exact h1
 rw[store_ref ws ad dt en j b hb]
 unfold refW
 exact getD_range_map _ _ _ _ hb
end Go.Proofs.YtemjmfpcopfdbaaGreatDoor
namespace Go.Proofs.YtemjmfpcopfdbaaGreatDoor.Lg
structure T3 where
 a:Nat
 b:Nat
 c:Nat
 deriving DecidableEq
def T3.zero:T3:=⟨0,0,0⟩
def T3.sum(t:T3):Nat:=t.a+t.b+t.c
def cellsT(t:T3):List Value:=[.int .i64 t.a,.int .i64 t.b,.int .i64 t.c]
def flatT(S:List T3):List Value:=S.flatMap cellsT
def eqT(s t:T3):Bool:=((s.a:Int)==(t.a:Int))&&(((s.b:Int)==(t.b:Int))&&((s.c:Int)==(t.c:Int)))
theorem eqT_iff(s t:T3):eqT s t=true↔s=t:=by
 cases s;cases t
 simp[eqT]
 omega
def bump(t:T3)(x:Int):T3:=if x=0 then ⟨t.a+1,t.b,t.c⟩ else if x=1 then ⟨t.a,t.b+1,t.c⟩ else ⟨t.a,t.b,t.c+1⟩
def addT(M:List T3)(t:T3):List T3:=if (M.any fun s=>eqT s t)=true then M else M++[t]
def inS(s:T3)(all:List Int)(M:List T3):List T3:=all.foldl (fun m x=>addT m (bump s x)) M
def midS(S:List T3)(all:List Int):List T3:=S.foldl (fun m s=>inS s all m) []
def cS(l:List Int)(bus:Bool):List T3:=l.foldl (fun S v=>midS S (chc v bus)) [T3.zero]
theorem flatT_len(S:List T3):(flatT S).length=S.length*3:=by
 induction S with
 |nil=>rfl
 |cons s S ih=>simp only[flatT,List.flatMap_cons,List.length_append]at ih ⊢;rw[ih];simp[cellsT];omega
theorem flatT_snoc(S:List T3)(t:T3):flatT (S++[t])=flatT S++cellsT t:=by simp[flatT,List.flatMap_append]
theorem flatT_get(S:List T3)(k:Nat)(h:k<S.length):(flatT S)[k*3]? =some (.int .i64 (S.getD k T3.zero).a)∧(flatT S)[k*3+1]? =some (.int .i64 (S.getD k T3.zero).b)∧(flatT S)[k*3+2]? =some (.int .i64 (S.getD k T3.zero).c):=by
 induction S generalizing k with
 |nil=>simp at h
 |cons s S ih=>
  cases k with
  |zero=>exact⟨rfl,rfl,rfl⟩
  |succ k=>
   have h':k<S.length:=by simpa using h
   have e:flatT (s::S)=cellsT s++flatT S:=rfl
   have hl:(cellsT s).length=3:=rfl
   obtain⟨h1,h2,h3⟩:=ih k h'
   rw[e]
   refine⟨?_,?_,?_⟩
   ·rw[List.getElem?_append_right (by rw[hl];omega),hl,show (k+1)*3-3=k*3 by omega,h1];rfl
   ·rw[List.getElem?_append_right (by rw[hl];omega),hl,show (k+1)*3+1-3=k*3+1 by omega,h2];rfl
   ·rw[List.getElem?_append_right (by rw[hl];omega),hl,show (k+1)*3+2-3=k*3+2 by omega,h3];rfl
theorem fold_take{α β:Type}(f:β→α→β)(z:β)(d:α)(l:List α)(k:Nat)(h:k<l.length):(l.take (k+1)).foldl f z=f ((l.take k).foldl f z) (l.getD k d):=by
 rw[List.take_succ_eq_append_getElem h,List.foldl_append,List.getD_eq_getElem?_getD,List.getElem?_eq_getElem h];rfl
theorem addT_len(M:List T3)(t:T3):(addT M t).length≤M.length+1:=by unfold addT;split<;>simp
theorem inS_len(s:T3)(all:List Int)(M:List T3):(inS s all M).length≤M.length+all.length:=by
 unfold inS
 induction all generalizing M with
 |nil=>simp
 |cons x all ih=>rw[List.foldl_cons];have:=ih (addT M (bump s x));have:=addT_len M (bump s x);simp;omega
theorem mid_len(S:List T3)(all:List Int)(M:List T3):(S.foldl (fun m s=>inS s all m) M).length≤M.length+S.length*all.length:=by
 induction S generalizing M with
 |nil=>simp
 |cons s S ih=>
  rw[List.foldl_cons]
  have h1:=ih (inS s all M)
  have h2:=inS_len s all M
  rw[List.length_cons,Nat.add_mul,Nat.one_mul];omega
theorem chc_len(v:Int)(bus:Bool):1≤(chc v bus).length∧(chc v bus).length≤3:=by
 unfold chc;repeat' split
 all_goals simp
theorem cS_len(l:List Int)(bus:Bool)(S:List T3):(l.foldl (fun S v=>midS S (chc v bus)) S).length≤S.length*3^l.length:=by
 induction l generalizing S with
 |nil=>simp
 |cons v l ih=>
  rw[List.foldl_cons]
  refine Nat.le_trans (ih _) ?_
  have h1:=mid_len S (chc v bus) []
  have h2:=(chc_len v bus).2
  have h3:(midS S (chc v bus)).length≤S.length*3:=by
   unfold midS
   have:S.length*(chc v bus).length≤S.length*3:=Nat.mul_le_mul_left _ h2
   simp only[List.length_nil,Nat.zero_add]at h1
   omega
  rw[List.length_cons,Nat.pow_succ,Nat.mul_comm (3^l.length) 3,←Nat.mul_assoc]
  exact Nat.mul_le_mul_right _ h3
theorem addT_mem(M:List T3)(t s:T3):s∈addT M t↔s∈M∨s=t:=by
 unfold addT
 split
 ·next h=>
  obtain⟨u,hu,he⟩:=List.any_eq_true.1 h
  have he:=(eqT_iff u t).1 he
  subst he
  constructor
  ·exact .inl
  ·rintro (h|rfl)
   ·exact h
   ·exact hu
 ·simp
theorem inS_mem(s:T3)(all:List Int)(M:List T3)(t:T3):t∈inS s all M↔t∈M∨∃x∈all,t=bump s x:=by
 unfold inS
 induction all generalizing M with
 |nil=>simp
 |cons x all ih=>
  rw[List.foldl_cons,ih,addT_mem]
  simp only[List.mem_cons,exists_eq_or_imp]
  exact or_assoc
theorem mid_mem(S:List T3)(all:List Int)(M:List T3)(t:T3):t∈S.foldl (fun m s=>inS s all m) M↔t∈M∨∃s∈S,∃x∈all,t=bump s x:=by
 induction S generalizing M with
 |nil=>simp
 |cons s S ih=>
  rw[List.foldl_cons,ih,inS_mem]
  simp only[List.mem_cons,exists_eq_or_imp]
  exact or_assoc
theorem midS_mem(S:List T3)(all:List Int)(t:T3):t∈midS S all↔∃s∈S,∃x∈all,t=bump s x:=by
 unfold midS;rw[mid_mem];simp
theorem bump_sum(t:T3)(x:Int):(bump t x).sum=t.sum+1:=by unfold bump T3.sum;split<;>(try split)<;>simp<;>omega
theorem pos_of_mem{α:Type}{l:List α}{x:α}(h:x∈l):1≤l.length:=List.length_pos_of_mem h
theorem midS_pos(S:List T3)(all:List Int)(h1:1≤S.length)(h2:1≤all.length):1≤(midS S all).length:=
 pos_of_mem ((midS_mem S all (bump S[0] all[0])).2 ⟨S[0],List.getElem_mem _,all[0],List.getElem_mem _,rfl⟩)
theorem foldS_pos(l:List Int)(bus:Bool)(S:List T3)(h:1≤S.length):1≤(l.foldl (fun S v=>midS S (chc v bus)) S).length:=by
 induction l generalizing S with
 |nil=>exact h
 |cons v l ih=>rw[List.foldl_cons];exact ih _ (midS_pos S _ h (chc_len v bus).1)
theorem cS_pos(l:List Int)(bus:Bool):1≤(cS l bus).length:=foldS_pos l bus _ (Nat.le_refl _)
theorem midS_sum(S:List T3)(all:List Int)(m:Nat)(h:∀t∈S,t.sum=m):∀t∈midS S all,t.sum=m+1:=by
 intro t ht
 obtain⟨s,hs,x,-,rfl⟩:=(midS_mem S all t).1 ht
 rw[bump_sum,h s hs]
theorem foldS_sum(l:List Int)(bus:Bool)(S:List T3)(m:Nat)(h:∀t∈S,t.sum=m):∀t∈l.foldl (fun S v=>midS S (chc v bus)) S,t.sum=m+l.length:=by
 induction l generalizing S m with
 |nil=>simpa using h
 |cons v l ih=>
  rw[List.foldl_cons]
  intro t ht
  rw[ih _ (m+1) (midS_sum S _ m h) t ht,List.length_cons];omega
theorem cS_sum(l:List Int)(bus:Bool):∀t∈cS l bus,t.sum=l.length:=fun t ht=>by
 have:=foldS_sum l bus [T3.zero] 0 (by simp[T3.zero,T3.sum]) t ht
 omega
theorem getD_mem3(S:List T3)(k:Nat)(h:k<S.length):S.getD k T3.zero∈S:=by
 rw[List.getD_eq_getElem?_getD,List.getElem?_eq_getElem h];exact List.getElem_mem h
theorem cS_small(l:List Int)(bus:Bool)(h:l.length≤7):(cS l bus).length≤2187:=by
 have h1:=cS_len l bus [T3.zero]
 have h2:3^l.length≤3^7:=Nat.pow_le_pow_right (by decide) h
 have:(cS l bus).length≤1*3^l.length:=h1
 omega
theorem chc_ways'(v:Int)(bus:Bool):chc v bus=[0]∨chc v bus=[1]∨chc v bus=[2]∨chc v bus=[0,1,2]∨chc v bus=[0,1]:=by
 unfold chc;repeat' split
 all_goals simp
theorem chc_vals(v:Int)(bus:Bool)(m:Nat)(h:m<(chc v bus).length):(chc v bus).getD m 0=0∨(chc v bus).getD m 0=1∨(chc v bus).getD m 0=2:=by
 have hm:(chc v bus).getD m 0∈chc v bus:=by
  rw[List.getD_eq_getElem?_getD,List.getElem?_eq_getElem h];exact List.getElem_mem h
 generalize (chc v bus).getD m 0=z at hm ⊢
 rcases chc_ways' v bus with e|e|e|e|e<;>rw[e]at hm<;>simp at hm<;>omega
def comp(t:T3)(e:Nat):Nat:=if e=0 then t.a else if e=1 then t.b else t.c
def pre(t:T3)(e:Nat):List Int:=if e=0 then [] else if e=1 then List.replicate t.a 0 else if e=2 then List.replicate t.a 0++List.replicate t.b 1 else List.replicate t.a 0++List.replicate t.b 1++List.replicate t.c 2
theorem pre_succ(t:T3)(e:Nat)(h:e<3):pre t (e+1)=pre t e++List.replicate (comp t e) (e:Int):=by
 rcases (by omega:e=0∨e=1∨e=2) with rfl|rfl|rfl<;>simp[pre,comp]
theorem pre_len(t:T3)(e:Nat)(h:e≤3):(pre t e).length≤t.sum:=by
 unfold T3.sum
 rcases (by omega:e=0∨e=1∨e=2∨e=3) with rfl|rfl|rfl|rfl<;>simp[pre]<;>omega
theorem comp_le(t:T3)(e:Nat):comp t e≤t.sum:=by
 unfold comp T3.sum
 split
 ·omega
 ·split<;>omega
def fnT(q:Int)(t:T3):Int:=fn q (pre t 3)
theorem cnt_app(x:Int)(a b:List Int):cnt x (a++b)=cnt x a+cnt x b:=by
 induction a with
 |nil=>simp[cnt]
 |cons v a ih=>rw[List.cons_append,cnt,cnt,ih];omega
theorem cnt_rep(x y:Int)(m:Nat):cnt x (List.replicate m y)=if y=x then m else 0:=by
 induction m with
 |zero=>simp[cnt]
 |succ m ih=>rw[List.replicate_succ,cnt,ih];split<;>omega
theorem cnt_pre(t:T3):cnt 1 (pre t 3)=t.b∧cnt 0 (pre t 3)=t.a:=by
 have e:pre t 3=List.replicate t.a 0++List.replicate t.b 1++List.replicate t.c 2:=rfl
 rw[e]
 constructor
 ·rw[cnt_app,cnt_app,cnt_rep,cnt_rep,cnt_rep];simp
 ·rw[cnt_app,cnt_app,cnt_rep,cnt_rep,cnt_rep];simp
open Go.RowKit
structure Beh(w:World) where
 x:World
 below:Below w.heap.size w x
instance behNonempty (w:World):Nonempty (Beh w):=⟨⟨w,Below.refl _ _⟩⟩
theorem own_form{w:World}{base:Nat}{e:TypeId}{size n:Nat}{v:Value}{xs:List Value}(h:w.ownsRow base e size v n xs)(hn:0<n):∃g cap,v=.slice (some ⟨g,0,none⟩) n cap∧base≤g∧g<w.heap.size∧n≤cap:=by
 rcases h.2 with⟨-,h0⟩| ⟨g,cap,cur,hv,hb,hg,hle,-⟩
 ·omega
 ·refine⟨g,cap,hv,hb,?_,hle⟩
  rcases Nat.lt_or_ge g w.heap.size with h|h
  ·exact h
  ·rw[Array.getElem?_eq_none h]at hg;cases hg
theorem join{w0 w1 w2:World}(hb:Below w0.heap.size w0 w1)(hp:Below w1.heap.size w1 w2):Below w0.heap.size w0 w2:=hb.trans (hp.mono hb.size)
structure Own(g:Nat)(w w':World):Prop where
 below:Below g w w'
 size:g≤w'.heap.size
theorem Own.drew{g:Nat}{w w':World}(h:Own g w w'):Own g w w'.drew:=⟨h.below.drew,h.size⟩
theorem Own.alloc{g:Nat}{w w':World}(h:Own g w w')(o:Obj):Own g w (w'.alloc o):=⟨h.below.alloc h.size o,by have:=h.size;simp;omega⟩
theorem Own.grown{g:Nat}{w w' w'':World}{row:Option Nat}(h:Own g w w')(hg:w'.grownBy w'' row)(hr:∀q,row=some q→g≤q):Own g w w'':=
 ⟨h.below.grown hg h.size hr,Nat.le_trans h.size hg.size⟩
theorem add_flat(b o j:Nat):(⟨b,o,none⟩:Addr).add j=⟨b,o+j,none⟩:=WideShapes.add_plain b o j
section
variable {w w':World} {g b o n k:Nat} {l:List Int} (hc:∀k,k<n→b<w.heap.size∧w.cell? ⟨b,o+k,none⟩=some (.int .u8 (l.getD k 0))) (hb:Below g w w') (hg:g=w.heap.size)
include hc hb hg
end
theorem one_kept'{w wA w':World}{u:Value}{t:TypeId}{r:Option Nat}(hg:wA.grownBy w' r)(hh:wA.heap=(w.alloc (.cells #[u] t)).heap) (hr:r=none):∀(j:Nat) (v:Value),[u][j]? =some v→w'.cell? ((⟨w.heap.size,0,none⟩:Addr).add j)=some v:=fun j v h=>by
 subst hr
 have e:((⟨w.heap.size,0,none⟩:Addr).add j)=⟨w.heap.size,j,none⟩:=by rw[add_flat,Nat.zero_add]
 rw[World.cell?_of_block (w:=w.alloc (.cells #[u] t)) (by rw[e,←hh];exact hg.block w.heap.size (by rw[hh];simp) (by simp))]
 exact one_new w u t j v h
end Go.Proofs.YtemjmfpcopfdbaaGreatDoor.Lg
