/- . -/
import Derived.Test.YtjdjcaobkmpoeaaDoorRsn
import Derived.Test.YtjdjcaobkmpoeaaDoorM20
import Derived.Test.YtjdjcaobkmpoeaaDoorM08
namespace Go.Proofs.YtjdjcaobkmpoeaaDoor
open Go.RowKit
set_option maxHeartbeats 2000000 in
theorem refName_w(s:ByteArray)(hsm:s.size≤maxLen)(w:World):Calls Tryd.prog 47 #[.string s] w fun e w'=>e=.returned (.bool (nameOk s.data.toList))∧w=w':=by
 obtain⟨y,HY⟩:=named (nameOk s.data.toList)
 rw[←HY.out]
 have hlen:s.data.toList.length=s.size:=by simp
 have HL:=Lib.hid hlen
 unfold maxLen at hsm
 clear hlen
 go_enter Tryd.func47,Tryd.ntmps47
 go_wp2
 go_loopw [3] (fun i wr=>wr=w∧∃k:Nat,k≤s.size∧i=.int .i64 k∧∀j,j<k→nmb ((s.data.toList.getD j 0).toNat:Int)=true) (fun i _=>s.size-(intOf i).toNat)
 case atStart=>exact⟨rfl,0,Nat.zero_le _,rfl,fun j hj=>absurd hj (by omega)⟩
 case round=>
  obtain⟨rfl,k,hk,rfl,hno⟩:=hrel
  have HNO:=Lib.hid hno
  clear hno
  by_cases hlt:k<s.size
  ·have hb:(((s[k]'hlt).toNat:Nat):Int)=((s.data.toList.getD k 0).toNat:Int):=by
    rw[List.getD_eq_getElem?_getD,List.getElem?_eq_getElem (by simpa using hlt)];rfl
   have HB:=Lib.hid hb
   clear hb
   rcases nmb_cases ((s[k]'hlt).toNat:Int) with⟨hv,hc⟩| ⟨hv,q1,q2,q3,q4,q5,q6,q7⟩
   ·have HV:=Lib.hid hv
    clear hv
    rcases hc with q1| ⟨q1,q2⟩| ⟨q1,q2,q3⟩| ⟨q1,q2,q3,q4⟩| ⟨q1,q2,q3,q4,q5⟩| ⟨q1,q2,q3,q4,q5,q6⟩| ⟨q1,q2,q3,q4,q5,q6,q7⟩
    all_goals
     go_wp2
     go_ret
     exact⟨ret_bool (by rw[HY.out];exact (name_no k (by rw[HL.out];exact hlt) (by rw[←HB.out];exact HV.out)).symm),rfl⟩
   ·have HV:=Lib.hid hv
    clear hv
    go_wp2
    go_roundw
    case rel=>
     refine⟨by trivial,k+1,by omega,by go_num,fun j hj=>?_⟩
     by_cases hjk:j=k
     ·rw[hjk,←HB.out];exact HV.out
     ·exact HNO.out j (by omega)
    case measure=>simp[intOf];omega
  ·have hall:∀j,j<s.data.toList.length→nmb ((s.data.toList.getD j 0).toNat:Int)=true:=fun j hj=>HNO.out j (by rw[HL.out]at hj;omega)
   have HA:=Lib.hid hall
   clear hall
   by_cases hp:0<s.size
   ·by_cases h32:s.size≤32
    ·have hy:y=true:=by rw[HY.out];exact name_yes (by rw[HL.out];exact hp) (by rw[HL.out];exact h32) HA.out
     subst hy
     clear HY
     go_wp2
     go_ret
     exact⟨ret_bool (by first|(simp;done)|(simp;omega)),rfl⟩
    ·have hy:y=false:=by rw[HY.out];simp[nameOk,HL.out];omega
     subst hy
     clear HY
     go_wp2
     go_ret
     exact⟨ret_bool (by first|(simp;done)|(simp;omega)),rfl⟩
   ·have hy:y=false:=by rw[HY.out];simp[nameOk,HL.out];omega
    subst hy
    clear HY
    go_wp2
    go_ret
    exact⟨ret_bool (by first|(simp;done)|(simp;omega)),rfl⟩
set_option maxRecDepth 100000 in
set_option maxHeartbeats 8000000 in
theorem rshape_any(c:Ck)(v:Value)(w:World)(B:Nat)(hB:B≤w.heap.size)(hc:Cir w B v c):
 Calls Tryd.prog 23 #[v] w fun e w'=>e=.returned (.int .i64 (shapeErr c))∧Below w.heap.size w w':=by
 obtain⟨y,HY⟩:=named (shapeErr c)
 rw[←HY.out]
 have HNODE:=Lib.hid (fun(i:Nat) (hi:i<c.nodes.length) (w1:World) (hb:Below w.heap.size w w1)=>rnode_any c i hi v w1 B (Nat.le_trans hB hb.size) (hc.below (hb.mono hB)))
 have HALL:=Lib.hid (fun(l:List Int) (s:Value) (w1:World) (hb:Below w.heap.size w w1) (hs:Is w B s l)=>rall_any c l v s w1 B B (Nat.le_trans hB hb.size) (Nat.le_trans hB hb.size) (hc.below (hb.mono hB)) (hs.below (hb.mono hB)))
 have HISR:=Lib.hid (fun(x:Int) (w1:World) (hb:Below w.heap.size w w1)=>refIs_any c x v w1 B (hc.below (hb.mono hB)))
 obtain⟨v0,v1,v2,v3,rfl,hns,hss,hms,hos⟩:=hc
 have hm0:=Arr.len hns
 have hm3:=Arr.len hos
 obtain⟨A0,b0,o0,c0,rfl,-⟩:=hns
 obtain⟨A1,b1,o1,c1,rfl,hA1,-,hm1,hc1⟩:=hss.opens
 obtain⟨A2,b2,o2,c2,rfl,hA2,-,hm2,hc2⟩:=hms
 obtain⟨A3,b3,o3,c3,rfl,-⟩:=id hos
 have HA1:=Lib.hid hA1
 have HC1:=Lib.hid hc1
 have HA2:=Lib.hid hA2
 have HC2:=Lib.hid hc2
 have HOS:=Lib.hid hos
 unfold maxLen at hm0 hm1 hm2 hm3
 clear hA1 hc1 hA2 hc2 hss hos
 have HYD:Hid (y=if 16384<c.nodes.length∨16<c.mems.length∨16384<c.outs.length then 3 else if c.names.length≠c.nodes.length then 8 else if firstE (nodeErr c) c.nodes≠0 then firstE (nodeErr c) c.nodes else if namesOk c.names=false then 5 else if firstE (memErr c) c.mems≠0 then firstE (memErr c) c.mems else if areIdx c.nodes.length c.outs=false then 1 else 0):=HY
 have HOA:=Lib.hid (fun(w1:World) (hb:Below w.heap.size w w1)=>HALL.out c.outs _ w1 hb HOS.out)
 obtain⟨n,HN⟩:=named c.nodes.length
 obtain⟨n1,HN1⟩:=named c.names.length
 obtain⟨n2,HN2⟩:=named c.mems.length
 obtain⟨n3,HN3⟩:=named c.outs.length
 rw[←HN.out]at hm0 HNODE HALL HISR HYD HOA
 rw[←HN1.out]at hm1 HNODE HALL HISR HYD HOA HA1 HC1
 rw[←HN2.out]at hm2 HNODE HALL HISR HYD HOA HA2 HC2
 rw[←HN3.out]at hm3 HNODE HALL HISR HYD HOA
 rw[←HN.out,←HN1.out,←HN2.out,←HN3.out]
 clear HOS
 obtain⟨W1,HW1⟩:=named (w.alloc (.cells #[.slice A0 n c0,.slice A1 n1 c1,.slice A2 n2 c2,.slice A3 n3 c3] 27))
 have hb1:Below w.heap.size w W1:=by rw[HW1.out];exact below_new (Below.refl _ _) _
 have hfa:Fr W1 w.heap.size 27 [.slice A0 n c0,.slice A1 n1 c1,.slice A2 n2 c2,.slice A3 n3 c3]:=by rw[HW1.out];exact Fr.made _ _ _ rfl
 have HCA:Hid (∀W,Below W1.heap.size W1 W→W.cell? ⟨w.heap.size,0,none⟩=some (.slice A0 n c0)∧W.cell? ⟨w.heap.size,1,none⟩=some (.slice A1 n1 c1)∧W.cell? ⟨w.heap.size,2,none⟩=some (.slice A2 n2 c2)∧W.cell? ⟨w.heap.size,3,none⟩=some (.slice A3 n3 c3)):=
  Lib.hid fun W hb=>⟨(hfa.below hb).cell 0,(hfa.below hb).cell 1,(hfa.below hb).cell 2,(hfa.below hb).cell 3⟩
 have HB1:=Lib.hid hb1
 have hw1:=hb1.size
 have HNE:Hid (∀k,k<n→∀W,Below W1.heap.size W1 W→Calls Tryd.prog 46 #[.agg #[.slice A0 n c0,.slice A1 n1 c1,.slice A2 n2 c2,.slice A3 n3 c3],.int .i64 (k:Int)] W fun e w'=>e=.returned (.int .i64 (nodeErr c (c.nodes.getD k default)))∧Below W.heap.size W w'):=
  Lib.hid fun k hk W hb=>HNODE.out k hk W (joinB HB1.out hb)
 have HAL:Hid (∀(l:List Int) (s:Value),Is w B s l→∀W,Below W1.heap.size W1 W→Calls Tryd.prog 48 #[.agg #[.slice A0 n c0,.slice A1 n1 c1,.slice A2 n2 c2,.slice A3 n3 c3],s] W fun e w'=>e=.returned (.bool (areIdx n l))∧Below W.heap.size W w'):=
  Lib.hid fun l s hs W hb=>HALL.out l s W (joinB HB1.out hb) hs
 have HIX:Hid (∀(x:Int) W,Below W1.heap.size W1 W→Calls Tryd.prog 8 #[.agg #[.slice A0 n c0,.slice A1 n1 c1,.slice A2 n2 c2,.slice A3 n3 c3],.int .i64 x] W fun e w'=>e=.returned (.bool (isIdx n x))∧Below W.heap.size W w'):=
  Lib.hid fun x W hb=>HISR.out x W (joinB HB1.out hb)
 have HOO:Hid (∀W,Below W1.heap.size W1 W→Calls Tryd.prog 48 #[.agg #[.slice A0 n c0,.slice A1 n1 c1,.slice A2 n2 c2,.slice A3 n3 c3],.slice A3 n3 c3] W fun e w'=>e=.returned (.bool (areIdx n c.outs))∧Below W.heap.size W w'):=
  Lib.hid fun W hb=>HOA.out W (joinB HB1.out hb)
 clear hfa hb1 HNODE HALL HISR HOA
 obtain⟨a0,a1,a2,a3⟩:=HCA.out W1 (Below.refl _ _)
 by_cases h1:16384<n
 ·have hv:y=3:=by rw[HYD.out];exact if_pos (.inl h1)
  have HV:=Lib.hid hv
  clear hv
  go_enter Tryd.func23,Tryd.ntmps23
  go_upto_region 1 with (fail)
  rw[←HW1.out]
  go_wp2
  go_ret
  exact⟨ret_int HV.out.symm,HB1.out⟩
 by_cases h2:16<n2
 ·have hv:y=3:=by rw[HYD.out];exact if_pos (.inr (.inl h2))
  have HV:=Lib.hid hv
  clear hv
  go_enter Tryd.func23,Tryd.ntmps23
  go_upto_region 1 with (fail)
  rw[←HW1.out]
  go_wp2
  go_ret
  exact⟨ret_int HV.out.symm,HB1.out⟩
 by_cases h3:16384<n3
 ·have hv:y=3:=by rw[HYD.out];exact if_pos (.inr (.inr h3))
  have HV:=Lib.hid hv
  clear hv
  go_enter Tryd.func23,Tryd.ntmps23
  go_upto_region 1 with (fail)
  rw[←HW1.out]
  go_wp2
  go_ret
  exact⟨ret_int HV.out.symm,HB1.out⟩
 by_cases h4:n1=n
 rotate_left
 ·have h4':(n1 != n)=true:=by simpa using h4
  have hv:y=8:=by rw[HYD.out,if_neg (by omega),if_pos h4]
  have HV:=Lib.hid hv
  clear hv
  go_enter Tryd.func23,Tryd.ntmps23
  go_upto_region 1 with (fail)
  rw[←HW1.out]
  go_wp2
  go_ret
  exact⟨ret_int HV.out.symm,HB1.out⟩
 subst h4
 have hye:y=if firstE (nodeErr c) c.nodes≠0 then firstE (nodeErr c) c.nodes else if namesOk c.names=false then 5 else if firstE (memErr c) c.mems≠0 then firstE (memErr c) c.mems else if areIdx n1 c.outs=false then 1 else 0:=by
  rw[HYD.out,if_neg (by omega),if_neg (fun h=>h rfl)]
 have HYE:=Lib.hid hye
 clear hye HYD HY
 go_enter Tryd.func23,Tryd.ntmps23
 go_upto_region 1 with (fail)
 rw[←HW1.out]
 go_wp2
 clear a0 a1 a2 a3
 go_loopw [3] (fun i wr=>Below W1.heap.size W1 wr∧∃k:Nat,k≤n1∧i=.int .i64 k∧∀j,j<k→nodeErr c (c.nodes.getD j default)=0) (fun i _=>n1-(intOf i).toNat)
 case atStart=>exact⟨Below.refl _ _,0,Nat.zero_le _,rfl,fun j hj=>absurd hj (by omega)⟩
 case round=>
  obtain⟨hbr,k,hk,rfl,hno⟩:=hrel
  have HNO:=Lib.hid hno
  have HBR:=Lib.hid hbr
  obtain⟨a0,a1,a2,a3⟩:=HCA.out _ hbr
  clear hno hbr
  by_cases hlt:k<n1
  ·have HK:=HNE.out k hlt _ HBR.out
   obtain⟨z,HZ⟩:=named (nodeErr c (c.nodes.getD k default))
   rw[←HZ.out]at HK
   have HKK:=Lib.hid HK
   clear HK
   by_cases hz:z=0
   ·subst hz
    go_wp2_with (go_at_call 46;(with_reducible refine HKK.out.mono ?_);rintro e w5 ⟨rfl,hb⟩;have HB5:=Lib.hid hb;clear hb)
    go_roundw
    case rel=>
     refine⟨joinB HBR.out HB5.out,k+1,by omega,by go_num,fun j hj=>?_⟩
     by_cases hjk:j=k
     ·rw[hjk];exact HZ.out.symm
     ·exact HNO.out j (by omega)
    case measure=>simp[intOf];omega
   ·have hz':(z != 0)=true:=by simpa using hz
    have hf:firstE (nodeErr c) c.nodes=z:=by rw[HZ.out];exact firstE_hit default _ _ k (by rw[←HN.out];exact hlt) HNO.out (by rw[←HZ.out];exact hz)
    have hv:y=z:=by rw[HYE.out,hf,if_pos hz]
    have HV:=Lib.hid hv
    clear hv hf hz
    go_wp2_with (go_at_call 46;(with_reducible refine HKK.out.mono ?_);rintro e w5 ⟨rfl,hb⟩;have HB5:=Lib.hid hb;clear hb)
    go_ret
    exact⟨ret_int HV.out.symm,joinB HB1.out (joinB HBR.out HB5.out)⟩
  ·obtain rfl:n1=k:=by omega
   have hf:firstE (nodeErr c) c.nodes=0:=firstE_none default _ _ fun j hj=>HNO.out j (by rw[HN.out];exact hj)
   have hye:y=if namesOk c.names=false then 5 else if firstE (memErr c) c.mems≠0 then firstE (memErr c) c.mems else if areIdx n1 c.outs=false then 1 else 0:=by rw[HYE.out,hf,if_neg (fun h=>h rfl)]
   have HYF:=Lib.hid hye
   clear hye hf HYE HNO HNE
   go_wp2
   clear a0 a1 a2 a3
   go_loopw [5] (fun i wr=>Below W1.heap.size W1 wr∧∃k:Nat,k≤n1∧i=.int .i64 k∧∀j,j<k→badName c.names j=false) (fun i _=>n1-(intOf i).toNat)
   case atStart=>exact⟨HBR.out,0,Nat.zero_le _,rfl,fun j hj=>absurd hj (by omega)⟩
   case round=>
    clear HBR hk
    obtain⟨hbr,k,hk,rfl,hno⟩:=hrel
    have HNO:=Lib.hid hno
    have HBR:=Lib.hid hbr
    obtain⟨a0,a1,a2,a3⟩:=HCA.out _ hbr
    clear hno hbr
    by_cases hlt:k<n1
    ·obtain rfl:=HA1.out (by omega)
     have HCN:Hid (∀j,j<n1→∀W,Below W1.heap.size W1 W→W.cell? ⟨b1,o1+j,none⟩=some (.string (c.names.getD j ByteArray.empty))):=Lib.hid fun j hj W hb=>((joinB HB1.out hb).cell (p:=⟨b1,o1+j,none⟩) (by show b1<w.heap.size;have:=(HC1.out j hj).1;omega)).trans (HC1.out j hj).2.1
     have hn0:=HCN.out k hlt _ HBR.out
     obtain⟨s,HS⟩:=named (c.names.getD k ByteArray.empty)
     rw[←HS.out]at hn0
     have HNM:Hid (∀W,Calls Tryd.prog 47 #[.string s] W fun e w'=>e=.returned (.bool (nameOk s.data.toList))∧W=w'):=Lib.hid fun W=>refName_w s (by rw[HS.out];exact (HC1.out k hlt).2.2) W
     cases hok:nameOk s.data.toList
     ·have hbad:badName c.names k=true:=by unfold badName;rw[←HS.out,hok];simp
      have hv:y=5:=by rw[HYF.out,if_pos (namesOk_no k (by rw[←HN1.out];exact hlt) hbad)]
      have HV:=Lib.hid hv
      rw[hok]at HNM
      clear hv hbad hok
      go_wp2_with (go_at_call 47;(with_reducible refine (HNM.out _).mono ?_);rintro e w5 ⟨rfl,rfl⟩)
      go_ret
      exact⟨ret_int HV.out.symm,joinB HB1.out HBR.out⟩
     ·have HOK:=Lib.hid hok
      rw[hok]at HNM
      clear hok
      go_wp2_with (go_at_call 47;(with_reducible refine (HNM.out _).mono ?_);rintro e w5 ⟨rfl,rfl⟩)
      clear a0 a1 a2 a3 hn0 HNM
      go_loopw [6] (fun i wr=>Below W1.heap.size W1 wr∧∃m:Nat,m≤k∧i=.int .i64 m∧∀j,j<m→((c.names.getD j ByteArray.empty).toList==s.toList)=false) (fun i _=>k-(intOf i).toNat)
      case atStart=>exact⟨HBR.out,0,Nat.zero_le _,rfl,fun j hj=>absurd hj (by omega)⟩
      case round=>
       clear HBR
       obtain⟨hbr,m,hm,rfl,hno2⟩:=hrel
       have HNO2:=Lib.hid hno2
       have HBR:=Lib.hid hbr
       obtain⟨a0,a1,a2,a3⟩:=HCA.out _ hbr
       clear hno2 hbr
       by_cases hlm:m<k
       ·have hnk:=HCN.out k hlt _ HBR.out
        have hnm:=HCN.out m (by omega) _ HBR.out
        rw[←HS.out]at hnk
        obtain⟨s',HS'⟩:=named (c.names.getD m ByteArray.empty)
        rw[←HS'.out]at hnm
        cases hv2:(s'.toList==s.toList)
        ·have HV2:=Lib.hid hv2
         go_wp2
         go_quiet (fail)
         go_wp2
         go_roundw
         case rel=>
          refine⟨below_drewN HBR.out _,m+1,by omega,by go_num,fun j hj=>?_⟩
          by_cases hjk:j=m
          ·rw[hjk,←HS'.out];exact HV2.out
          ·exact HNO2.out j (by omega)
         case measure=>simp[intOf];omega
        ·have e:s'.toList=s.toList:=by simpa using hv2
         rw[ByteArray.toList_eq,ByteArray.toList_eq]at e
         have hbad:badName c.names k=true:=by
          unfold badName
          rw[Bool.or_eq_true]
          refine .inl (decide_eq_true ?_)
          refine List.mem_map.2 ⟨s',?_,by rw[←HS.out,e]⟩
          rw[HS'.out]
          have hlen:m<(c.names.take k).length:=by rw[List.length_take,←HN1.out];omega
          have:c.names.getD m ByteArray.empty=(c.names.take k)[m]'hlen:=by
           rw[List.getElem_take,List.getD_eq_getElem?_getD,List.getElem?_eq_getElem (by rw[←HN1.out];omega)];rfl
          rw[this];exact List.getElem_mem _
         have hv:y=5:=by rw[HYF.out,if_pos (namesOk_no k (by rw[←HN1.out];exact hlt) hbad)]
         have HV:=Lib.hid hv
         clear hv hbad e
         go_wp2
         go_quiet (fail)
         go_wp2
         go_ret
         exact⟨ret_int HV.out.symm,joinB HB1.out (below_drewN HBR.out _)⟩
       ·obtain rfl:m=k:=by omega
        have hgood:badName c.names m=false:=by
         unfold badName
         rw[Bool.or_eq_false_iff,←HS.out,HOK.out]
         refine⟨decide_eq_false fun h=>?_,rfl⟩
         obtain⟨t,ht,e⟩:=List.mem_map.1 h
         obtain⟨j,hj,e2⟩:=List.mem_iff_getElem.1 ht
         rw[List.length_take,←HN1.out]at hj
         rw[List.getElem_take]at e2
         have e3:c.names.getD j ByteArray.empty=t:=by
          rw[List.getD_eq_getElem?_getD,List.getElem?_eq_getElem (by rw[←HN1.out];omega),←e2];rfl
         have e4:=HNO2.out j (by omega)
         rw[e3,ByteArray.toList_eq,ByteArray.toList_eq,e]at e4
         simp at e4
        have HGD:=Lib.hid hgood
        clear hgood
        go_wp2
        go_roundw
        case rel=>
         refine⟨HBR.out,m+1,by omega,by go_num,fun j hj=>?_⟩
         by_cases hjk:j=m
         ·rw[hjk];exact HGD.out
         ·exact HNO.out j (by omega)
        case measure=>simp[intOf];omega
    ·obtain rfl:n1=k:=by omega
     have hok:namesOk c.names=true:=namesOk_yes fun j hj=>HNO.out j (by rw[HN1.out];exact hj)
     have hye:y=if firstE (memErr c) c.mems≠0 then firstE (memErr c) c.mems else if areIdx n1 c.outs=false then 1 else 0:=by rw[HYF.out,hok,if_neg (fun h=>by cases h)]
     have HYG:=Lib.hid hye
     clear hye hok HYF HNO
     go_wp2
     clear a0 a1 a2 a3
     go_loopw [7] (fun i wr=>Below W1.heap.size W1 wr∧∃k:Nat,k≤n2∧i=.int .i64 k∧∀j,j<k→memErr c (c.mems.getD j default)=0) (fun i _=>n2-(intOf i).toNat)
     case atStart=>exact⟨HBR.out,0,Nat.zero_le _,rfl,fun j hj=>absurd hj (by omega)⟩
     case round=>
      clear HBR hk
      obtain⟨hbr,k,hk,rfl,hno⟩:=hrel
      have HNO:=Lib.hid hno
      have HBR:=Lib.hid hbr
      obtain⟨a0,a1,a2,a3⟩:=HCA.out _ hbr
      clear hno hbr
      by_cases hlt:k<n2
      ·obtain rfl:=HA2.out (by omega)
       obtain⟨hlb,sA,sD,g0,g1,g2,g3,g4⟩:=HC2.out k hlt
       have hm5:=Arr.len g3
       have hm6:=Arr.len g4
       unfold maxLen at hm5 hm6
       have HG3:=Lib.hid g3
       have HG4:=Lib.hid g4
       obtain⟨A5,b5,o5,c5,rfl,-⟩:=id g3
       obtain⟨A6,b6,o6,c6,rfl,-⟩:=id g4
       have hlw:b2<w.heap.size:=by omega
       have f0:=((joinB HB1.out HBR.out).cell (p:=⟨b2,o2+k*3,none⟩) hlw).trans g0
       have f1:=((joinB HB1.out HBR.out).cell (p:=⟨b2,o2+k*3+1,none⟩) hlw).trans g1
       have f2:=((joinB HB1.out HBR.out).cell (p:=⟨b2,o2+k*3+2,none⟩) hlw).trans g2
       clear g0 g1 g2 g3 g4
       obtain⟨x,HX⟩:=named (c.mems.getD k default)
       rw[←HX.out]at f0 f1 f2 HG3 HG4 hm5 hm6
       have hme:memErr c x=if x.addr.length<1∨8<x.addr.length∨x.data.length<1∨32<x.data.length then 8 else if isIdx n1 x.write=false∨areIdx n1 x.addr=false∨areIdx n1 x.data=false then 1 else 0:=by rw[HN.out];rfl
       have HHIT:Hid (memErr c x≠0→y=memErr c x):=Lib.hid fun hz=>by
        have hf:firstE (memErr c) c.mems=memErr c x:=by rw[HX.out];exact firstE_hit default _ _ k (by rw[←HN2.out];exact hlt) HNO.out (by rw[←HX.out];exact hz)
        rw[HYG.out,hf,if_pos hz]
       have HMA:Hid (∀W,Below W1.heap.size W1 W→Calls Tryd.prog 48 #[.agg #[.slice A0 n1 c0,.slice A1 n1 c1,.slice (some ⟨b2,o2,none⟩) n2 c2,.slice A3 n3 c3],.slice A5 x.addr.length c5] W fun e w'=>e=.returned (.bool (areIdx n1 x.addr))∧Below W.heap.size W w'):=Lib.hid (HAL.out _ _ HG3.out)
       have HMD:Hid (∀W,Below W1.heap.size W1 W→Calls Tryd.prog 48 #[.agg #[.slice A0 n1 c0,.slice A1 n1 c1,.slice (some ⟨b2,o2,none⟩) n2 c2,.slice A3 n3 c3],.slice A6 x.data.length c6] W fun e w'=>e=.returned (.bool (areIdx n1 x.data))∧Below W.heap.size W w'):=Lib.hid (HAL.out _ _ HG4.out)
       have HMI:=Lib.hid (HIX.out x.write)
       obtain⟨la,HLA⟩:=named x.addr.length
       obtain⟨ld,HLD⟩:=named x.data.length
       obtain⟨wv,HWV⟩:=named x.write
       rw[←HLA.out]at f0 hm5 hme HMA
       rw[←HLD.out]at f1 hm6 hme HMD
       rw[←HWV.out]at f2 hme HMI
       obtain⟨ba,HBA⟩:=named (areIdx n1 x.addr)
       obtain⟨bd,HBD⟩:=named (areIdx n1 x.data)
       obtain⟨bi,HBI⟩:=named (isIdx n1 wv)
       rw[←HBA.out]at HMA hme
       rw[←HBD.out]at HMD hme
       rw[←HBI.out]at HMI hme
       obtain⟨z,HZ⟩:=named (memErr c x)
       rw[←HZ.out]at hme HHIT
       clear HG3 HG4
       obtain⟨W2,HW2⟩:=named (wr.alloc (.cells #[.slice A5 la c5,.slice A6 ld c6,.int .i64 wv] 72))
       have hb2:Below wr.heap.size wr W2:=by rw[HW2.out];exact below_new (Below.refl _ _) _
       have hfm:Fr W2 wr.heap.size 72 [.slice A5 la c5,.slice A6 ld c6,.int .i64 wv]:=by rw[HW2.out];exact Fr.made _ _ _ rfl
       have HB2:=Lib.hid (joinB HBR.out hb2)
       have HCM:Hid (∀W,Below W2.heap.size W2 W→W.cell? ⟨wr.heap.size,0,none⟩=some (.slice A5 la c5)∧W.cell? ⟨wr.heap.size,1,none⟩=some (.slice A6 ld c6)∧W.cell? ⟨wr.heap.size,2,none⟩=some (.int .i64 wv)):=Lib.hid fun W hb=>⟨(hfm.below hb).cell 0,(hfm.below hb).cell 1,(hfm.below hb).cell 2⟩
       clear hb2 hfm
       have HME:=Lib.hid hme
       clear hme
       have HKC:Hid (∀W,Below W2.heap.size W2 W→W.cell? ⟨wr.heap.size,0,none⟩=some (.slice A5 la c5)∧W.cell? ⟨wr.heap.size,1,none⟩=some (.slice A6 ld c6)∧W.cell? ⟨wr.heap.size,2,none⟩=some (.int .i64 wv)∧W.cell? ⟨w.heap.size,0,none⟩=some (.slice A0 n1 c0)∧W.cell? ⟨w.heap.size,1,none⟩=some (.slice A1 n1 c1)∧W.cell? ⟨w.heap.size,2,none⟩=some (.slice (some ⟨b2,o2,none⟩) n2 c2)∧W.cell? ⟨w.heap.size,3,none⟩=some (.slice A3 n3 c3)):=Lib.hid fun W hb=>⟨(HCM.out W hb).1,(HCM.out W hb).2.1,(HCM.out W hb).2.2,HCA.out W (joinB HB2.out hb)⟩
       by_cases l0:la<1
       ·have hz:z=8:=by rw[HME.out];exact if_pos (.inl l0)
        have hv:y=8:=by rw[←hz];exact HHIT.out (by rw[hz];decide)
        have HV:=Lib.hid hv
        clear hv hz
        go_upto_region 25 with (fail)
        rw[←HW2.out]
        obtain⟨m0,m1,m2,q0,q1,q2,q3⟩:=HKC.out W2 (Below.refl _ _)
        go_wp2
        go_ret
        exact⟨ret_int HV.out.symm,joinB HB1.out HB2.out⟩
       by_cases l1:8<la
       ·have hz:z=8:=by rw[HME.out];exact if_pos (.inr (.inl l1))
        have hv:y=8:=by rw[←hz];exact HHIT.out (by rw[hz];decide)
        have HV:=Lib.hid hv
        clear hv hz
        go_upto_region 25 with (fail)
        rw[←HW2.out]
        obtain⟨m0,m1,m2,q0,q1,q2,q3⟩:=HKC.out W2 (Below.refl _ _)
        go_wp2
        go_ret
        exact⟨ret_int HV.out.symm,joinB HB1.out HB2.out⟩
       by_cases l2:ld<1
       ·have hz:z=8:=by rw[HME.out];exact if_pos (.inr (.inr (.inl l2)))
        have hv:y=8:=by rw[←hz];exact HHIT.out (by rw[hz];decide)
        have HV:=Lib.hid hv
        clear hv hz
        go_upto_region 25 with (fail)
        rw[←HW2.out]
        obtain⟨m0,m1,m2,q0,q1,q2,q3⟩:=HKC.out W2 (Below.refl _ _)
        go_wp2
        go_ret
        exact⟨ret_int HV.out.symm,joinB HB1.out HB2.out⟩
       by_cases l3:32<ld
       ·have hz:z=8:=by rw[HME.out];exact if_pos (.inr (.inr (.inr l3)))
        have hv:y=8:=by rw[←hz];exact HHIT.out (by rw[hz];decide)
        have HV:=Lib.hid hv
        clear hv hz
        go_upto_region 25 with (fail)
        rw[←HW2.out]
        obtain⟨m0,m1,m2,q0,q1,q2,q3⟩:=HKC.out W2 (Below.refl _ _)
        go_wp2
        go_ret
        exact⟨ret_int HV.out.symm,joinB HB1.out HB2.out⟩
       have HMF:Hid (z=if bi=false∨ba=false∨bd=false then 1 else 0):=Lib.hid (by rw[HME.out,if_neg (by omega)])
       clear HME
       cases ba
       ·skip
        have hz:z=1:=by rw[HMF.out];exact if_pos (by simp)
        have hv:y=1:=by rw[←hz];exact HHIT.out (by rw[hz];decide)
        have HV:=Lib.hid hv
        clear hv hz
        go_upto_region 25 with (fail)
        rw[←HW2.out]
        obtain⟨m0,m1,m2,q0,q1,q2,q3⟩:=HKC.out W2 (Below.refl _ _)
        go_wp2_with (go_at_call 48;(with_reducible refine (HMA.out W2 (HB2.out)).mono ?_);rintro e w5 ⟨rfl,hb⟩;have HW5:=Lib.hid hb;obtain⟨m0,m1,m2,q0,q1,q2,q3⟩:=HKC.out _ (hb);clear hb)
        go_ret
        exact⟨ret_int HV.out.symm,joinB HB1.out (joinB HB2.out HW5.out)⟩
       cases bd
       ·skip
        have hz:z=1:=by rw[HMF.out];exact if_pos (by simp)
        have hv:y=1:=by rw[←hz];exact HHIT.out (by rw[hz];decide)
        have HV:=Lib.hid hv
        clear hv hz
        go_upto_region 25 with (fail)
        rw[←HW2.out]
        obtain⟨m0,m1,m2,q0,q1,q2,q3⟩:=HKC.out W2 (Below.refl _ _)
        go_wp2_with (first|(go_at_call 48;(with_reducible refine (HMA.out W2 (HB2.out)).mono ?_);rintro e w5 ⟨rfl,hb⟩;have HW5:=Lib.hid hb;obtain⟨m0,m1,m2,q0,q1,q2,q3⟩:=HKC.out _ (hb);clear hb)|(go_at_call 48;(with_reducible refine (HMD.out w5 (joinB HB2.out HW5.out)).mono ?_);rintro e w6 ⟨rfl,hb⟩;have HW6:=Lib.hid hb;obtain⟨m0,m1,m2,q0,q1,q2,q3⟩:=HKC.out _ (joinB HW5.out hb);clear hb))
        go_ret
        exact⟨ret_int HV.out.symm,joinB HB1.out (joinB HB2.out (joinB HW5.out HW6.out))⟩
       cases bi
       ·skip
        have hz:z=1:=by rw[HMF.out];exact if_pos (by simp)
        have hv:y=1:=by rw[←hz];exact HHIT.out (by rw[hz];decide)
        have HV:=Lib.hid hv
        clear hv hz
        go_upto_region 25 with (fail)
        rw[←HW2.out]
        obtain⟨m0,m1,m2,q0,q1,q2,q3⟩:=HKC.out W2 (Below.refl _ _)
        go_wp2_with (first|(go_at_call 48;(with_reducible refine (HMA.out W2 (HB2.out)).mono ?_);rintro e w5 ⟨rfl,hb⟩;have HW5:=Lib.hid hb;obtain⟨m0,m1,m2,q0,q1,q2,q3⟩:=HKC.out _ (hb);clear hb)|(go_at_call 48;(with_reducible refine (HMD.out w5 (joinB HB2.out HW5.out)).mono ?_);rintro e w6 ⟨rfl,hb⟩;have HW6:=Lib.hid hb;obtain⟨m0,m1,m2,q0,q1,q2,q3⟩:=HKC.out _ (joinB HW5.out hb);clear hb)|(go_at_call 8;(with_reducible refine (HMI.out w6 (joinB HB2.out (joinB HW5.out HW6.out))).mono ?_);rintro e w7 ⟨rfl,hb⟩;have HW7:=Lib.hid hb;obtain⟨m0,m1,m2,q0,q1,q2,q3⟩:=HKC.out _ (joinB HW5.out (joinB HW6.out hb));clear hb))
        go_ret
        exact⟨ret_int HV.out.symm,joinB HB1.out (joinB HB2.out (joinB HW5.out (joinB HW6.out HW7.out)))⟩
       have hz:memErr c x=0:=by rw[←HZ.out,HMF.out];exact if_neg (by simp)
       have HZ0:=Lib.hid hz
       clear hz
       go_upto_region 25 with (fail)
       rw[←HW2.out]
       obtain⟨m0,m1,m2,q0,q1,q2,q3⟩:=HKC.out W2 (Below.refl _ _)
       go_wp2_with (first|(go_at_call 48;(with_reducible refine (HMA.out W2 (HB2.out)).mono ?_);rintro e w5 ⟨rfl,hb⟩;have HW5:=Lib.hid hb;obtain⟨m0,m1,m2,q0,q1,q2,q3⟩:=HKC.out _ (hb);clear hb)|(go_at_call 48;(with_reducible refine (HMD.out w5 (joinB HB2.out HW5.out)).mono ?_);rintro e w6 ⟨rfl,hb⟩;have HW6:=Lib.hid hb;obtain⟨m0,m1,m2,q0,q1,q2,q3⟩:=HKC.out _ (joinB HW5.out hb);clear hb)|(go_at_call 8;(with_reducible refine (HMI.out w6 (joinB HB2.out (joinB HW5.out HW6.out))).mono ?_);rintro e w7 ⟨rfl,hb⟩;have HW7:=Lib.hid hb;obtain⟨m0,m1,m2,q0,q1,q2,q3⟩:=HKC.out _ (joinB HW5.out (joinB HW6.out hb));clear hb))
       go_roundw
       case rel=>
        refine⟨joinB HB2.out (joinB HW5.out (joinB HW6.out HW7.out)),k+1,by omega,by go_num,fun j hj=>?_⟩
        by_cases hjk:j=k
        ·rw[hjk,←HX.out];exact HZ0.out
        ·exact HNO.out j (by omega)
       case measure=>simp[intOf];omega
      ·obtain rfl:n2=k:=by omega
       have hf:firstE (memErr c) c.mems=0:=firstE_none default _ _ fun j hj=>HNO.out j (by rw[HN2.out];exact hj)
       have hye:y=if areIdx n1 c.outs=false then 1 else 0:=by rw[HYG.out,hf,if_neg (fun h=>h rfl)]
       have HYH:=Lib.hid hye
       clear hye hf HYG HNO
       obtain⟨bo,HBO⟩:=named (areIdx n1 c.outs)
       rw[←HBO.out]at HYH HOO
       have HOR:=Lib.hid (HOO.out _ HBR.out)
       cases bo
       ·go_wp2_with (go_at_call 48;(with_reducible refine HOR.out.mono ?_);rintro e w5 ⟨rfl,hb⟩;have HB5:=Lib.hid hb;clear hb)
        go_ret
        exact⟨ret_int HYH.out.symm,joinB HB1.out (joinB HBR.out HB5.out)⟩
       ·go_wp2_with (go_at_call 48;(with_reducible refine HOR.out.mono ?_);rintro e w5 ⟨rfl,hb⟩;have HB5:=Lib.hid hb;clear hb)
        go_ret
        exact⟨ret_int HYH.out.symm,joinB HB1.out (joinB HBR.out HB5.out)⟩
end Go.Proofs.YtjdjcaobkmpoeaaDoor
