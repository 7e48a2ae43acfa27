import Derived.Test.YtjdjcaobkmpoeaaDoorM29
import Derived.Test.YtjdjcaobkmpoeaaDoorM21
namespace Go.Proofs.YtjdjcaobkmpoeaaDoor
open Go.RowKit
def fewS(c:Ck)(k:Nat):Nat:=((List.range k).map fun i=>min (c.nodes.getD i default).ins.length 100).sum
theorem fewS_succ(c:Ck)(k:Nat):fewS c (k+1)=fewS c k+min (c.nodes.getD k default).ins.length 100:=by
 unfold fewS
 rw[List.range_succ,List.map_append,List.sum_append]
 simp
theorem fewS_le(c:Ck):∀k,fewS c k≤k*100
 |0=>by simp[fewS]
 |k+1=>by have:=fewS_le c k;rw[fewS_succ];omega
set_option maxRecDepth 100000 in
set_option maxHeartbeats 4000000 in
theorem few5_any(c:Ck)(A0 A1 A2 A3:Option Addr)(n n1 n2 n3 c0 c1 c2 c3:Nat)(w:World)(hc:Cir w w.heap.size (.agg #[.slice A0 n c0,.slice A1 n1 c1,.slice A2 n2 c2,.slice A3 n3 c3]) c)(h1:n1≤100000000)(h2:n2≤100000000)(h3:n3≤100000000):
 Calls Tryd.prog 5 #[.agg #[.slice A0 n c0,.slice A1 n1 c1,.slice A2 n2 c2,.slice A3 n3 c3]] w fun e w'=>e=.returned (.bool (decide (n≤20)&&decide (n1+n3+4*n2+fewS c (min n 30)≤250)))∧BelW w w':=by
 have hn:=cir_len hc
 obtain⟨v0,v1,v2,v3,ev,hns,-,-,-⟩:=hc
 simp only[Value.agg.injEq,Array.mk.injEq,List.cons.injEq,and_true]at ev
 obtain⟨rfl,-,-,-⟩:=ev
 obtain⟨A,b,o,cc,e,hA,-,hm,hcell⟩:=id hns
 simp only[Value.slice.injEq]at e
 obtain⟨rfl,-,rfl⟩:=e
 rw[hn]at hm
 obtain⟨W1,HW1⟩:=named (w.alloc (.cells #[.slice A0 n c0,.slice A1 n1 c1,.slice A2 n2 c2,.slice A3 n3 c3] 27))
 have hb1:BelW w W1:=by rw[HW1.out];exact below_new (Below.refl _ _) _
 have hf:Fr W1 w.heap.size 27 [.slice A0 n c0,.slice A1 n1 c1,.slice A2 n2 c2,.slice A3 n3 c3]:=by rw[HW1.out];exact Fr.made _ _ _ rfl
 obtain⟨q,HQ⟩:=named w.heap.size
 rw[←HQ.out]at hf
 have HQ2:=Lib.hid HQ.out
 have HCE:Hid (∀W,BelW W1 W→W.cell? ⟨q,0,none⟩=some (.slice A0 n c0)∧W.cell? ⟨q,1,none⟩=some (.slice A1 n1 c1)∧W.cell? ⟨q,2,none⟩=some (.slice A2 n2 c2)∧W.cell? ⟨q,3,none⟩=some (.slice A3 n3 c3)):=Lib.hid fun W h=>⟨(hf.below h).cell 0,(hf.below h).cell 1,(hf.below h).cell 2,(hf.below h).cell 3⟩
 have HND:Hid (∀W,BelW W1 W→∀k,k<n→∃A4 c4,A0=some ⟨b,o,none⟩∧W.cell? ⟨b,o+k*4+1,none⟩=some (.slice A4 (c.nodes.getD k default).ins.length c4)∧(c.nodes.getD k default).ins.length≤maxLen):=Lib.hid fun W h k hk=>by
  obtain⟨hb,s,g0,g1,g2,g3,g4,-⟩:=hcell k (by omega)
  obtain⟨A5,b5,o5,c5,rfl,hA5,-,hml,hcp⟩:=g4.opens
  exact⟨A5,c5,hA (by omega),((joinB hb1 h).cell (p:=⟨b,o+k*4+1,none⟩) hb).trans g1,hml⟩
 have HB1:=Lib.hid hb1
 obtain⟨x0,x1,x2,x3⟩:=HCE.out W1 (Below.refl _ _)
 unfold maxLen at hm
 clear hb1 hf hA hcell hns
 obtain⟨r,HR⟩:=named (decide (n≤20)&&decide (n1+n3+4*n2+fewS c (min n 30)≤250))
 rw[←HR.out]
 go_enter Tryd.func5,Tryd.ntmps5
 go_upto_region 1 with (fail)
 rw[←HW1.out,←HQ2.out]
 go_upto_region 3 with (fail)
 go_loopw [3,4] (fun s i wr=>∃k:Nat,k≤n∧k≤30∧i=.int .i64 k∧s=.int .i64 ((n1+n3+4*n2+fewS c k:Nat):Int)∧Hid (BelW W1 wr)) (fun _ i _=>30-(intOf i).toNat)
 case atStart=>exact⟨0,Nat.zero_le _,Nat.zero_le _,rfl,by go_num,Lib.hid (Below.refl _ _)⟩
 case round=>
  obtain⟨k,hk,hk30,rfl,rfl,HB⟩:=hrel
  obtain⟨x0,x1,x2,x3⟩:=HCE.out wr HB.out
  by_cases hlt:k<n
  ·have hk2:(k:Int)<(n:Int):=by omega
   by_cases h30:k<30
   ·have hk3:(k:Int)<30:=by omega
    obtain⟨A4,c4,rfl,y0,hml⟩:=HND.out wr HB.out k hlt
    have hsu:=fewS_succ c k
    have hsl:=fewS_le c k
    obtain⟨ni,HNI⟩:=named (c.nodes.getD k default).ins.length
    rw[←HNI.out]at y0 hml hsu
    unfold maxLen at hml
    obtain⟨sk,HSK⟩:=named (fewS c k)
    rw[←HSK.out]at hsu hsl
    rw[←HSK.out]
    have HSU:=Lib.hid hsu
    clear hsu
    go_wp2
    go_roundw
    case rel=>exact⟨k+1,by omega,by omega,by go_num,by rw[HSU.out];congr 1;split<;>omega,HB⟩
    case measure=>simp[intOf];omega
   ·obtain rfl:k=30:=by omega
    have hsl:=fewS_le c 30
    obtain⟨sk,HSK⟩:=named (fewS c 30)
    rw[←HSK.out]at hsl
    rw[←HSK.out]
    have q1:decide ((n:Int)≤20)=false:=by simp;omega
    have HRF:Hid (r=false):=Lib.hid (by rw[HR.out,show decide (n≤20)=false by simp;omega];rfl)
    go_wp2
    go_ret
    exact⟨by rw[HRF.out];rfl,joinB HB1.out HB.out⟩
  ·obtain rfl:n=k:=by omega
   have hsl:=fewS_le c n
   have hmn:min n 30=n:=by omega
   obtain⟨sk,HSK⟩:=named (fewS c n)
   have HRR:Hid (r=(decide (n≤20)&&decide (n1+n3+4*n2+sk≤250))):=Lib.hid (by rw[HR.out,hmn,←HSK.out])
   rw[←HSK.out]at hsl
   rw[←HSK.out]
   clear hmn
   by_cases h20:n≤20
   ·have q1:decide ((n:Int)≤20)=true:=by simp;omega
    obtain⟨t,HT⟩:=named (decide (n1+n3+4*n2+sk≤250))
    have q2:decide ((n1:Int)+(n3:Int)+4*(n2:Int)+(sk:Int)≤250)=t:=by
     rw[HT.out]
     exact decide_eq_decide.2 (by omega)
    have HRT:Hid (r=t):=Lib.hid (by rw[HRR.out,←HT.out,show decide (n≤20)=true by simp;omega];rfl)
    clear HT
    go_wp2
    go_ret
    exact⟨by rw[HRT.out];rfl,joinB HB1.out HB.out⟩
   ·have q1:decide ((n:Int)≤20)=false:=by simp;omega
    have HRF:Hid (r=false):=Lib.hid (by rw[HRR.out,show decide (n≤20)=false by simp;omega];rfl)
    go_wp2
    go_ret
    exact⟨by rw[HRF.out];rfl,joinB HB1.out HB.out⟩
end Go.Proofs.YtjdjcaobkmpoeaaDoor
