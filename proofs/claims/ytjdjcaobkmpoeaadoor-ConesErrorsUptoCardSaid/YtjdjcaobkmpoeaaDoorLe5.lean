import Derived.Test.YtjdjcaobkmpoeaaDoorM36
import Derived.Test.YtjdjcaobkmpoeaaDoorM31
import Derived.Test.YtjdjcaobkmpoeaaDoorM32
import Derived.Test.YtjdjcaobkmpoeaaDoorM30
import Derived.Test.YtjdjcaobkmpoeaaDoorM29
import Derived.Test.YtjdjcaobkmpoeaaDoorM33
import Derived.Test.YtjdjcaobkmpoeaaDoorM35
import Derived.Test.YtjdjcaobkmpoeaaDoorFe5
import Derived.Test.YtjdjcaobkmpoeaaDoorFo3
import Derived.Test.YtjdjcaobkmpoeaaDoorRck
import Derived.Test.YtjdjcaobkmpoeaaDoorM19
namespace Go.Proofs.YtjdjcaobkmpoeaaDoor
open Go.RowKit
section
variable {P:Program} {ops:Array Oper} {Q:Exit→Act→World→Prop} {i:Nat} {o:Oper} {d:Tmp} {Y:Value→World→Prop} {a:Act} {w:World}
theorem fog_neq0{x:Tmp}(hP:P= Tryd.prog)(ho:ops[i]? =some o)(hw:Region.wanted o (yielded ops a.tmps)=true)(hd:o.dst=some d)(hop:o.op=.binOp .neq 3 (.tmp x) (.const (.int .i64 0)) 3)(hu:a.eval (.tmp x)=.int .i64 0)(hy:Y (.bool false) w):wpOp P ops Q i (fun a' w'=>∃v,a'=a.put (some d) v∧Below w.heap.size w w'∧Y v w') a w:=by
 refine wpOp_step ho fun K' hK=>?_
 rw[if_pos hw]
 subst hP
 have hk2:=hK (a.put (some d) (.bool false)) w ⟨_,rfl,Below.refl _ _,hy⟩
 unfold Oper.wp execOp
 have hx0:a.tmps[x]?.getD undef=.int .i64 0:=by rw[←hu];simp[Act.eval]
 simp only[hop]
 simp[go_sem,hd,hx0]
 exact hk2
end
def YE(vals:List Value)(n m:Nat)(pts:List Int)(c:Ck)(i:Nat)(v:Value)(W:World):Prop:=
 (i=30→∃A,v=.slice A m m∧Is W W.heap.size (.slice A m m) pts)∧(i=32→∃g,v=.slice (some ⟨g,0,none⟩) n n∧BRow W g (ptB c))∧(i=33→∃A d,v=.slice A m d∧Is W W.heap.size (.slice A m d) pts)∧(i≠30→i≠32→i≠33→v=vals.getD i undef)
section
variable {vals:List Value} {n m:Nat} {pts:List Int} {c:Ck}
theorem YE.next(i:Nat)(v:Value)(W W':World)(h:YE vals n m pts c i v W)(hb:Below W.heap.size W W'):YE vals n m pts c i v W':=⟨fun e=>by
 obtain⟨A,h1,h2⟩:=h.1 e
 exact⟨A,h1,h2.on hb⟩,fun e=>by
 obtain⟨g,h1,h2⟩:=h.2.1 e
 exact⟨g,h1,h2.below hb⟩,fun e=>by
 obtain⟨A,d,h1,h2⟩:=h.2.2.1 e
 exact⟨A,d,h1,h2.on hb⟩,h.2.2.2⟩
theorem YE.v{i:Nat}{v:Value}{W:World}(h0:i≠30)(h1:i≠32)(h2:i≠33)(h:v=vals.getD i undef):YE vals n m pts c i v W:=⟨fun e=>absurd e h0,fun e=>absurd e h1,fun e=>absurd e h2,fun _ _ _=>h⟩
theorem YE.p{v:Value}{W:World}(h:∃A,v=.slice A m m∧Is W W.heap.size (.slice A m m) pts):YE vals n m pts c 30 v W:=⟨fun _=>h,by simp,by simp,by simp⟩
theorem YE.r{v:Value}{W:World}(h:∃g,v=.slice (some ⟨g,0,none⟩) n n∧BRow W g (ptB c)):YE vals n m pts c 32 v W:=⟨by simp,fun _=>h,by simp,by simp⟩
theorem YE.s{v:Value}{W:World}(h:∃A d,v=.slice A m d∧Is W W.heap.size (.slice A m d) pts):YE vals n m pts c 33 v W:=⟨by simp,by simp,fun _=>h,by simp⟩
theorem YE.g{i:Nat}{v:Value}{W:World}(h:YE vals n m pts c i v W)(h0:i≠30)(h1:i≠32)(h2:i≠33):v=vals.getD i undef:=h.2.2.2 h0 h1 h2
end
theorem obl5(c:Ck)(h0:c.nodes.length≤20)(h1:c.outs.length≤1048576)(h2:c.mems.length≤62)(hk:∀k,k<c.nodes.length→(c.nodes.getD k default).ins.length≤1048576)(hm:∀k,k<c.mems.length→(c.mems.getD k default).addr.length≤1048576∧(c.mems.getD k default).data.length≤1048576):(obsN c).length≤1000000000:=by
 have hd:(dffL c.nodes c.nodes.length).length≤c.nodes.length*1048576:=flat_len _ fun i hi=>by
  split
  ·exact hk i hi
  ·simp
 have hmm:(mmsL c.mems c.mems.length).length≤c.mems.length*2097153:=flat_len _ fun i hi=>by
  have:=hm i hi
  unfold mmL
  simp only[List.length_append,List.length_cons,List.length_nil]
  omega
 unfold obsN
 rw[List.length_append,List.length_append]
 omega
set_option maxRecDepth 100000 in
set_option maxHeartbeats 8000000 in
theorem lawEr(c:Ck)(z0 z1:Int)(v:Value)(w:World)(hT:Tabs w)(hc:Cir w w.heap.size v c)(hk:∀k,k<c.nodes.length→(c.nodes.getD k default).ins.length≤1048576)(hsl:c.names.length≤1048576)(hml:c.mems.length≤1048576)(hol:c.outs.length≤1048576)(hmm:∀k,k<c.mems.length→(c.mems.getD k default).addr.length≤1048576∧(c.mems.getD k default).data.length≤1048576):
 Calls Tryd.prog 3 #[v,.agg #[.int .i64 z0,.int .i64 z1]] w fun e w'=>e=.returned (.bool true)∧Below w.heap.size w w':=by
 obtain⟨v0,v1,v2,v3,rfl,hns,hss,hms,hos⟩:=id hc
 obtain⟨A0,b,o,c0,rfl,-⟩:=id hns
 obtain⟨A1,b1,o1,c1,rfl,-⟩:=id hss
 obtain⟨A2,b2,o2,c2,rfl,-⟩:=id hms
 obtain⟨A3,b3,o3,c3,rfl,-⟩:=id hos
 clear hns hss hms hos b o b1 o1 b2 o2 b3 o3
 have hl0:=LC.start hT hc
 obtain⟨W1,HW1⟩:=named ((w.alloc (.cells #[.slice A0 c.nodes.length c0,.slice A1 c.names.length c1,.slice A2 c.mems.length c2,.slice A3 c.outs.length c3] 27)).alloc (.cells #[.int .i64 z0,.int .i64 z1] 28))
 have hl1:LC c w w.heap.size A0 A1 A2 A3 c.nodes.length c.names.length c.mems.length c.outs.length c0 c1 c2 c3 W1:=hl0.next (by rw[HW1.out];exact below_new (Below.refl _ _) _)
 have hfz:Fr W1 (w.heap.size+1) 28 [.int .i64 z0,.int .i64 z1]:=by rw[HW1.out];exact Fr.made _ _ _ (Array.size_push _).symm
 have HOB:Hid (c.nodes.length≤20→c.mems.length≤62→(obsN c).length≤1000000000):=Lib.hid fun h0 h2=>obl5 c h0 hol h2 hk hmm
 clear hT hc hl0 hk hmm
 obtain⟨n,HN⟩:=named c.nodes.length
 obtain⟨n1,HN1⟩:=named c.names.length
 obtain⟨n2,HN2⟩:=named c.mems.length
 obtain⟨n3,HN3⟩:=named c.outs.length
 rw[←HN.out,←HN1.out,←HN2.out,←HN3.out]at hl1 HW1
 rw[←HN.out,←HN2.out]at HOB
 rw[←HN.out,←HN1.out,←HN2.out,←HN3.out]
 rw[←HN1.out]at hsl
 rw[←HN2.out]at hml
 rw[←HN3.out]at hol
 obtain⟨q,HQ⟩:=named w.heap.size
 obtain⟨qz,HQZ⟩:=named (w.heap.size+1)
 rw[←HQZ.out]at hfz
 rw[←HQ.out]at hl1
 have HQ2:Hid (w.heap.size=q):=Lib.hid HQ.out.symm
 have HQZ2:Hid (q+1=qz):=Lib.hid (by rw[HQ.out,HQZ.out])
 clear HQ HQZ
 have HL:=Lib.hid hl1
 have HFZ:=Lib.hid hfz
 clear hl1 hfz
 have HCE:Hid (∀W,BelW W1 W→W.cell? ⟨q,0,none⟩=some (.slice A0 n c0)∧W.cell? ⟨q,1,none⟩=some (.slice A1 n1 c1)∧W.cell? ⟨q,2,none⟩=some (.slice A2 n2 c2)∧W.cell? ⟨q,3,none⟩=some (.slice A3 n3 c3)):=Lib.hid fun W h=>(HL.out.next h).cells
 have HZC:Hid (∀W,BelW W1 W→W.cell? ⟨qz,0,none⟩=some (.int .i64 z0)∧W.cell? ⟨qz,1,none⟩=some (.int .i64 z1)):=Lib.hid fun W h=>⟨(HFZ.out.below h).cell 0,(HFZ.out.below h).cell 1⟩
 have HC:Hid (∀W,BelW W1 W→Tabs W∧Cir W W.heap.size (.agg #[.slice A0 n c0,.slice A1 n1 c1,.slice A2 n2 c2,.slice A3 n3 c3]) c):=Lib.hid fun W h=>⟨(HL.out.next h).tabs,(HL.out.next h).all⟩
 have HW0:Hid (Below w.heap.size w W1):=Lib.hid HL.out.bel
 have HLV:Hid (∀W,BelW W1 W→Calls Tryd.prog 6 #[] W fun e w'=>e=.returned (.bool true)∧BelW W w'):=Lib.hid fun W h=>lives5_any W (HC.out W h).1
 have HFEW:=Lib.hid (few5_any c A0 A1 A2 A3 n n1 n2 n3 c0 c1 c2 c3 W1 (HC.out W1 (Below.refl _ _)).2 (by omega) (by omega) (by omega))
 obtain⟨bf,HBF⟩:=named (decide (n≤20)&&decide (n1+n3+4*n2+fewS c (min n 30)≤250))
 rw[←HBF.out]at HFEW
 obtain⟨x0,x1,x2,x3⟩:=HCE.out W1 (Below.refl _ _)
 have HFT:Hid (∀u:Bool,u=bf→(u=true→n≤20∧n1+n3+4*n2+fewS c (min n 30)≤250)):=Lib.hid fun u hu h=>by
  rw[hu,HBF.out,Bool.and_eq_true,decide_eq_true_iff,decide_eq_true_iff]at h
  exact h
 clear HBF
 cases bf
 ·go_enter Tryd.func3,Tryd.ntmps3
  go_upto_region 1 with (fail)
  rw[←HW1.out,HQ2.out,HQZ2.out]
  go_wp2_with (first
   |(go_at_call 5;(with_reducible refine HFEW.out.mono ?_);rintro e w2 ⟨rfl,h1⟩;have HB2:Hid (BelW W1 w2):=Lib.hid h1;clear h1)
   |(go_at_call 6;(with_reducible refine (HLV.out w2 HB2.out).mono ?_);rintro e w3 ⟨rfl,h1⟩;have HB3:=Lib.hid h1;clear h1))
  go_ret
  exact⟨rfl,joinB HW0.out (joinB HB2.out HB3.out)⟩
 obtain⟨hn20,hfw⟩:=HFT.out true rfl rfl
 have HOBL:Hid ((obsN c).length≤1000000000):=Lib.hid (HOB.out hn20 (by omega))
 obtain⟨own,HOWN⟩:=named (chkErr c)
 obtain⟨one,HONE⟩:=named (ckI c [z0])
 obtain⟨two,HTWO⟩:=named (ckI c [z0,z1])
 obtain⟨i0,HI0⟩:=named (isIdx n z0)
 obtain⟨i1,HI1⟩:=named (isIdx n z1)
 have HE1:Hid (own≠0→one=own∧two=own):=Lib.hid fun h=>by
  rw[HOWN.out]at h
  rw[HONE.out,HTWO.out,HOWN.out]
  unfold ckI
  rw[if_neg h,if_neg h];exact⟨rfl,rfl⟩
 have HE0:Hid (own=0→one=(if i0=true then 0 else 1)∧two=(if i0=true then (if i1=true then 0 else 1) else 1)):=Lib.hid fun h=>by
  rw[HOWN.out]at h
  rw[HONE.out,HTWO.out]
  unfold ckI
  rw[if_pos h,if_pos h]
  have e0:badI c.nodes.length z0= !i0:=by unfold badI;rw[HI0.out,HN.out]
  have e1:badI c.nodes.length z1= !i1:=by unfold badI;rw[HI1.out,HN.out]
  simp only[anyP,List.any_cons,List.any_nil,e0,e1]
  cases i0<;>cases i1<;>exact⟨rfl,rfl⟩
 have HG:Hid (own=0→∃L,G5 c n L):=Lib.hid fun h=>by
  obtain⟨L,hL⟩:=g5_of (c:=c) (by rw[←HOWN.out];exact h) (by rw[←HN.out];exact hn20)
  rw[←HN.out]at hL
  exact⟨L,hL⟩
 have HX0:Hid (one=0→own=0∧∃x:Nat,z0=(x:Int)∧x<n):=Lib.hid fun h=>by
  have h0:own=0:=Classical.byContradiction fun h2=>h2 ((HE1.out h2).1.symm.trans h)
  refine⟨h0,?_⟩
  have h3:=(HE0.out h0).1
  rw[h,HI0.out]at h3
  cases hb:isIdx n z0
  ·rw[hb]at h3;simp at h3
  ·unfold isIdx at hb
   rw[Bool.and_eq_true,decide_eq_true_iff,decide_eq_true_iff]at hb
   exact⟨z0.toNat,by omega,by omega⟩
 have HX1:Hid (two=0→own=0∧one=0∧Inr n [z0,z1]):=Lib.hid fun h=>by
  have h0:own=0:=Classical.byContradiction fun h2=>h2 ((HE1.out h2).2.symm.trans h)
  obtain⟨h3,h4⟩:=HE0.out h0
  rw[h]at h4
  rw[HI0.out]at h3 h4
  rw[HI1.out]at h4
  cases hb:isIdx n z0
  ·rw[hb]at h4;simp at h4
  ·cases hb1:isIdx n z1
   ·rw[hb,hb1]at h4;simp at h4
   ·rw[hb]at h3
    unfold isIdx at hb hb1
    rw[Bool.and_eq_true,decide_eq_true_iff,decide_eq_true_iff]at hb hb1
    refine⟨h0,by simpa using h3,fun y hy=>?_⟩
    rcases List.mem_cons.1 hy with e|hy
    ·rw[e];exact hb
    ·rw[List.mem_singleton.1 hy];exact hb1
 have HFI:Hid (∀W,BelW W1 W→∀s,Is W W.heap.size s [z0,z1]→Calls Tryd.prog 9 #[.agg #[.slice A0 n c0,.slice A1 n1 c1,.slice A2 n2 c2,.slice A3 n3 c3],s] W fun e w'=>∃A m,e=.returned (.tuple #[.slice A m m,.int .i64 two])∧(two≠0→m=0)∧m≤1000000∧BelW W w'):=Lib.hid fun W h s hs=>by
  by_cases h2:two=0
  ·obtain⟨h0,-,hin⟩:=HX1.out h2
   obtain⟨L,G⟩:=HG.out h0
   refine (fanin_ok c [z0,z1] s A0 A1 A2 A3 n n1 n2 n3 c0 c1 c2 c3 W (HC.out W h).1 (HC.out W h).2 hs (by rw[←HTWO.out];exact h2) hin G.depi (by omega)).mono fun e w' ⟨A,R',hv,he,hi,hb⟩=>?_
   exact⟨A,_,by rw[he,h2],fun h=>absurd h2 h,Nat.le_trans (memB_len _ _) (by omega),hb⟩
  ·refine (fanin_bad c [z0,z1] s A0 A1 A2 A3 n n1 n2 n3 c0 c1 c2 c3 W (HC.out W h).1 (HC.out W h).2 hs (by rw[←HTWO.out];exact h2)).mono fun e w' ⟨he,hb⟩=>?_
   exact⟨none,0,by rw[he,HTWO.out],fun _=>rfl,by omega,hb⟩
 have HFO:Hid (∀W,BelW W1 W→∀s,Is W W.heap.size s [z0,z1]→Calls Tryd.prog 10 #[.agg #[.slice A0 n c0,.slice A1 n1 c1,.slice A2 n2 c2,.slice A3 n3 c3],s] W fun e w'=>∃A m,e=.returned (.tuple #[.slice A m m,.int .i64 two])∧(two≠0→m=0)∧m≤1000000∧BelW W w'):=Lib.hid fun W h s hs=>by
  by_cases h2:two=0
  ·obtain⟨h0,-,hin⟩:=HX1.out h2
   obtain⟨L,G⟩:=HG.out h0
   refine (fanout_ok c [z0,z1] s A0 A1 A2 A3 n n1 n2 n3 c0 c1 c2 c3 W (HC.out W h).1 (HC.out W h).2 hs (by rw[←HTWO.out];exact h2) hin G.inr' (by omega) G.np).mono fun e w' ⟨A,R',hv,he,hi,hb⟩=>?_
   exact⟨A,_,by rw[he,h2],fun h=>absurd h2 h,Nat.le_trans (memB_len _ _) (by omega),hb⟩
  ·refine (fanout_bad c [z0,z1] s A0 A1 A2 A3 n n1 n2 n3 c0 c1 c2 c3 W (HC.out W h).1 (HC.out W h).2 hs (by rw[←HTWO.out];exact h2)).mono fun e w' ⟨he,hb⟩=>?_
   exact⟨none,0,by rw[he,HTWO.out],fun _=>rfl,by omega,hb⟩
 have HDO:Hid (∀W,BelW W1 W→Calls Tryd.prog 11 #[.agg #[.slice A0 n c0,.slice A1 n1 c1,.slice A2 n2 c2,.slice A3 n3 c3],.int .i64 z0] W fun e w'=>∃A m,e=.returned (.tuple #[.slice A m m,.int .i64 one])∧(one≠0→m=0)∧m≤1000000∧BelW W w'):=Lib.hid fun W h=>by
  by_cases h2:one=0
  ·obtain⟨h0,x,hx,hxn⟩:=HX0.out h2
   obtain⟨L,G⟩:=HG.out h0
   rw[hx]
   refine (doms_ok c L A0 A1 A2 A3 n n1 n2 n3 c0 c1 c2 c3 W x hxn G (HC.out W h).1 (HC.out W h).2).mono fun e w' ⟨A,T,he,hd,hi,hb⟩=>?_
   have h1:T.length≤n:=by
    have hnd:T.Nodup:=hd.up.imp fun {a b} hab e=>by subst e;omega
    have h2:=List.Nodup.length_le_of_subset (l₂:=(List.range n).map fun(j:Nat)=>(j:Int)) hnd fun y hy=>by
     have h3:=hd.nod y hy
     exact List.mem_map.2 ⟨y.toNat,List.mem_range.2 (by have:=h3.1;have:=h3.2;omega),by have:=h3.1;omega⟩
    simpa using h2
   exact⟨A,_,by rw[he,h2],fun h=>absurd h2 h,by omega,hb⟩
  ·by_cases h0:own=0
   ·have h3:isIdx n z0=false:=by
     cases hb:isIdx n z0
     ·rfl
     ·have h4:=(HE0.out h0).1
      rw[HI0.out,hb,if_pos rfl]at h4
      exact absurd h4 h2
    have h4:=(HE0.out h0).1
    rw[HI0.out,h3]at h4
    refine (doms_arg c A0 A1 A2 A3 n n1 n2 n3 c0 c1 c2 c3 W z0 (HC.out W h).1 (HC.out W h).2 (by rw[←HN.out];exact hn20) (by rw[←HOWN.out];exact h0) HN.out.symm h3).mono fun e w' ⟨he,hb⟩=>?_
    exact⟨none,0,by rw[he,h4];rfl,fun _=>rfl,by omega,hb⟩
   ·refine (doms_bad c A0 A1 A2 A3 n n1 n2 n3 c0 c1 c2 c3 W z0 (HC.out W h).1 (HC.out W h).2 (by rw[←HN.out];exact hn20) (by rw[←HOWN.out];exact h0)).mono fun e w' ⟨he,hb⟩=>?_
    exact⟨none,0,by rw[he,(HE1.out h0).1,HOWN.out],fun _=>rfl,by omega,hb⟩
 have HME:Hid (∀W,BelW W1 W→Calls Tryd.prog 12 #[.agg #[.slice A0 n c0,.slice A1 n1 c1,.slice A2 n2 c2,.slice A3 n3 c3],.int .i64 z0] W fun e w'=>∃A m,e=.returned (.tuple #[.slice A m m,.int .i64 one])∧(one≠0→m=0)∧m≤1000000∧BelW W w'):=Lib.hid fun W h=>by
  by_cases h2:one=0
  ·obtain⟨h0,x,hx,hxn⟩:=HX0.out h2
   obtain⟨L,G⟩:=HG.out h0
   rw[hx]
   refine (meets_ok c L A0 A1 A2 A3 n n1 n2 n3 c0 c1 c2 c3 W x hxn G (HC.out W h).1 (HC.out W h).2).mono fun e w' ⟨A,R,T,he,hv,hT,hi,hb⟩=>?_
   have h1:T.length≤n:=by
    rw[hT];unfold nwL
    rw[List.length_map]
    exact Nat.le_trans (List.length_filter_le _ _) (by simp)
   exact⟨A,_,by rw[he,h2],fun h=>absurd h2 h,by omega,hb⟩
  ·refine (meets_bad c A0 A1 A2 A3 n n1 n2 n3 c0 c1 c2 c3 W z0 (HC.out W h).1 (HC.out W h).2 (by rw[←HONE.out];exact h2)).mono fun e w' ⟨he,hb⟩=>?_
   exact⟨none,0,by rw[he,HONE.out],fun _=>rfl,by omega,hb⟩
 have HRE:Hid (∀W,BelW W1 W→Calls Tryd.prog 13 #[.agg #[.slice A0 n c0,.slice A1 n1 c1,.slice A2 n2 c2,.slice A3 n3 c3]] W fun e w'=>∃A m,e=.returned (.tuple #[.slice A m m,.int .i64 own])∧(own≠0→m=0)∧m≤1000000∧BelW W w'):=Lib.hid fun W h=>by
  by_cases h0:own=0
  ·obtain⟨L,G⟩:=HG.out h0
   refine (regions_ok c L A0 A1 A2 A3 n n1 n2 n3 c0 c1 c2 c3 W G (HC.out W h).1 (HC.out W h).2).mono fun e w' ⟨g,he,hr,hb⟩=>?_
   exact⟨_,n,by rw[he,h0],fun h=>absurd h0 h,by omega,hb⟩
  ·refine (regions_bad c A0 A1 A2 A3 n n1 n2 n3 c0 c1 c2 c3 W (HC.out W h).1 (HC.out W h).2 (by rw[←HN.out];exact hn20) (by rw[←HOWN.out];exact h0)).mono fun e w' ⟨he,hb⟩=>?_
   exact⟨none,0,by rw[he,HOWN.out],fun _=>rfl,by omega,hb⟩
 have HSM:Hid (∀W,BelW W1 W→Calls Tryd.prog 14 #[.agg #[.slice A0 n c0,.slice A1 n1 c1,.slice A2 n2 c2,.slice A3 n3 c3]] W fun e w'=>∃A m,e=.returned (.tuple #[.slice A m m,.int .i64 own])∧(own≠0→m=0)∧m≤1000000∧BelW W w'):=Lib.hid fun W h=>by
  by_cases h0:own=0
  ·obtain⟨L,G⟩:=HG.out h0
   refine (stems_ok A0 A1 A2 A3 n n1 n2 n3 c0 c1 c2 c3 (stemL c) W (by omega) fun V hv=>?_).mono fun e w' ⟨A,he,hi,hb⟩=>?_
   ·refine (regions_ok c L A0 A1 A2 A3 n n1 n2 n3 c0 c1 c2 c3 V G (HC.out V (joinB h hv)).1 (HC.out V (joinB h hv)).2).mono fun e w' ⟨g,he,hr,hb⟩=>?_
    refine⟨_,_,he,?_,hb⟩
    have hr2:=hr.is (by rw[stemL_len,G.len];unfold maxLen;omega)
    rw[stemL_len,G.len]at hr2
    exact hr2
   ·have h1:(nwL (fun i=>(stemL c).getD i 0==(i:Int)) n).length≤n:=by
     unfold nwL
     rw[List.length_map]
     exact Nat.le_trans (List.length_filter_le _ _) (by simp)
    exact⟨A,_,by rw[he,h0],fun h=>absurd h0 h,by omega,hb⟩
  ·refine (stems_bad c A0 A1 A2 A3 n n1 n2 n3 c0 c1 c2 c3 W (HC.out W h).1 (HC.out W h).2 (by rw[←HN.out];exact hn20) (by rw[←HOWN.out];exact h0)).mono fun e w' ⟨he,hb⟩=>?_
   exact⟨none,0,by rw[he,HOWN.out],fun _=>rfl,by omega,hb⟩
 obtain⟨pts,HPS⟩:=named (memB (ptB c) n)
 have HPP:Hid (∀W,BelW W1 W→Calls Tryd.prog 16 #[.agg #[.slice A0 n c0,.slice A1 n1 c1,.slice A2 n2 c2,.slice A3 n3 c3]] W fun e w'=>∃v,e=.returned v∧Below W.heap.size W w'∧∃A,v=.slice A pts.length pts.length∧Is w' w'.heap.size (.slice A pts.length pts.length) pts):=Lib.hid fun W h=>by
  refine (points_any c A0 A1 A2 A3 n n1 n2 n3 c0 c1 c2 c3 W (HC.out W h).2 HN.out.symm (by omega)).mono fun e w' ⟨A,he,hi,hb⟩=>?_
  rw[←HPS.out]at he hi
  exact⟨_,he,hb,A,rfl,hi⟩
 have HRP:Hid (∀W,BelW W1 W→Calls Tryd.prog 18 #[.agg #[.slice A0 n c0,.slice A1 n1 c1,.slice A2 n2 c2,.slice A3 n3 c3]] W fun e w'=>∃v,e=.returned v∧Below W.heap.size W w'∧∃g,v=.slice (some ⟨g,0,none⟩) n n∧BRow w' g (ptB c)):=Lib.hid fun W h=>by
  refine (refpts_any c A0 A1 A2 A3 n n1 n2 n3 c0 c1 c2 c3 W (HC.out W h).2 (by omega) HOBL.out).mono fun e w' ⟨g,he,hi,hb⟩=>?_
  exact⟨_,he,hb,g,rfl,hi⟩
 have HSE:Hid (∀W g,BRow W g (ptB c)→Calls Tryd.prog 17 #[.slice (some ⟨g,0,none⟩) n n] W fun e w'=>∃v,e=.returned v∧Below W.heap.size W w'∧∃A d,v=.slice A pts.length d∧Is w' w'.heap.size (.slice A pts.length d) pts):=Lib.hid fun W g hg=>by
  refine (set5_any g n (ptB c) W hg (by rw[ptB_len];exact HN.out.symm) (by omega)).mono fun e w' ⟨A,d,he,hi,hb⟩=>?_
  rw[←HPS.out]at he hi
  exact⟨_,he,hb,A,d,rfl,hi⟩
 have HIN:Hid (∀W A s,Is W W.heap.size (.slice A pts.length pts.length) pts→Is W W.heap.size s pts→Calls Tryd.prog 15 #[.slice A pts.length pts.length,s] W fun e w'=>∃v,e=.returned v∧Below W.heap.size W w'∧v=.int .i64 0):=Lib.hid fun W A s h1 h2=>by
  refine (ints_any pts pts A pts.length s W _ _ h1 h2).mono fun e w' ⟨he,k,hk⟩=>?_
  exact⟨_,he,by rw[hk];exact belW_drewN (Below.refl _ _) k,by simp[intsR]⟩
 obtain⟨m,HM⟩:=named pts.length
 rw[←HM.out]at HPP HSE HIN
 have HCK:Hid (∀W,BelW W1 W→Calls Tryd.prog 7 #[.agg #[.slice A0 n c0,.slice A1 n1 c1,.slice A2 n2 c2,.slice A3 n3 c3]] W fun e w'=>e=.returned (.int .i64 own)∧BelW W w'):=Lib.hid fun W h=>by
  rw[HOWN.out];exact rchk_any c _ W _ (Nat.le_refl _) (HC.out W h).2
 have HIS0:Hid (∀W,BelW W1 W→Calls Tryd.prog 8 #[.agg #[.slice A0 n c0,.slice A1 n1 c1,.slice A2 n2 c2,.slice A3 n3 c3],.int .i64 z0] W fun e w'=>e=.returned (.bool i0)∧BelW W w'):=Lib.hid fun W h=>by
  rw[HI0.out,HN.out];exact refIs_any c z0 _ W _ (by rw[←HN.out];exact (HC.out W h).2)
 have HIS1:Hid (∀W,BelW W1 W→Calls Tryd.prog 8 #[.agg #[.slice A0 n c0,.slice A1 n1 c1,.slice A2 n2 c2,.slice A3 n3 c3],.int .i64 z1] W fun e w'=>e=.returned (.bool i1)∧BelW W w'):=Lib.hid fun W h=>by
  rw[HI1.out,HN.out];exact refIs_any c z1 _ W _ (by rw[←HN.out];exact (HC.out W h).2)
 have HLT:Hid (∀W,BelW W1 W→Is (W.alloc (.cells #[.int .i64 z0,.int .i64 z1] 3)) (W.alloc (.cells #[.int .i64 z0,.int .i64 z1] 3)).heap.size (.slice (some ⟨W.heap.size,0,none⟩) 2 2) [z0,z1]):=Lib.hid fun W _=>lit5 W [z0,z1] (by show 2≤maxLen;unfold maxLen;decide)
 have H21:Hid (two=0→one=0∧own=0):=Lib.hid fun h=>⟨(HX1.out h).2.1,(HX1.out h).1⟩
 clear HOB HOBL HPS HM HX0 HX1 HG HOWN HONE HTWO HI0 HI1
 have HEX:Hid ((own=0→one=(if i0=true then 0 else 1))∧(own≠0→one=own)):=Lib.hid ⟨fun h=>(HE0.out h).1,fun h=>(HE1.out h).1⟩
 go_enter Tryd.func3,Tryd.ntmps3
 go_upto_region 1 with (fail)
 rw[←HW1.out,HQ2.out,HQZ2.out]
 go_upto_region 3 with (go_at_call 5;(with_reducible refine HFEW.out.mono ?_);rintro e w2 ⟨rfl,h1⟩;have HB2:Hid (BelW W1 w2):=Lib.hid h1;clear h1 x0 x1 x2 x3)
 obtain⟨x0,x1,x2,x3⟩:=HCE.out w2 HB2.out
 go_upto_region 5 with (go_at_call 7;(with_reducible refine (HCK.out w2 HB2.out).mono ?_);rintro e w3 ⟨rfl,h1⟩;have HB3:Hid (BelW W1 w3):=Lib.hid (joinB HB2.out h1);clear h1 x0 x1 x2 x3)
 obtain⟨u0,HU0⟩:=named (decide (own=0)&& !i0)
 have HU0a:Hid ((u0=true→one=1)∧(u0=false→one=own)):=Lib.hid ⟨fun h=>by
  rw[HU0.out,Bool.and_eq_true,decide_eq_true_iff]at h
  rw[HEX.out.1 h.1,if_neg (by simpa using h.2)],fun h=>by
  by_cases h0:own=0
  ·rw[HU0.out,decide_eq_true h0]at h
   rw[HEX.out.1 h0,if_pos (by simpa using h),h0]
  ·exact HEX.out.2 h0⟩
 obtain⟨u1,HU1⟩:=named (decide (one≠0)||(decide (own=0)&& !i1))
 have HU1a:Hid (own=0→two=if u1=true then 1 else 0):=Lib.hid fun h0=>by
  have h1:=(HE0.out h0).1
  rw[(HE0.out h0).2,HU1.out,decide_eq_true h0,h1]
  cases i0<;>cases i1<;>rfl
 go_cut [36] (fun s wx=>s=.bool u0∧Hid (BelW W1 wx))
 case first=>
  obtain⟨x0,x1,x2,x3⟩:=HCE.out w3 HB3.out
  obtain⟨y0,y1⟩:=HZC.out w3 HB3.out
  by_cases h0:own=0
  ·have t0:(own==0)=true:=by simpa using h0
   have H0:=Lib.hid h0
   clear h0
   go_wp2_with (go_at_call 8;(with_reducible refine (HIS0.out w3 HB3.out).mono ?_);rintro e w4 ⟨rfl,h1⟩;have HB4:Hid (BelW W1 w4):=Lib.hid (joinB HB3.out h1);clear h1)
   go_meet
   exact⟨by rw[HU0.out,decide_eq_true H0.out];rfl,HB4⟩
  ·have t0:(own==0)=false:=by simpa using h0
   go_wp2
   go_meet
   exact⟨by rw[HU0.out,decide_eq_false h0];rfl,HB3⟩
 obtain⟨rfl,HBc⟩:=hcut
 obtain⟨V5,HV5⟩:=named wc
 rw[←HV5.out]
 rw[←HV5.out]at HBc
 clear HV5 HB3
 go_upto_if 36 with (fail)
 go_cut [6] (fun s wx=>s=.int .i64 one∧wx=V5)
 case first=>
  cases u0
  ·have h1:=HU0a.out.2 rfl
   go_wp2
   go_meet
   exact⟨by first|rfl|rw[h1],rfl⟩
  ·have h1:=HU0a.out.1 rfl
   go_wp2
   go_meet
   exact⟨by first|rfl|rw[h1],rfl⟩
 obtain⟨rfl,hw⟩:=hcut
 have hw:=hw.symm
 subst hw
 have H7:Hid (one=0→own=0):=Lib.hid fun h=>Classical.byContradiction fun h2=>h2 ((HEX.out.2 h2).symm.trans h)
 obtain⟨two1,HTW1⟩:=named (if u1=true then 1 else own)
 go_upto_region 7 with (fail)
 go_cut [49] (fun s wx=>s=.bool u1∧Hid (BelW W1 wx))
 case first=>
  obtain⟨x0,x1,x2,x3⟩:=HCE.out V5 HBc.out
  obtain⟨y0,y1⟩:=HZC.out V5 HBc.out
  by_cases h1:one=0
  ·have t1:(one != 0)=false:=by simpa using h1
   have t0:(own==0)=true:=by simpa using H7.out h1
   have H1:=Lib.hid h1
   clear h1
   go_wp2_with (go_at_call 8;(with_reducible refine (HIS1.out V5 HBc.out).mono ?_);rintro e w6 ⟨rfl,h1⟩;have HB6:Hid (BelW W1 w6):=Lib.hid (joinB HBc.out h1);clear h1)
   go_meet
   exact⟨by rw[HU1.out,decide_eq_false (fun h=>h H1.out),decide_eq_true (H7.out H1.out)];rfl,HB6⟩
  ·have t1:(one != 0)=true:=by simpa using h1
   have H1:=Lib.hid h1
   clear h1
   go_wp2
   go_meet
   exact⟨by rw[HU1.out,decide_eq_true H1.out];rfl,HBc⟩
 obtain⟨rfl,HB7⟩:=hcut
 obtain⟨V7,HV7⟩:=named wc
 rw[←HV7.out]
 rw[←HV7.out]at HB7
 clear HV7 HBc
 go_upto_if 49 with (fail)
 go_cut [7] (fun s wx=>s=.int .i64 two1∧wx=V7)
 case first=>
  cases u1
  ·have h1:two1=own:=by rw[HTW1.out];rfl
   go_wp2
   go_meet
   exact⟨by first|rfl|rw[h1],rfl⟩
  ·have h1:two1=1:=by rw[HTW1.out];rfl
   go_wp2
   go_meet
   exact⟨by first|rfl|rw[h1],rfl⟩
 obtain⟨rfl,hw⟩:=hcut
 have hw:=hw.symm
 subst hw
 have HT1:Hid ((own=0→two1=two)∧(own≠0→own=two)):=Lib.hid ⟨fun h0=>by rw[HU1a.out h0,HTW1.out,h0],fun h0=>(HE1.out h0).2.symm⟩
 go_upto_if 51 with (fail)
 go_cut [7] (fun s wx=>s=.int .i64 two∧wx=V7)
 case first=>
  by_cases h0:own=0
  ·have t0:(own != 0)=false:=by simpa using h0
   have h1:=HT1.out.1 h0
   clear h0
   go_wp2
   go_meet
   exact⟨by first|rfl|rw[h1],rfl⟩
  ·have t0:(own != 0)=true:=by simpa using h0
   have H1:=Lib.hid (HT1.out.2 h0)
   clear h0
   go_wp2
   go_meet
   exact⟨by first|rfl|rw[H1.out],rfl⟩
 obtain⟨rfl,hw⟩:=hcut
 have hw:=hw.symm
 subst hw
 clear HT1 HTW1 HU1 HU1a HU0 HU0a
 obtain⟨x0,x1,x2,x3⟩:=HCE.out V7 HB7.out
 obtain⟨y0,y1⟩:=HZC.out V7 HB7.out
 have HCAHFI:=Lib.hid (HFI.out (V7.alloc (.cells #[.int .i64 z0,.int .i64 z1] 3)) (joinB HB7.out (below_new (Below.refl _ _) _)) _ (HLT.out V7 HB7.out))
 go_upto_region 12 with (go_at_call 9;(with_reducible refine HCAHFI.out.mono ?_);rintro e w11 ⟨Aa,ma,rfl,h1,male,h3⟩;have Hma:=Lib.hid h1;have HB11:Hid (BelW W1 w11):=Lib.hid (joinB HB7.out (joinB (below_new (Below.refl _ _) _) h3));clear h1 h3 x0 x1 x2 x3 y0 y1)
 obtain⟨x0,x1,x2,x3⟩:=HCE.out w11 HB11.out
 obtain⟨y0,y1⟩:=HZC.out w11 HB11.out
 have HCAHFO:=Lib.hid (HFO.out (w11.alloc (.cells #[.int .i64 z0,.int .i64 z1] 3)) (joinB HB11.out (below_new (Below.refl _ _) _)) _ (HLT.out w11 HB11.out))
 go_upto_region 13 with (go_at_call 10;(with_reducible refine HCAHFO.out.mono ?_);rintro e w12 ⟨Ab,mb,rfl,h1,mble,h3⟩;have Hmb:=Lib.hid h1;have HB12:Hid (BelW W1 w12):=Lib.hid (joinB HB11.out (joinB (below_new (Below.refl _ _) _) h3));clear h1 h3 x0 x1 x2 x3 y0 y1)
 obtain⟨x0,x1,x2,x3⟩:=HCE.out w12 HB12.out
 obtain⟨y0,y1⟩:=HZC.out w12 HB12.out
 go_upto_region 14 with (go_at_call 11;(with_reducible refine (HDO.out w12 HB12.out).mono ?_);rintro e w13 ⟨Ad,md,rfl,h1,mdle,h3⟩;have Hmd:=Lib.hid h1;have HB13:Hid (BelW W1 w13):=Lib.hid (joinB HB12.out h3);clear h1 h3 x0 x1 x2 x3 y0 y1)
 obtain⟨x0,x1,x2,x3⟩:=HCE.out w13 HB13.out
 obtain⟨y0,y1⟩:=HZC.out w13 HB13.out
 go_upto_region 15 with (go_at_call 12;(with_reducible refine (HME.out w13 HB13.out).mono ?_);rintro e w14 ⟨Am,mm,rfl,h1,mmle,h3⟩;have Hmm:=Lib.hid h1;have HB14:Hid (BelW W1 w14):=Lib.hid (joinB HB13.out h3);clear h1 h3 x0 x1 x2 x3 y0 y1)
 obtain⟨x0,x1,x2,x3⟩:=HCE.out w14 HB14.out
 obtain⟨y0,y1⟩:=HZC.out w14 HB14.out
 go_upto_region 16 with (go_at_call 13;(with_reducible refine (HRE.out w14 HB14.out).mono ?_);rintro e w15 ⟨Ar,mr,rfl,h1,mrle,h3⟩;have Hmr:=Lib.hid h1;have HB15:Hid (BelW W1 w15):=Lib.hid (joinB HB14.out h3);clear h1 h3 x0 x1 x2 x3 y0 y1)
 obtain⟨x0,x1,x2,x3⟩:=HCE.out w15 HB15.out
 obtain⟨y0,y1⟩:=HZC.out w15 HB15.out
 go_upto_region 17 with (go_at_call 14;(with_reducible refine (HSM.out w15 HB15.out).mono ?_);rintro e w16 ⟨As,ms,rfl,h1,msle,h3⟩;have Hms:=Lib.hid h1;have HB16:Hid (BelW W1 w16):=Lib.hid (joinB HB15.out h3);clear h1 h3 x0 x1 x2 x3 y0 y1)
 have HBD:Hid (BelW W1 w16.drew):=Lib.hid (Below.drew HB16.out)
 refine AnyX.start (S:=fun _=>True) (t:=36) (by kernel_rfl) ?_
 refine AnyX.factsGo [97,98,99,100,101,102,103,104,105,106,107,108,109,110,111,112,113,114,115,116,117,118,119,120,121,122,123,124,125,126,127,128,129,130,131,132,133] (YE [.int .i64 two,.int .i64 two,.bool false,.bool false,.int .i64 two,.int .i64 two,.bool false,.bool false,.bool false,.int .i64 one,.int .i64 one,.bool false,.bool false,.bool false,.int .i64 one,.int .i64 one,.bool false,.bool false,.bool false,.int .i64 own,.int .i64 own,.bool false,.bool false,.bool false,.int .i64 own,.int .i64 own,.bool false,.bool false,.bool false,(.agg #[.slice A0 n c0,.slice A1 n1 c1,.slice A2 n2 c2,.slice A3 n3 c3]),undef,(.agg #[.slice A0 n c0,.slice A1 n1 c1,.slice A2 n2 c2,.slice A3 n3 c3]),undef,undef,.int .i64 0,.bool false,.bool false] n m pts c) _ _ (by decide) ?hts (by decide) YE.next (by kernel_rfl) (by kernel_rfl) ?hst ?hdo
 case hts => intro t ht; simp only [List.mem_cons, List.not_mem_nil, or_false] at ht; rcases ht with rfl | rfl | rfl | rfl | rfl | rfl | rfl | rfl | rfl | rfl | rfl | rfl | rfl | rfl | rfl | rfl | rfl | rfl | rfl | rfl | rfl | rfl | rfl | rfl | rfl | rfl | rfl | rfl | rfl | rfl | rfl | rfl | rfl | rfl | rfl | rfl | rfl <;> (show _ < Array.size _; simp)
 case hst=>
  intro i t a w' hD hF hB hdep
  have hsz:a.tmps.size=171:=by rw[hF.2.1];rfl
  have hBW:BelW W1 w':=joinB HBD.out hB
  have hi6:i<37:=(List.getElem?_eq_some_iff.1 hD).1
  obtain⟨y0,y1,y2,y3⟩:=HCE.out w' hBW
  rcases (by omega:i=0∨i=1∨i=2∨i=3∨i=4∨i=5∨i=6∨i=7∨i=8∨i=9∨i=10∨i=11∨i=12∨i=13∨i=14∨i=15∨i=16∨i=17∨i=18∨i=19∨i=20∨i=21∨i=22∨i=23∨i=24∨i=25∨i=26∨i=27∨i=28∨i=29∨i=30∨i=31∨i=32∨i=33∨i=34∨i=35∨i=36) with rfl|rfl|rfl|rfl|rfl|rfl|rfl|rfl|rfl|rfl|rfl|rfl|rfl|rfl|rfl|rfl|rfl|rfl|rfl|rfl|rfl|rfl|rfl|rfl|rfl|rfl|rfl|rfl|rfl|rfl|rfl|rfl|rfl|rfl|rfl|rfl|rfl<;>obtain rfl:=Option.some.inj hD
  ·exact fog_move rfl (wanted_no rfl) rfl rfl (by rw[hF.eval (by decide)];rfl) (.v (by decide) (by decide) (by decide) rfl)
  ·exact fog_move rfl (wanted_no rfl) rfl rfl (by rw[hF.eval (by decide)];rfl) (.v (by decide) (by decide) (by decide) rfl)
  ·exact fog_neqE rfl rfl (wanted_no rfl) rfl rfl ((hdep _ 0 97 rfl rfl (by kernel_rfl)).g (by decide) (by decide) (by decide)) ((hdep _ 1 98 rfl rfl (by kernel_rfl)).g (by decide) (by decide) (by decide)) (.v (by decide) (by decide) (by decide) rfl)
  ·exact fog_move rfl (wanted_no rfl) rfl rfl ((hdep _ 2 99 rfl rfl (by kernel_rfl)).g (by decide) (by decide) (by decide)) (.v (by decide) (by decide) (by decide) rfl)
  ·exact fog_move rfl (wanted_of rfl rfl (by rw[hsz];decide) ((hdep _ 3 100 rfl rfl (by kernel_rfl)).g (by decide) (by decide) (by decide))) rfl rfl (by rw[hF.eval (by decide)];rfl) (.v (by decide) (by decide) (by decide) rfl)
  ·exact fog_move rfl (wanted_of rfl rfl (by rw[hsz];decide) ((hdep _ 3 100 rfl rfl (by kernel_rfl)).g (by decide) (by decide) (by decide))) rfl rfl (by rw[hF.eval (by decide)];rfl) (.v (by decide) (by decide) (by decide) rfl)
  ·exact fog_neqE rfl rfl (wanted_of rfl rfl (by rw[hsz];decide) ((hdep _ 3 100 rfl rfl (by kernel_rfl)).g (by decide) (by decide) (by decide))) rfl rfl ((hdep _ 4 101 rfl rfl (by kernel_rfl)).g (by decide) (by decide) (by decide)) ((hdep _ 5 102 rfl rfl (by kernel_rfl)).g (by decide) (by decide) (by decide)) (.v (by decide) (by decide) (by decide) rfl)
  ·exact fog_pickT rfl rfl (wanted_no rfl) rfl rfl ((hdep _ 3 100 rfl rfl (by kernel_rfl)).g (by decide) (by decide) (by decide)) ((hdep _ 6 103 rfl rfl (by kernel_rfl)).g (by decide) (by decide) (by decide)) (.v (by decide) (by decide) (by decide) rfl)
  ·exact fog_move rfl (wanted_no rfl) rfl rfl ((hdep _ 7 104 rfl rfl (by kernel_rfl)).g (by decide) (by decide) (by decide)) (.v (by decide) (by decide) (by decide) rfl)
  ·exact fog_move rfl (wanted_of rfl rfl (by rw[hsz];decide) ((hdep _ 8 105 rfl rfl (by kernel_rfl)).g (by decide) (by decide) (by decide))) rfl rfl (by rw[hF.eval (by decide)];rfl) (.v (by decide) (by decide) (by decide) rfl)
  ·exact fog_move rfl (wanted_of rfl rfl (by rw[hsz];decide) ((hdep _ 8 105 rfl rfl (by kernel_rfl)).g (by decide) (by decide) (by decide))) rfl rfl (by rw[hF.eval (by decide)];rfl) (.v (by decide) (by decide) (by decide) rfl)
  ·exact fog_neqE rfl rfl (wanted_of rfl rfl (by rw[hsz];decide) ((hdep _ 8 105 rfl rfl (by kernel_rfl)).g (by decide) (by decide) (by decide))) rfl rfl ((hdep _ 9 106 rfl rfl (by kernel_rfl)).g (by decide) (by decide) (by decide)) ((hdep _ 10 107 rfl rfl (by kernel_rfl)).g (by decide) (by decide) (by decide)) (.v (by decide) (by decide) (by decide) rfl)
  ·exact fog_pickT rfl rfl (wanted_no rfl) rfl rfl ((hdep _ 8 105 rfl rfl (by kernel_rfl)).g (by decide) (by decide) (by decide)) ((hdep _ 11 108 rfl rfl (by kernel_rfl)).g (by decide) (by decide) (by decide)) (.v (by decide) (by decide) (by decide) rfl)
  ·exact fog_move rfl (wanted_no rfl) rfl rfl ((hdep _ 12 109 rfl rfl (by kernel_rfl)).g (by decide) (by decide) (by decide)) (.v (by decide) (by decide) (by decide) rfl)
  ·exact fog_move rfl (wanted_of rfl rfl (by rw[hsz];decide) ((hdep _ 13 110 rfl rfl (by kernel_rfl)).g (by decide) (by decide) (by decide))) rfl rfl (by rw[hF.eval (by decide)];rfl) (.v (by decide) (by decide) (by decide) rfl)
  ·exact fog_move rfl (wanted_of rfl rfl (by rw[hsz];decide) ((hdep _ 13 110 rfl rfl (by kernel_rfl)).g (by decide) (by decide) (by decide))) rfl rfl (by rw[hF.eval (by decide)];rfl) (.v (by decide) (by decide) (by decide) rfl)
  ·exact fog_neqE rfl rfl (wanted_of rfl rfl (by rw[hsz];decide) ((hdep _ 13 110 rfl rfl (by kernel_rfl)).g (by decide) (by decide) (by decide))) rfl rfl ((hdep _ 14 111 rfl rfl (by kernel_rfl)).g (by decide) (by decide) (by decide)) ((hdep _ 15 112 rfl rfl (by kernel_rfl)).g (by decide) (by decide) (by decide)) (.v (by decide) (by decide) (by decide) rfl)
  ·exact fog_pickT rfl rfl (wanted_no rfl) rfl rfl ((hdep _ 13 110 rfl rfl (by kernel_rfl)).g (by decide) (by decide) (by decide)) ((hdep _ 16 113 rfl rfl (by kernel_rfl)).g (by decide) (by decide) (by decide)) (.v (by decide) (by decide) (by decide) rfl)
  ·exact fog_move rfl (wanted_no rfl) rfl rfl ((hdep _ 17 114 rfl rfl (by kernel_rfl)).g (by decide) (by decide) (by decide)) (.v (by decide) (by decide) (by decide) rfl)
  ·exact fog_move rfl (wanted_of rfl rfl (by rw[hsz];decide) ((hdep _ 18 115 rfl rfl (by kernel_rfl)).g (by decide) (by decide) (by decide))) rfl rfl (by rw[hF.eval (by decide)];rfl) (.v (by decide) (by decide) (by decide) rfl)
  ·exact fog_move rfl (wanted_of rfl rfl (by rw[hsz];decide) ((hdep _ 18 115 rfl rfl (by kernel_rfl)).g (by decide) (by decide) (by decide))) rfl rfl (by rw[hF.eval (by decide)];rfl) (.v (by decide) (by decide) (by decide) rfl)
  ·exact fog_neqE rfl rfl (wanted_of rfl rfl (by rw[hsz];decide) ((hdep _ 18 115 rfl rfl (by kernel_rfl)).g (by decide) (by decide) (by decide))) rfl rfl ((hdep _ 19 116 rfl rfl (by kernel_rfl)).g (by decide) (by decide) (by decide)) ((hdep _ 20 117 rfl rfl (by kernel_rfl)).g (by decide) (by decide) (by decide)) (.v (by decide) (by decide) (by decide) rfl)
  ·exact fog_pickT rfl rfl (wanted_no rfl) rfl rfl ((hdep _ 18 115 rfl rfl (by kernel_rfl)).g (by decide) (by decide) (by decide)) ((hdep _ 21 118 rfl rfl (by kernel_rfl)).g (by decide) (by decide) (by decide)) (.v (by decide) (by decide) (by decide) rfl)
  ·exact fog_move rfl (wanted_no rfl) rfl rfl ((hdep _ 22 119 rfl rfl (by kernel_rfl)).g (by decide) (by decide) (by decide)) (.v (by decide) (by decide) (by decide) rfl)
  ·exact fog_move rfl (wanted_of rfl rfl (by rw[hsz];decide) ((hdep _ 23 120 rfl rfl (by kernel_rfl)).g (by decide) (by decide) (by decide))) rfl rfl (by rw[hF.eval (by decide)];rfl) (.v (by decide) (by decide) (by decide) rfl)
  ·exact fog_move rfl (wanted_of rfl rfl (by rw[hsz];decide) ((hdep _ 23 120 rfl rfl (by kernel_rfl)).g (by decide) (by decide) (by decide))) rfl rfl (by rw[hF.eval (by decide)];rfl) (.v (by decide) (by decide) (by decide) rfl)
  ·exact fog_neqE rfl rfl (wanted_of rfl rfl (by rw[hsz];decide) ((hdep _ 23 120 rfl rfl (by kernel_rfl)).g (by decide) (by decide) (by decide))) rfl rfl ((hdep _ 24 121 rfl rfl (by kernel_rfl)).g (by decide) (by decide) (by decide)) ((hdep _ 25 122 rfl rfl (by kernel_rfl)).g (by decide) (by decide) (by decide)) (.v (by decide) (by decide) (by decide) rfl)
  ·exact fog_pickT rfl rfl (wanted_no rfl) rfl rfl ((hdep _ 23 120 rfl rfl (by kernel_rfl)).g (by decide) (by decide) (by decide)) ((hdep _ 26 123 rfl rfl (by kernel_rfl)).g (by decide) (by decide) (by decide)) (.v (by decide) (by decide) (by decide) rfl)
  ·exact fog_move rfl (wanted_no rfl) rfl rfl ((hdep _ 27 124 rfl rfl (by kernel_rfl)).g (by decide) (by decide) (by decide)) (.v (by decide) (by decide) (by decide) rfl)
  ·exact fog_loadC rfl rfl (wanted_of rfl rfl (by rw[hsz];decide) ((hdep _ 28 125 rfl rfl (by kernel_rfl)).g (by decide) (by decide) (by decide))) rfl rfl (by rw[hF.eval (by decide)];rfl) y0 y1 y2 y3 (.v (by decide) (by decide) (by decide) rfl)
  ·exact fog_call1 rfl (wanted_of rfl rfl (by rw[hsz];decide) ((hdep _ 28 125 rfl rfl (by kernel_rfl)).g (by decide) (by decide) (by decide))) rfl rfl (fun _ _=>rfl) ((hdep _ 29 126 rfl rfl (by kernel_rfl)).g (by decide) (by decide) (by decide)) ((HPP.out w' hBW).mono fun e w2 ⟨v,h1,h2,h3⟩=>⟨v,h1,h2,.p h3⟩)
  ·exact fog_loadC rfl rfl (wanted_of rfl rfl (by rw[hsz];decide) ((hdep _ 28 125 rfl rfl (by kernel_rfl)).g (by decide) (by decide) (by decide))) rfl rfl (by rw[hF.eval (by decide)];rfl) y0 y1 y2 y3 (.v (by decide) (by decide) (by decide) rfl)
  ·exact fog_call1 rfl (wanted_of rfl rfl (by rw[hsz];decide) ((hdep _ 28 125 rfl rfl (by kernel_rfl)).g (by decide) (by decide) (by decide))) rfl rfl (fun _ _=>rfl) ((hdep _ 31 128 rfl rfl (by kernel_rfl)).g (by decide) (by decide) (by decide)) ((HRP.out w' hBW).mono fun e w2 ⟨v,h1,h2,h3⟩=>⟨v,h1,h2,.r h3⟩)
  ·obtain⟨g,hg1,hg2⟩:=(hdep _ 32 129 rfl rfl (by kernel_rfl)).2.1 rfl;exact fog_call1 rfl (wanted_of rfl rfl (by rw[hsz];decide) ((hdep _ 28 125 rfl rfl (by kernel_rfl)).g (by decide) (by decide) (by decide))) rfl rfl (fun _ _=>rfl) hg1 ((HSE.out w' g hg2).mono fun e w2 ⟨v,h1,h2,h3⟩=>⟨v,h1,h2,.s h3⟩)
  ·obtain⟨A,hg1,hg2⟩:=(hdep _ 30 127 rfl rfl (by kernel_rfl)).1 rfl;obtain⟨B,d,hg3,hg4⟩:=(hdep _ 33 130 rfl rfl (by kernel_rfl)).2.2.1 rfl;exact fog_call2 rfl (wanted_of rfl rfl (by rw[hsz];decide) ((hdep _ 28 125 rfl rfl (by kernel_rfl)).g (by decide) (by decide) (by decide))) rfl rfl (fun _ _=>rfl) hg1 hg3 ((HIN.out w' A _ hg2 hg4).mono fun e w2 ⟨v,h1,h2,h3⟩=>⟨v,h1,h2,.v (by decide) (by decide) (by decide) h3⟩)
  ·exact fog_neq0 rfl rfl (wanted_of rfl rfl (by rw[hsz];decide) ((hdep _ 28 125 rfl rfl (by kernel_rfl)).g (by decide) (by decide) (by decide))) rfl rfl ((hdep _ 34 131 rfl rfl (by kernel_rfl)).g (by decide) (by decide) (by decide)) (.v (by decide) (by decide) (by decide) rfl)
  ·exact fog_pickT rfl rfl (wanted_no rfl) rfl rfl ((hdep _ 28 125 rfl rfl (by kernel_rfl)).g (by decide) (by decide) (by decide)) ((hdep _ 35 132 rfl rfl (by kernel_rfl)).g (by decide) (by decide) (by decide)) (.v (by decide) (by decide) (by decide) rfl)
 intro v w17 hb17 hF
 have e0:v 0=_:=(hF 0 (by decide)).g (by decide) (by decide) (by decide)
 have e1:v 1=_:=(hF 1 (by decide)).g (by decide) (by decide) (by decide)
 have e2:v 2=_:=(hF 2 (by decide)).g (by decide) (by decide) (by decide)
 have e3:v 3=_:=(hF 3 (by decide)).g (by decide) (by decide) (by decide)
 have e4:v 4=_:=(hF 4 (by decide)).g (by decide) (by decide) (by decide)
 have e5:v 5=_:=(hF 5 (by decide)).g (by decide) (by decide) (by decide)
 have e6:v 6=_:=(hF 6 (by decide)).g (by decide) (by decide) (by decide)
 have e7:v 7=_:=(hF 7 (by decide)).g (by decide) (by decide) (by decide)
 have e8:v 8=_:=(hF 8 (by decide)).g (by decide) (by decide) (by decide)
 have e9:v 9=_:=(hF 9 (by decide)).g (by decide) (by decide) (by decide)
 have e10:v 10=_:=(hF 10 (by decide)).g (by decide) (by decide) (by decide)
 have e11:v 11=_:=(hF 11 (by decide)).g (by decide) (by decide) (by decide)
 have e12:v 12=_:=(hF 12 (by decide)).g (by decide) (by decide) (by decide)
 have e13:v 13=_:=(hF 13 (by decide)).g (by decide) (by decide) (by decide)
 have e14:v 14=_:=(hF 14 (by decide)).g (by decide) (by decide) (by decide)
 have e15:v 15=_:=(hF 15 (by decide)).g (by decide) (by decide) (by decide)
 have e16:v 16=_:=(hF 16 (by decide)).g (by decide) (by decide) (by decide)
 have e17:v 17=_:=(hF 17 (by decide)).g (by decide) (by decide) (by decide)
 have e18:v 18=_:=(hF 18 (by decide)).g (by decide) (by decide) (by decide)
 have e19:v 19=_:=(hF 19 (by decide)).g (by decide) (by decide) (by decide)
 have e20:v 20=_:=(hF 20 (by decide)).g (by decide) (by decide) (by decide)
 have e21:v 21=_:=(hF 21 (by decide)).g (by decide) (by decide) (by decide)
 have e22:v 22=_:=(hF 22 (by decide)).g (by decide) (by decide) (by decide)
 have e23:v 23=_:=(hF 23 (by decide)).g (by decide) (by decide) (by decide)
 have e24:v 24=_:=(hF 24 (by decide)).g (by decide) (by decide) (by decide)
 have e25:v 25=_:=(hF 25 (by decide)).g (by decide) (by decide) (by decide)
 have e26:v 26=_:=(hF 26 (by decide)).g (by decide) (by decide) (by decide)
 have e27:v 27=_:=(hF 27 (by decide)).g (by decide) (by decide) (by decide)
 have e28:v 28=_:=(hF 28 (by decide)).g (by decide) (by decide) (by decide)
 have e29:v 29=_:=(hF 29 (by decide)).g (by decide) (by decide) (by decide)
 have e31:v 31=_:=(hF 31 (by decide)).g (by decide) (by decide) (by decide)
 have e34:v 34=_:=(hF 34 (by decide)).g (by decide) (by decide) (by decide)
 have e35:v 35=_:=(hF 35 (by decide)).g (by decide) (by decide) (by decide)
 have e36:v 36=_:=(hF 36 (by decide)).g (by decide) (by decide) (by decide)
 obtain⟨A30,e30,-⟩:=(hF 30 (by decide)).1 rfl
 obtain⟨g32,e32,-⟩:=(hF 32 (by decide)).2.1 rfl
 obtain⟨A33,d33,e33,-⟩:=(hF 33 (by decide)).2.2.1 rfl
 have HB17:Hid (BelW W1 w17):=Lib.hid (joinB HBD.out hb17)
 simp only[List.getD_cons_zero,List.getD_cons_succ]at e0 e1 e2 e3 e4 e5 e6 e7 e8 e9 e10 e11 e12 e13 e14 e15 e16 e17 e18 e19 e20 e21 e22 e23 e24 e25 e26 e27 e28 e29 e31 e34 e35 e36
 simp only[putsF,Nat.zero_add,Nat.reduceAdd,e0,e1,e2,e3,e4,e5,e6,e7,e8,e9,e10,e11,e12,e13,e14,e15,e16,e17,e18,e19,e20,e21,e22,e23,e24,e25,e26,e27,e28,e29,e30,e31,e32,e33,e34,e35,e36,Act.put,List.setIfInBounds_toArray,List.set_cons_zero,List.set_cons_succ]
 clear e0 e1 e2 e3 e4 e5 e6 e7 e8 e9 e10 e11 e12 e13 e14 e15 e16 e17 e18 e19 e20 e21 e22 e23 e24 e25 e26 e27 e28 e29 e30 e31 e32 e33 e34 e35 e36 hF hb17
 refine AnyX.done (by kernel_rfl) ?_ _
 go_upto_region 19 with (fail)
 have q0:IntKind.i64.wrap (((0:Nat):Int)+((0:Nat):Int))=0:=by decide
 by_cases h2:two=0
 ·have t2:(two==0)=true:=by simpa using h2
  have t1:(one==0)=true:=by simpa using (H21.out h2).1
  have t0:(own==0)=true:=by simpa using (H21.out h2).2
  clear h2
  go_wp2_with (go_at_call 6;(with_reducible refine (HLV.out w17 HB17.out).mono ?_);rintro e w18 ⟨rfl,h1⟩;have HB18:=Lib.hid h1;clear h1)
  go_ret
  exact⟨rfl,joinB HW0.out (joinB HB17.out HB18.out)⟩
 ·have t2:(two==0)=false:=by simpa using h2
  obtain rfl:=Hma.out h2
  obtain rfl:=Hmb.out h2
  clear h2
  by_cases h1:one=0
  ·have t1:(one==0)=true:=by simpa using h1
   have t0:(own==0)=true:=by simpa using H7.out h1
   clear h1
   go_wp2_with (go_at_call 6;(with_reducible refine (HLV.out w17 HB17.out).mono ?_);rintro e w18 ⟨rfl,h1⟩;have HB18:=Lib.hid h1;clear h1)
   go_ret
   exact⟨rfl,joinB HW0.out (joinB HB17.out HB18.out)⟩
  ·have t1:(one==0)=false:=by simpa using h1
   obtain rfl:=Hmd.out h1
   obtain rfl:=Hmm.out h1
   clear h1
   by_cases h0:own=0
   ·have t0:(own==0)=true:=by simpa using h0
    clear h0
    go_wp2_with (go_at_call 6;(with_reducible refine (HLV.out w17 HB17.out).mono ?_);rintro e w18 ⟨rfl,h1⟩;have HB18:=Lib.hid h1;clear h1)
    go_ret
    exact⟨rfl,joinB HW0.out (joinB HB17.out HB18.out)⟩
   ·have t0:(own==0)=false:=by simpa using h0
    obtain rfl:=Hmr.out h0
    obtain rfl:=Hms.out h0
    clear h0
    go_wp2_with (go_at_call 6;(with_reducible refine (HLV.out w17 HB17.out).mono ?_);rintro e w18 ⟨rfl,h1⟩;have HB18:=Lib.hid h1;clear h1)
    go_ret
    exact⟨rfl,joinB HW0.out (joinB HB17.out HB18.out)⟩
end Go.Proofs.YtjdjcaobkmpoeaaDoor
