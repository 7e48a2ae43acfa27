/- The texts Pl9 Sam Cpe. -/
import Derived.Test.YtemjmfpcopfdbaaGreatDoorM36
import Derived.Test.YtemjmfpcopfdbaaGreatDoorM38
import Derived.Test.YtemjmfpcopfdbaaGreatDoorM14
namespace Go.Proofs.YtemjmfpcopfdbaaGreatDoor
open Go.RowKit
theorem takL9_in{l:List Int}(h:∀y∈l,0≤y∧y≤255)(a n:Nat):∀y∈takL9 l a n,0≤y∧y≤3:=fun y hy=>by
 obtain⟨i,-,rfl⟩:=List.mem_map.1 hy
 have h2:=takV9_le l a i
 refine⟨?_,by omega⟩
 unfold takV9
 split
 ·decide
 ·rename_i h0
  have hk:(a+i)%l.length<l.length:=Nat.mod_lt _ (by omega)
  have h1:=(h _ (getD_inL hk)).1
  exact Int.tmod_nonneg _ h1
theorem bitsL_next(c:Ck)(nets:List Int){ns:Nat}(h:(nextV c nets).length=ns):bitsL (nextV c nets) ns=nextV c nets:=by
 subst h
 unfold bitsL cpyL
 rw[List.take_length,Nat.sub_self,List.replicate_zero,List.append_nil]
 refine (List.map_congr_left (g:=id) fun y hy=>?_).trans (List.map_id _)
 unfold nextV at hy
 obtain⟨i,-,rfl⟩:=List.mem_map.1 hy
 unfold dataV
 split
 ·rcases rd_cases (valA nets ((c.nodes.getD i.toNat default).ins.getD 0 0)) with e|e|e<;>rw[e]<;>rfl
 ·rfl
def CyR(c:Ck)(ns m:Nat)(s:Stt)(nets:List Int)(w:World)(gB D1 D2 go gn g:Nat):Prop:=
 VRow w g nets∧VRow w go (outV c nets)∧VRow w gn (nextV c nets)∧VRow w gB (bitsL (nextV c nets) ns)∧∃LL,OSt w D1 D2 LL m (fun k=>(s.words.getD k []).length) (nxW c.mems s.words nets) (nxR c.mems s.words nets) m m
section
variable {c:Ck} {ns m:Nat} {s:Stt} {nets:List Int} {w w':World} {gB D1 D2 go gn g:Nat}
end
def ckEq(x y:Ck):Bool:=eqNs x.nodes y.nodes&&decide (x.names=y.names)&&eqMs x.mems y.mems&&decide (x.outs=y.outs)
set_option maxHeartbeats 2000000 in
theorem same_any(x x':Ck)(v v':Value)(w:World)(B B':Nat)(hB:B≤w.heap.size)(hB':B'≤w.heap.size)(h:Cir w B v x)(h':Cir w B' v' x'):
 Calls Tryz.prog 16 #[v,v'] w fun e w'=>e=.returned (.bool (ckEq x x'))∧Below w.heap.size w w':=by
 obtain⟨y,HY⟩:=named (ckEq x x')
 rw[←HY.out]
 have hy:ckEq x x'=(eqNs x.nodes x'.nodes&&decide (x.names=x'.names)&&eqMs x.mems x'.mems&&decide (x.outs=x'.outs)):=rfl
 obtain⟨v0,v1,v2,v3,rfl,g0,g1,g2,g3⟩:=h
 obtain⟨u0,u1,u2,u3,rfl,k0,k1,k2,k3⟩:=h'
 have HN:=Lib.hid (fun w1 (hb:Below w.heap.size w w1)=>eqN_any _ _ _ _ w1 B B' (Nat.le_trans hB hb.size) (Nat.le_trans hB' hb.size) (g0.below (hb.mono hB)) (k0.below (hb.mono hB')))
 have HS:=Lib.hid (fun w1 (hb:Below w.heap.size w w1)=>eqS_any _ _ _ _ w1 B B' (g1.below (hb.mono hB)) (k1.below (hb.mono hB')))
 have HM:=Lib.hid (fun w1 (hb:Below w.heap.size w w1)=>eqM_any _ _ _ _ w1 B B' (Nat.le_trans hB hb.size) (Nat.le_trans hB' hb.size) (g2.below (hb.mono hB)) (k2.below (hb.mono hB')))
 have HI:=Lib.hid (fun w1 (hb:Below w.heap.size w w1)=>eqI_any _ _ _ _ w1 B B' (g3.below (hb.mono hB)) (k3.below (hb.mono hB')))
 obtain⟨A0,b0,o0,c0,rfl,-⟩:=g0
 obtain⟨A1,b1,o1,c1,rfl,-⟩:=g1
 obtain⟨A2,b2,o2,c2,rfl,-⟩:=g2
 obtain⟨A3,b3,o3,c3,rfl,-⟩:=g3
 obtain⟨D0,p0,r0,d0,rfl,-⟩:=k0
 obtain⟨D1,p1,r1,d1,rfl,-⟩:=k1
 obtain⟨D2,p2,r2,d2,rfl,-⟩:=k2
 obtain⟨D3,p3,r3,d3,rfl,-⟩:=k3
 generalize eqNs x.nodes x'.nodes=t0 at hy HN
 generalize decide (x.names=x'.names)=t1 at hy HS
 generalize eqMs x.mems x'.mems=t2 at hy HM
 generalize decide (x.outs=x'.outs)=t3 at hy HI
 generalize x.nodes.length=n0 at HN ⊢
 generalize x.names.length=n1 at HS ⊢
 generalize x.mems.length=n2 at HM ⊢
 generalize x.outs.length=n3 at HI ⊢
 generalize x'.nodes.length=m0 at HN ⊢
 generalize x'.names.length=m1 at HS ⊢
 generalize x'.mems.length=m2 at HM ⊢
 generalize x'.outs.length=m3 at HI ⊢
 have HYY:=Lib.hid hy
 clear hy
 cases t0
 ·go_enter Tryz.func16,Tryz.ntmps16
  go_wp2_with (go_at_call 50;(with_reducible refine (HN.out _ (((Below.refl _ _).alloc (Nat.le_refl _) _).alloc (by simp) _)).mono ?_);rintro e w1 ⟨rfl,hb⟩;have HB1:=Lib.hid (joinB (((Below.refl _ _).alloc (Nat.le_refl _) _).alloc (by simp) _) hb);obtain⟨hc,hf⟩:=bcell hb;clear hb)
  go_ret
  exact⟨ret_bool (by rw[HY.out,HYY.out];rfl),HB1.out⟩
 cases t1
 ·go_enter Tryz.func16,Tryz.ntmps16
  go_wp2_with (first
   |(go_at_call 50;(with_reducible refine (HN.out _ (((Below.refl _ _).alloc (Nat.le_refl _) _).alloc (by simp) _)).mono ?_);rintro e w1 ⟨rfl,hb⟩;have HB1:=Lib.hid (joinB (((Below.refl _ _).alloc (Nat.le_refl _) _).alloc (by simp) _) hb);obtain⟨hc,hf⟩:=bcell hb;clear hb)
   |(go_at_call 52;(with_reducible refine (HS.out _ HB1.out).mono ?_);rintro e w2 ⟨rfl,q,rfl⟩))
  go_ret
  exact⟨ret_bool (by rw[HY.out,HYY.out];rfl),below_drewN HB1.out _⟩
 cases t2
 ·go_enter Tryz.func16,Tryz.ntmps16
  go_wp2_with (first
   |(go_at_call 50;(with_reducible refine (HN.out _ (((Below.refl _ _).alloc (Nat.le_refl _) _).alloc (by simp) _)).mono ?_);rintro e w1 ⟨rfl,hb⟩;have HB1:=Lib.hid (joinB (((Below.refl _ _).alloc (Nat.le_refl _) _).alloc (by simp) _) hb);obtain⟨hc,hf⟩:=bcell hb;clear hb)
   |(go_at_call 52;(with_reducible refine (HS.out _ HB1.out).mono ?_);rintro e w2 ⟨rfl,q,rfl⟩)
   |(go_at_call 53;(with_reducible refine (HM.out _ (below_drewN HB1.out _)).mono ?_);rintro e w3 ⟨rfl,hb⟩;have HB3:=Lib.hid (joinB (below_drewN HB1.out _) hb);obtain⟨hc3,hf3⟩:=bcell hb;clear hb))
  go_ret
  exact⟨ret_bool (by rw[HY.out,HYY.out];rfl),HB3.out⟩
 ·go_enter Tryz.func16,Tryz.ntmps16
  go_wp2_with (first
   |(go_at_call 50;(with_reducible refine (HN.out _ (((Below.refl _ _).alloc (Nat.le_refl _) _).alloc (by simp) _)).mono ?_);rintro e w1 ⟨rfl,hb⟩;have HB1:=Lib.hid (joinB (((Below.refl _ _).alloc (Nat.le_refl _) _).alloc (by simp) _) hb);obtain⟨hc,hf⟩:=bcell hb;have HBW:=Lib.hid hb;clear hb)
   |(go_at_call 52;(with_reducible refine (HS.out _ HB1.out).mono ?_);rintro e w2 ⟨rfl,q,rfl⟩)
   |(go_at_call 53;(with_reducible refine (HM.out _ (below_drewN HB1.out _)).mono ?_);rintro e w3 ⟨rfl,hb⟩;have HB3:=Lib.hid (joinB (below_drewN HB1.out _) hb);clear hc hf;obtain⟨hc3,hf3⟩:=bcell (joinB (below_drewN HBW.out _) hb);clear hb)
   |(go_at_call 55;(with_reducible refine (HI.out _ HB3.out).mono ?_);rintro e w4 ⟨rfl,q4,rfl⟩))
  go_ret
  exact⟨ret_bool (by rw[HY.out,HYY.out];rfl),below_drewN HB3.out _⟩
theorem ndEq_iff(x y:Nd):ndEq x y=true↔x=y:=by
 cases x;cases y
 simp only[ndEq,Bool.and_eq_true,beq_iff_eq,decide_eq_true_eq,Nd.mk.injEq]
 constructor
 ·rintro⟨⟨⟨rfl,rfl⟩,rfl⟩,rfl⟩;exact⟨rfl,rfl,rfl,rfl⟩
 ·rintro⟨rfl,rfl,rfl,rfl⟩;exact⟨⟨⟨rfl,rfl⟩,rfl⟩,rfl⟩
theorem mmEq_iff(x y:Mm):mmEq x y=true↔x=y:=by
 cases x;cases y
 simp only[mmEq,Bool.and_eq_true,beq_iff_eq,decide_eq_true_eq,Mm.mk.injEq]
 constructor
 ·rintro⟨⟨rfl,rfl⟩,rfl⟩;exact⟨rfl,rfl,rfl⟩
 ·rintro⟨rfl,rfl,rfl⟩;exact⟨⟨rfl,rfl⟩,rfl⟩
theorem zipAll_iff{α:Type}{f:α→α→Bool}(hf:∀x y,f x y=true↔x=y):∀l l':List α,(l.length==l'.length&&(l.zip l').all fun p=>f p.1 p.2)=true↔l=l'
 |[],[]=>by simp
 |[],_::_=>by simp
 |_::_,[]=>by simp
 |x::l,y::l'=>by
  have h:=zipAll_iff hf l l'
  simp only[List.length_cons,List.zip_cons_cons,List.all_cons,Bool.and_eq_true,beq_iff_eq,Nat.add_right_cancel_iff,List.cons.injEq]at h ⊢
  rw[←h,hf]
  constructor
  ·rintro⟨h1,h2,h3⟩;exact⟨h2,h1,h3⟩
  ·rintro⟨h2,h1,h3⟩;exact⟨h1,h2,h3⟩
theorem ckEq_iff(x y:Ck):ckEq x y=true↔x=y:=by
 have h1:=zipAll_iff ndEq_iff x.nodes y.nodes
 have h2:=zipAll_iff mmEq_iff x.mems y.mems
 cases x;cases y
 simp only[ckEq,eqNs,eqMs,Bool.and_eq_true,decide_eq_true_eq,Ck.mk.injEq]at h1 h2 ⊢
 rw[h1,h2]
 constructor
 ·rintro⟨⟨⟨rfl,rfl⟩,rfl⟩,rfl⟩;exact⟨rfl,rfl,rfl,rfl⟩
 ·rintro⟨rfl,rfl,rfl,rfl⟩;exact⟨⟨⟨rfl,rfl⟩,rfl⟩,rfl⟩
theorem ckEq_self(x:Ck):ckEq x x=true:=(ckEq_iff x x).2 rfl
end Go.Proofs.YtemjmfpcopfdbaaGreatDoor
