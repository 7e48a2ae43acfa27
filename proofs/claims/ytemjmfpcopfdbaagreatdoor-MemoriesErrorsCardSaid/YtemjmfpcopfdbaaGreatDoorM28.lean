/- The texts Bl9. -/
import Derived.Test.YtemjmfpcopfdbaaGreatDoorM26
import Derived.Test.YtemjmfpcopfdbaaGreatDoorM27
namespace Go.Proofs.YtemjmfpcopfdbaaGreatDoor
open Go.RowKit
def blN(ms:List Mm)(k:Nat):Nat:=2^(ms.getD k default).addr.length
def blW(ms:List Mm)(k:Nat)(_:Nat):List Int:=List.replicate (ms.getD k default).data.length 2
def blR(ms:List Mm)(k:Nat):List Int:=List.replicate (ms.getD k default).data.length 2
section
variable {wb w w':World} {gd gB D1 D2 L m na:Nat} {lo:List Int} {nw:Nat→Nat} {fw:Nat→Nat→List Int} {fr:Nat→List Int} {k1 k2:Nat}
theorem NxS.raw1(h:NxS wb gd gB D1 D2 L m na lo nw fw fr k1 k2 w)(x:Value):NxS wb gd gB D1 D2 L m na lo nw fw fr k1 k2 (w.setCell ⟨D1,k1,none⟩ x):=by
 obtain⟨⟨vs,a1,a2,a3⟩,⟨us,b1,b2,b3⟩,d1,d2,ne⟩:=h.st
 refine⟨h.bel.setCell h.n1 _,h.box.other (a:=⟨D1,k1,none⟩) (a1.apart9 h.box (by decide)) _,h.row.other (a:=⟨D1,k1,none⟩) (a1.apart9 h.row.fr (by decide)) _,⟨⟨vs.set k1 x,a1.set _ _,by rw[List.length_set];exact a2,fun j hj=>?_⟩,⟨us,b1.other (a:=⟨D1,k1,none⟩) (by show D1≠D2;exact ne) _,b2,fun j hj=>?_⟩,d1,d2,ne⟩,h.ld,by simpa [World.setCell]using h.hl,h.nd,h.n1,h.n2⟩
 ·obtain⟨D',T',e',s',l'⟩:=a3 j hj
  exact⟨D',T',by rw[List.getElem?_set,if_neg (by omega)];exact e',s'.other (a:=⟨D1,_,none⟩) (by show D1<D';omega) _,l'⟩
 ·obtain⟨g,e,v⟩:=b3 j hj
  exact⟨g,e,v.other (a:=⟨D1,k1,none⟩) (a1.apart9 v.fr (by decide)) _⟩
theorem NxS.fin1(h:NxS wb gd gB D1 D2 L m na lo nw fw fr k1 k2 w){D T:Nat}(hc:w.cell? ⟨D1,k1,none⟩=some (.slice (some ⟨D,0,none⟩) (nw k1) (nw k1)))(s:SRow w D (fw k1) (nw k1) (nw k1) T)(l:L≤D):NxS wb gd gB D1 D2 L m na lo nw fw fr (k1+1) k2 w:=by
 obtain⟨⟨vs,a1,a2,a3⟩,⟨us,b1,b2,b3⟩,d1,d2,ne⟩:=h.st
 refine⟨h.bel,h.box,h.row,⟨⟨vs,a1,a2,fun j hj=>?_⟩,⟨us,b1,b2,b3⟩,d1,d2,ne⟩,h.ld,h.hl,h.nd,h.n1,h.n2⟩
 by_cases e:j=k1
 ·subst e
  exact⟨D,T,by rw[←a1.cell];exact hc,s,l⟩
 ·exact a3 j (by omega)
end
set_option maxRecDepth 100000 in
set_option maxHeartbeats 8000000 in
theorem mblank_any(c:Ck)(A0 A1 A2 A3:Option Addr)(n n1 m n3 c0 c1 c2 c3 ns:Nat)(w:World)(hC:Cir w w.heap.size (.agg #[.slice A0 n c0,.slice A1 n1 c1,.slice A2 m c2,.slice A3 n3 c3]) c) (hsz:c.nodes.length≤1000000) (hns:(ofTo c.nodes [14] c.nodes.length).length=ns) (hns1:ns≤1000000) (hm1:m≤1000)
 (hp:∀k,k<m→(c.mems.getD k default).addr.length≤16∧(c.mems.getD k default).data.length≤1000):
 Calls Tryz.prog 60 #[.agg #[.slice A0 n c0,.slice A1 n1 c1,.slice A2 m c2,.slice A3 n3 c3]] w fun e w'=>∃gB D1 D2,e=.returned (.agg #[.slice (some ⟨gB,0,none⟩) ns ns,.slice (some ⟨D1,0,none⟩) m m,.slice (some ⟨D2,0,none⟩) m m])∧VRow w' gB (List.replicate ns 2)∧(∃L,w.heap.size≤L∧OSt w' D1 D2 L m (blN c.mems) (blW c.mems) (blR c.mems) m m)∧BelW w w':=by
 have hM:Ms w w.heap.size (.slice A2 m c2) c.mems:=by
  obtain⟨y0,y1,y2,y3,e,-,-,hM,-⟩:=id hC
  simp only[Value.agg.injEq,Array.mk.injEq,List.cons.injEq,and_true]at e
  obtain⟨-,-,rfl,-⟩:=e
  exact hM
 obtain⟨A',b0,o0,c',e,hA,-,-,hc⟩:=id hM
 simp only[Value.slice.injEq]at e
 obtain⟨rfl,hml,rfl⟩:=e
 rw[←hml]at hA hc
 obtain⟨W1,HW1⟩:=named ((w.alloc (.cells #[.slice A0 n c0,.slice A1 n1 c1,.slice A2 m c2,.slice A3 n3 c3] 39)).alloc (.cells #[.slice none 0 0,.slice none 0 0,.slice none 0 0] 45))
 have hb1:BelW w W1:=by rw[HW1.out];exact below_new (below_new (Below.refl _ _) _) _
 have hf1:Fr W1 w.heap.size 39 [.slice A0 n c0,.slice A1 n1 c1,.slice A2 m c2,.slice A3 n3 c3]:=by rw[HW1.out];exact Fr.alloc (Fr.made _ [.slice A0 n c0,.slice A1 n1 c1,.slice A2 m c2,.slice A3 n3 c3] _ rfl) _
 have hf2:Fr W1 (w.heap.size+1) 45 [.slice none 0 0,.slice none 0 0,.slice none 0 0]:=by rw[HW1.out];exact Fr.made _ [.slice none 0 0,.slice none 0 0,.slice none 0 0] _ (by simp)
 obtain⟨s,HS⟩:=named w.heap.size
 have HSW:Hid (w.heap.size≤s):=Lib.hid (by rw[HS.out];exact Nat.le_refl _)
 rw[←HS.out]at hf1 hf2
 have HLT:Hid (s+1<W1.heap.size):=Lib.hid hf2.lt
 have HMC:Hid (∀W,BelW W1 W→W.cell? ⟨s,0,none⟩=some (.slice A0 n c0)∧W.cell? ⟨s,1,none⟩=some (.slice A1 n1 c1)∧W.cell? ⟨s,2,none⟩=some (.slice A2 m c2)∧W.cell? ⟨s,3,none⟩=some (.slice A3 n3 c3)):=Lib.hid fun W h=>⟨(hf1.below h).cell 0,(hf1.below h).cell 1,(hf1.below h).cell 2,(hf1.below h).cell 3⟩
 have HF2:Hid (∀W,BelW W1 W→Fr W (s+1) 45 [.slice none 0 0,.slice none 0 0,.slice none 0 0]):=Lib.hid fun W h=>hf2.below h
 have HB1:Hid (∀W,BelW W1 W→BelW w W):=Lib.hid fun W h=>joinB hb1 h
 have HST:Hid (∀W,Below W1.heap.size W1 W→Calls Tryz.prog 37 #[.agg #[.slice A0 n c0,.slice A1 n1 c1,.slice A2 m c2,.slice A3 n3 c3]] W fun e w'=>∃s',e=.returned s'∧(∃A c,s'=.slice A ns c)∧BelW W w'):=Lib.hid fun W h=>
  (states_any c _ W W.heap.size (Nat.le_refl _) ((hC.below (joinB hb1 h)).more (Below.size (joinB hb1 h))) hsz).mono fun e w' ⟨A,he,_,h⟩=>⟨_,he,⟨A,_,by rw[←hns]⟩,h⟩
 have HUN:Hid (∀W (k:Nat),k≤1000000→Calls Tryz.prog 102 #[.int .i64 (k:Int)] W fun e w'=>∃g,e=.returned (.slice (some ⟨g,0,none⟩) k k)∧VRow w' g (List.replicate k 2)∧W.heap.size≤g∧BelW W w'):=Lib.hid fun W k hk=>
  (munk_any k hk W).mono fun e w' h=>h
 have HU1:Hid (∀W,Below W1.heap.size W1 W→Calls Tryz.prog 102 #[.int .i64 (ns:Int)] W fun e w'=>∃s',e=.returned s'∧∃g,s'=.slice (some ⟨g,0,none⟩) ns ns∧VRow w' g (List.replicate ns 2)∧W.heap.size≤g∧BelW W w'):=Lib.hid fun W h=>
  (HUN.out W ns hns1).mono fun e w' ⟨g,h1,h2,h3,h4⟩=>⟨_,h1,g,rfl,h2,h3,h4⟩
 have HMM:Hid (∀k,k<m→∃(Aa Ad2:Option Addr) (ca cd2:Nat),A2=some ⟨b0,o0,none⟩∧∀W,BelW W1 W→W.cell? ⟨b0,o0+k*3,none⟩=some (.slice Aa (c.mems.getD k default).addr.length ca)∧W.cell? ⟨b0,o0+k*3+1,none⟩=some (.slice Ad2 (c.mems.getD k default).data.length cd2)∧W.cell? ⟨b0,o0+k*3+2,none⟩=some (.int .i64 (c.mems.getD k default).write)):=Lib.hid fun k hk=>by
  obtain⟨hlb,x,y,e0,e1,e2,h4,h5⟩:=hc k hk
  obtain⟨Aa,ba,oa,ca,rfl,-⟩:=id h4
  obtain⟨Ad2,bd,od,cd2,rfl,-⟩:=id h5
  refine⟨Aa,Ad2,ca,cd2,hA (by omega),fun W h=>?_⟩
  have h:=joinB hb1 h
  have hk:∀j,W.cell? ⟨b0,j,none⟩=w.cell? ⟨b0,j,none⟩:=fun j=>Below.cell h (p:=⟨b0,j,none⟩) hlb
  exact⟨by rw[hk];exact e0,by rw[hk];exact e1,by rw[hk];exact e2⟩
 have HPK:=Lib.hid hp
 have HNWL:Hid (∀k,blN c.mems k=2^(c.mems.getD k default).addr.length∧blR c.mems k=List.replicate (c.mems.getD k default).data.length 2∧∀i,blW c.mems k i=List.replicate (c.mems.getD k default).data.length 2):=Lib.hid fun k=>⟨rfl,rfl,fun _=>rfl⟩
 obtain⟨i2,hi2,hz2,hy2,hx2⟩:=info_parts info_vals
 have HMK:Hid (∀(q:Nat) (w:World),q≤65536→(Instr.makeSlice 43 (.int .i64 (q:Int)) (.int .i64 (q:Int))).run Tryz.prog w=.ok (.slice (some ⟨w.heap.size,0,none⟩) q q) (w.alloc (.cells (madeCells #[.slice none 0 0] q) 41))):=Lib.hid fun q w hq=>by
  have:=mk_run (t:=43) Tryz.underlying43 hi2 hz2 q (by rw[hx2];omega) (by omega) w
  rw[hy2,Nat.mul_one]at this
  exact this
 clear hM hC hb1 hf1 hf2 hml hc hA hsz hns hp hi2 hz2 hy2 hx2
 go_enter Tryz.func60,Tryz.ntmps60
 go_upto_region 1 with (fail)
 rw[←HW1.out,←HS.out]
 refine wp_region_held_drew (S:=fun w'=>Below W1.heap.size W1 w') (by kernel_rfl) (Below.refl _ _).drew (fun hHeld=>?_)
 refine wpAnyH_take (i:=0) (oi:=⟨some 7,_,_,_,_,_⟩) (v:=.agg #[.slice A0 n c0,.slice A1 n1 c1,.slice A2 m c2,.slice A3 n3 c3]) rfl (by kernel_rfl) (by kernel_rfl) (by kernel_rfl) (fun _ _ _ h=>h) (Or.inl ⟨by rfl,?_⟩) hHeld ?_
 ·intro w' hSw;obtain⟨x0,x1,x2,x3⟩:=HMC.out w' hSw;first|(go_simp;done)|(go_simp;with_reducible rfl)
 simp only[Act.put,List.setIfInBounds_toArray,List.set_cons_zero,List.set_cons_succ]
 refine wpAnyH_take (i:=4) (oi:=⟨some 11,_,_,_,_,_⟩) (v:=.pointer (some ⟨s,2,none⟩)) rfl (by kernel_rfl) (by kernel_rfl) (by kernel_rfl) (fun _ _ _ h=>h) (Or.inl ⟨by rfl,?_⟩) hHeld ?_
 ·intro w' hSw;obtain⟨x0,x1,x2,x3⟩:=HMC.out w' hSw;first|(go_simp;done)|(go_simp;with_reducible rfl)
 simp only[Act.put,List.setIfInBounds_toArray,List.set_cons_zero,List.set_cons_succ]
 refine wpAnyH_take (i:=5) (oi:=⟨some 12,_,_,_,_,_⟩) (v:=.slice A2 m c2) rfl (by kernel_rfl) (by kernel_rfl) (by kernel_rfl) (fun _ _ _ h=>h) (Or.inl ⟨by rfl,?_⟩) hHeld ?_
 ·intro w' hSw;obtain⟨x0,x1,x2,x3⟩:=HMC.out w' hSw;first|(go_simp;done)|(go_simp;with_reducible rfl)
 simp only[Act.put,List.setIfInBounds_toArray,List.set_cons_zero,List.set_cons_succ]
 refine wpAnyH_take (i:=6) (oi:=⟨some 13,_,_,_,_,_⟩) (v:=.int .i64 (m:Int)) rfl (by kernel_rfl) (by kernel_rfl) (by kernel_rfl) (fun _ _ _ h=>h) (Or.inl ⟨by rfl,?_⟩) hHeld ?_
 ·intro w' hSw;obtain⟨x0,x1,x2,x3⟩:=HMC.out w' hSw;first|(go_simp;done)|(go_simp;with_reducible rfl)
 simp only[Act.put,List.setIfInBounds_toArray,List.set_cons_zero,List.set_cons_succ]
 refine wpAnyH_take (i:=8) (oi:=⟨some 15,_,_,_,_,_⟩) (v:=.pointer (some ⟨s,2,none⟩)) rfl (by kernel_rfl) (by kernel_rfl) (by kernel_rfl) (fun _ _ _ h=>h) (Or.inl ⟨by rfl,?_⟩) hHeld ?_
 ·intro w' hSw;obtain⟨x0,x1,x2,x3⟩:=HMC.out w' hSw;first|(go_simp;done)|(go_simp;with_reducible rfl)
 simp only[Act.put,List.setIfInBounds_toArray,List.set_cons_zero,List.set_cons_succ]
 refine wpAnyH_take (i:=9) (oi:=⟨some 16,_,_,_,_,_⟩) (v:=.slice A2 m c2) rfl (by kernel_rfl) (by kernel_rfl) (by kernel_rfl) (fun _ _ _ h=>h) (Or.inl ⟨by rfl,?_⟩) hHeld ?_
 ·intro w' hSw;obtain⟨x0,x1,x2,x3⟩:=HMC.out w' hSw;first|(go_simp;done)|(go_simp;with_reducible rfl)
 simp only[Act.put,List.setIfInBounds_toArray,List.set_cons_zero,List.set_cons_succ]
 refine wpAnyH_take (i:=10) (oi:=⟨some 17,_,_,_,_,_⟩) (v:=.int .i64 (m:Int)) rfl (by kernel_rfl) (by kernel_rfl) (by kernel_rfl) (fun _ _ _ h=>h) (Or.inl ⟨by rfl,?_⟩) hHeld ?_
 ·intro w' hSw;obtain⟨x0,x1,x2,x3⟩:=HMC.out w' hSw;first|(go_simp;done)|(go_simp;with_reducible rfl)
 simp only[Act.put,List.setIfInBounds_toArray,List.set_cons_zero,List.set_cons_succ]
 refine bl_reg (m:=m) (na:=ns) (ns:=ns) (wb:=W1) (lo:=List.replicate ns 2) (sC:=.agg #[.slice A0 n c0,.slice A1 n1 c1,.slice A2 m c2,.slice A3 n3 c3]) _ (by omega) rfl (by kernel_rfl) ⟨_,rfl,rfl,rfl,rfl,by kernel_rfl⟩ ⟨_,rfl,rfl,rfl,rfl,by kernel_rfl⟩ ⟨_,rfl,rfl,rfl,rfl,by kernel_rfl⟩ ⟨_,rfl,rfl,rfl,rfl,by kernel_rfl⟩ ⟨_,rfl,rfl,rfl,rfl,by kernel_rfl⟩ ⟨_,rfl,rfl,rfl,rfl,by kernel_rfl⟩ ⟨_,rfl,rfl,rfl,rfl,by kernel_rfl⟩ ⟨_,rfl,rfl,rfl,rfl,by kernel_rfl⟩ (Nat.le_of_ble_eq_true (by rfl)) rfl rfl rfl ?_ HST.out HU1.out ?_ _ hHeld
 ·rfl
 intro v3 v8 v9 v10 v14 v18 v19 gB D1 D2 gd wx I
 obtain⟨A8,c8,rfl⟩:=I.p1 rfl
 obtain rfl:=I.p2 rfl
 obtain⟨rfl,rfl,rfl,rfl,rfl,hns⟩:=bl_reg_end I (blN c.mems) (blW c.mems) (blR c.mems)
 clear I hHeld
 obtain⟨L,HL⟩:=named wx.heap.size
 rw[←HL.out]at hns
 have HNS:=Lib.hid hns
 obtain⟨-,-,x2,-⟩:=HMC.out wx hns.bel
 clear hns
 simp only[Gbl,Act.put,List.setIfInBounds_toArray,List.set_cons_zero,List.set_cons_succ]
 go_wp2
 go_loopw [23] (fun j wr=>∃k:Nat,j=.int .i64 k∧k≤m∧NxS W1 gd gB D1 D2 L m ns (List.replicate ns 2) (blN c.mems) (blW c.mems) (blR c.mems) k k wr) (fun j _=>m-(intOf j).toNat)
 case atStart=>exact⟨0,rfl,Nat.zero_le _,HNS.out⟩
 case round=>
  clear HNS x2
  obtain⟨k,rfl,hkm,hns⟩:=hrel
  have HNS:=Lib.hid hns
  have HBW:=Lib.hid hns.bel
  clear hns
  obtain⟨V0,rfl⟩:∃V0:World,V0=wr:=⟨_,rfl⟩
  by_cases hk:k<m
  ·have hk2:(k:Int)<(m:Int):=by omega
   obtain⟨Aa,Ad2,ca,cd2,rfl,hmm⟩:=HMM.out k hk
   obtain⟨p5,p6⟩:=HPK.out k hk
   obtain⟨q0,q1,q2⟩:=HNWL.out k
   obtain⟨b,rfl⟩:∃z,z=b0:=⟨_,rfl⟩
   obtain⟨o,rfl⟩:∃z,z=o0:=⟨_,rfl⟩
   obtain⟨e0,e1,e2⟩:=hmm V0 HBW.out
   obtain⟨wv,HWV⟩:=named (c.mems.getD k default).write
   rw[←HWV.out]at e2
   obtain⟨la,HLA⟩:=named (c.mems.getD k default).addr.length
   rw[←HLA.out]at e0 q0 p5
   obtain⟨ld,HLD⟩:=named (c.mems.getD k default).data.length
   rw[←HLD.out]at e1 q1 q2 p6
   have HSET1:Hid (∀W D T,NxS W1 gd gB D1 D2 L m ns (List.replicate ns 2) (blN c.mems) (blW c.mems) (blR c.mems) k k W→W.cell? ⟨D1,k,none⟩=some (.slice (some ⟨D,0,none⟩) (blN c.mems k) (blN c.mems k))→SRow W D (blW c.mems k) (blN c.mems k) (blN c.mems k) T→L≤D→NxS W1 gd gB D1 D2 L m ns (List.replicate ns 2) (blN c.mems) (blW c.mems) (blR c.mems) (k+1) k W):=Lib.hid fun W D T h hc s l=>h.fin1 hc s l
   have HSET2:Hid (∀W g',NxS W1 gd gB D1 D2 L m ns (List.replicate ns 2) (blN c.mems) (blW c.mems) (blR c.mems) (k+1) k W→VRow W g' (blR c.mems k)→NxS W1 gd gB D1 D2 L m ns (List.replicate ns 2) (blN c.mems) (blW c.mems) (blR c.mems) (k+1) (k+1) (W.setCell ⟨D2,k,none⟩ (.slice (some ⟨g',0,none⟩) (blR c.mems k).length (blR c.mems k).length))∧NxS W1 gd gB D1 D2 L m ns (List.replicate ns 2) (blN c.mems) (blW c.mems) (blR c.mems) (k+1) (k+1) (W.setCell ⟨D2,k,none⟩ (.slice (some ⟨g',0,none⟩) (blR c.mems k).length (blR c.mems k).length)).drew):=Lib.hid fun W g' h v=>⟨h.set2 hk v,(h.set2 hk v).below (BelW.drew (Below.refl _ _))⟩
   have HRL:Hid ((blR c.mems k).length=ld):=Lib.hid (by rw[q1,List.length_replicate])
   rw[HRL.out]at HSET2
   have HBR:=Lib.hid q1
   have HBWW:=Lib.hid q2
   obtain⟨nw,HNW⟩:=named (blN c.mems k)
   rw[←HNW.out]at HSET1 q0
   have hnw:nw≤65536:=by rw[q0];exact Nat.le_trans (Nat.pow_le_pow_right (by decide) p5) (by decide)
   have hmk:=fun w=>HMK.out nw w hnw
   have hsh:IntKind.i64.wrap (2^min la 64)=(nw:Int):=by
    have h0:min la 64=la:=Nat.min_eq_left (by omega)
    have h1:(2^la:Int)=(nw:Int):=by rw[q0];simp
    rw[h0,h1,IntKind.wrap_i64]
    omega
   have HQ0:=Lib.hid q0
   clear p5 q0 q1 q2 hmm
   obtain⟨W2,HW2⟩:=named (V0.alloc (.cells #[(.slice Aa la ca),(.slice Ad2 ld cd2),(.int .i64 wv)] 67))
   have hnew:BelW V0 W2:=by rw[HW2.out];exact below_new (Below.refl _ _) _
   have hfv:Fr W2 V0.heap.size 67 [(.slice Aa la ca),(.slice Ad2 ld cd2),(.int .i64 wv)]:=by rw[HW2.out];exact Fr.made _ [(.slice Aa la ca),(.slice Ad2 ld cd2),(.int .i64 wv)] _ rfl
   obtain⟨v,HVV⟩:=named V0.heap.size
   rw[←HVV.out]at hfv
   have hb2:BelW W1 W2:=joinB HBW.out hnew
   have HB2:=Lib.hid hb2
   have HN2:=Lib.hid (HNS.out.below hnew)
   have HFV2:=Lib.hid hfv
   have HK5:Hid (∀w',BelW W2 w'→BelW W1 w'∧w'.cell? ⟨gd,1,none⟩=some (.slice (some ⟨D1,0,none⟩) m m)∧w'.cell? ⟨v,0,none⟩=some (.slice Aa la ca)):=Lib.hid fun w' h=>⟨joinB hb2 h,((HN2.out.below h).cells).2.1,(hfv.below h).cell 0⟩
   have HK5S:Hid (∀W,BelW W2 W→∀x,BelW W1 (W.setCell ⟨D1,k,none⟩ x)∧(W.setCell ⟨D1,k,none⟩ x).cell? ⟨gd,1,none⟩=some (.slice (some ⟨D1,0,none⟩) m m)∧(W.setCell ⟨D1,k,none⟩ x).cell? ⟨v,0,none⟩=some (.slice Aa la ca)):=Lib.hid fun W h x=>by
    have hn:=HN2.out.below h
    obtain⟨vs,a1,-⟩:=hn.st.r1
    exact⟨hn.bel.setCell hn.n1 _,(hn.box.other (a:=⟨D1,k,none⟩) (a1.apart9 hn.box (by decide)) x).cell 1,((hfv.below h).other (a:=⟨D1,k,none⟩) (a1.apart9 (hfv.below h) (by decide)) x).cell 0⟩
   have HTH:Hid (∀W,BelW W2 W→(∃u,W.cell? ⟨D1,k,none⟩=some u)∧W.frozen? ⟨D1,k,none⟩=false):=Lib.hid fun W h=>⟨((HN2.out.below h).st.there hk).1,((HN2.out.below h).st.frozen k).1⟩
   have hs0:BelW W2 W2:=Below.refl _ _
   obtain⟨x0,x1,x2,x3⟩:=HMC.out V0 HBW.out
   clear hnew hfv hb2
   go_upto_region 5 with (fail)
   rw[←HW2.out,←HVV.out]
   clear e0 e1 e2 x0 x1 x2 x3
   obtain⟨⟨u2,hu2⟩,hz2⟩:=HTH.out W2 hs0
   have hd1:D1<W2.heap.size:=HN2.out.st.lt.1
   have hd2:D1≠W2.heap.size:=by omega
   obtain⟨Wb,HWb⟩:=named (W2.setCell ⟨D1,k,none⟩ (.slice (some ⟨W2.heap.size,0,none⟩) nw nw))
   have hNb:NxS W1 gd gB D1 D2 L m ns (List.replicate ns 2) (blN c.mems) (blW c.mems) (blR c.mems) k k Wb:=by rw[HWb.out];exact HN2.out.raw1 _
   have HNb:=Lib.hid hNb
   have HK5B:Hid (∀W,BelW Wb W→BelW W1 W∧W.cell? ⟨gd,1,none⟩=some (.slice (some ⟨D1,0,none⟩) m m)∧W.cell? ⟨v,0,none⟩=some (.slice Aa la ca)):=Lib.hid fun W h=>by
    have hq:=(HK5S.out W2 (Below.refl _ _) (.slice (some ⟨W2.heap.size,0,none⟩) nw nw)).2.2
    rw[←HWb.out]at hq
    exact⟨joinB hNb.bel h,((hNb.below h).cells).2.1,(Below.cell h (p:=⟨v,0,none⟩) (by show v<Wb.heap.size;rw[HWb.out];simpa [World.setCell]using HFV2.out.lt)).trans hq⟩
   have hvb:Fr Wb v 67 [(.slice Aa la ca),(.slice Ad2 ld cd2),(.int .i64 wv)]:=by
    obtain⟨vs,a1,-⟩:=HN2.out.st.r1
    rw[HWb.out]
    exact HFV2.out.other (a:=⟨D1,k,none⟩) (a1.apart9 HFV2.out (by decide)) _
   have HVB:=Lib.hid hvb
   have hcb:Wb.cell? ⟨D1,k,none⟩=some (.slice (some ⟨W2.heap.size,0,none⟩) nw nw):=by
    obtain⟨vs,a1,a2,-⟩:=HN2.out.st.r1
    rw[HWb.out,(a1.set k _).cell]
    simp[a2,hk]
   have HCB:=Lib.hid hcb
   have HDS:Hid (Wb.heap.size=W2.heap.size):=Lib.hid (by rw[HWb.out];simp[World.setCell])
   have HLD2:Hid (L≤W2.heap.size):=Lib.hid HN2.out.hl
   have hsb:BelW Wb Wb:=Below.refl _ _
   clear hNb hvb hcb
   go_region_held3 (fun w'=>BelW W1 w'∧w'.cell? ⟨gd,1,none⟩=some (.slice (some ⟨D1,0,none⟩) m m)∧w'.cell? ⟨v,0,none⟩=some (.slice Aa la ca))
    ((first|(with_reducible refine HK5S.out _ ?_ _;(with_reducible repeat (first|assumption|refine BelW.drew ?_|refine BelW.alloc ?_ _));done)|(refine HK5.out _ ?_;(with_reducible repeat (first|assumption|refine BelW.drew ?_|refine BelW.alloc ?_ _));done)|(rw[←HWb.out];refine HK5B.out _ ?_;(with_reducible repeat (first|assumption|refine BelW.drew ?_|refine BelW.alloc ?_ _)))))
    ((fail))
   rw[←HWb.out]
   obtain⟨W5,HW5⟩:=named (Wb.alloc (.cells (madeCells #[.slice none 0 0] nw) 41)).drew
   rw[←HW5.out]
   have hb5:BelW Wb W5:=by rw[HW5.out];exact BelW.drew (BelW.alloc (Below.refl _ _) _)
   have hr5:SRow W5 W2.heap.size (blW c.mems k) nw 0 0:=by
    have hf:Fr W5 W2.heap.size 41 (madeCells #[.slice none 0 0] nw).toList:=by
     rw[HW5.out,←HDS.out]
     have:=(Fr.made Wb (madeCells #[.slice none 0 0] nw).toList 41 rfl)
     rw[Array.toArray_toList]at this
     exact this.below (BelW.drew (Below.refl _ _))
    exact⟨_,fun _=>0,hf,by simp[madeCells],fun j hj=>absurd hj (by omega),fun i j _ hj=>absurd hj (by omega)⟩
   have HB5:=Lib.hid hb5
   have HR5:=Lib.hid hr5
   obtain⟨D,HD⟩:=named W2.heap.size
   rw[←HD.out]at HR5 HCB HLD2 HDS
   rw[←HD.out]
   have HB9:Hid (∀W,BelW Wb W→BelW Wb W∧W.cell? ⟨gd,1,none⟩=some (.slice (some ⟨D1,0,none⟩) m m)∧W.cell? ⟨D1,k,none⟩=some (.slice (some ⟨D,0,none⟩) nw nw)∧W.cell? ⟨v,1,none⟩=some (.slice Ad2 ld cd2)):=Lib.hid fun W h=>⟨h,((HNb.out.below h).cells).2.1,(Below.cell h (p:=⟨D1,k,none⟩) HNb.out.st.lt.1).trans HCB.out,(HVB.out.below h).cell 1⟩
   have HB9S:Hid (∀W,BelW Wb W→∀i x,BelW Wb (W.setCell ⟨D,i,none⟩ x)∧(W.setCell ⟨D,i,none⟩ x).cell? ⟨gd,1,none⟩=some (.slice (some ⟨D1,0,none⟩) m m)∧(W.setCell ⟨D,i,none⟩ x).cell? ⟨D1,k,none⟩=some (.slice (some ⟨D,0,none⟩) nw nw)∧(W.setCell ⟨D,i,none⟩ x).cell? ⟨v,1,none⟩=some (.slice Ad2 ld cd2)):=Lib.hid fun W h i x=>HB9.out _ (h.setCell (p:=⟨D,i,none⟩) (by show Wb.heap.size≤D;rw[HDS.out];exact Nat.le_refl _) x)
   clear hb5 hr5 hu2 hz2 hd1 hd2 hmk hsh hs0 hsb
   obtain⟨y0,y1,y2,y3⟩:=HB9.out W5 HB5.out
   clear y0
   go_wp2
   go_loopw [43] (fun j wr=>∃i T:Nat,j=.int .i64 i∧i≤nw∧BelW Wb wr∧SRow wr D (blW c.mems k) nw i T∧T≤wr.heap.size) (fun j _=>nw-(intOf j).toNat)
   case atStart=>exact⟨0,0,rfl,Nat.zero_le _,HB5.out,HR5.out,Nat.zero_le _⟩
   case round=>
    clear y1 y2 y3
    obtain⟨i,T,rfl,hin,hbi,hri,hti⟩:=hrel
    have HBI:=Lib.hid hbi
    have HRI:=Lib.hid hri
    have HTI:=Lib.hid hti
    clear hri hti
    by_cases hi:i<nw
    ·have hi2:(i:Int)<(nw:Int):=by omega
     have hs9:BelW wr wr:=Below.refl _ _
     have HK9:Hid (∀W,BelW wr W→BelW Wb W∧W.cell? ⟨gd,1,none⟩=some (.slice (some ⟨D1,0,none⟩) m m)∧W.cell? ⟨D1,k,none⟩=some (.slice (some ⟨D,0,none⟩) nw nw)∧W.cell? ⟨v,1,none⟩=some (.slice Ad2 ld cd2)):=Lib.hid fun W h=>HB9.out W (joinB HBI.out h)
     have HK9S:Hid (∀W,BelW wr W→∀x,BelW Wb (W.setCell ⟨D,i,none⟩ x)∧(W.setCell ⟨D,i,none⟩ x).cell? ⟨gd,1,none⟩=some (.slice (some ⟨D1,0,none⟩) m m)∧(W.setCell ⟨D,i,none⟩ x).cell? ⟨D1,k,none⟩=some (.slice (some ⟨D,0,none⟩) nw nw)∧(W.setCell ⟨D,i,none⟩ x).cell? ⟨v,1,none⟩=some (.slice Ad2 ld cd2)):=Lib.hid fun W h x=>HB9S.out W (joinB HBI.out h) i x
     have HUL:Hid (∀W,Calls Tryz.prog 102 #[.int .i64 (ld:Int)] W fun e w'=>∃g,e=.returned (.slice (some ⟨g,0,none⟩) ld ld)∧VRow w' g (List.replicate ld 2)∧W.heap.size≤g∧BelW W w'):=Lib.hid fun W=>HUN.out W ld (by omega)
     have HST6:Hid (∀W g6,BelW wr W→VRow W g6 (List.replicate ld 2)→wr.heap.size≤g6→BelW Wb (W.setCell ⟨D,i,none⟩ (.slice (some ⟨g6,0,none⟩) ld ld))∧SRow (W.setCell ⟨D,i,none⟩ (.slice (some ⟨g6,0,none⟩) ld ld)) D (blW c.mems k) nw (i+1) W.heap.size∧W.heap.size≤(W.setCell ⟨D,i,none⟩ (.slice (some ⟨g6,0,none⟩) ld ld)).heap.size):=Lib.hid fun W g6 h hv hg=>by
      have hl:(blW c.mems k i).length=ld:=by rw[HBWW.out,List.length_replicate]
      have:=(HRI.out.below h).step (T':=W.heap.size) (Nat.le_trans HTI.out (Below.size h)) hi (g:=g6) (by rw[HBWW.out];exact hv) (Nat.lt_of_lt_of_le HRI.out.lt hg) hv.lt (Nat.le_trans HTI.out hg)
      rw[hl]at this
      exact⟨(HB9S.out W (joinB HBI.out h) i _).1,this,by simp[World.setCell]⟩
     clear hbi
     go_upto_region 9 with (fail)
     go_region_held3 (fun w'=>BelW Wb w'∧w'.cell? ⟨gd,1,none⟩=some (.slice (some ⟨D1,0,none⟩) m m)∧w'.cell? ⟨D1,k,none⟩=some (.slice (some ⟨D,0,none⟩) nw nw)∧w'.cell? ⟨v,1,none⟩=some (.slice Ad2 ld cd2))
      ((first|(with_reducible exact h9 _)|(refine HK9.out _ ?_;(with_reducible repeat (first|assumption|refine BelW.drew ?_|refine BelW.alloc ?_ _)))))
      ((go_at_call 102;(refine Calls.mono (HUL.out _) ?_)
        rintro e w6 ⟨g6,rfl,hv6,hg6,hb6⟩
        have hk6:BelW wr w6:=BelW.trans (by with_reducible repeat (first|assumption|refine BelW.drew ?_|refine BelW.alloc ?_ _)) hb6
        have h9:=HK9S.out w6 hk6
        obtain⟨u6,hu6⟩:=(HRI.out.below hk6).there hi
        have hf6:=(HRI.out.below hk6).frozen i))
     have HRR:=Lib.hid (HST6.out w6 g6 hk6 hv6 hg6)
     clear h9 hu6 hf6 hk6 hv6 hg6 hb6 hs9
     go_wp2
     go_roundw
     case rel=>exact⟨i+1,_,by go_num,by omega,HRR.out.1,HRR.out.2.1,HRR.out.2.2⟩
     case measure=>simp[intOf];omega
    ·obtain rfl:nw=i:=by omega
     obtain⟨w8,rfl⟩:∃w8:World,w8=wr:=⟨_,rfl⟩
     have HN8:=Lib.hid (HSET1.out w8 D T (HNb.out.below HBI.out) ((Below.cell HBI.out (p:=⟨D1,k,none⟩) HNb.out.st.lt.1).trans HCB.out) HRI.out HLD2.out)
     have HV8:=Lib.hid (HVB.out.below HBI.out)
     have HK11:Hid (∀W,BelW w8 W→BelW W1 W∧W.cell? ⟨gd,2,none⟩=some (.slice (some ⟨D2,0,none⟩) m m)∧W.cell? ⟨v,1,none⟩=some (.slice Ad2 ld cd2)):=Lib.hid fun W h=>⟨(HN8.out.below h).bel,((HN8.out.below h).cells).2.2,(HV8.out.below h).cell 1⟩
     have HK11S:Hid (∀W,BelW w8 W→∀x,BelW W1 (W.setCell ⟨D2,k,none⟩ x)∧(W.setCell ⟨D2,k,none⟩ x).cell? ⟨gd,2,none⟩=some (.slice (some ⟨D2,0,none⟩) m m)∧(W.setCell ⟨D2,k,none⟩ x).cell? ⟨v,1,none⟩=some (.slice Ad2 ld cd2)):=Lib.hid fun W h x=>by
      have hn:=HN8.out.below h
      obtain⟨vs,a1,-⟩:=hn.st.r2
      exact⟨hn.bel.setCell hn.n2 _,(hn.box.other (a:=⟨D2,k,none⟩) (a1.apart9 hn.box (by decide)) x).cell 2,((HV8.out.below h).other (a:=⟨D2,k,none⟩) (a1.apart9 (HV8.out.below h) (by decide)) x).cell 1⟩
     have HUL:Hid (∀W,Calls Tryz.prog 102 #[.int .i64 (ld:Int)] W fun e w'=>∃g,e=.returned (.slice (some ⟨g,0,none⟩) ld ld)∧VRow w' g (List.replicate ld 2)∧W.heap.size≤g∧BelW W w'):=Lib.hid fun W=>HUN.out W ld (by omega)
     have hs8:BelW w8 w8:=Below.refl _ _
     clear hbi
     go_upto_region 11 with (fail)
     go_region_held3 (fun w'=>BelW W1 w'∧w'.cell? ⟨gd,2,none⟩=some (.slice (some ⟨D2,0,none⟩) m m)∧w'.cell? ⟨v,1,none⟩=some (.slice Ad2 ld cd2))
      ((first|(with_reducible exact h11 _)|(refine HK11.out _ ?_;(with_reducible repeat (first|assumption|refine BelW.drew ?_|refine BelW.alloc ?_ _)))))
      ((go_at_call 102;(refine Calls.mono (HUL.out _) ?_)
        rintro e w9 ⟨g9,rfl,hv9,-,hb9⟩
        have hk9:BelW w8 w9:=BelW.trans (by with_reducible repeat (first|assumption|refine BelW.drew ?_|refine BelW.alloc ?_ _)) hb9
        have h11:=HK11S.out w9 hk9
        have hn9:=HN8.out.below hk9
        obtain⟨-,u9,hu9⟩:=hn9.st.there hk
        have hf9:=(hn9.st.frozen k).2))
     have HRR:=Lib.hid (HSET2.out w9 g9 hn9 (by rw[HBR.out];exact hv9))
     clear h11 hn9 hu9 hf9 hk9 hv9 hb9 hs8
     go_wp2
     go_roundw
     case rel=>exact⟨k+1,by go_num,by omega,by first|exact HRR.out.1|exact HRR.out.2⟩
     case measure=>simp[intOf];omega
  ·obtain rfl:m=k:=by omega
   have hf:=HF2.out V0 HBW.out
   have hq:=((hf.set 0 (.slice (some ⟨gB,0,none⟩) ns ns)).set 1 (.slice (some ⟨D1,0,none⟩) m m)).set 2 (.slice (some ⟨D2,0,none⟩) m m)
   have HQ:=Lib.hid hq
   have hns:=HNS.out
   have hlt:=HLT.out
   have hnd:=hns.nd
   have hld:=hns.ld
   have hst:=((hns.st.off hf (by omega) 0 (.slice (some ⟨gB,0,none⟩) ns ns)).off (hf.set 0 _) (by omega) 1 (.slice (some ⟨D1,0,none⟩) m m)).off ((hf.set 0 _).set 1 _) (by omega) 2 (.slice (some ⟨D2,0,none⟩) m m)
   have hrw:=((hns.row.other (a:=⟨s+1,0,none⟩) (hf.apart9 hns.row.fr (by decide)) (.slice (some ⟨gB,0,none⟩) ns ns)).other (a:=⟨s+1,1,none⟩) (hf.apart9 hns.row.fr (by decide)) (.slice (some ⟨D1,0,none⟩) m m)).other (a:=⟨s+1,2,none⟩) (hf.apart9 hns.row.fr (by decide)) (.slice (some ⟨D2,0,none⟩) m m)
   have hsw:=HSW.out
   have hbb:=(((HB1.out V0 HBW.out).setCell (p:=⟨s+1,0,none⟩) (by show w.heap.size≤s+1;omega) (.slice (some ⟨gB,0,none⟩) ns ns)).setCell (p:=⟨s+1,1,none⟩) (by show w.heap.size≤s+1;omega) (.slice (some ⟨D1,0,none⟩) m m)).setCell (p:=⟨s+1,2,none⟩) (by show w.heap.size≤s+1;omega) (.slice (some ⟨D2,0,none⟩) m m)
   have HFIN:=Lib.hid (And.intro hrw (And.intro hst hbb))
   obtain⟨g0,g1,g2⟩:=hns.cells
   have r0:=hf.cell 0
   have r1:=hf.cell 1
   have r2:=hf.cell 2
   have f0:=hf.frozen 0
   have f1:=hf.frozen 1
   have f2:=hf.frozen 2
   clear hf hq hns hlt hnd hld hst hrw hsw hbb
   go_wp2
   (try simp only[Exit.inBlock,Exit.then])
   refine bodyPost_ret (results_cell_row rfl _ _ _ _ _ _ _ rfl HQ.out Tryz.underlying45 rfl (by kernel_rfl)) rfl ?_
   exact⟨gB,D1,D2,rfl,HFIN.out.1,⟨L,by have:=HSW.out;have:=HLT.out;have:=HNS.out.nd;have:=HNS.out.ld;omega,HFIN.out.2.1⟩,HFIN.out.2.2⟩
end Go.Proofs.YtemjmfpcopfdbaaGreatDoor
