/- The texts Mew. -/
import Derived.Test.YtemjmfpcopfdbaaGreatDoorM39
import Derived.Test.YtemjmfpcopfdbaaGreatDoorM35
import Derived.Test.YtemjmfpcopfdbaaGreatDoorM20
import Derived.Test.YtemjmfpcopfdbaaGreatDoorM40
namespace Go.Proofs.YtemjmfpcopfdbaaGreatDoor
open Go.RowKit
theorem takL9_nil(a n:Nat):takL9 [] a n=List.replicate n 2:=by
 induction n with
 |zero=>rfl
 |succ n ih=>rw[takL9_succ,ih,List.replicate_succ'];rfl
theorem sofS_nil(c:Ck)(ns m:Nat):sofS c ns m []=blS c ns m:=by
 unfold sofS blS blR
 simp only[takL9_nil]
 rfl
theorem posS_le(ms:List Mm)(ns m:Nat)(hp:∀k,k<m→(ms.getD k default).addr.length≤8∧(ms.getD k default).data.length≤32):∀k,k≤m→posS ms ns k≤ns+8224*k:=by
 intro k
 induction k with
 |zero=>intro _;show ns≤_;omega
 |succ k ih=>
  intro hk
  obtain⟨h1,h2⟩:=hp k (by omega)
  have h3:=ih (by omega)
  have h4:blN ms k≤256:=by
   have:2^(ms.getD k default).addr.length≤2^8:=Nat.pow_le_pow_right (by decide) h1
   exact this
  have h5:blN ms k*(ms.getD k default).data.length≤256*32:=Nat.mul_le_mul h4 h2
  show posS ms ns k+blN ms k*(ms.getD k default).data.length+(ms.getD k default).data.length≤_
  omega
theorem ports_of{c:Ck}{m:Nat}(h:chkErr c=0)(hm:c.mems.length=m):m≤16∧∀k,k<m→(1≤(c.mems.getD k default).addr.length∧(c.mems.getD k default).addr.length≤8∧1≤(c.mems.getD k default).data.length∧(c.mems.getD k default).data.length≤32)∧(∀x∈(c.mems.getD k default).addr,0≤x∧x<(c.nodes.length:Int))∧(∀x∈(c.mems.getD k default).data,0≤x∧x<(c.nodes.length:Int))∧0≤(c.mems.getD k default).write∧(c.mems.getD k default).write<(c.nodes.length:Int):=by
 have hz:=shape_zero (chk_shape h)
 refine⟨by rw[←hm];exact hz.2.1,fun k hk=>?_⟩
 have h1:=hz.2.2.2.2.2.2.1 _ (getD_mem_mm (by rw[hm];exact hk))
 have h3:=memErr_zero h1
 refine⟨?_,h3.2.1,h3.2.2,h3.1.1,h3.1.2⟩
 unfold memErr at h1
 split at h1
 ·cases h1
 ·rename_i h2
  omega
theorem memOk_of{c:Ck}{ns m:Nat}{s:Stt}(h:chkErr c=0)(hm:c.mems.length=m)(F:FitS c ns m s):MemOk c.nodes s.read:=fun i hi hk=>by
 have h:=(nodeErr_zero ((shape_zero (chk_shape h)).2.2.2.2.1 _ (getD_mem_nd hi))).2.2.2.2.2
 unfold placeOk at h
 rw[if_pos hk,Bool.and_eq_true,isIdx_iff,isIdx_iff]at h
 obtain⟨⟨a,b⟩,d,e⟩:=h
 rw[hm]at b
 have hm:(c.nodes.getD i default).mem.toNat<m:=by omega
 refine⟨a,by rw[F.rl];exact b,d,?_⟩
 rw[(F.rk _ hm).1]
 exact e
theorem cy_of{c:Ck}{n ni ns m:Nat}{s:Stt}{inp:List Int}(h:chkErr c=0)(hn:c.nodes.length=n)(hm:c.mems.length=m)(hni:(ofTo c.nodes [0] c.nodes.length).length=ni)(hns:(ofTo c.nodes [14] c.nodes.length).length=ns)(hsz:n≤1000000)(ho:c.outs.length≤17592186044416)(hk0:∀k,k<c.nodes.length→0≤(c.nodes.getD k default).kind)(hy:ckC c ni ns m s inp=0):CyOk c s inp n ni ns m where
 hn:=hn
 hm:=hm
 hni:=hni
 hns:=hns
 ck:=hy
 li:=(ck_zero hy).1
 ld:=(ck_zero hy).2.1.dl
 wf:=wf_of_shape (chk_shape h)
 pins:=fun k hk=>by
  have h1:=nodeErr_zero ((shape_zero (chk_shape h)).2.2.2.2.1 _ (getD_mem_nd hk))
  have h2:=hi_16 (c.nodes.getD k default).kind (hk0 k hk)
  have:=h1.2.2.1
  omega
 mem:=memOk_of h hm (ck_zero hy).2.1
 nx:=(ck_zero hy).2.1.nx hm fun k hk=>by
  obtain⟨⟨a1,a2,a3,a4⟩,b1,b2,b3,b4⟩:=(ports_of h hm).2 k hk
  rw[hn]at b1 b2 b4
  exact⟨b1,b2,b3,b4,by omega,by omega⟩
 nsz:=hsz
 msz:=by have:=(ports_of h hm).1;omega
 port:=fun k hk=>by
  obtain⟨⟨a1,a2,a3,a4⟩,-⟩:=(ports_of h hm).2 k hk
  omega
 outs:=ho
def CycE(r:Int)(w:World)(e:Ending)(w':World):Prop:=(∃B0 B1 B2 B3 B4 B5 l0 l1 l2 l3 l4 l5 k0 k1 k2 k3 k4 k5,e=.returned (.tuple #[.agg #[.slice B0 l0 k0,.slice B1 l1 k1,.slice B2 l2 k2],.agg #[.slice B3 l3 k3,.slice B4 l4 k4],.slice B5 l5 k5,.int .i64 r])∧(r≠0→l0=0∧l1=0∧l2=0∧l3=0∧l4=0∧l5=0))∧BelW w w'
section
variable (c:Ck) (s9:Stt) (inp:List Int) (A0 A1 A2 A3 As0 As1 As2 Ai:Option Addr) (n n1 m n3 c0 c1 c2 c3 p0 p1 p2 d0 d1 d2 mi ci ns ni:Nat) (w:World)
theorem ckcyc_w(h:chkErr c=0)(hm:c.mems.length=m)(hC:Cir w w.heap.size (.agg #[.slice A0 n c0,.slice A1 n1 c1,.slice A2 m c2,.slice A3 n3 c3]) c) (hS:StR w w.heap.size As0 As1 As2 p0 p1 p2 d0 d1 d2 s9) (hI:Ks w w.heap.size (.slice Ai mi ci) inp) (hsz:c.nodes.length≤1000000) (hns:(ofTo c.nodes [14] c.nodes.length).length=ns) (hni:(ofTo c.nodes [0] c.nodes.length).length=ni):
 Calls Tryz.prog 34 #[.agg #[.slice A0 n c0,.slice A1 n1 c1,.slice A2 m c2,.slice A3 n3 c3],.agg #[.slice As0 p0 d0,.slice As1 p1 d1,.slice As2 p2 d2],.slice Ai mi ci] w fun e w'=>e=.returned (.int .i64 (ckC c ni ns m s9 inp))∧BelW w w':=
 ckcyc_any c s9 inp A0 A1 A2 A3 As0 As1 As2 Ai n n1 m n3 c0 c1 c2 c3 p0 p1 p2 d0 d1 d2 mi ci ns ni w hC hS hI hsz hns hni (by rw[←hns];exact Nat.le_trans (ofTo_len _ _ _) hsz) (by have:=(ports_of h hm).1;omega) fun k hk=>by
  obtain⟨⟨a1,a2,a3,a4⟩,-⟩:=(ports_of h hm).2 k hk
  omega
theorem mchk_w(hT:Lg.Tabs w)(hm:c.mems.length=m)(hC:Cir w w.heap.size (.agg #[.slice A0 n c0,.slice A1 n1 c1,.slice A2 m c2,.slice A3 n3 c3]) c) (hS:StR w w.heap.size As0 As1 As2 p0 p1 p2 d0 d1 d2 s9) (hI:Ks w w.heap.size (.slice Ai mi ci) inp) (hsz:c.nodes.length≤1000000) (hns:(ofTo c.nodes [14] c.nodes.length).length=ns) (hni:(ofTo c.nodes [0] c.nodes.length).length=ni):
 Calls Tryz.prog 19 #[.agg #[.slice A0 n c0,.slice A1 n1 c1,.slice A2 m c2,.slice A3 n3 c3],.agg #[.slice As0 p0 d0,.slice As1 p1 d1,.slice As2 p2 d2],.slice Ai mi ci] w fun e w'=>e=.returned (.int .i64 (if chkErr c=0 then ckC c ni ns m s9 inp else chkErr c))∧BelW w w':=
 mcheck_any (chkErr c) (ckC c ni ns m s9 inp) A0 A1 A2 A3 As0 As1 As2 Ai n n1 m n3 c0 c1 c2 c3 p0 p1 p2 d0 d1 d2 mi ci w
  (fun W hb=>check_any c _ W W.heap.size (Nat.le_refl _) (tabs_lg (hT.below hb)) ((hC.below hb).more (Below.size hb)))
  fun h0 W hb=>ckcyc_w c s9 inp A0 A1 A2 A3 As0 As1 As2 Ai n n1 m n3 c0 c1 c2 c3 p0 p1 p2 d0 d1 d2 mi ci ns ni W h0 hm ((hC.below hb).more (Below.size hb)) (hS.keep (Nat.le_refl _) hb (Below.size hb)) (Arr.keep stays_u8 hI (Below.size hb) fun _ hp=>Below.cell hb hp) hsz hns hni
set_option maxRecDepth 100000 in
theorem mcyc_w(hT:Lg.Tabs w)(hn:c.nodes.length=n)(hm:c.mems.length=m)(hC:Cir w w.heap.size (.agg #[.slice A0 n c0,.slice A1 n1 c1,.slice A2 m c2,.slice A3 n3 c3]) c) (hS:StR w w.heap.size As0 As1 As2 p0 p1 p2 d0 d1 d2 s9) (hI:Ks w w.heap.size (.slice Ai mi ci) inp) (hsz:n≤1000000) (ho:c.outs.length≤17592186044416) (hns:(ofTo c.nodes [14] c.nodes.length).length=ns) (hni:(ofTo c.nodes [0] c.nodes.length).length=ni)
 (e0:s9.dff.length=p0) (e1:s9.words.length=p1) (ei:inp.length=mi):
 Calls Tryz.prog 9 #[.agg #[.slice A0 n c0,.slice A1 n1 c1,.slice A2 m c2,.slice A3 n3 c3],.agg #[.slice As0 p0 d0,.slice As1 p1 d1,.slice As2 p2 d2],.slice Ai mi ci] w (CycE (if chkErr c=0 then ckC c ni ns m s9 inp else chkErr c) w):=by
 have hk0:∀k,k<c.nodes.length→0≤(c.nodes.getD k default).kind:=fun k hk=>(hC.fit.k k hk).1
 have hord:∀W,BelW w W→Calls Tryz.prog 33 #[.agg #[.slice A0 n c0,.slice A1 n1 c1,.slice A2 m c2,.slice A3 n3 c3]] W (OrdG c W):=fun W hb=>order_rg c _ W W.heap.size (Nat.le_refl _) (tabs_lg (hT.below hb)) ((hC.below hb).more (Below.size hb)) (by rw[hn];exact hsz)
 have hbad:∀z:Int,z≠0→_→Calls Tryz.prog 9 #[.agg #[.slice A0 n c0,.slice A1 n1 c1,.slice A2 m c2,.slice A3 n3 c3],.agg #[.slice As0 p0 d0,.slice As1 p1 d1,.slice As2 p2 d2],.slice Ai mi ci] w (CycE z w):=fun z hz h=>(mcycle_bad z hz A0 A1 A2 A3 As0 As1 As2 Ai n n1 m n3 c0 c1 c2 c3 p0 p1 p2 d0 d1 d2 mi ci w h).mono fun e w' ⟨he,hb⟩=>⟨⟨_,_,_,_,_,_,_,_,_,_,_,_,_,_,_,_,_,_,he,fun _=>⟨rfl,rfl,rfl,rfl,rfl,rfl⟩⟩,hb⟩
 by_cases hz:chkErr c=0
 ·rw[if_pos hz]
  have hor0:∀W,BelW w W→Calls Tryz.prog 33 #[.agg #[.slice A0 n c0,.slice A1 n1 c1,.slice A2 m c2,.slice A3 n3 c3]] W fun e w'=>(∃s,e=.returned (.tuple #[s,.int .i64 0]))∧BelW W w':=fun W hb=>(hord W hb).mono fun e w' ⟨h1,h2⟩=>by
   rcases h2 with⟨-,d,R,-,-,he,-⟩| ⟨h3,-⟩
   ·exact⟨⟨_,he⟩,h1⟩
   ·exact absurd hz h3
  have hck:∀W,BelW w W→Calls Tryz.prog 34 #[.agg #[.slice A0 n c0,.slice A1 n1 c1,.slice A2 m c2,.slice A3 n3 c3],.agg #[.slice As0 p0 d0,.slice As1 p1 d1,.slice As2 p2 d2],.slice Ai mi ci] W fun e w'=>e=.returned (.int .i64 (ckC c ni ns m s9 inp))∧BelW W w':=fun W hb=>ckcyc_w c s9 inp A0 A1 A2 A3 As0 As1 As2 Ai n n1 m n3 c0 c1 c2 c3 p0 p1 p2 d0 d1 d2 mi ci ns ni W hz hm ((hC.below hb).more (Below.size hb)) (hS.keep (Nat.le_refl _) hb (Below.size hb)) (Arr.keep stays_u8 hI (Below.size hb) fun _ hp=>Below.cell hb hp) (by rw[hn];exact hsz) hns hni
  by_cases hy:ckC c ni ns m s9 inp=0
  ·have ok:=cy_of hz hn hm hni hns hsz ho hk0 hy
   obtain rfl:p0=ns:=e0.symm.trans ok.ld
   obtain rfl:p1=m:=e1.symm.trans (ck_zero hy).2.1.wl
   obtain rfl:mi=ni:=ei.symm.trans ok.li
   refine (mcycle_ok c s9 inp (fun _=>True) A0 A1 A2 A3 As0 As1 As2 Ai n n1 p1 n3 c0 c1 c2 c3 p2 d0 d1 d2 ci p0 mi w hT hC hS hI ok fun W hb=>(hord W hb).mono fun e w' ⟨h1,h2⟩=>?_).mono fun e w' h=>?_
   ·rcases h2 with⟨-,d,R,hR,hd,he,hrow⟩| ⟨h3,-⟩
    ·rw[hn]at hR he
     exact⟨R,d,⟨trivial,hR.1,hR.2⟩,he,hd,hrow,h1⟩
    ·exact absurd hz h3
   ·obtain⟨R,gB,D1,D2,go,gn,g,-,he,-,-,-,-,-,hb⟩:=h
    exact⟨⟨_,_,_,_,_,_,_,_,_,_,_,_,_,_,_,_,_,_,by rw[hy];exact he,fun h=>absurd hy h⟩,hb⟩
  ·exact hbad _ hy (.inr ⟨hor0,hck⟩)
 ·rw[if_neg hz]
  refine hbad _ hz (.inl fun W hb=>(hord W hb).mono fun e w' ⟨h1,h2⟩=>?_)
  rcases h2 with⟨h3,-⟩| ⟨-,he⟩
  ·exact absurd h3 hz
  ·exact⟨⟨_,he⟩,h1⟩
set_option maxRecDepth 100000 in
theorem mblk_w(hT:Lg.Tabs w)(h:chkErr c=0)(hm:c.mems.length=m)(hC:Cir w w.heap.size (.agg #[.slice A0 n c0,.slice A1 n1 c1,.slice A2 m c2,.slice A3 n3 c3]) c) (hsz:c.nodes.length≤1000000) (hns:(ofTo c.nodes [14] c.nodes.length).length=ns):
 Calls Tryz.prog 20 #[.agg #[.slice A0 n c0,.slice A1 n1 c1,.slice A2 m c2,.slice A3 n3 c3]] w fun e w'=>∃gB D1 D2,e=.returned (.agg #[.slice (some ⟨gB,0,none⟩) ns ns,.slice (some ⟨D1,0,none⟩) m m,.slice (some ⟨D2,0,none⟩) m m])∧StR w' w'.heap.size (some ⟨gB,0,none⟩) (some ⟨D1,0,none⟩) (some ⟨D2,0,none⟩) ns m m ns m m (blS c ns m)∧BelW w w':=by
 have hp:=ports_of h hm
 have hns2:ns≤1000000:=by rw[←hns];exact Nat.le_trans (ofTo_len _ _ _) hsz
 refine (mBlank_ok A0 A1 A2 A3 n n1 m n3 c0 c1 c2 c3 w ns m (List.replicate ns 2) (blN c.mems) (blW c.mems) (blR c.mems) (fun W hb=>(check_any c _ W W.heap.size (Nat.le_refl _) (tabs_lg (hT.below hb)) ((hC.below hb).more (Below.size hb))).mono fun e w' ⟨he,hb⟩=>by rw[h]at he;exact⟨he,hb⟩) fun W hb=>mblank_any c A0 A1 A2 A3 n n1 m n3 c0 c1 c2 c3 ns W ((hC.below hb).more (Below.size hb)) hsz hns hns2 (by omega) (fun k hk=>by obtain⟨⟨a1,a2,a3,a4⟩,-⟩:=hp.2 k hk;omega)).mono fun e w' ⟨gB,D1,D2,he,r1,⟨LL,_,r2⟩,r3⟩=>?_
 refine⟨gB,D1,D2,he,?_,r3⟩
 refine osts_reads r1 List.length_replicate r2 (by have:=hp.1;unfold maxLen;omega) fun j hj=>?_
 obtain⟨⟨a1,a2,a3,a4⟩,-⟩:=hp.2 j hj
 have h4:blN c.mems j≤256:=by
  have:2^(c.mems.getD j default).addr.length≤2^8:=Nat.pow_le_pow_right (by decide) a2
  exact this
 unfold maxLen
 omega
set_option maxRecDepth 100000 in
theorem sof_w(h:chkErr c=0)(hm:c.mems.length=m)(hC:Cir w w.heap.size (.agg #[.slice A0 n c0,.slice A1 n1 c1,.slice A2 m c2,.slice A3 n3 c3]) c) (hsz:c.nodes.length≤1000000) (hns:(ofTo c.nodes [14] c.nodes.length).length=ns):
 Calls Tryz.prog 23 #[.agg #[.slice none 0 0],.agg #[.slice A0 n c0,.slice A1 n1 c1,.slice A2 m c2,.slice A3 n3 c3]] w fun e w'=>∃A7 c7 Aa1 ca1 Aa2 ca2,e=.returned (.agg #[.slice A7 ns c7,.slice Aa1 m ca1,.slice Aa2 m ca2])∧StR w' w'.heap.size A7 Aa1 Aa2 ns m m c7 ca1 ca2 (blS c ns m)∧BelW w w':=by
 have hp:=ports_of h hm
 have hns2:ns≤1000000:=by rw[←hns];exact Nat.le_trans (ofTo_len _ _ _) hsz
 refine (sof9_any c [] none A0 A1 A2 A3 n n1 m n3 c0 c1 c2 c3 0 0 ns w hC ⟨none,0,0,0,rfl,fun h=>absurd h (by decide),Nat.le_refl _,by decide,fun k hk=>absurd hk (Nat.not_lt_zero k)⟩ (fun x hx=>by cases hx) hsz hns hns2 (by have:=hp.1;omega) (fun k hk=>by obtain⟨⟨a1,a2,a3,a4⟩,-⟩:=hp.2 k hk;omega) fun k hk=>?_).mono fun e w' ⟨A7,c7,Aa1,ca1,Aa2,ca2,he,ho,hb⟩=>⟨A7,c7,Aa1,ca1,Aa2,ca2,he,by rw[←sofS_nil];exact ho.str,hb⟩
 have:=posS_le c.mems ns m (fun k hk=>by obtain⟨⟨a1,a2,a3,a4⟩,-⟩:=hp.2 k hk;omega) (k+1) (by omega)
 have:=hp.1
 omega
end
set_option maxRecDepth 100000 in
set_option maxHeartbeats 8000000 in
theorem merr_law(a:Ck)(s9:Stt)(inp:List Int)(A0 A1 A2 A3 As0 As1 As2 Ai:Option Addr)(n n1 m n3 c0 c1 c2 c3 p0 p1 p2 d0 d1 d2 mi ci:Nat)(w:World)(hT:Lg.Tabs w)(hC:Cir w w.heap.size (.agg #[.slice A0 n c0,.slice A1 n1 c1,.slice A2 m c2,.slice A3 n3 c3]) a) (hS:StR w w.heap.size As0 As1 As2 p0 p1 p2 d0 d1 d2 s9) (hI:Ks w w.heap.size (.slice Ai mi ci) inp)
 (hz1:n1≤17592186044416) (hz2:m≤17592186044416) (hz3:n3≤17592186044416) (hz4:p0≤140737488355328) (hz5:mi≤140737488355328):
 Calls Tryz.prog 4 #[.agg #[.slice A0 n c0,.slice A1 n1 c1,.slice A2 m c2,.slice A3 n3 c3],.agg #[.slice As0 p0 d0,.slice As1 p1 d1,.slice As2 p2 d2],.slice Ai mi ci] w fun e w'=>e=.returned (.bool true)∧Below w.heap.size w w':=by
 have e0:s9.dff.length=p0:=by
  obtain⟨_,_,_,_,e,-⟩:=hS.sd.opens
  simp only[Value.slice.injEq]at e
  exact e.2.1.symm
 have e1:s9.words.length=p1:=by
  obtain⟨_,_,_,_,e,-⟩:=hS.sw
  simp only[Value.slice.injEq]at e
  exact e.2.1.symm
 have ei:inp.length=mi:=by
  obtain⟨_,_,_,_,e,-⟩:=hI.opens
  simp only[Value.slice.injEq]at e
  exact e.2.1.symm
 have hl:a.nodes.length=n∧a.names.length=n1∧a.mems.length=m∧a.outs.length=n3:=by
  obtain⟨v0,v1,v2,v3,e,h0,h1,h2,h3⟩:=id hC
  simp only[Value.agg.injEq,Array.mk.injEq,List.cons.injEq,and_true]at e
  obtain⟨rfl,rfl,rfl,rfl⟩:=e
  obtain⟨_,_,_,_,g0,-⟩:=h0
  obtain⟨_,_,_,_,g1,-⟩:=h1
  obtain⟨_,_,_,_,g2,-⟩:=h2
  obtain⟨_,_,_,_,g3,-⟩:=h3
  simp only[Value.slice.injEq]at g0 g1 g2 g3
  exact⟨g0.2.1.symm,g1.2.1.symm,g2.2.1.symm,g3.2.1.symm⟩
 obtain⟨W1,HW1⟩:=named ((w.alloc (.cells #[.slice A0 n c0,.slice A1 n1 c1,.slice A2 m c2,.slice A3 n3 c3] 39)).alloc (.cells #[.slice As0 p0 d0,.slice As1 p1 d1,.slice As2 p2 d2] 45))
 have hb1:BelW w W1:=by rw[HW1.out];exact below_new (below_new (Below.refl _ _) _) _
 have hfc:Fr W1 w.heap.size 39 [.slice A0 n c0,.slice A1 n1 c1,.slice A2 m c2,.slice A3 n3 c3]:=by rw[HW1.out];exact Fr.alloc (Fr.made _ _ _ rfl) _
 have hfs:Fr W1 (w.heap.size+1) 45 [.slice As0 p0 d0,.slice As1 p1 d1,.slice As2 p2 d2]:=by rw[HW1.out];exact Fr.made _ _ _ (by simp)
 obtain⟨q,HQ⟩:=named w.heap.size
 have hnode:∀k,k<n→∃b o A l cc,A0=some ⟨b,o,none⟩∧l≤maxLen∧W1.cell? ⟨b,o+k*4+1,none⟩=some (.slice A l cc):=fun k hk=>by
  obtain⟨v0,v1,v2,v3,e,h0,-⟩:=id hC
  simp only[Value.agg.injEq,Array.mk.injEq,List.cons.injEq,and_true]at e
  obtain⟨rfl,rfl,rfl,rfl⟩:=e
  obtain⟨A,b,oo,cc,e1,hA,-,-,hc⟩:=h0
  simp only[Value.slice.injEq]at e1
  obtain⟨rfl,-,rfl⟩:=e1
  obtain⟨hb,s,g0,g1,g2,g3,g4,-⟩:=hc k (by rw[hl.1];exact hk)
  obtain⟨A4,b4,o4,c4,rfl,-,-,hm4,-⟩:=g4
  exact⟨b,oo,A4,_,c4,hA (by have:=hl.1;omega),hm4,(hb1.cell (p:=⟨b,_,none⟩) hb).trans g1⟩
 have hmem:∀k,k<m→∃b o A l cc,A2=some ⟨b,o,none⟩∧l≤maxLen∧W1.cell? ⟨b,o+k*3,none⟩=some (.slice A l cc):=fun k hk=>by
  obtain⟨v0,v1,v2,v3,e,-,-,hM,-⟩:=id hC
  simp only[Value.agg.injEq,Array.mk.injEq,List.cons.injEq,and_true]at e
  obtain⟨rfl,rfl,rfl,rfl⟩:=e
  obtain⟨A,b,oo,cc,e1,hA,-,-,hc⟩:=hM
  simp only[Value.slice.injEq]at e1
  obtain⟨rfl,-,rfl⟩:=e1
  obtain⟨hb,s,t,f0,f1,f2,h4,h5⟩:=hc k (by rw[hl.2.2.1];exact hk)
  obtain⟨A4,b4,o4,c4,rfl,-,-,hm4,-⟩:=h4
  exact⟨b,oo,A4,_,c4,hA (by have:=hl.2.2.1;omega),hm4,(hb1.cell (p:=⟨b,_,none⟩) hb).trans f0⟩
 have hm0:n≤maxLen:=by
  obtain⟨v0,v1,v2,v3,e,h0,-⟩:=id hC
  simp only[Value.agg.injEq,Array.mk.injEq,List.cons.injEq,and_true]at e
  obtain⟨rfl,rfl,rfl,rfl⟩:=e
  rw[←hl.1];exact Arr.len h0
 obtain⟨ni,HNI⟩:=named (ofTo a.nodes [0] a.nodes.length).length
 obtain⟨ns,HNS⟩:=named (ofTo a.nodes [14] a.nodes.length).length
 have hT1:∀W,BelW W1 W→Lg.Tabs W:=fun W h=>hT.below (joinB hb1 h)
 have hC1:∀W,BelW W1 W→Cir W W.heap.size (.agg #[.slice A0 n c0,.slice A1 n1 c1,.slice A2 m c2,.slice A3 n3 c3]) a:=fun W h=>(hC.below (joinB hb1 h)).more (Below.size (joinB hb1 h))
 have hS1:∀W,BelW W1 W→StR W W.heap.size As0 As1 As2 p0 p1 p2 d0 d1 d2 s9:=fun W h=>hS.keep (Nat.le_refl _) (joinB hb1 h) (Below.size (joinB hb1 h))
 have hI1:∀W,BelW W1 W→Ks W W.heap.size (.slice Ai mi ci) inp:=fun W h=>Arr.keep stays_u8 hI (Below.size (joinB hb1 h)) fun _ hp=>Below.cell (joinB hb1 h) hp
 obtain⟨r,HR⟩:=named (if chkErr a=0 then ckC a ni ns m s9 inp else chkErr a)
 have HRK:Hid (n≤24→∀W,BelW W1 W→Calls Tryz.prog 18 #[.agg #[.slice A0 n c0,.slice A1 n1 c1,.slice A2 m c2,.slice A3 n3 c3],.slice As0 p0 d0,.slice As1 p1 d1,.slice As2 p2 d2,.slice Ai mi ci] W fun e w'=>e=.returned (.int .i64 r)∧BelW W w'):=Lib.hid fun h W hb=>by
  have:=rck9_any a s9 inp A0 A1 A2 A3 As0 As1 As2 Ai n n1 m n3 c0 c1 c2 c3 p0 p1 p2 d0 d1 d2 mi ci ns ni W W.heap.size (Nat.le_refl _) (hC1 W hb) (hS1 W hb) (hI1 W hb) (by have:=hl.1;omega) HNS.out.symm HNI.out.symm
  rw[←HR.out]at this;exact this
 have HCK:Hid (n≤24→∀W,BelW W1 W→Calls Tryz.prog 19 #[.agg #[.slice A0 n c0,.slice A1 n1 c1,.slice A2 m c2,.slice A3 n3 c3],.agg #[.slice As0 p0 d0,.slice As1 p1 d1,.slice As2 p2 d2],.slice Ai mi ci] W fun e w'=>e=.returned (.int .i64 r)∧BelW W w'):=Lib.hid fun h W hb=>by
  have:=mchk_w a s9 inp A0 A1 A2 A3 As0 As1 As2 Ai n n1 m n3 c0 c1 c2 c3 p0 p1 p2 d0 d1 d2 mi ci ns ni W (hT1 W hb) hl.2.2.1 (hC1 W hb) (hS1 W hb) (hI1 W hb) (by have:=hl.1;omega) HNS.out.symm HNI.out.symm
  rw[←HR.out]at this;exact this
 have HCY:Hid (n≤24→∀W,BelW W1 W→Calls Tryz.prog 9 #[.agg #[.slice A0 n c0,.slice A1 n1 c1,.slice A2 m c2,.slice A3 n3 c3],.agg #[.slice As0 p0 d0,.slice As1 p1 d1,.slice As2 p2 d2],.slice Ai mi ci] W (CycE r W)):=Lib.hid fun h W hb=>by
  have:=mcyc_w a s9 inp A0 A1 A2 A3 As0 As1 As2 Ai n n1 m n3 c0 c1 c2 c3 p0 p1 p2 d0 d1 d2 mi ci ns ni W (hT1 W hb) hl.1 hl.2.2.1 (hC1 W hb) (hS1 W hb) (hI1 W hb) (by omega) (by have:=hl.2.2.2;omega) HNS.out.symm HNI.out.symm e0 e1 ei
  rw[←HR.out]at this;exact this
 have HRC:Hid (∀W,BelW W1 W→Calls Tryz.prog 21 #[.agg #[.slice A0 n c0,.slice A1 n1 c1,.slice A2 m c2,.slice A3 n3 c3]] W fun e w'=>e=.returned (.int .i64 (chkErr a))∧BelW W w'):=Lib.hid fun W hb=>(rchk_any a _ W W.heap.size (Nat.le_refl _) (hC1 W hb)).mono fun e w' ⟨h1,h2⟩=>⟨h1,h2⟩
 have HBB:Hid (chkErr a≠0→∀W,BelW W1 W→Calls Tryz.prog 20 #[.agg #[.slice A0 n c0,.slice A1 n1 c1,.slice A2 m c2,.slice A3 n3 c3]] W fun e w'=>e=.returned (.agg #[.slice none 0 0,.slice none 0 0,.slice none 0 0])∧BelW W w'):=Lib.hid fun hz W hb=>mBlank_bad A0 A1 A2 A3 n n1 m n3 c0 c1 c2 c3 W (chkErr a) hz fun W' h'=>check_any a _ W' W'.heap.size (Nat.le_refl _) (tabs_lg (hT1 W' (joinB hb h'))) (hC1 W' (joinB hb h'))
 have HBO:Hid (n≤24→chkErr a=0→∀W,BelW W1 W→Calls Tryz.prog 20 #[.agg #[.slice A0 n c0,.slice A1 n1 c1,.slice A2 m c2,.slice A3 n3 c3]] W fun e w'=>∃gB D1 D2,e=.returned (.agg #[.slice (some ⟨gB,0,none⟩) ns ns,.slice (some ⟨D1,0,none⟩) m m,.slice (some ⟨D2,0,none⟩) m m])∧StR w' w'.heap.size (some ⟨gB,0,none⟩) (some ⟨D1,0,none⟩) (some ⟨D2,0,none⟩) ns m m ns m m (blS a ns m)∧BelW W w'):=Lib.hid fun h hz W hb=>mblk_w a A0 A1 A2 A3 n n1 m n3 c0 c1 c2 c3 ns W (hT1 W hb) hz hl.2.2.1 (hC1 W hb) (by have:=hl.1;omega) HNS.out.symm
 have HSO:Hid (n≤24→chkErr a=0→∀W,BelW W1 W→Calls Tryz.prog 23 #[.agg #[.slice none 0 0],.agg #[.slice A0 n c0,.slice A1 n1 c1,.slice A2 m c2,.slice A3 n3 c3]] W fun e w'=>∃A7 c7 Aa1 ca1 Aa2 ca2,e=.returned (.agg #[.slice A7 ns c7,.slice Aa1 m ca1,.slice Aa2 m ca2])∧StR w' w'.heap.size A7 Aa1 Aa2 ns m m c7 ca1 ca2 (blS a ns m)∧BelW W w'):=Lib.hid fun h hz W hb=>sof_w a A0 A1 A2 A3 n n1 m n3 c0 c1 c2 c3 ns W hz hl.2.2.1 (hC1 W hb) (by have:=hl.1;omega) HNS.out.symm
 have HSB:Hid (n≤24→∀W,BelW W1 W→Calls Tryz.prog 22 #[.agg #[.slice A0 n c0,.slice A1 n1 c1,.slice A2 m c2,.slice A3 n3 c3]] W (BlkPost ni ns W)):=Lib.hid fun h W hb=>by
  have hc:=hC1 W hb
  obtain⟨g0,g1,g2,g3⟩:=hl
  have:=blank_any a A0 A1 A2 A3 c0 c1 c2 c3 W W.heap.size (Nat.le_refl _) (by rw[g0,g1,g2,g3];exact hc) (by omega)
  rw[←HNI.out,←HNS.out,g0,g1,g2,g3]at this
  exact this
 have HKB:Hid (n≤24→chkErr a=0→∀W gB D1 D2 g,BelW W1 W→StR W W.heap.size (some ⟨gB,0,none⟩) (some ⟨D1,0,none⟩) (some ⟨D2,0,none⟩) ns m m ns m m (blS a ns m)→VRow W g (List.replicate ni 2)→Calls Tryz.prog 19 #[.agg #[.slice A0 n c0,.slice A1 n1 c1,.slice A2 m c2,.slice A3 n3 c3],.agg #[.slice (some ⟨gB,0,none⟩) ns ns,.slice (some ⟨D1,0,none⟩) m m,.slice (some ⟨D2,0,none⟩) m m],.slice (some ⟨g,0,none⟩) ni ni] W fun e w'=>e=.returned (.int .i64 0)∧BelW W w'):=Lib.hid fun h hz W gB D1 D2 g hb hs hg=>by
  have hk:=hg.ks
  rw[List.length_replicate]at hk
  have:=mchk_w a (blS a ns m) (List.replicate ni 2) A0 A1 A2 A3 (some ⟨gB,0,none⟩) (some ⟨D1,0,none⟩) (some ⟨D2,0,none⟩) (some ⟨g,0,none⟩) n n1 m n3 c0 c1 c2 c3 ns m m ns m m ni ni ns ni W (hT1 W hb) hl.2.2.1 (hC1 W hb) hs hk (by have:=hl.1;omega) HNS.out.symm HNI.out.symm
  rw[if_pos hz,ck_blank]at this;exact this
 have HSA:Hid (∀W A7 c7 Aa1 ca1 Aa2 ca2 B7 b7 Bb1 bb1 Bb2 bb2,StR W W.heap.size A7 Aa1 Aa2 ns m m c7 ca1 ca2 (blS a ns m)→StR W W.heap.size B7 Bb1 Bb2 ns m m b7 bb1 bb2 (blS a ns m)→Calls Tryz.prog 15 #[.agg #[.slice A7 ns c7,.slice Aa1 m ca1,.slice Aa2 m ca2],.agg #[.slice B7 ns b7,.slice Bb1 m bb1,.slice Bb2 m bb2]] W fun e w'=>e=.returned (.bool true)∧BelW W w'):=Lib.hid fun W A7 c7 Aa1 ca1 Aa2 ca2 B7 b7 Bb1 bb1 Bb2 bb2 h1 h2=>by
  have:=msame_any _ _ A7 Aa1 Aa2 B7 Bb1 Bb2 ns m m c7 ca1 ca2 ns m m b7 bb1 bb2 W W.heap.size (Nat.le_refl _) h1 h2
  rw[relS_refl eqI (fun x=>by simp[eqI])]at this;exact this
 have HSZ:Hid (∀W,Calls Tryz.prog 15 #[.agg #[.slice none 0 0,.slice none 0 0,.slice none 0 0],.agg #[.slice none 0 0,.slice none 0 0,.slice none 0 0]] W fun e w'=>e=.returned (.bool true)∧BelW W w'):=Lib.hid fun W=>by
  have hz:StR W W.heap.size none none none 0 0 0 0 0 0 ⟨[],[],[]⟩:=⟨⟨none,0,0,0,rfl,fun h=>absurd h (by decide),Nat.le_refl _,by decide,fun k hk=>absurd hk (Nat.not_lt_zero k)⟩,⟨none,0,0,0,rfl,fun h=>absurd h (by decide),Nat.le_refl _,by decide,fun k hk=>absurd hk (Nat.not_lt_zero k)⟩,⟨none,0,0,0,rfl,fun h=>absurd h (by decide),Nat.le_refl _,by decide,fun k hk=>absurd hk (Nat.not_lt_zero k)⟩⟩
  have:=msame_any _ _ none none none none none none 0 0 0 0 0 0 0 0 0 0 0 0 W W.heap.size (Nat.le_refl _) hz hz
  rw[relS_refl eqI (fun x=>by simp[eqI])]at this;exact this
 have HLV:Hid (∀W,BelW W1 W→Calls Tryz.prog 17 #[] W fun e w'=>e=.returned (.bool true)∧BelW W w'):=Lib.hid fun W h=>lives9_any W fun k hk=>(hT1 W h).2.2 k hk
 have HM16:Hid (chkErr a=0→m≤16):=Lib.hid fun h=>(ports_of h hl.2.2.1).1
 obtain⟨z,HZ⟩:=named (chkErr a)
 rw[←HZ.out]at HRC HBB HBO HSO HKB HM16
 obtain⟨BS,HBS⟩:=named (blS a ns m)
 rw[←HBS.out]at HBO HSO HKB HSA
 rw[←HQ.out]at hfc hfs
 have HCE:Hid (∀W,BelW W1 W→W.cell? ⟨q,0,none⟩=some (.slice A0 n c0)∧W.cell? ⟨q,1,none⟩=some (.slice A1 n1 c1)∧W.cell? ⟨q,2,none⟩=some (.slice A2 m c2)∧W.cell? ⟨q,3,none⟩=some (.slice A3 n3 c3)∧W.cell? ⟨q+1,0,none⟩=some (.slice As0 p0 d0)∧W.cell? ⟨q+1,1,none⟩=some (.slice As1 p1 d1)∧W.cell? ⟨q+1,2,none⟩=some (.slice As2 p2 d2)):=Lib.hid fun W h=>⟨(hfc.below h).cell 0,(hfc.below h).cell 1,(hfc.below h).cell 2,(hfc.below h).cell 3,(hfs.below h).cell 0,(hfs.below h).cell 1,(hfs.below h).cell 2⟩
 have HB1:=Lib.hid hb1
 have HNODE:=Lib.hid hnode
 have HMEM:=Lib.hid hmem
 unfold maxLen at hm0
 clear hT hC hS hI e0 e1 ei hl hb1 hfc hfs hnode hmem hT1 hC1 hS1 hI1 HR HNI HNS HBS HZ
 have hs0:BelW W1 W1:=Below.refl _ _
 obtain⟨s1,H1⟩:=named (n1+n3)
 obtain⟨s2,H2⟩:=named (4*m)
 obtain⟨s3,H3⟩:=named (s1+s2)
 obtain⟨s4,H4⟩:=named (s3+p0)
 obtain⟨s5,H5⟩:=named (s4+mi)
 have g1:IntKind.i64.wrap ((n1:Int)+(n3:Int))=(s1:Int):=by rw[IntKind.wrap_i64,H1.out];omega
 have g2:IntKind.i64.wrap (4*(m:Int))=(s2:Int):=by rw[IntKind.wrap_i64,H2.out];omega
 have g3:IntKind.i64.wrap ((s1:Int)+(s2:Int))=(s3:Int):=by rw[IntKind.wrap_i64,H3.out,H1.out,H2.out];omega
 have g4:IntKind.i64.wrap ((s3:Int)+(p0:Int))=(s4:Int):=by rw[IntKind.wrap_i64,H4.out,H3.out,H1.out,H2.out];omega
 have g5:IntKind.i64.wrap ((s4:Int)+(mi:Int))=(s5:Int):=by rw[IntKind.wrap_i64,H5.out,H4.out,H3.out,H1.out,H2.out];omega
 have hs5:s5≤1000000000000000:=by rw[H5.out,H4.out,H3.out,H1.out,H2.out];omega
 clear H1 H2 H3 H4 H5
 have HQ2:=Lib.hid HQ.out
 go_enter Tryz.func4,Tryz.ntmps4
 go_upto_region 1 with (fail)
 rw[←HW1.out,←HQ2.out]
 obtain⟨x0,x1,x2,x3,y0,y1,y2⟩:=HCE.out W1 hs0
 go_wp2
 go_loop [7,8] (fun nv ci=>∃(k:Nat) (x:Int),k≤n∧k≤30∧ci=.int .i64 k∧nv=.int .i64 x∧(s5:Int)≤x∧x≤s5+100*(k:Int)) (fun _ ci=>n-(intOf ci).toNat)
 case atStart=>exact⟨0,s5,Nat.zero_le _,by omega,rfl,rfl,Int.le_refl _,by omega⟩
 case round=>
  obtain⟨kk,nx,hkk,hkk3,rfl,rfl,hnx0,hnx1⟩:=hrel
  by_cases hlt:kk<n
  ·by_cases hl3:kk<30
   ·obtain⟨b,o,A,l,cc,rfl,hll,hcl⟩:=HNODE.out kk hlt
    unfold maxLen at hll
    go_wp2
    go_round
    case rel=>exact⟨kk+1,nx+min (l:Int) 100,by omega,by omega,by go_num,by go_num,by omega,by omega⟩
    case measure=>simp[intOf];omega
   ·have hk30:kk=30:=by omega
    have hn24:¬n≤24:=by omega
    go_wp2
    go_loop [9,10] (fun wv ci=>∃(k:Nat) (x:Int),k≤m∧k≤30∧ci=.int .i64 k∧wv=.int .i64 x∧0≤x∧x≤256*k) (fun _ ci=>m-(intOf ci).toNat)
    case atStart=>exact⟨0,0,Nat.zero_le _,by omega,rfl,rfl,Int.le_refl _,by omega⟩
    case round=>
     obtain⟨k,x,hk,hk3,rfl,rfl,hx0,hx1⟩:=hrel
     by_cases hlt:k<m
     ·by_cases hl3:k<30
      ·obtain⟨b,o,A,l,cc,rfl,hll,hcl⟩:=HMEM.out k hlt
       unfold maxLen at hll
       obtain⟨t,HT⟩:=named (min l 8)
       have ht8:t≤8:=by rw[HT.out];omega
       have hmn:min (l:Int) 8=(t:Int):=by rw[HT.out];omega
       obtain⟨p,HP⟩:=named (2^t)
       have hp:p≤256:=by
        have:2^t≤2^8:=Nat.pow_le_pow_right (by decide) ht8
        rw[HP.out];exact this
       have HE1:Hid ((if (8:Int)<(l:Int) then (8:Int) else (l:Int)).toNat=t):=Lib.hid (by rw[HT.out];split<;>omega)
       have HE2:Hid (wrap64 (2^t)=(p:Int)):=Lib.hid (by
        have h3:((2:Int)^t)=(p:Int):=by rw[HP.out];simp
        rw[h3];unfold wrap64;omega)
       have HE3:Hid (wrap64 (x+(p:Int))=x+p):=Lib.hid (by unfold wrap64;omega)
       clear HT HP hmn
       skip
       go_wp2
       go_round
       case rel=>exact⟨k+1,x+p,by omega,by omega,by go_num,by rw[HE1.out,HE2.out,HE3.out],by omega,by omega⟩
       case measure=>simp[intOf];omega
      ·have hk30:k=30:=by omega
       go_wp2_with (go_at_call 17;(with_reducible refine (HLV.out _ hs0).mono ?_);rintro e w9 ⟨rfl,hb9⟩;have HB9:=Lib.hid (joinB hs0 hb9);clear hb9)
       go_ret
       exact⟨rfl,joinB HB1.out HB9.out⟩
     ·have hkm:k=m:=by omega
      go_wp2_with (go_at_call 17;(with_reducible refine (HLV.out _ hs0).mono ?_);rintro e w9 ⟨rfl,hb9⟩;have HB9:=Lib.hid (joinB hs0 hb9);clear hb9)
      go_ret
      exact⟨rfl,joinB HB1.out HB9.out⟩
  ·obtain rfl:n=kk:=by omega
   by_cases h24:n≤24
   rotate_left
   ·go_wp2
    go_loop [9,10] (fun wv ci=>∃(k:Nat) (x:Int),k≤m∧k≤30∧ci=.int .i64 k∧wv=.int .i64 x∧0≤x∧x≤256*k) (fun _ ci=>m-(intOf ci).toNat)
    case atStart=>exact⟨0,0,Nat.zero_le _,by omega,rfl,rfl,Int.le_refl _,by omega⟩
    case round=>
     obtain⟨k,x,hk,hk3,rfl,rfl,hx0,hx1⟩:=hrel
     by_cases hlt:k<m
     ·by_cases hl3:k<30
      ·obtain⟨b,o,A,l,cc,rfl,hll,hcl⟩:=HMEM.out k hlt
       unfold maxLen at hll
       obtain⟨t,HT⟩:=named (min l 8)
       have ht8:t≤8:=by rw[HT.out];omega
       have hmn:min (l:Int) 8=(t:Int):=by rw[HT.out];omega
       obtain⟨p,HP⟩:=named (2^t)
       have hp:p≤256:=by
        have:2^t≤2^8:=Nat.pow_le_pow_right (by decide) ht8
        rw[HP.out];exact this
       have HE1:Hid ((if (8:Int)<(l:Int) then (8:Int) else (l:Int)).toNat=t):=Lib.hid (by rw[HT.out];split<;>omega)
       have HE2:Hid (wrap64 (2^t)=(p:Int)):=Lib.hid (by
        have h3:((2:Int)^t)=(p:Int):=by rw[HP.out];simp
        rw[h3];unfold wrap64;omega)
       have HE3:Hid (wrap64 (x+(p:Int))=x+p):=Lib.hid (by unfold wrap64;omega)
       clear HT HP hmn
       skip
       go_wp2
       go_round
       case rel=>exact⟨k+1,x+p,by omega,by omega,by go_num,by rw[HE1.out,HE2.out,HE3.out],by omega,by omega⟩
       case measure=>simp[intOf];omega
      ·have hk30:k=30:=by omega
       go_wp2_with (go_at_call 17;(with_reducible refine (HLV.out _ hs0).mono ?_);rintro e w9 ⟨rfl,hb9⟩;have HB9:=Lib.hid (joinB hs0 hb9);clear hb9)
       go_ret
       exact⟨rfl,joinB HB1.out HB9.out⟩
     ·have hkm:k=m:=by omega
      go_wp2_with (go_at_call 17;(with_reducible refine (HLV.out _ hs0).mono ?_);rintro e w9 ⟨rfl,hb9⟩;have HB9:=Lib.hid (joinB hs0 hb9);clear hb9)
      go_ret
      exact⟨rfl,joinB HB1.out HB9.out⟩
   by_cases h250:nx≤250
   rotate_left
   ·go_wp2
    go_loop [9,10] (fun wv ci=>∃(k:Nat) (x:Int),k≤m∧k≤30∧ci=.int .i64 k∧wv=.int .i64 x∧0≤x∧x≤256*k) (fun _ ci=>m-(intOf ci).toNat)
    case atStart=>exact⟨0,0,Nat.zero_le _,by omega,rfl,rfl,Int.le_refl _,by omega⟩
    case round=>
     obtain⟨k,x,hk,hk3,rfl,rfl,hx0,hx1⟩:=hrel
     by_cases hlt:k<m
     ·by_cases hl3:k<30
      ·obtain⟨b,o,A,l,cc,rfl,hll,hcl⟩:=HMEM.out k hlt
       unfold maxLen at hll
       obtain⟨t,HT⟩:=named (min l 8)
       have ht8:t≤8:=by rw[HT.out];omega
       have hmn:min (l:Int) 8=(t:Int):=by rw[HT.out];omega
       obtain⟨p,HP⟩:=named (2^t)
       have hp:p≤256:=by
        have:2^t≤2^8:=Nat.pow_le_pow_right (by decide) ht8
        rw[HP.out];exact this
       have HE1:Hid ((if (8:Int)<(l:Int) then (8:Int) else (l:Int)).toNat=t):=Lib.hid (by rw[HT.out];split<;>omega)
       have HE2:Hid (wrap64 (2^t)=(p:Int)):=Lib.hid (by
        have h3:((2:Int)^t)=(p:Int):=by rw[HP.out];simp
        rw[h3];unfold wrap64;omega)
       have HE3:Hid (wrap64 (x+(p:Int))=x+p):=Lib.hid (by unfold wrap64;omega)
       clear HT HP hmn
       skip
       go_wp2
       go_round
       case rel=>exact⟨k+1,x+p,by omega,by omega,by go_num,by rw[HE1.out,HE2.out,HE3.out],by omega,by omega⟩
       case measure=>simp[intOf];omega
      ·have hk30:k=30:=by omega
       go_wp2_with (go_at_call 17;(with_reducible refine (HLV.out _ hs0).mono ?_);rintro e w9 ⟨rfl,hb9⟩;have HB9:=Lib.hid (joinB hs0 hb9);clear hb9)
       go_ret
       exact⟨rfl,joinB HB1.out HB9.out⟩
     ·have hkm:k=m:=by omega
      go_wp2_with (go_at_call 17;(with_reducible refine (HLV.out _ hs0).mono ?_);rintro e w9 ⟨rfl,hb9⟩;have HB9:=Lib.hid (joinB hs0 hb9);clear hb9)
      go_ret
      exact⟨rfl,joinB HB1.out HB9.out⟩
   go_wp2
   go_loop [9,10] (fun wv ci=>∃(k:Nat) (x:Int),k≤m∧k≤30∧ci=.int .i64 k∧wv=.int .i64 x∧0≤x∧x≤256*k) (fun _ ci=>m-(intOf ci).toNat)
   case atStart=>exact⟨0,0,Nat.zero_le _,by omega,rfl,rfl,Int.le_refl _,by omega⟩
   case round=>
    obtain⟨k,x,hk,hk3,rfl,rfl,hx0,hx1⟩:=hrel
    by_cases hlt:k<m
    ·by_cases hl3:k<30
     ·obtain⟨b,o,A,l,cc,rfl,hll,hcl⟩:=HMEM.out k hlt
      unfold maxLen at hll
      obtain⟨t,HT⟩:=named (min l 8)
      have ht8:t≤8:=by rw[HT.out];omega
      have hmn:min (l:Int) 8=(t:Int):=by rw[HT.out];omega
      obtain⟨p,HP⟩:=named (2^t)
      have hp:p≤256:=by
       have:2^t≤2^8:=Nat.pow_le_pow_right (by decide) ht8
       rw[HP.out];exact this
      have HE1:Hid ((if (8:Int)<(l:Int) then (8:Int) else (l:Int)).toNat=t):=Lib.hid (by rw[HT.out];split<;>omega)
      have HE2:Hid (wrap64 (2^t)=(p:Int)):=Lib.hid (by
       have h3:((2:Int)^t)=(p:Int):=by rw[HP.out];simp
       rw[h3];unfold wrap64;omega)
      have HE3:Hid (wrap64 (x+(p:Int))=x+p):=Lib.hid (by unfold wrap64;omega)
      clear HT HP hmn
      skip
      go_wp2
      go_round
      case rel=>exact⟨k+1,x+p,by omega,by omega,by go_num,by rw[HE1.out,HE2.out,HE3.out],by omega,by omega⟩
      case measure=>simp[intOf];omega
     ·have hk30:k=30:=by omega
      by_cases hx64:x≤64
      rotate_left
      ·go_wp2_with (go_at_call 17;(with_reducible refine (HLV.out _ hs0).mono ?_);rintro e w9 ⟨rfl,hb9⟩;have HB9:=Lib.hid (joinB hs0 hb9);clear hb9)
       go_ret
       exact⟨rfl,joinB HB1.out HB9.out⟩
      have hz:z≠0:=fun h=>by have:=HM16.out h;omega
      go_upto_region 14 with (go_at_call 18;(with_reducible refine (HRK.out h24 _ hs0).mono ?_);rintro e w2 ⟨rfl,hb⟩;have hs2:BelW W1 w2:=hb;clear hb;clear x0 x1 x2 x3 y0 y1 y2)
      obtain⟨x0,x1,x2,x3,y0,y1,y2⟩:=HCE.out w2 hs2
      go_upto_region 15 with (go_at_call 9;(with_reducible refine (HCY.out h24 _ hs2).mono ?_);rintro e w3 ⟨⟨B0,B1,B2,B3,B4,B5,l0,l1,l2,l3,l4,l5,k0,k1,k2,k3,k4,k5,rfl,hrz⟩,hb⟩;have hs3:BelW W1 w3:=joinB hs2 hb;have HRZ:=Lib.hid hrz;clear hrz hb;clear x0 x1 x2 x3 y0 y1 y2)
      obtain⟨V3,HV3⟩:=named ((w3.alloc (.cells #[.slice B0 l0 k0,.slice B1 l1 k1,.slice B2 l2 k2] 45)).alloc (.cells #[.slice B3 l3 k3,.slice B4 l4 k4] 49))
      have hn3:BelW w3 V3:=by rw[HV3.out];exact below_new (below_new (Below.refl _ _) _) _
      have hf1:Fr V3 w3.heap.size 45 [.slice B0 l0 k0,.slice B1 l1 k1,.slice B2 l2 k2]:=by rw[HV3.out];exact Fr.alloc (Fr.made _ _ _ rfl) _
      have hf2:Fr V3 (w3.heap.size+1) 49 [.slice B3 l3 k3,.slice B4 l4 k4]:=by rw[HV3.out];exact Fr.made _ _ _ (by simp)
      have hs4:BelW W1 V3:=joinB hs3 hn3
      obtain⟨t,HTT⟩:=named w3.heap.size
      rw[←HTT.out]at hf1 hf2
      rw[←HV3.out,←HTT.out]
      have HF3:Hid (∀W,BelW V3 W→W.cell? ⟨t,0,none⟩=some (.slice B0 l0 k0)∧W.cell? ⟨t,1,none⟩=some (.slice B1 l1 k1)∧W.cell? ⟨t,2,none⟩=some (.slice B2 l2 k2)∧W.cell? ⟨t+1,0,none⟩=some (.slice B3 l3 k3)∧W.cell? ⟨t+1,1,none⟩=some (.slice B4 l4 k4)):=Lib.hid fun W h=>⟨(hf1.below h).cell 0,(hf1.below h).cell 1,(hf1.below h).cell 2,(hf2.below h).cell 0,(hf2.below h).cell 1⟩
      clear hf1 hf2 hn3 HV3 HTT
      obtain⟨x0,x1,x2,x3,y0,y1,y2⟩:=HCE.out V3 hs4
      have HZD:Hid (r=0∨(r≠0∧l0=0∧l1=0∧l2=0∧l3=0∧l4=0∧l5=0)):=Lib.hid (by
       by_cases h:r=0
       ·exact .inl h
       ·exact .inr ⟨h,HRZ.out h⟩)
      have t1:(r != r)=false:=by simp
      rcases HZD.out with h0| ⟨h0,rfl,rfl,rfl,rfl,rfl,rfl⟩
      ·subst h0
       clear HZD HRZ
       go_upto_region 17 with (go_at_call 19;(with_reducible refine (HCK.out h24 _ hs4).mono ?_);rintro e w5 ⟨rfl,hb⟩;have hs5:BelW W1 w5:=joinB hs4 hb;obtain⟨b0,b1,b2,b3,b4⟩:=HF3.out w5 hb;clear hb;clear x0 x1 x2 x3 y0 y1 y2)
       clear b0 b1 b2 b3 b4
       obtain⟨x0,x1,x2,x3,y0,y1,y2⟩:=HCE.out w5 hs5
       go_upto_region 18 with (go_at_call 20;(with_reducible refine (HBB.out hz _ hs5).mono ?_);rintro e w6 ⟨rfl,hb⟩;have hs6:BelW W1 w6:=joinB hs5 hb;clear hb;clear x0 x1 x2 x3 y0 y1 y2)
       obtain⟨V5,HV5⟩:=named (w6.alloc (.cells #[.slice none 0 0,.slice none 0 0,.slice none 0 0] 45))
       have hn5:BelW w6 V5:=by rw[HV5.out];exact below_new (Below.refl _ _) _
       have hf5:Fr V5 w6.heap.size 45 [.slice none 0 0,.slice none 0 0,.slice none 0 0]:=by rw[HV5.out];exact Fr.made _ _ _ rfl
       have hs7:BelW W1 V5:=joinB hs6 hn5
       obtain⟨u,HU⟩:=named w6.heap.size
       rw[←HU.out]at hf5
       rw[←HV5.out,←HU.out]
       have HF5:Hid (∀W,BelW V5 W→W.cell? ⟨u,0,none⟩=some (.slice none 0 0)∧W.cell? ⟨u,1,none⟩=some (.slice none 0 0)∧W.cell? ⟨u,2,none⟩=some (.slice none 0 0)):=Lib.hid fun W h=>⟨(hf5.below h).cell 0,(hf5.below h).cell 1,(hf5.below h).cell 2⟩
       clear hn5 hf5 HV5 HU
       obtain⟨x0,x1,x2,x3,y0,y1,y2⟩:=HCE.out V5 hs7
       have q8:(z != 0)=true:=by simpa using hz
       have q9:(z==0)=false:=by simpa using hz
       go_wp2_with (first
        |(go_at_call 21;(with_reducible refine (HRC.out _ hs7).mono ?_);rintro e w7 ⟨rfl,hb⟩;have hs8:BelW W1 w7:=joinB hs7 hb;obtain⟨b0,b1,b2⟩:=HF5.out w7 hb;clear hb;clear x0 x1 x2 x3 y0 y1 y2)
        |(go_at_call 15;(with_reducible refine (HSZ.out _).mono ?_);rintro e w8 ⟨rfl,hb⟩;have hs9:BelW W1 w8:=joinB hs8 hb;clear hb b0 b1 b2)
        |(go_at_call 17;(with_reducible refine (HLV.out _ hs9).mono ?_);rintro e w9 ⟨rfl,hb⟩;have HB9:=Lib.hid (joinB hs9 hb);clear hb))
       go_ret
       exact⟨rfl,joinB HB1.out HB9.out⟩
      ·have q0:(r==0)=false:=by simpa using h0
       have q1:(r != 0)=true:=by simpa using h0
       clear h0 HZD HRZ
       go_upto_region 17 with (go_at_call 19;(with_reducible refine (HCK.out h24 _ hs4).mono ?_);rintro e w5 ⟨rfl,hb⟩;have hs5:BelW W1 w5:=joinB hs4 hb;obtain⟨b0,b1,b2,b3,b4⟩:=HF3.out w5 hb;clear hb;clear x0 x1 x2 x3 y0 y1 y2)
       clear b0 b1 b2 b3 b4
       obtain⟨x0,x1,x2,x3,y0,y1,y2⟩:=HCE.out w5 hs5
       go_upto_region 18 with (go_at_call 20;(with_reducible refine (HBB.out hz _ hs5).mono ?_);rintro e w6 ⟨rfl,hb⟩;have hs6:BelW W1 w6:=joinB hs5 hb;clear hb;clear x0 x1 x2 x3 y0 y1 y2)
       obtain⟨V5,HV5⟩:=named (w6.alloc (.cells #[.slice none 0 0,.slice none 0 0,.slice none 0 0] 45))
       have hn5:BelW w6 V5:=by rw[HV5.out];exact below_new (Below.refl _ _) _
       have hf5:Fr V5 w6.heap.size 45 [.slice none 0 0,.slice none 0 0,.slice none 0 0]:=by rw[HV5.out];exact Fr.made _ _ _ rfl
       have hs7:BelW W1 V5:=joinB hs6 hn5
       obtain⟨u,HU⟩:=named w6.heap.size
       rw[←HU.out]at hf5
       rw[←HV5.out,←HU.out]
       have HF5:Hid (∀W,BelW V5 W→W.cell? ⟨u,0,none⟩=some (.slice none 0 0)∧W.cell? ⟨u,1,none⟩=some (.slice none 0 0)∧W.cell? ⟨u,2,none⟩=some (.slice none 0 0)):=Lib.hid fun W h=>⟨(hf5.below h).cell 0,(hf5.below h).cell 1,(hf5.below h).cell 2⟩
       clear hn5 hf5 HV5 HU
       obtain⟨x0,x1,x2,x3,y0,y1,y2⟩:=HCE.out V5 hs7
       have q8:(z != 0)=true:=by simpa using hz
       have q9:(z==0)=false:=by simpa using hz
       go_wp2_with (first
        |(go_at_call 21;(with_reducible refine (HRC.out _ hs7).mono ?_);rintro e w7 ⟨rfl,hb⟩;have hs8:BelW W1 w7:=joinB hs7 hb;obtain⟨b0,b1,b2⟩:=HF5.out w7 hb;clear hb;clear x0 x1 x2 x3 y0 y1 y2)
        |(go_at_call 15;(with_reducible refine (HSZ.out _).mono ?_);rintro e w8 ⟨rfl,hb⟩;have hs9:BelW W1 w8:=joinB hs8 hb;clear hb b0 b1 b2)
        |(go_at_call 17;(with_reducible refine (HLV.out _ hs9).mono ?_);rintro e w9 ⟨rfl,hb⟩;have HB9:=Lib.hid (joinB hs9 hb);clear hb))
       go_ret
       exact⟨rfl,joinB HB1.out HB9.out⟩
    ·have hkm:k=m:=by omega
     by_cases hx64:x≤64
     rotate_left
     ·go_wp2_with (go_at_call 17;(with_reducible refine (HLV.out _ hs0).mono ?_);rintro e w9 ⟨rfl,hb9⟩;have HB9:=Lib.hid (joinB hs0 hb9);clear hb9)
      go_ret
      exact⟨rfl,joinB HB1.out HB9.out⟩
     go_upto_region 14 with (go_at_call 18;(with_reducible refine (HRK.out h24 _ hs0).mono ?_);rintro e w2 ⟨rfl,hb⟩;have hs2:BelW W1 w2:=hb;clear hb;clear x0 x1 x2 x3 y0 y1 y2)
     obtain⟨x0,x1,x2,x3,y0,y1,y2⟩:=HCE.out w2 hs2
     go_upto_region 15 with (go_at_call 9;(with_reducible refine (HCY.out h24 _ hs2).mono ?_);rintro e w3 ⟨⟨B0,B1,B2,B3,B4,B5,l0,l1,l2,l3,l4,l5,k0,k1,k2,k3,k4,k5,rfl,hrz⟩,hb⟩;have hs3:BelW W1 w3:=joinB hs2 hb;have HRZ:=Lib.hid hrz;clear hrz hb;clear x0 x1 x2 x3 y0 y1 y2)
     obtain⟨V3,HV3⟩:=named ((w3.alloc (.cells #[.slice B0 l0 k0,.slice B1 l1 k1,.slice B2 l2 k2] 45)).alloc (.cells #[.slice B3 l3 k3,.slice B4 l4 k4] 49))
     have hn3:BelW w3 V3:=by rw[HV3.out];exact below_new (below_new (Below.refl _ _) _) _
     have hf1:Fr V3 w3.heap.size 45 [.slice B0 l0 k0,.slice B1 l1 k1,.slice B2 l2 k2]:=by rw[HV3.out];exact Fr.alloc (Fr.made _ _ _ rfl) _
     have hf2:Fr V3 (w3.heap.size+1) 49 [.slice B3 l3 k3,.slice B4 l4 k4]:=by rw[HV3.out];exact Fr.made _ _ _ (by simp)
     have hs4:BelW W1 V3:=joinB hs3 hn3
     obtain⟨t,HTT⟩:=named w3.heap.size
     rw[←HTT.out]at hf1 hf2
     rw[←HV3.out,←HTT.out]
     have HF3:Hid (∀W,BelW V3 W→W.cell? ⟨t,0,none⟩=some (.slice B0 l0 k0)∧W.cell? ⟨t,1,none⟩=some (.slice B1 l1 k1)∧W.cell? ⟨t,2,none⟩=some (.slice B2 l2 k2)∧W.cell? ⟨t+1,0,none⟩=some (.slice B3 l3 k3)∧W.cell? ⟨t+1,1,none⟩=some (.slice B4 l4 k4)):=Lib.hid fun W h=>⟨(hf1.below h).cell 0,(hf1.below h).cell 1,(hf1.below h).cell 2,(hf2.below h).cell 0,(hf2.below h).cell 1⟩
     clear hf1 hf2 hn3 HV3 HTT
     obtain⟨x0,x1,x2,x3,y0,y1,y2⟩:=HCE.out V3 hs4
     have HZD:Hid (r=0∨(r≠0∧l0=0∧l1=0∧l2=0∧l3=0∧l4=0∧l5=0)):=Lib.hid (by
      by_cases h:r=0
      ·exact .inl h
      ·exact .inr ⟨h,HRZ.out h⟩)
     have t1:(r != r)=false:=by simp
     rcases HZD.out with h0| ⟨h0,rfl,rfl,rfl,rfl,rfl,rfl⟩
     ·subst h0
      clear HZD HRZ
      go_upto_region 17 with (go_at_call 19;(with_reducible refine (HCK.out h24 _ hs4).mono ?_);rintro e w5 ⟨rfl,hb⟩;have hs5:BelW W1 w5:=joinB hs4 hb;obtain⟨b0,b1,b2,b3,b4⟩:=HF3.out w5 hb;clear hb;clear x0 x1 x2 x3 y0 y1 y2)
      clear b0 b1 b2 b3 b4
      obtain⟨x0,x1,x2,x3,y0,y1,y2⟩:=HCE.out w5 hs5
      by_cases hz:z=0
      ·subst hz
       go_upto_region 18 with (go_at_call 20;(with_reducible refine (HBO.out h24 rfl _ hs5).mono ?_);rintro e w6 ⟨gB,D1,D2,rfl,hst,hb⟩;have hs6:BelW W1 w6:=joinB hs5 hb;have HST:=Lib.hid hst;clear hb hst;clear x0 x1 x2 x3 y0 y1 y2)
       obtain⟨V4,HV4⟩:=named (w6.alloc (.cells #[.slice (some ⟨gB,0,none⟩) ns ns,.slice (some ⟨D1,0,none⟩) m m,.slice (some ⟨D2,0,none⟩) m m] 45))
       have hn4:BelW w6 V4:=by rw[HV4.out];exact below_new (Below.refl _ _) _
       have hf4:Fr V4 w6.heap.size 45 [.slice (some ⟨gB,0,none⟩) ns ns,.slice (some ⟨D1,0,none⟩) m m,.slice (some ⟨D2,0,none⟩) m m]:=by rw[HV4.out];exact Fr.made _ _ _ rfl
       have hst4:StR V4 V4.heap.size (some ⟨gB,0,none⟩) (some ⟨D1,0,none⟩) (some ⟨D2,0,none⟩) ns m m ns m m BS:=HST.out.keep (Nat.le_refl _) hn4 (Below.size hn4)
       have hs7:BelW W1 V4:=joinB hs6 hn4
       obtain⟨u,HU⟩:=named w6.heap.size
       rw[←HU.out]at hf4
       rw[←HV4.out,←HU.out]
       clear HV4 hn4 HST
       obtain⟨x0,x1,x2,x3,y0,y1,y2⟩:=HCE.out V4 hs7
       go_upto_region 20 with (go_at_call 21;(with_reducible refine (HRC.out _ hs7).mono ?_);rintro e w7 ⟨rfl,hb⟩;have hs8:BelW W1 w7:=joinB hs7 hb;have HB7:=Lib.hid hb;clear hb;clear x0 x1 x2 x3 y0 y1 y2)
       obtain⟨V7,HV7⟩:=named (w7.alloc (.cells #[.slice none 0 0] 29))
       have hn7:BelW w7 V7:=by rw[HV7.out];exact below_new (Below.refl _ _) _
       have hf7:Fr V7 w7.heap.size 29 [.slice none 0 0]:=by rw[HV7.out];exact Fr.made _ _ _ (by simp)
       have hs9:BelW W1 V7:=joinB hs8 hn7
       obtain⟨u2,HU2⟩:=named w7.heap.size
       rw[←HU2.out]at hf7
       go_upto_region 21 with (fail)
       rw[←HV7.out,←HU2.out]
       obtain⟨x0,x1,x2,x3,y0,y1,y2⟩:=HCE.out V7 hs9
       go_upto_region 22 with (go_at_call 22;(with_reducible refine (HSB.out h24 _ hs9).mono ?_);rintro e w8 ⟨g6,h6,rfl,r1,r2,hb⟩;have hs10:BelW W1 w8:=joinB hs9 hb;have HVI:=Lib.hid r1;have HB8:Hid (BelW V7 w8):=Lib.hid hb;clear r1 r2 hb;clear x0 x1 x2 x3 y0 y1 y2)
       obtain⟨V9,HV9⟩:=named (w8.alloc (.cells #[.slice (some ⟨g6,0,none⟩) ni ni,.slice (some ⟨h6,0,none⟩) ns ns] 73))
       have hn9:BelW w8 V9:=by rw[HV9.out];exact below_new (Below.refl _ _) _
       have hf9:Fr V9 w8.heap.size 73 [.slice (some ⟨g6,0,none⟩) ni ni,.slice (some ⟨h6,0,none⟩) ns ns]:=by rw[HV9.out];exact Fr.made _ _ _ rfl
       have hs11:BelW W1 V9:=joinB hs10 hn9
       obtain⟨v,HVV⟩:=named w8.heap.size
       rw[←HVV.out]at hf9
       rw[←HV9.out,←HVV.out]
       have hb79:BelW V7 V9:=joinB HB8.out hn9
       have hb49:BelW V4 V9:=joinB HB7.out (joinB hn7 hb79)
       have HK9:Hid (∀W,BelW V9 W→BelW V9 W∧W.cell? ⟨q,0,none⟩=some (.slice A0 n c0)∧W.cell? ⟨q,1,none⟩=some (.slice A1 n1 c1)∧W.cell? ⟨q,2,none⟩=some (.slice A2 m c2)∧W.cell? ⟨q,3,none⟩=some (.slice A3 n3 c3)∧W.cell? ⟨u,0,none⟩=some (.slice (some ⟨gB,0,none⟩) ns ns)∧W.cell? ⟨u,1,none⟩=some (.slice (some ⟨D1,0,none⟩) m m)∧W.cell? ⟨u,2,none⟩=some (.slice (some ⟨D2,0,none⟩) m m)∧W.cell? ⟨u2,0,none⟩=some (.slice none 0 0)∧W.cell? ⟨v,0,none⟩=some (.slice (some ⟨g6,0,none⟩) ni ni)∧W.cell? ⟨v,1,none⟩=some (.slice (some ⟨h6,0,none⟩) ns ns)):=Lib.hid fun W h=>by
        obtain⟨a0,a1,a2,a3,-,-,-⟩:=HCE.out W (joinB hs11 h)
        have f4:=hf4.below (joinB hb49 h)
        have f7:=hf7.below (joinB hb79 h)
        have f9:=hf9.below h
        exact⟨h,a0,a1,a2,a3,f4.cell 0,f4.cell 1,f4.cell 2,f7.cell 0,f9.cell 0,f9.cell 1⟩
       have HST9:Hid (∀W,BelW V9 W→StR W W.heap.size (some ⟨gB,0,none⟩) (some ⟨D1,0,none⟩) (some ⟨D2,0,none⟩) ns m m ns m m BS):=Lib.hid fun W h=>hst4.keep (Nat.le_refl _) (joinB hb49 h) (Below.size (joinB hb49 h))
       have HVR9:Hid (∀W,BelW V9 W→VRow W g6 (List.replicate ni 2)):=Lib.hid fun W h=>HVI.out.below (joinB hn9 h)
       have HSO9:Hid (∀W,BelW V9 W→Calls Tryz.prog 23 #[.agg #[.slice none 0 0],.agg #[.slice A0 n c0,.slice A1 n1 c1,.slice A2 m c2,.slice A3 n3 c3]] W fun e w'=>∃A7 c7 Aa1 ca1 Aa2 ca2,e=.returned (.agg #[.slice A7 ns c7,.slice Aa1 m ca1,.slice Aa2 m ca2])∧StR w' w'.heap.size A7 Aa1 Aa2 ns m m c7 ca1 ca2 BS∧BelW W w'):=Lib.hid fun W h=>HSO.out h24 (by trivial) W (joinB hs11 h)
       have HKB9:Hid (∀W,BelW V9 W→Calls Tryz.prog 19 #[.agg #[.slice A0 n c0,.slice A1 n1 c1,.slice A2 m c2,.slice A3 n3 c3],.agg #[.slice (some ⟨gB,0,none⟩) ns ns,.slice (some ⟨D1,0,none⟩) m m,.slice (some ⟨D2,0,none⟩) m m],.slice (some ⟨g6,0,none⟩) ni ni] W fun e w'=>e=.returned (.int .i64 0)∧BelW W w'):=Lib.hid fun W h=>HKB.out h24 (by trivial) W gB D1 D2 g6 (joinB hs11 h) (HST9.out W h) (HVR9.out W h)
       have HLV9:Hid (∀W,BelW V9 W→Calls Tryz.prog 17 #[] W fun e w'=>e=.returned (.bool true)∧BelW W w'):=Lib.hid fun W h=>HLV.out W (joinB hs11 h)
       have HS11:=Lib.hid hs11
       have hsV:BelW V9 V9:=Below.refl _ _
       clear hn7 hf7 hn9 hf9 hf4 hst4 hb79 hb49 hs0 hs2 hs3 hs4 hs5 hs6 hs7 hs8 hs9 hs10 hs11 HB7 HB8 HV7 HV9 HU HU2 HVV HVI
       obtain⟨-,x0,x1,x2,x3,b0',b1',b2',n0',v0',v1'⟩:=HK9.out V9 hsV
       go_region_held3 (fun w'=>BelW V9 w'∧w'.cell? ⟨q,0,none⟩=some (.slice A0 n c0)∧w'.cell? ⟨q,1,none⟩=some (.slice A1 n1 c1)∧w'.cell? ⟨q,2,none⟩=some (.slice A2 m c2)∧w'.cell? ⟨q,3,none⟩=some (.slice A3 n3 c3)∧w'.cell? ⟨u,0,none⟩=some (.slice (some ⟨gB,0,none⟩) ns ns)∧w'.cell? ⟨u,1,none⟩=some (.slice (some ⟨D1,0,none⟩) m m)∧w'.cell? ⟨u,2,none⟩=some (.slice (some ⟨D2,0,none⟩) m m)∧w'.cell? ⟨u2,0,none⟩=some (.slice none 0 0)∧w'.cell? ⟨v,0,none⟩=some (.slice (some ⟨g6,0,none⟩) ni ni)∧w'.cell? ⟨v,1,none⟩=some (.slice (some ⟨h6,0,none⟩) ns ns))
        ((refine HK9.out _ ?_;first|(with_reducible assumption)|(refine BelW.drew ?_;with_reducible assumption)|(exact below_drewN (by with_reducible assumption) _)))
        (first
          |(go_at_call 23;(with_reducible refine Calls.mono (HSO9.out _ ?_) ?_); ·(first|(with_reducible assumption)|(refine BelW.drew ?_;with_reducible assumption)|(exact below_drewN (by with_reducible assumption) _))
            rintro e wa ⟨A7,c7,Aa1,ca1,Aa2,ca2,rfl,hsta,hba⟩
            have HSTA:=Lib.hid hsta
            have hsa:BelW V9 wa:=(by refine BelW.next ?_ hba;first|(with_reducible assumption)|(refine BelW.drew ?_;with_reducible assumption)|(exact below_drewN (by with_reducible assumption) _))
            have HSAM:Hid (∀W,BelW wa W→Calls Tryz.prog 15 #[.agg #[.slice (some ⟨gB,0,none⟩) ns ns,.slice (some ⟨D1,0,none⟩) m m,.slice (some ⟨D2,0,none⟩) m m],.agg #[.slice A7 ns c7,.slice Aa1 m ca1,.slice Aa2 m ca2]] W fun e w'=>e=.returned (.bool true)∧BelW W w'):=Lib.hid fun W h=>HSA.out W _ _ _ _ _ _ _ _ _ _ _ _ (HST9.out W (joinB hsa h)) (HSTA.out.keep (Nat.le_refl _) h (Below.size h))
            have hsaa:BelW wa wa:=Below.refl _ _
            clear hsta)
          |(go_at_call 15;(with_reducible refine Calls.mono (HSAM.out _ ?_) ?_); ·(first|(with_reducible assumption)|(refine BelW.drew ?_;with_reducible assumption)|(exact below_drewN (by with_reducible assumption) _))
            rintro e wc ⟨rfl,hbc⟩
            have hsc:BelW V9 wc:=(by refine BelW.next ?_ hbc;first|(with_reducible assumption)|(refine BelW.drew ?_;with_reducible assumption)|(exact below_drewN (by with_reducible assumption) _)))
          |(go_at_call 19;(with_reducible refine Calls.mono (HKB9.out _ ?_) ?_); ·(first|(with_reducible assumption)|(refine BelW.drew ?_;with_reducible assumption)|(exact below_drewN (by with_reducible assumption) _))
            rintro e wd ⟨rfl,hbd⟩
            have hsd:BelW V9 wd:=(by refine BelW.next ?_ hbd;first|(with_reducible assumption)|(refine BelW.drew ?_;with_reducible assumption)|(exact below_drewN (by with_reducible assumption) _)))
          |(go_at_call 17;(with_reducible refine Calls.mono (HLV9.out _ ?_) ?_); ·(first|(with_reducible assumption)|(refine BelW.drew ?_;with_reducible assumption)|(exact below_drewN (by with_reducible assumption) _))
            rintro e wf ⟨rfl,hbf⟩
            have hsf:BelW V9 wf:=(by refine BelW.next ?_ hbf;first|(with_reducible assumption)|(refine BelW.drew ?_;with_reducible assumption)|(exact below_drewN (by with_reducible assumption) _))))
       go_wp2
       go_ret
       exact⟨rfl,joinB HB1.out (joinB HS11.out hsf)⟩
      ·go_upto_region 18 with (go_at_call 20;(with_reducible refine (HBB.out hz _ hs5).mono ?_);rintro e w6 ⟨rfl,hb⟩;have hs6:BelW W1 w6:=joinB hs5 hb;clear hb;clear x0 x1 x2 x3 y0 y1 y2)
       obtain⟨V5,HV5⟩:=named (w6.alloc (.cells #[.slice none 0 0,.slice none 0 0,.slice none 0 0] 45))
       have hn5:BelW w6 V5:=by rw[HV5.out];exact below_new (Below.refl _ _) _
       have hf5:Fr V5 w6.heap.size 45 [.slice none 0 0,.slice none 0 0,.slice none 0 0]:=by rw[HV5.out];exact Fr.made _ _ _ rfl
       have hs7:BelW W1 V5:=joinB hs6 hn5
       obtain⟨u,HU⟩:=named w6.heap.size
       rw[←HU.out]at hf5
       rw[←HV5.out,←HU.out]
       have HF5:Hid (∀W,BelW V5 W→W.cell? ⟨u,0,none⟩=some (.slice none 0 0)∧W.cell? ⟨u,1,none⟩=some (.slice none 0 0)∧W.cell? ⟨u,2,none⟩=some (.slice none 0 0)):=Lib.hid fun W h=>⟨(hf5.below h).cell 0,(hf5.below h).cell 1,(hf5.below h).cell 2⟩
       clear hn5 hf5 HV5 HU
       obtain⟨x0,x1,x2,x3,y0,y1,y2⟩:=HCE.out V5 hs7
       have q8:(z != 0)=true:=by simpa using hz
       have q9:(z==0)=false:=by simpa using hz
       go_wp2_with (first
        |(go_at_call 21;(with_reducible refine (HRC.out _ hs7).mono ?_);rintro e w7 ⟨rfl,hb⟩;have hs8:BelW W1 w7:=joinB hs7 hb;obtain⟨b0,b1,b2⟩:=HF5.out w7 hb;clear hb;clear x0 x1 x2 x3 y0 y1 y2)
        |(go_at_call 15;(with_reducible refine (HSZ.out _).mono ?_);rintro e w8 ⟨rfl,hb⟩;have hs9:BelW W1 w8:=joinB hs8 hb;clear hb b0 b1 b2)
        |(go_at_call 17;(with_reducible refine (HLV.out _ hs9).mono ?_);rintro e w9 ⟨rfl,hb⟩;have HB9:=Lib.hid (joinB hs9 hb);clear hb))
       go_ret
       exact⟨rfl,joinB HB1.out HB9.out⟩
     ·have q0:(r==0)=false:=by simpa using h0
      have q1:(r != 0)=true:=by simpa using h0
      clear h0 HZD HRZ
      go_upto_region 17 with (go_at_call 19;(with_reducible refine (HCK.out h24 _ hs4).mono ?_);rintro e w5 ⟨rfl,hb⟩;have hs5:BelW W1 w5:=joinB hs4 hb;obtain⟨b0,b1,b2,b3,b4⟩:=HF3.out w5 hb;clear hb;clear x0 x1 x2 x3 y0 y1 y2)
      clear b0 b1 b2 b3 b4
      obtain⟨x0,x1,x2,x3,y0,y1,y2⟩:=HCE.out w5 hs5
      by_cases hz:z=0
      ·subst hz
       go_upto_region 18 with (go_at_call 20;(with_reducible refine (HBO.out h24 rfl _ hs5).mono ?_);rintro e w6 ⟨gB,D1,D2,rfl,hst,hb⟩;have hs6:BelW W1 w6:=joinB hs5 hb;have HST:=Lib.hid hst;clear hb hst;clear x0 x1 x2 x3 y0 y1 y2)
       obtain⟨V4,HV4⟩:=named (w6.alloc (.cells #[.slice (some ⟨gB,0,none⟩) ns ns,.slice (some ⟨D1,0,none⟩) m m,.slice (some ⟨D2,0,none⟩) m m] 45))
       have hn4:BelW w6 V4:=by rw[HV4.out];exact below_new (Below.refl _ _) _
       have hf4:Fr V4 w6.heap.size 45 [.slice (some ⟨gB,0,none⟩) ns ns,.slice (some ⟨D1,0,none⟩) m m,.slice (some ⟨D2,0,none⟩) m m]:=by rw[HV4.out];exact Fr.made _ _ _ rfl
       have hst4:StR V4 V4.heap.size (some ⟨gB,0,none⟩) (some ⟨D1,0,none⟩) (some ⟨D2,0,none⟩) ns m m ns m m BS:=HST.out.keep (Nat.le_refl _) hn4 (Below.size hn4)
       have hs7:BelW W1 V4:=joinB hs6 hn4
       obtain⟨u,HU⟩:=named w6.heap.size
       rw[←HU.out]at hf4
       rw[←HV4.out,←HU.out]
       clear HV4 hn4 HST
       obtain⟨x0,x1,x2,x3,y0,y1,y2⟩:=HCE.out V4 hs7
       go_upto_region 20 with (go_at_call 21;(with_reducible refine (HRC.out _ hs7).mono ?_);rintro e w7 ⟨rfl,hb⟩;have hs8:BelW W1 w7:=joinB hs7 hb;have HB7:=Lib.hid hb;clear hb;clear x0 x1 x2 x3 y0 y1 y2)
       obtain⟨V7,HV7⟩:=named (w7.alloc (.cells #[.slice none 0 0] 29))
       have hn7:BelW w7 V7:=by rw[HV7.out];exact below_new (Below.refl _ _) _
       have hf7:Fr V7 w7.heap.size 29 [.slice none 0 0]:=by rw[HV7.out];exact Fr.made _ _ _ (by simp)
       have hs9:BelW W1 V7:=joinB hs8 hn7
       obtain⟨u2,HU2⟩:=named w7.heap.size
       rw[←HU2.out]at hf7
       go_upto_region 21 with (fail)
       rw[←HV7.out,←HU2.out]
       obtain⟨x0,x1,x2,x3,y0,y1,y2⟩:=HCE.out V7 hs9
       go_upto_region 22 with (go_at_call 22;(with_reducible refine (HSB.out h24 _ hs9).mono ?_);rintro e w8 ⟨g6,h6,rfl,r1,r2,hb⟩;have hs10:BelW W1 w8:=joinB hs9 hb;have HVI:=Lib.hid r1;have HB8:Hid (BelW V7 w8):=Lib.hid hb;clear r1 r2 hb;clear x0 x1 x2 x3 y0 y1 y2)
       obtain⟨V9,HV9⟩:=named (w8.alloc (.cells #[.slice (some ⟨g6,0,none⟩) ni ni,.slice (some ⟨h6,0,none⟩) ns ns] 73))
       have hn9:BelW w8 V9:=by rw[HV9.out];exact below_new (Below.refl _ _) _
       have hf9:Fr V9 w8.heap.size 73 [.slice (some ⟨g6,0,none⟩) ni ni,.slice (some ⟨h6,0,none⟩) ns ns]:=by rw[HV9.out];exact Fr.made _ _ _ rfl
       have hs11:BelW W1 V9:=joinB hs10 hn9
       obtain⟨v,HVV⟩:=named w8.heap.size
       rw[←HVV.out]at hf9
       rw[←HV9.out,←HVV.out]
       have hb79:BelW V7 V9:=joinB HB8.out hn9
       have hb49:BelW V4 V9:=joinB HB7.out (joinB hn7 hb79)
       have HK9:Hid (∀W,BelW V9 W→BelW V9 W∧W.cell? ⟨q,0,none⟩=some (.slice A0 n c0)∧W.cell? ⟨q,1,none⟩=some (.slice A1 n1 c1)∧W.cell? ⟨q,2,none⟩=some (.slice A2 m c2)∧W.cell? ⟨q,3,none⟩=some (.slice A3 n3 c3)∧W.cell? ⟨u,0,none⟩=some (.slice (some ⟨gB,0,none⟩) ns ns)∧W.cell? ⟨u,1,none⟩=some (.slice (some ⟨D1,0,none⟩) m m)∧W.cell? ⟨u,2,none⟩=some (.slice (some ⟨D2,0,none⟩) m m)∧W.cell? ⟨u2,0,none⟩=some (.slice none 0 0)∧W.cell? ⟨v,0,none⟩=some (.slice (some ⟨g6,0,none⟩) ni ni)∧W.cell? ⟨v,1,none⟩=some (.slice (some ⟨h6,0,none⟩) ns ns)):=Lib.hid fun W h=>by
        obtain⟨a0,a1,a2,a3,-,-,-⟩:=HCE.out W (joinB hs11 h)
        have f4:=hf4.below (joinB hb49 h)
        have f7:=hf7.below (joinB hb79 h)
        have f9:=hf9.below h
        exact⟨h,a0,a1,a2,a3,f4.cell 0,f4.cell 1,f4.cell 2,f7.cell 0,f9.cell 0,f9.cell 1⟩
       have HST9:Hid (∀W,BelW V9 W→StR W W.heap.size (some ⟨gB,0,none⟩) (some ⟨D1,0,none⟩) (some ⟨D2,0,none⟩) ns m m ns m m BS):=Lib.hid fun W h=>hst4.keep (Nat.le_refl _) (joinB hb49 h) (Below.size (joinB hb49 h))
       have HVR9:Hid (∀W,BelW V9 W→VRow W g6 (List.replicate ni 2)):=Lib.hid fun W h=>HVI.out.below (joinB hn9 h)
       have HSO9:Hid (∀W,BelW V9 W→Calls Tryz.prog 23 #[.agg #[.slice none 0 0],.agg #[.slice A0 n c0,.slice A1 n1 c1,.slice A2 m c2,.slice A3 n3 c3]] W fun e w'=>∃A7 c7 Aa1 ca1 Aa2 ca2,e=.returned (.agg #[.slice A7 ns c7,.slice Aa1 m ca1,.slice Aa2 m ca2])∧StR w' w'.heap.size A7 Aa1 Aa2 ns m m c7 ca1 ca2 BS∧BelW W w'):=Lib.hid fun W h=>HSO.out h24 (by trivial) W (joinB hs11 h)
       have HKB9:Hid (∀W,BelW V9 W→Calls Tryz.prog 19 #[.agg #[.slice A0 n c0,.slice A1 n1 c1,.slice A2 m c2,.slice A3 n3 c3],.agg #[.slice (some ⟨gB,0,none⟩) ns ns,.slice (some ⟨D1,0,none⟩) m m,.slice (some ⟨D2,0,none⟩) m m],.slice (some ⟨g6,0,none⟩) ni ni] W fun e w'=>e=.returned (.int .i64 0)∧BelW W w'):=Lib.hid fun W h=>HKB.out h24 (by trivial) W gB D1 D2 g6 (joinB hs11 h) (HST9.out W h) (HVR9.out W h)
       have HLV9:Hid (∀W,BelW V9 W→Calls Tryz.prog 17 #[] W fun e w'=>e=.returned (.bool true)∧BelW W w'):=Lib.hid fun W h=>HLV.out W (joinB hs11 h)
       have HS11:=Lib.hid hs11
       have hsV:BelW V9 V9:=Below.refl _ _
       clear hn7 hf7 hn9 hf9 hf4 hst4 hb79 hb49 hs0 hs2 hs3 hs4 hs5 hs6 hs7 hs8 hs9 hs10 hs11 HB7 HB8 HV7 HV9 HU HU2 HVV HVI
       obtain⟨-,x0,x1,x2,x3,b0',b1',b2',n0',v0',v1'⟩:=HK9.out V9 hsV
       go_region_held3 (fun w'=>BelW V9 w'∧w'.cell? ⟨q,0,none⟩=some (.slice A0 n c0)∧w'.cell? ⟨q,1,none⟩=some (.slice A1 n1 c1)∧w'.cell? ⟨q,2,none⟩=some (.slice A2 m c2)∧w'.cell? ⟨q,3,none⟩=some (.slice A3 n3 c3)∧w'.cell? ⟨u,0,none⟩=some (.slice (some ⟨gB,0,none⟩) ns ns)∧w'.cell? ⟨u,1,none⟩=some (.slice (some ⟨D1,0,none⟩) m m)∧w'.cell? ⟨u,2,none⟩=some (.slice (some ⟨D2,0,none⟩) m m)∧w'.cell? ⟨u2,0,none⟩=some (.slice none 0 0)∧w'.cell? ⟨v,0,none⟩=some (.slice (some ⟨g6,0,none⟩) ni ni)∧w'.cell? ⟨v,1,none⟩=some (.slice (some ⟨h6,0,none⟩) ns ns))
        ((refine HK9.out _ ?_;first|(with_reducible assumption)|(refine BelW.drew ?_;with_reducible assumption)|(exact below_drewN (by with_reducible assumption) _)))
        (first
          |(go_at_call 23;(with_reducible refine Calls.mono (HSO9.out _ ?_) ?_); ·(first|(with_reducible assumption)|(refine BelW.drew ?_;with_reducible assumption)|(exact below_drewN (by with_reducible assumption) _))
            rintro e wa ⟨A7,c7,Aa1,ca1,Aa2,ca2,rfl,hsta,hba⟩
            have HSTA:=Lib.hid hsta
            have hsa:BelW V9 wa:=(by refine BelW.next ?_ hba;first|(with_reducible assumption)|(refine BelW.drew ?_;with_reducible assumption)|(exact below_drewN (by with_reducible assumption) _))
            have HSAM:Hid (∀W,BelW wa W→Calls Tryz.prog 15 #[.agg #[.slice (some ⟨gB,0,none⟩) ns ns,.slice (some ⟨D1,0,none⟩) m m,.slice (some ⟨D2,0,none⟩) m m],.agg #[.slice A7 ns c7,.slice Aa1 m ca1,.slice Aa2 m ca2]] W fun e w'=>e=.returned (.bool true)∧BelW W w'):=Lib.hid fun W h=>HSA.out W _ _ _ _ _ _ _ _ _ _ _ _ (HST9.out W (joinB hsa h)) (HSTA.out.keep (Nat.le_refl _) h (Below.size h))
            have hsaa:BelW wa wa:=Below.refl _ _
            clear hsta)
          |(go_at_call 15;(with_reducible refine Calls.mono (HSAM.out _ ?_) ?_); ·(first|(with_reducible assumption)|(refine BelW.drew ?_;with_reducible assumption)|(exact below_drewN (by with_reducible assumption) _))
            rintro e wc ⟨rfl,hbc⟩
            have hsc:BelW V9 wc:=(by refine BelW.next ?_ hbc;first|(with_reducible assumption)|(refine BelW.drew ?_;with_reducible assumption)|(exact below_drewN (by with_reducible assumption) _)))
          |(go_at_call 19;(with_reducible refine Calls.mono (HKB9.out _ ?_) ?_); ·(first|(with_reducible assumption)|(refine BelW.drew ?_;with_reducible assumption)|(exact below_drewN (by with_reducible assumption) _))
            rintro e wd ⟨rfl,hbd⟩
            have hsd:BelW V9 wd:=(by refine BelW.next ?_ hbd;first|(with_reducible assumption)|(refine BelW.drew ?_;with_reducible assumption)|(exact below_drewN (by with_reducible assumption) _)))
          |(go_at_call 17;(with_reducible refine Calls.mono (HLV9.out _ ?_) ?_); ·(first|(with_reducible assumption)|(refine BelW.drew ?_;with_reducible assumption)|(exact below_drewN (by with_reducible assumption) _))
            rintro e wf ⟨rfl,hbf⟩
            have hsf:BelW V9 wf:=(by refine BelW.next ?_ hbf;first|(with_reducible assumption)|(refine BelW.drew ?_;with_reducible assumption)|(exact below_drewN (by with_reducible assumption) _))))
       go_wp2
       go_ret
       exact⟨rfl,joinB HB1.out (joinB HS11.out hsf)⟩
      ·go_upto_region 18 with (go_at_call 20;(with_reducible refine (HBB.out hz _ hs5).mono ?_);rintro e w6 ⟨rfl,hb⟩;have hs6:BelW W1 w6:=joinB hs5 hb;clear hb;clear x0 x1 x2 x3 y0 y1 y2)
       obtain⟨V5,HV5⟩:=named (w6.alloc (.cells #[.slice none 0 0,.slice none 0 0,.slice none 0 0] 45))
       have hn5:BelW w6 V5:=by rw[HV5.out];exact below_new (Below.refl _ _) _
       have hf5:Fr V5 w6.heap.size 45 [.slice none 0 0,.slice none 0 0,.slice none 0 0]:=by rw[HV5.out];exact Fr.made _ _ _ rfl
       have hs7:BelW W1 V5:=joinB hs6 hn5
       obtain⟨u,HU⟩:=named w6.heap.size
       rw[←HU.out]at hf5
       rw[←HV5.out,←HU.out]
       have HF5:Hid (∀W,BelW V5 W→W.cell? ⟨u,0,none⟩=some (.slice none 0 0)∧W.cell? ⟨u,1,none⟩=some (.slice none 0 0)∧W.cell? ⟨u,2,none⟩=some (.slice none 0 0)):=Lib.hid fun W h=>⟨(hf5.below h).cell 0,(hf5.below h).cell 1,(hf5.below h).cell 2⟩
       clear hn5 hf5 HV5 HU
       obtain⟨x0,x1,x2,x3,y0,y1,y2⟩:=HCE.out V5 hs7
       have q8:(z != 0)=true:=by simpa using hz
       have q9:(z==0)=false:=by simpa using hz
       go_wp2_with (first
        |(go_at_call 21;(with_reducible refine (HRC.out _ hs7).mono ?_);rintro e w7 ⟨rfl,hb⟩;have hs8:BelW W1 w7:=joinB hs7 hb;obtain⟨b0,b1,b2⟩:=HF5.out w7 hb;clear hb;clear x0 x1 x2 x3 y0 y1 y2)
        |(go_at_call 15;(with_reducible refine (HSZ.out _).mono ?_);rintro e w8 ⟨rfl,hb⟩;have hs9:BelW W1 w8:=joinB hs8 hb;clear hb b0 b1 b2)
        |(go_at_call 17;(with_reducible refine (HLV.out _ hs9).mono ?_);rintro e w9 ⟨rfl,hb⟩;have HB9:=Lib.hid (joinB hs9 hb);clear hb))
       go_ret
       exact⟨rfl,joinB HB1.out HB9.out⟩
end Go.Proofs.YtemjmfpcopfdbaaGreatDoor
