/- The texts Nx9. -/
import Derived.Test.YtemjmfpcopfdbaaGreatDoorM26
namespace Go.Proofs.YtemjmfpcopfdbaaGreatDoor
open Go.RowKit
def nvs(nets l:List Int):List Int:=l.map fun x=>lat nets x
noncomputable def nxW (ms:List Mm) (ws:List (List (List Int))) (nets:List Int) (k:Nat):Nat→List Int:=stW (ws.getD k []) (nvs nets (ms.getD k default).addr) (nvs nets (ms.getD k default).data) (lat nets (ms.getD k default).write)
noncomputable def nxR (ms:List Mm) (ws:List (List (List Int))) (nets:List Int) (k:Nat):List Int:=(lkS (ws.getD k []) (nvs nets (ms.getD k default).addr) ((ws.getD k []).getD 0 []).length (ws.getD k []).length).2
structure NxOk(ms:List Mm)(ws:List (List (List Int)))(n:Nat):Prop where
 len:ws.length=ms.length
 ports:∀k,k<ms.length→(∀x∈(ms.getD k default).addr,0≤x∧x<(n:Int))∧(∀x∈(ms.getD k default).data,0≤x∧x<(n:Int))∧0≤(ms.getD k default).write∧(ms.getD k default).write<(n:Int)∧(ms.getD k default).addr.length≤1000∧(ms.getD k default).data.length≤1000
 words:∀k,k<ms.length→0<(ws.getD k []).length∧(ws.getD k []).length≤1000∧∀i,i<(ws.getD k []).length→((ws.getD k []).getD i []).length≤1000
theorem OSt.off{w:World}{D1 D2 L m k1 k2 b:Nat}{nw:Nat→Nat}{fw:Nat→Nat→List Int}{fr:Nat→List Int}{l:List Value}(h:OSt w D1 D2 L m nw fw fr k1 k2)(hf:Fr w b 45 l)(hb:b<L)(j:Nat)(x:Value):OSt (w.setCell ⟨b,j,none⟩ x) D1 D2 L m nw fw fr k1 k2:=by
 obtain⟨⟨vs,a1,a2,a3⟩,⟨us,b1,b2,b3⟩,d1,d2,ne⟩:=h
 exact⟨⟨vs,a1.other (a:=⟨b,j,none⟩) (hf.apart9 a1 (by decide)) _,a2,fun i hi=>by
  obtain⟨D,T,e,s,l⟩:=a3 i hi
  exact⟨D,T,e,s.other (a:=⟨b,j,none⟩) (Nat.lt_of_lt_of_le hb l) _,l⟩⟩,⟨us,b1.other (a:=⟨b,j,none⟩) (hf.apart9 b1 (by decide)) _,b2,fun i hi=>by
  obtain⟨g,e,v⟩:=b3 i hi
  exact⟨g,e,v.other (a:=⟨b,j,none⟩) (hf.apart9 v.fr (by decide)) _⟩⟩,d1,d2,ne⟩
set_option maxRecDepth 100000 in
set_option maxHeartbeats 8000000 in
theorem mnext_any(ms:List Mm)(ws:List (List (List Int)))(nets data:List Int)(A2 As Ad:Option Addr)(v0 v1 v3 v4 v6:Value)(m c2 cs g n md cd:Nat)(w:World)(hM:Ms w w.heap.size (.slice A2 m c2) ms)(hW:Wwss w w.heap.size (.slice As m cs) ws)(hrow:VRow w g nets)(hn:nets.length=n)(hd:Ks w w.heap.size (.slice Ad md cd) data)
 (ok:NxOk ms ws n) (hm1:m≤1000) (hmd:md≤1000000):
 Calls Tryz.prog 40 #[.agg #[v0,v1,.slice A2 m c2,v3,v4,.slice As m cs,v6,.slice (some ⟨g,0,none⟩) n n],.slice Ad md cd] w fun e w'=>∃gd D1 D2,e=.returned (.agg #[.slice (some ⟨gd,0,none⟩) md md,.slice (some ⟨D1,0,none⟩) m m,.slice (some ⟨D2,0,none⟩) m m])∧VRow w' gd (bitsL data md)∧(∃L,w.heap.size≤L∧OSt w' D1 D2 L m (fun k=>(ws.getD k []).length) (nxW ms ws nets) (nxR ms ws nets) m m)∧BelW w w':=by
 obtain⟨A',b0,o0,c',e,hA,-,-,hc⟩:=id hM
 simp only[Value.slice.injEq]at e
 obtain⟨rfl,hml,rfl⟩:=e
 rw[←hml]at hA hc
 have hwl:m=ws.length:=by rw[ok.len,←hml]
 obtain⟨A'',bw0,ow0,c'',e,hAw,-,-,hcw⟩:=id hW
 simp only[Value.slice.injEq]at e
 obtain⟨rfl,-,rfl⟩:=e
 rw[←hwl]at hAw hcw
 obtain⟨W1,HW1⟩:=named ((w.alloc (.cells #[v0,v1,.slice A2 m c2,v3,v4,.slice As m cs,v6,.slice (some ⟨g,0,none⟩) n n] 90)).alloc (.cells #[.slice none 0 0,.slice none 0 0,.slice none 0 0] 45))
 have hb1:BelW w W1:=by rw[HW1.out];exact below_new (below_new (Below.refl _ _) _) _
 have hf1:Fr W1 w.heap.size 90 [v0,v1,.slice A2 m c2,v3,v4,.slice As m cs,v6,.slice (some ⟨g,0,none⟩) n n]:=by rw[HW1.out];exact Fr.alloc (Fr.made _ [v0,v1,.slice A2 m c2,v3,v4,.slice As m cs,v6,.slice (some ⟨g,0,none⟩) n n] _ rfl) _
 have hf2:Fr W1 (w.heap.size+1) 45 [.slice none 0 0,.slice none 0 0,.slice none 0 0]:=by rw[HW1.out];exact Fr.made _ [.slice none 0 0,.slice none 0 0,.slice none 0 0] _ (by simp)
 obtain⟨s,HS⟩:=named w.heap.size
 have HSW:Hid (w.heap.size≤s):=Lib.hid (by rw[HS.out];exact Nat.le_refl _)
 rw[←HS.out]at hf1 hf2
 have HLT:Hid (s+1<W1.heap.size):=Lib.hid hf2.lt
 have HMC:Hid (∀W,BelW W1 W→W.cell? ⟨s,0,none⟩=some (v0)∧W.cell? ⟨s,1,none⟩=some (v1)∧W.cell? ⟨s,2,none⟩=some (.slice A2 m c2)∧W.cell? ⟨s,3,none⟩=some (v3)∧W.cell? ⟨s,4,none⟩=some (v4)∧W.cell? ⟨s,5,none⟩=some (.slice As m cs)∧W.cell? ⟨s,6,none⟩=some (v6)∧W.cell? ⟨s,7,none⟩=some (.slice (some ⟨g,0,none⟩) n n)):=Lib.hid fun W h=>⟨(hf1.below h).cell 0,(hf1.below h).cell 1,(hf1.below h).cell 2,(hf1.below h).cell 3,(hf1.below h).cell 4,(hf1.below h).cell 5,(hf1.below h).cell 6,(hf1.below h).cell 7⟩
 have HF2:Hid (∀W,BelW W1 W→Fr W (s+1) 45 [.slice none 0 0,.slice none 0 0,.slice none 0 0]):=Lib.hid fun W h=>hf2.below h
 have HNR:Hid (∀W,BelW W1 W→VRow W g nets):=Lib.hid fun W h=>hrow.below (joinB hb1 h)
 have HB1:Hid (∀W,BelW W1 W→BelW w W):=Lib.hid fun W h=>joinB hb1 h
 have HBT:Hid (∀W,Below W1.heap.size W1 W→Calls Tryz.prog 86 #[.slice Ad md cd,.int .i64 (md:Int)] W fun e w'=>∃s',e=.returned s'∧∃g,s'=.slice (some ⟨g,0,none⟩) md md∧VRow w' g (bitsL data md)∧W.heap.size≤g∧BelW W w'):=Lib.hid fun W h=>
  (bits_any data Ad md cd md hmd W W.heap.size (Nat.le_refl _) (Arr.keep stays_u8 hd (Below.size (joinB hb1 h)) fun _ hp=>Below.cell (joinB hb1 h) hp)).mono fun e w' ⟨g,h1,h2,h3,h4⟩=>⟨_,h1,g,rfl,h2,h3,h4⟩
 have HMM:Hid (∀k,k<m→∃(Aa Ad2:Option Addr) (ca cd2:Nat),A2=some ⟨b0,o0,none⟩∧∀W,BelW W1 W→W.cell? ⟨b0,o0+k*3,none⟩=some (.slice Aa (ms.getD k default).addr.length ca)∧W.cell? ⟨b0,o0+k*3+1,none⟩=some (.slice Ad2 (ms.getD k default).data.length cd2)∧W.cell? ⟨b0,o0+k*3+2,none⟩=some (.int .i64 (ms.getD k default).write)∧Is W W.heap.size (.slice Aa (ms.getD k default).addr.length ca) (ms.getD k default).addr∧Is W W.heap.size (.slice Ad2 (ms.getD k default).data.length cd2) (ms.getD k default).data):=Lib.hid fun k hk=>by
  obtain⟨hlb,x,y,e0,e1,e2,h4,h5⟩:=hc k hk
  obtain⟨Aa,ba,oa,ca,rfl,-⟩:=id h4
  obtain⟨Ad2,bd,od,cd2,rfl,-⟩:=id h5
  refine⟨Aa,Ad2,ca,cd2,hA (by omega),fun W h=>?_⟩
  have h:=joinB hb1 h
  have hk:∀j,W.cell? ⟨b0,j,none⟩=w.cell? ⟨b0,j,none⟩:=fun j=>Below.cell h (p:=⟨b0,j,none⟩) hlb
  exact⟨by rw[hk];exact e0,by rw[hk];exact e1,by rw[hk];exact e2,(h4.below h).more (Below.size h),(h5.below h).more (Below.size h)⟩
 have HWW:Hid (∀k,k<m→∃(Aw:Option Addr) (cw:Nat),As=some ⟨bw0,ow0,none⟩∧∀W,BelW W1 W→W.cell? ⟨bw0,ow0+k,none⟩=some (.slice Aw (ws.getD k []).length cw)∧Wrds W W.heap.size (.slice Aw (ws.getD k []).length cw) (ws.getD k [])):=Lib.hid fun k hk=>by
  obtain⟨hlb,Aw,cw,h1,h2⟩:=hcw k hk
  rw[Nat.mul_one]at h1
  refine⟨Aw,cw,hAw (by omega),fun W h=>?_⟩
  have h:=joinB hb1 h
  exact⟨(Below.cell h (p:=⟨bw0,ow0+k,none⟩) hlb).trans h1,Arr.keep stays_wds h2 (Below.size h) fun _ hp=>Below.cell h hp⟩
 have HPK:Hid (∀k,k<m→((∀x∈(ms.getD k default).addr,0≤x∧x<(n:Int))∧(∀x∈(ms.getD k default).data,0≤x∧x<(n:Int))∧(∃wi:Nat,(ms.getD k default).write=(wi:Int)∧wi<n)∧(ms.getD k default).addr.length≤1000∧(ms.getD k default).data.length≤1000)∧0<(ws.getD k []).length∧(ws.getD k []).length≤1000∧(∀i,i<(ws.getD k []).length→((ws.getD k []).getD i []).length≤1000)):=Lib.hid fun k hk=>by
  obtain⟨p1,p2,p3,p4,p5,p6⟩:=ok.ports k (by rw[←hml];exact hk)
  obtain⟨wi,hwi⟩:=Int.eq_ofNat_of_zero_le p3
  exact⟨⟨p1,p2,⟨wi,hwi,by omega⟩,p5,p6⟩,ok.words k (by rw[←hml];exact hk)⟩
 have HNL:=Lib.hid hn
 have HNWL:Hid (∀k,k<m→nxW ms ws nets k=stW (ws.getD k []) (nvs nets (ms.getD k default).addr) (nvs nets (ms.getD k default).data) (lat nets (ms.getD k default).write)∧nxR ms ws nets k=(lkS (ws.getD k []) (nvs nets (ms.getD k default).addr) ((ws.getD k []).getD 0 []).length (ws.getD k []).length).2):=Lib.hid fun k _=>⟨rfl,rfl⟩
 clear hM hW hrow hd hb1 hf1 hf2 hml hwl hc hcw hA hAw ok hn
 go_enter Tryz.func40,Tryz.ntmps40
 go_upto_region 1 with (fail)
 rw[←HW1.out,←HS.out]
 refine wp_region_held_drew (S:=fun w'=>Below W1.heap.size W1 w') (by kernel_rfl) (Below.refl _ _).drew (fun hHeld=>?_)
 refine wpAnyH_take (i:=0) (oi:=⟨some 10,_,_,_,_,_⟩) (v:=.slice Ad md cd) rfl (by kernel_rfl) (by kernel_rfl) (by kernel_rfl) (fun _ _ _ h=>h) (Or.inl ⟨by rfl,?_⟩) hHeld ?_
 ·intro w' hSw;have x2:=(HMC.out w' hSw).2.2.1;first|(go_simp;done)|(go_simp;with_reducible rfl)
 simp only[Act.put,List.setIfInBounds_toArray,List.set_cons_zero,List.set_cons_succ]
 refine wpAnyH_take (i:=1) (oi:=⟨some 11,_,_,_,_,_⟩) (v:=.slice Ad md cd) rfl (by kernel_rfl) (by kernel_rfl) (by kernel_rfl) (fun _ _ _ h=>h) (Or.inl ⟨by rfl,?_⟩) hHeld ?_
 ·intro w' hSw;have x2:=(HMC.out w' hSw).2.2.1;first|(go_simp;done)|(go_simp;with_reducible rfl)
 simp only[Act.put,List.setIfInBounds_toArray,List.set_cons_zero,List.set_cons_succ]
 refine wpAnyH_take (i:=2) (oi:=⟨some 12,_,_,_,_,_⟩) (v:=.int .i64 (md:Int)) rfl (by kernel_rfl) (by kernel_rfl) (by kernel_rfl) (fun _ _ _ h=>h) (Or.inl ⟨by rfl,?_⟩) hHeld ?_
 ·intro w' hSw;have x2:=(HMC.out w' hSw).2.2.1;first|(go_simp;done)|(go_simp;with_reducible rfl)
 simp only[Act.put,List.setIfInBounds_toArray,List.set_cons_zero,List.set_cons_succ]
 refine wpAnyH_take (i:=4) (oi:=⟨some 14,_,_,_,_,_⟩) (v:=.pointer (some ⟨s,0,none⟩)) rfl (by kernel_rfl) (by kernel_rfl) (by kernel_rfl) (fun _ _ _ h=>h) (Or.inl ⟨by rfl,?_⟩) hHeld ?_
 ·intro w' hSw;have x2:=(HMC.out w' hSw).2.2.1;first|(go_simp;done)|(go_simp;with_reducible rfl)
 simp only[Act.put,List.setIfInBounds_toArray,List.set_cons_zero,List.set_cons_succ]
 refine wpAnyH_take (i:=5) (oi:=⟨some 15,_,_,_,_,_⟩) (v:=.pointer (some ⟨s,2,none⟩)) rfl (by kernel_rfl) (by kernel_rfl) (by kernel_rfl) (fun _ _ _ h=>h) (Or.inl ⟨by rfl,?_⟩) hHeld ?_
 ·intro w' hSw;have x2:=(HMC.out w' hSw).2.2.1;first|(go_simp;done)|(go_simp;with_reducible rfl)
 simp only[Act.put,List.setIfInBounds_toArray,List.set_cons_zero,List.set_cons_succ]
 refine wpAnyH_take (i:=6) (oi:=⟨some 16,_,_,_,_,_⟩) (v:=.slice A2 m c2) rfl (by kernel_rfl) (by kernel_rfl) (by kernel_rfl) (fun _ _ _ h=>h) (Or.inl ⟨by rfl,?_⟩) hHeld ?_
 ·intro w' hSw;have x2:=(HMC.out w' hSw).2.2.1;first|(go_simp;done)|(go_simp;with_reducible rfl)
 simp only[Act.put,List.setIfInBounds_toArray,List.set_cons_zero,List.set_cons_succ]
 refine wpAnyH_take (i:=7) (oi:=⟨some 17,_,_,_,_,_⟩) (v:=.int .i64 (m:Int)) rfl (by kernel_rfl) (by kernel_rfl) (by kernel_rfl) (fun _ _ _ h=>h) (Or.inl ⟨by rfl,?_⟩) hHeld ?_
 ·intro w' hSw;have x2:=(HMC.out w' hSw).2.2.1;first|(go_simp;done)|(go_simp;with_reducible rfl)
 simp only[Act.put,List.setIfInBounds_toArray,List.set_cons_zero,List.set_cons_succ]
 refine wpAnyH_take (i:=9) (oi:=⟨some 19,_,_,_,_,_⟩) (v:=.pointer (some ⟨s,0,none⟩)) rfl (by kernel_rfl) (by kernel_rfl) (by kernel_rfl) (fun _ _ _ h=>h) (Or.inl ⟨by rfl,?_⟩) hHeld ?_
 ·intro w' hSw;have x2:=(HMC.out w' hSw).2.2.1;first|(go_simp;done)|(go_simp;with_reducible rfl)
 simp only[Act.put,List.setIfInBounds_toArray,List.set_cons_zero,List.set_cons_succ]
 refine wpAnyH_take (i:=10) (oi:=⟨some 20,_,_,_,_,_⟩) (v:=.pointer (some ⟨s,2,none⟩)) rfl (by kernel_rfl) (by kernel_rfl) (by kernel_rfl) (fun _ _ _ h=>h) (Or.inl ⟨by rfl,?_⟩) hHeld ?_
 ·intro w' hSw;have x2:=(HMC.out w' hSw).2.2.1;first|(go_simp;done)|(go_simp;with_reducible rfl)
 simp only[Act.put,List.setIfInBounds_toArray,List.set_cons_zero,List.set_cons_succ]
 refine wpAnyH_take (i:=11) (oi:=⟨some 21,_,_,_,_,_⟩) (v:=.slice A2 m c2) rfl (by kernel_rfl) (by kernel_rfl) (by kernel_rfl) (fun _ _ _ h=>h) (Or.inl ⟨by rfl,?_⟩) hHeld ?_
 ·intro w' hSw;have x2:=(HMC.out w' hSw).2.2.1;first|(go_simp;done)|(go_simp;with_reducible rfl)
 simp only[Act.put,List.setIfInBounds_toArray,List.set_cons_zero,List.set_cons_succ]
 refine wpAnyH_take (i:=12) (oi:=⟨some 22,_,_,_,_,_⟩) (v:=.int .i64 (m:Int)) rfl (by kernel_rfl) (by kernel_rfl) (by kernel_rfl) (fun _ _ _ h=>h) (Or.inl ⟨by rfl,?_⟩) hHeld ?_
 ·intro w' hSw;have x2:=(HMC.out w' hSw).2.2.1;first|(go_simp;done)|(go_simp;with_reducible rfl)
 simp only[Act.put,List.setIfInBounds_toArray,List.set_cons_zero,List.set_cons_succ]
 refine nx_reg (m:=m) (na:=md) (ns:=0) (wb:=W1) (lo:=bitsL data md) (sD:=.slice Ad md cd) _ (by omega) rfl (by kernel_rfl) ⟨_,rfl,rfl,rfl,rfl,by kernel_rfl⟩ ⟨_,rfl,rfl,rfl,rfl,by kernel_rfl⟩ ⟨_,rfl,rfl,rfl,rfl,by kernel_rfl⟩ ⟨_,rfl,rfl,rfl,rfl,by kernel_rfl⟩ ⟨_,rfl,rfl,rfl,rfl,by kernel_rfl⟩ ⟨_,rfl,rfl,rfl,rfl,by kernel_rfl⟩ (Nat.le_of_ble_eq_true (by rfl)) rfl rfl rfl rfl ?_ HBT.out ?_ _ hHeld
 ·rfl
 intro v5 v13 v18 v23 v24 gB D1 D2 gd wx I
 obtain⟨rfl,rfl,rfl,rfl,rfl,hns⟩:=nx_reg_end I (fun k=>(ws.getD k []).length) (nxW ms ws nets) (nxR ms ws nets)
 clear I hHeld
 obtain⟨L,HL⟩:=named wx.heap.size
 rw[←HL.out]at hns
 have HNS:=Lib.hid hns
 obtain⟨-,-,x2,-,-,-,-,-⟩:=HMC.out wx hns.bel
 clear hns
 simp only[Gnx,Act.put,List.setIfInBounds_toArray,List.set_cons_zero,List.set_cons_succ]
 go_wp2
 go_loopw [29] (fun j wr=>∃k:Nat,j=.int .i64 k∧k≤m∧NxS W1 gd gB D1 D2 L m md (bitsL data md) (fun k=>(ws.getD k []).length) (nxW ms ws nets) (nxR ms ws nets) k k wr) (fun j _=>m-(intOf j).toNat)
 case atStart=>exact⟨0,rfl,Nat.zero_le _,HNS.out⟩
 case round=>
  clear HNS x2
  obtain⟨k,rfl,hkm,hns⟩:=hrel
  have HNS:=Lib.hid hns
  have HBW:=Lib.hid hns.bel
  clear hns
  by_cases hk:k<m
  ·have hk2:(k:Int)<(m:Int):=by omega
   obtain⟨Aa,Ad2,ca,cd2,rfl,hmm⟩:=HMM.out k hk
   obtain⟨Aw,cw,rfl,hww⟩:=HWW.out k hk
   obtain⟨⟨p1,p2,⟨wi,hwi,hwn⟩,p5,p6⟩,p7,p8,p9⟩:=HPK.out k hk
   obtain⟨q1,q2⟩:=HNWL.out k hk
   obtain⟨b,rfl⟩:∃z,z=b0:=⟨_,rfl⟩
   obtain⟨o,rfl⟩:∃z,z=o0:=⟨_,rfl⟩
   obtain⟨bw,rfl⟩:∃z,z=bw0:=⟨_,rfl⟩
   obtain⟨ow,rfl⟩:∃z,z=ow0:=⟨_,rfl⟩
   have HVA:Hid (∀W,BelW W1 W→Calls Tryz.prog 85 #[.agg #[v0,v1,.slice (some ⟨b,o,none⟩) m c2,v3,v4,.slice (some ⟨bw,ow,none⟩) m cs,v6,.slice (some ⟨g,0,none⟩) n n],.slice Aa (ms.getD k default).addr.length ca] W fun e w'=>∃g',e=.returned (.slice (some ⟨g',0,none⟩) (ms.getD k default).addr.length (ms.getD k default).addr.length)∧VRow w' g' (nvs nets (ms.getD k default).addr)∧W.heap.size≤g'∧BelW W w'):=Lib.hid fun W h=>mvals_any nets _ v0 v1 _ v3 v4 _ v6 Aa _ ca g n W W.heap.size (Nat.le_refl _) (hmm W h).2.2.2.1 (HNR.out W h) HNL.out p1 (by omega)
   have HVD:Hid (∀W,BelW W1 W→Calls Tryz.prog 85 #[.agg #[v0,v1,.slice (some ⟨b,o,none⟩) m c2,v3,v4,.slice (some ⟨bw,ow,none⟩) m cs,v6,.slice (some ⟨g,0,none⟩) n n],.slice Ad2 (ms.getD k default).data.length cd2] W fun e w'=>∃g',e=.returned (.slice (some ⟨g',0,none⟩) (ms.getD k default).data.length (ms.getD k default).data.length)∧VRow w' g' (nvs nets (ms.getD k default).data)∧W.heap.size≤g'∧BelW W w'):=Lib.hid fun W h=>mvals_any nets _ v0 v1 _ v3 v4 _ v6 Ad2 _ cd2 g n W W.heap.size (Nat.le_refl _) (hmm W h).2.2.2.2 (HNR.out W h) HNL.out p2 (by omega)
   have hla:(nvs nets (ms.getD k default).addr).length=(ms.getD k default).addr.length:=by unfold nvs;rw[List.length_map]
   have hld:(nvs nets (ms.getD k default).data).length=(ms.getD k default).data.length:=by unfold nvs;rw[List.length_map]
   have HLK:Hid (∀W ga,BelW W1 W→VRow W ga (nvs nets (ms.getD k default).addr)→Calls Tryz.prog 57 #[.slice Aw (ws.getD k []).length cw,.slice (some ⟨ga,0,none⟩) (ms.getD k default).addr.length (ms.getD k default).addr.length] W fun e w'=>∃g',e=.returned (.slice (some ⟨g',0,none⟩) (nxR ms ws nets k).length (nxR ms ws nets k).length)∧VRow w' g' (nxR ms ws nets k)∧BelW W w'):=Lib.hid fun W ga h hv=>by
    have hl:(nxR ms ws nets k).length=((ws.getD k []).getD 0 []).length:=by rw[q2,lkS_len]
    have hks:=hv.ks
    rw[hla]at hks
    have:=look_any (ws.getD k []) (nvs nets (ms.getD k default).addr) Aw (some ⟨ga,0,none⟩) (ws.getD k []).length cw (ms.getD k default).addr.length (ms.getD k default).addr.length _ W W.heap.size (Nat.le_refl _) (hww W h).2 hks p8 p7 hl (by have:=p9 0 p7;omega)
    rw[hl]at this
    rw[hl,q2]
    exact this
   have HSO:Hid (∀W ga gdt,BelW W1 W→VRow W ga (nvs nets (ms.getD k default).addr)→VRow W gdt (nvs nets (ms.getD k default).data)→Calls Tryz.prog 58 #[.slice Aw (ws.getD k []).length cw,.slice (some ⟨ga,0,none⟩) (ms.getD k default).addr.length (ms.getD k default).addr.length,.slice (some ⟨gdt,0,none⟩) (ms.getD k default).data.length (ms.getD k default).data.length,.int .u8 (lat nets (ms.getD k default).write)] W fun e w'=>∃D T,e=.returned (.slice (some ⟨D,0,none⟩) (ws.getD k []).length (ws.getD k []).length)∧SRow w' D (nxW ms ws nets k) (ws.getD k []).length (ws.getD k []).length T∧W.heap.size≤D∧BelW W w'):=Lib.hid fun W ga gdt h hv hv2=>by
    have hks:=hv.ks
    rw[hla]at hks
    have hks2:=hv2.ks
    rw[hld]at hks2
    rw[q1]
    exact store_any (ws.getD k []) _ _ _ Aw (some ⟨ga,0,none⟩) (some ⟨gdt,0,none⟩) _ cw _ _ _ _ W W.heap.size (Nat.le_refl _) (hww W h).2 hks hks2 p8 (fun i hi=>by have:=p9 i hi;omega)
   have HCS:Hid (∀W,BelW W1 W→W.cell? ⟨bw,ow+k,none⟩=some (.slice Aw (ws.getD k []).length cw)∧W.cell? ⟨g,wi,none⟩=some (.int .u8 (lat nets (ms.getD k default).write))):=Lib.hid fun W h=>⟨(hww W h).1,by rw[hwi];exact (HNR.out W h).cell (j:=wi) (by rw[HNL.out];exact hwn)⟩
   obtain⟨e0,e1,e2,-,-⟩:=hmm wr HBW.out
   obtain⟨en,HEN⟩:=named (lat nets (ms.getD k default).write)
   rw[←HEN.out]at HCS HSO
   rw[hwi]at e2
   clear hla hld p1 p2 hwi p5 p6 p7 p8 p9 q1 q2 hmm hww
   obtain⟨la,HLA⟩:=named (ms.getD k default).addr.length
   rw[←HLA.out]at e0 HVA HLK HSO
   obtain⟨ld,HLD⟩:=named (ms.getD k default).data.length
   rw[←HLD.out]at e1 HVD HSO
   have HSET1:Hid (∀W D T,NxS W1 gd gB D1 D2 L m md (bitsL data md) (fun k=>(ws.getD k []).length) (nxW ms ws nets) (nxR ms ws nets) k (k+1) W→SRow W D (nxW ms ws nets k) (ws.getD k []).length (ws.getD k []).length T→L≤D→NxS W1 gd gB D1 D2 L m md (bitsL data md) (fun k=>(ws.getD k []).length) (nxW ms ws nets) (nxR ms ws nets) (k+1) (k+1) (W.setCell ⟨D1,k,none⟩ (.slice (some ⟨D,0,none⟩) (ws.getD k []).length (ws.getD k []).length))∧NxS W1 gd gB D1 D2 L m md (bitsL data md) (fun k=>(ws.getD k []).length) (nxW ms ws nets) (nxR ms ws nets) (k+1) (k+1) (W.setCell ⟨D1,k,none⟩ (.slice (some ⟨D,0,none⟩) (ws.getD k []).length (ws.getD k []).length)).drew):=Lib.hid fun W D T h s l=>⟨h.set1 hk s l,(h.set1 hk s l).below (BelW.drew (Below.refl _ _))⟩
   have HSET2:Hid (∀W g',NxS W1 gd gB D1 D2 L m md (bitsL data md) (fun k=>(ws.getD k []).length) (nxW ms ws nets) (nxR ms ws nets) k k W→VRow W g' (nxR ms ws nets k)→NxS W1 gd gB D1 D2 L m md (bitsL data md) (fun k=>(ws.getD k []).length) (nxW ms ws nets) (nxR ms ws nets) k (k+1) (W.setCell ⟨D2,k,none⟩ (.slice (some ⟨g',0,none⟩) (nxR ms ws nets k).length (nxR ms ws nets k).length))∧NxS W1 gd gB D1 D2 L m md (bitsL data md) (fun k=>(ws.getD k []).length) (nxW ms ws nets) (nxR ms ws nets) k (k+1) (W.setCell ⟨D2,k,none⟩ (.slice (some ⟨g',0,none⟩) (nxR ms ws nets k).length (nxR ms ws nets k).length)).drew):=Lib.hid fun W g' h v=>⟨h.set2 hk v,(h.set2 hk v).below (BelW.drew (Below.refl _ _))⟩
   obtain⟨mw,HMW⟩:=named (ws.getD k []).length
   rw[←HMW.out]at HCS HLK HSO HSET1
   obtain⟨nr,HNRR⟩:=named (nxR ms ws nets k).length
   rw[←HNRR.out]at HLK HSET2
   obtain⟨W2,HW2⟩:=named (wr.alloc (.cells #[(.slice Aa la ca),(.slice Ad2 ld cd2),(.int .i64 (wi:Int))] 67))
   have hnew:BelW wr W2:=by rw[HW2.out];exact below_new (Below.refl _ _) _
   have hfv:Fr W2 wr.heap.size 67 [(.slice Aa la ca),(.slice Ad2 ld cd2),(.int .i64 (wi:Int))]:=by rw[HW2.out];exact Fr.made _ [(.slice Aa la ca),(.slice Ad2 ld cd2),(.int .i64 (wi:Int))] _ rfl
   obtain⟨v,HVV⟩:=named wr.heap.size
   have HLV:Hid (L≤v):=Lib.hid (by rw[HVV.out];exact HNS.out.hl)
   rw[←HVV.out]at hfv
   have hb2:BelW W1 W2:=joinB HBW.out hnew
   have HB2:=Lib.hid hb2
   have HN2:=Lib.hid (HNS.out.below hnew)
   have HFV:Hid (∀W,BelW W2 W→W.cell? ⟨v,0,none⟩=some (.slice Aa la ca)∧W.cell? ⟨v,1,none⟩=some (.slice Ad2 ld cd2)∧W.cell? ⟨v,2,none⟩=some (.int .i64 (wi:Int))):=Lib.hid fun W h=>⟨(hfv.below h).cell 0,(hfv.below h).cell 1,(hfv.below h).cell 2⟩
   have HFV2:=Lib.hid hfv
   have HK5:Hid (∀w',BelW W2 w'→BelW W2 w'∧w'.cell? ⟨s,0,none⟩=some (v0)∧w'.cell? ⟨s,1,none⟩=some (v1)∧w'.cell? ⟨s,2,none⟩=some (.slice (some ⟨b,o,none⟩) m c2)∧w'.cell? ⟨s,3,none⟩=some (v3)∧w'.cell? ⟨s,4,none⟩=some (v4)∧w'.cell? ⟨s,5,none⟩=some (.slice (some ⟨bw,ow,none⟩) m cs)∧w'.cell? ⟨s,6,none⟩=some (v6)∧w'.cell? ⟨s,7,none⟩=some (.slice (some ⟨g,0,none⟩) n n)∧w'.cell? ⟨v,0,none⟩=some (.slice Aa la ca)∧w'.cell? ⟨v,1,none⟩=some (.slice Ad2 ld cd2)∧w'.cell? ⟨v,2,none⟩=some (.int .i64 (wi:Int))∧w'.cell? ⟨bw,ow+k,none⟩=some (.slice Aw mw cw)):=Lib.hid fun w' h=>by
    obtain⟨q0,q1,q2,q3,q4,q5,q6,q7⟩:=HMC.out w' (joinB hb2 h)
    obtain⟨y0,y1,y2⟩:=HFV.out w' h
    exact⟨h,q0,q1,q2,q3,q4,q5,q6,q7,y0,y1,y2,(HCS.out w' (joinB hb2 h)).1⟩
   have hs0:BelW W2 W2:=Below.refl _ _
   obtain⟨x0,x1,x2,x3,x4,x5,x6,x7⟩:=HMC.out wr HBW.out
   clear hnew hfv hb2
   go_upto_region 5 with (fail)
   rw[←HW2.out,←HVV.out]
   clear e0 e1 e2 x0 x1 x2 x3 x4 x5 x6 x7
   go_region_held3 (fun w'=>BelW W2 w'∧w'.cell? ⟨s,0,none⟩=some (v0)∧w'.cell? ⟨s,1,none⟩=some (v1)∧w'.cell? ⟨s,2,none⟩=some (.slice (some ⟨b,o,none⟩) m c2)∧w'.cell? ⟨s,3,none⟩=some (v3)∧w'.cell? ⟨s,4,none⟩=some (v4)∧w'.cell? ⟨s,5,none⟩=some (.slice (some ⟨bw,ow,none⟩) m cs)∧w'.cell? ⟨s,6,none⟩=some (v6)∧w'.cell? ⟨s,7,none⟩=some (.slice (some ⟨g,0,none⟩) n n)∧w'.cell? ⟨v,0,none⟩=some (.slice Aa la ca)∧w'.cell? ⟨v,1,none⟩=some (.slice Ad2 ld cd2)∧w'.cell? ⟨v,2,none⟩=some (.int .i64 (wi:Int))∧w'.cell? ⟨bw,ow+k,none⟩=some (.slice Aw mw cw))
    ((refine HK5.out _ ?_;with_reducible repeat (first|assumption|refine BelW.drew ?_|refine BelW.alloc ?_ _)))
    ((go_at_call 85;(refine Calls.mono (HVA.out _ (BelW.trans HB2.out (by with_reducible repeat (first|assumption|refine BelW.drew ?_|refine BelW.alloc ?_ _)))) ?_)
      rintro e w3 ⟨ga,rfl,hva,-,hb3⟩
      have hk3:BelW W2 w3:=BelW.trans (by with_reducible repeat (first|assumption|refine BelW.drew ?_|refine BelW.alloc ?_ _)) hb3))
   have HK3:=Lib.hid hk3
   have HV3:=Lib.hid hva
   have HN3:=Lib.hid (HN2.out.below hk3)
   have hb3':BelW W1 w3:=joinB HB2.out hk3
   have HB3:=Lib.hid hb3'
   have HK6:Hid (∀w',BelW w3 w'→BelW W1 w'∧w'.cell? ⟨gd,2,none⟩=some (.slice (some ⟨D2,0,none⟩) m m)):=Lib.hid fun w' h=>⟨joinB hb3' h,((HN3.out.below h).cells).2.2⟩
   have HK6S:Hid (∀W,BelW w3 W→∀x,BelW W1 (W.setCell ⟨D2,k,none⟩ x)∧(W.setCell ⟨D2,k,none⟩ x).cell? ⟨gd,2,none⟩=some (.slice (some ⟨D2,0,none⟩) m m)):=Lib.hid fun W h x=>by
    have hn:=HN3.out.below h
    obtain⟨vs,a1,-⟩:=hn.st.r2
    exact⟨hn.bel.setCell hn.n2 _,(hn.box.other (a:=⟨D2,k,none⟩) (a1.apart9 hn.box (by decide)) x).cell 2⟩
   have hs3:BelW w3 w3:=Below.refl _ _
   clear hva hk3 hb3 hb3' hs0
   go_upto_region 6 with (fail)
   go_region_held3 (fun w'=>BelW W1 w'∧w'.cell? ⟨gd,2,none⟩=some (.slice (some ⟨D2,0,none⟩) m m))
    ((first|(with_reducible exact h6 _)|(refine HK6.out _ ?_;with_reducible repeat (first|assumption|refine BelW.drew ?_|refine BelW.alloc ?_ _))))
    ((go_at_call 57;(refine Calls.mono (HLK.out _ ga (BelW.trans HB3.out (by with_reducible repeat (first|assumption|refine BelW.drew ?_|refine BelW.alloc ?_ _))) (HV3.out.below (BelW.drew (Below.refl _ _)))) ?_)
      rintro e w4 ⟨gr,rfl,hvr,hb4⟩
      have hk4:BelW w3 w4:=BelW.trans (by with_reducible repeat (first|assumption|refine BelW.drew ?_|refine BelW.alloc ?_ _)) hb4
      have h6:=HK6S.out w4 hk4
      have hn4:=HN3.out.below hk4
      obtain⟨-,u4,hu4⟩:=hn4.st.there hk
      have hf4:=(hn4.st.frozen k).2))
   obtain⟨W5,HW5⟩:=named (w4.setCell ⟨D2,k,none⟩ (.slice (some ⟨gr,0,none⟩) nr nr))
   rw[←HW5.out]
   have hn5:=(HSET2.out w4 gr (HN3.out.below hk4) hvr).1
   rw[←HW5.out]at hn5
   have hv5:VRow W5 ga (nvs nets (ms.getD k default).addr):=by
    obtain⟨vs,a1,-⟩:=hn4.st.r2
    rw[HW5.out]
    exact (HV3.out.below hk4).other (a:=⟨D2,k,none⟩) (a1.apart9 (HV3.out.below hk4).fr (by decide)) _
   have hfv5:Fr W5 v 67 [(.slice Aa la ca),(.slice Ad2 ld cd2),(.int .i64 (wi:Int))]:=by
    obtain⟨vs,a1,-⟩:=hn4.st.r2
    have hf:=HFV2.out.below (joinB HK3.out hk4)
    rw[HW5.out]
    exact hf.other (a:=⟨D2,k,none⟩) (a1.apart9 hf (by decide)) _
   have hb5:=hn5.bel
   have HN5:=Lib.hid hn5
   have HV5:=Lib.hid hv5
   have HB5:=Lib.hid hb5
   have HK7:Hid (∀w',BelW W5 w'→BelW W1 w'∧w'.cell? ⟨gd,1,none⟩=some (.slice (some ⟨D1,0,none⟩) m m)∧w'.cell? ⟨s,0,none⟩=some (v0)∧w'.cell? ⟨s,1,none⟩=some (v1)∧w'.cell? ⟨s,2,none⟩=some (.slice (some ⟨b,o,none⟩) m c2)∧w'.cell? ⟨s,3,none⟩=some (v3)∧w'.cell? ⟨s,4,none⟩=some (v4)∧w'.cell? ⟨s,5,none⟩=some (.slice (some ⟨bw,ow,none⟩) m cs)∧w'.cell? ⟨s,6,none⟩=some (v6)∧w'.cell? ⟨s,7,none⟩=some (.slice (some ⟨g,0,none⟩) n n)∧w'.cell? ⟨v,0,none⟩=some (.slice Aa la ca)∧w'.cell? ⟨v,1,none⟩=some (.slice Ad2 ld cd2)∧w'.cell? ⟨v,2,none⟩=some (.int .i64 (wi:Int))∧w'.cell? ⟨g,wi,none⟩=some (.int .u8 en)):=Lib.hid fun w' h=>by
    obtain⟨q0,q1,q2,q3,q4,q5,q6,q7⟩:=HMC.out w' (joinB hb5 h)
    exact⟨joinB hb5 h,((HN5.out.below h).cells).2.1,q0,q1,q2,q3,q4,q5,q6,q7,(hfv5.below h).cell 0,(hfv5.below h).cell 1,(hfv5.below h).cell 2,(HCS.out w' (joinB hb5 h)).2⟩
   have HK7S:Hid (∀W,BelW W5 W→∀x,BelW W1 (W.setCell ⟨D1,k,none⟩ x)∧(W.setCell ⟨D1,k,none⟩ x).cell? ⟨gd,1,none⟩=some (.slice (some ⟨D1,0,none⟩) m m)∧(W.setCell ⟨D1,k,none⟩ x).cell? ⟨s,0,none⟩=some (v0)∧(W.setCell ⟨D1,k,none⟩ x).cell? ⟨s,1,none⟩=some (v1)∧(W.setCell ⟨D1,k,none⟩ x).cell? ⟨s,2,none⟩=some (.slice (some ⟨b,o,none⟩) m c2)∧(W.setCell ⟨D1,k,none⟩ x).cell? ⟨s,3,none⟩=some (v3)∧(W.setCell ⟨D1,k,none⟩ x).cell? ⟨s,4,none⟩=some (v4)∧(W.setCell ⟨D1,k,none⟩ x).cell? ⟨s,5,none⟩=some (.slice (some ⟨bw,ow,none⟩) m cs)∧(W.setCell ⟨D1,k,none⟩ x).cell? ⟨s,6,none⟩=some (v6)∧(W.setCell ⟨D1,k,none⟩ x).cell? ⟨s,7,none⟩=some (.slice (some ⟨g,0,none⟩) n n)∧(W.setCell ⟨D1,k,none⟩ x).cell? ⟨v,0,none⟩=some (.slice Aa la ca)∧(W.setCell ⟨D1,k,none⟩ x).cell? ⟨v,1,none⟩=some (.slice Ad2 ld cd2)∧(W.setCell ⟨D1,k,none⟩ x).cell? ⟨v,2,none⟩=some (.int .i64 (wi:Int))∧(W.setCell ⟨D1,k,none⟩ x).cell? ⟨g,wi,none⟩=some (.int .u8 en)):=Lib.hid fun W h x=>by
    have hn:=HN5.out.below h
    obtain⟨vs,a1,-⟩:=hn.st.r1
    have hbx:BelW W1 (W.setCell ⟨D1,k,none⟩ x):=hn.bel.setCell hn.n1 _
    obtain⟨q0,q1,q2,q3,q4,q5,q6,q7⟩:=HMC.out _ hbx
    have hfx:=(hfv5.below h).other (a:=⟨D1,k,none⟩) (a1.apart9 (hfv5.below h) (by decide)) x
    exact⟨hbx,(hn.box.other (a:=⟨D1,k,none⟩) (a1.apart9 hn.box (by decide)) x).cell 1,q0,q1,q2,q3,q4,q5,q6,q7,hfx.cell 0,hfx.cell 1,hfx.cell 2,(HCS.out _ hbx).2⟩
   have hs5:BelW W5 W5:=Below.refl _ _
   have hwn2:(wi:Int)<(n:Int):=by omega
   clear hvr hb4 hk4 h6 hn4 hu4 hf4 hs3 hn5 hv5 hfv5 hb5
   go_upto_region 7 with (fail)
   go_region_held3 (fun w'=>BelW W1 w'∧w'.cell? ⟨gd,1,none⟩=some (.slice (some ⟨D1,0,none⟩) m m)∧w'.cell? ⟨s,0,none⟩=some (v0)∧w'.cell? ⟨s,1,none⟩=some (v1)∧w'.cell? ⟨s,2,none⟩=some (.slice (some ⟨b,o,none⟩) m c2)∧w'.cell? ⟨s,3,none⟩=some (v3)∧w'.cell? ⟨s,4,none⟩=some (v4)∧w'.cell? ⟨s,5,none⟩=some (.slice (some ⟨bw,ow,none⟩) m cs)∧w'.cell? ⟨s,6,none⟩=some (v6)∧w'.cell? ⟨s,7,none⟩=some (.slice (some ⟨g,0,none⟩) n n)∧w'.cell? ⟨v,0,none⟩=some (.slice Aa la ca)∧w'.cell? ⟨v,1,none⟩=some (.slice Ad2 ld cd2)∧w'.cell? ⟨v,2,none⟩=some (.int .i64 (wi:Int))∧w'.cell? ⟨g,wi,none⟩=some (.int .u8 en))
    ((first|(with_reducible exact h7 _)|(refine HK7.out _ ?_;with_reducible repeat (first|assumption|refine BelW.drew ?_|refine BelW.alloc ?_ _))))
    ((first
      |(go_at_call 85;(refine Calls.mono (HVD.out _ (BelW.trans HB5.out (by with_reducible repeat (first|assumption|refine BelW.drew ?_|refine BelW.alloc ?_ _)))) ?_)
        rintro e w6 ⟨gdt,rfl,hvd,-,hb6⟩
        have hk6:BelW W5 w6:=BelW.trans (by with_reducible repeat (first|assumption|refine BelW.drew ?_|refine BelW.alloc ?_ _)) hb6
        have hk6b:BelW W1 w6:=joinB HB5.out hk6
        have hv6:=HV5.out.below hk6)
      |(go_at_call 58;(with_reducible refine Calls.mono (HSO.out _ ga gdt hk6b hv6 hvd) ?_)
        rintro e w7 ⟨D,T,rfl,hsr,hge,hb7⟩
        have hk7:BelW W5 w7:=BelW.trans hk6 hb7
        have h7:=HK7S.out w7 hk7
        have hn7:=HN5.out.below hk7
        have hLD:=Nat.le_trans (HN5.out.below hk6).hl hge
        obtain⟨⟨u7,hu7⟩,-⟩:=hn7.st.there hk
        have hf7:=(hn7.st.frozen k).1)))
   have HRR:=Lib.hid (HSET1.out w7 D T hn7 hsr hLD)
   clear hsr hge hb7 hk7 h7 hn7 hLD hu7 hf7 hvd hb6 hk6 hk6b hv6 hs5
   go_wp2
   go_roundw
   case rel=>exact⟨k+1,by go_num,by omega,by first|exact HRR.out.1|exact HRR.out.2⟩
   case measure=>simp[intOf];omega
  ·obtain rfl:m=k:=by omega
   have hf:=HF2.out wr HBW.out
   have hq:=((hf.set 0 (.slice (some ⟨gB,0,none⟩) md md)).set 1 (.slice (some ⟨D1,0,none⟩) m m)).set 2 (.slice (some ⟨D2,0,none⟩) m m)
   have HQ:=Lib.hid hq
   have hns:=HNS.out
   have hlt:=HLT.out
   have hnd:=hns.nd
   have hld:=hns.ld
   have hst:=((hns.st.off hf (by omega) 0 (.slice (some ⟨gB,0,none⟩) md md)).off (hf.set 0 _) (by omega) 1 (.slice (some ⟨D1,0,none⟩) m m)).off ((hf.set 0 _).set 1 _) (by omega) 2 (.slice (some ⟨D2,0,none⟩) m m)
   have hrw:=((hns.row.other (a:=⟨s+1,0,none⟩) (hf.apart9 hns.row.fr (by decide)) (.slice (some ⟨gB,0,none⟩) md md)).other (a:=⟨s+1,1,none⟩) (hf.apart9 hns.row.fr (by decide)) (.slice (some ⟨D1,0,none⟩) m m)).other (a:=⟨s+1,2,none⟩) (hf.apart9 hns.row.fr (by decide)) (.slice (some ⟨D2,0,none⟩) m m)
   have hsw:=HSW.out
   have hbb:=(((HB1.out wr HBW.out).setCell (p:=⟨s+1,0,none⟩) (by show w.heap.size≤s+1;omega) (.slice (some ⟨gB,0,none⟩) md md)).setCell (p:=⟨s+1,1,none⟩) (by show w.heap.size≤s+1;omega) (.slice (some ⟨D1,0,none⟩) m m)).setCell (p:=⟨s+1,2,none⟩) (by show w.heap.size≤s+1;omega) (.slice (some ⟨D2,0,none⟩) m m)
   have HFIN:=Lib.hid (And.intro hrw (And.intro hst hbb))
   obtain⟨g0,g1,g2⟩:=hns.cells
   have r0:=hf.cell 0
   have r1:=hf.cell 1
   have r2:=hf.cell 2
   have f0:=hf.frozen 0
   have f1:=hf.frozen 1
   have f2:=hf.frozen 2
   clear hf hq hns hlt hnd hld hst hrw hsw hbb
   go_wp2
   (try simp only[Exit.inBlock,Exit.then])
   refine bodyPost_ret (results_cell_row rfl _ _ _ _ _ _ _ rfl HQ.out Tryz.underlying45 rfl (by kernel_rfl)) rfl ?_
   exact⟨gB,D1,D2,rfl,HFIN.out.1,⟨L,by have:=HSW.out;have:=HLT.out;have:=HNS.out.nd;have:=HNS.out.ld;omega,HFIN.out.2.1⟩,HFIN.out.2.2⟩
end Go.Proofs.YtemjmfpcopfdbaaGreatDoor
