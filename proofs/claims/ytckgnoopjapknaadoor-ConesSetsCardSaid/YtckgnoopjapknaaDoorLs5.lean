import Derived.Test.YtckgnoopjapknaaDoorM41
import Derived.Test.YtckgnoopjapknaaDoorM35
import Derived.Test.YtckgnoopjapknaaDoorLb5
import Derived.Test.YtckgnoopjapknaaDoorM22
import Derived.Test.YtckgnoopjapknaaDoorM37
namespace Go.Proofs.YtckgnoopjapknaaDoor
open Go.RowKit
set_option maxRecDepth 100000 in
set_option maxHeartbeats 8000000 in
theorem lawSt(x:Cx)(hx:Cok x)(sG sA:Value)(z0 z1:Int)(hz0:U8 z0)(hz1:U8 z1)(w:World)(hT:Tabs w)(hG:Gs w w.heap.size sG x.gates)(hA:Ks w w.heap.size sA x.outs):
 Calls Tryd.prog 4 #[.agg #[.int .u8 x.inN,.int .u8 x.dffs,.int .u8 x.d0,.int .u8 x.d1,.bool x.bus,.bool x.mem,.int .u8 x.p0,.int .u8 x.p1,.int .u8 x.p2,.int .u8 x.p3,sG,sA],.agg #[.int .u8 z0,.int .u8 z1]] w fun e w'=>e=.returned (.bool true)∧Below w.heap.size w w':=by
 have hz0b:=hz0
 have hz1b:=hz1
 unfold U8 at hz0b hz1b
 obtain⟨za,rfl⟩:∃zn:Nat,z0=(zn:Int):=⟨z0.toNat,by omega⟩
 obtain⟨zb,rfl⟩:∃zn:Nat,z1=(zn:Int):=⟨z1.toNat,by omega⟩
 clear hz0 hz1
 obtain⟨L,V0⟩:=vld_c x hx
 have hz:=sizeN_le x
 obtain⟨W2,HW2⟩:=named ((w.alloc (.cells #[.int .u8 x.inN,.int .u8 x.dffs,.int .u8 x.d0,.int .u8 x.d1,.bool x.bus,.bool x.mem,.int .u8 x.p0,.int .u8 x.p1,.int .u8 x.p2,.int .u8 x.p3,sG,sA] 49)).alloc (.cells #[.int .u8 (za:Int),.int .u8 (zb:Int)] 44))
 have hb2:BelW w W2:=by rw[HW2.out];exact joinB (below_new (Below.refl _ _) _) (below_new (Below.refl _ _) _)
 have hfz:Fr W2 (w.heap.size+1) 44 [.int .u8 (za:Int),.int .u8 (zb:Int)]:=by rw[HW2.out];exact Fr.made _ _ _ (Array.size_push _).symm
 have HG2:Gs W2 W2.heap.size sG x.gates:=Arr.keep stays_g hG (Below.size hb2) fun _ hp=>Below.cell hb2 hp
 have HA2:Ks W2 W2.heap.size sA x.outs:=Arr.keep stays_u8 hA (Below.size hb2) fun _ hp=>Below.cell hb2 hp
 have HT2:Tabs W2:=hT.below hb2
 have HOF:Hid (∀n,n=sizeN x→Calls Tryd.prog 24 #[.agg #[.int .u8 x.inN,.int .u8 x.dffs,.int .u8 x.d0,.int .u8 x.d1,.bool x.bus,.bool x.mem,.int .u8 x.p0,.int .u8 x.p1,.int .u8 x.p2,.int .u8 x.p3,sG,sA]] W2
  fun e w'=>∃A0 A1 A2 A3 n1 n2 n3 c0 c1 c2 c3,e=.returned (.agg #[.slice A0 n c0,.slice A1 n1 c1,.slice A2 n2 c2,.slice A3 n3 c3])∧Below W2.heap.size W2 w'∧
   LC (ofC x) W2 w'.heap.size A0 A1 A2 A3 n n1 n2 n3 c0 c1 c2 c3 (w'.alloc (.cells #[.slice A0 n c0,.slice A1 n1 c1,.slice A2 n2 c2,.slice A3 n3 c3] 27))):=
  Lib.hid fun n hn=>ofc_c x hx HT2 HG2 HA2 (Below.refl _ _) hn
 have HB02:Hid (BelW w W2):=Lib.hid hb2
 clear hT hG hA hx HG2 HA2 HT2 hb2
 obtain⟨n,HN⟩:=named (sizeN x)
 rw[←HN.out]at V0 hz
 obtain⟨c,HC0⟩:=named (ofC x)
 rw[←HC0.out]at V0
 have HV:=Lib.hid V0
 have HG:Hid (G5 c n L):=Lib.hid ⟨V0.ok,V0.lvl,V0.len.symm,by have:=V0.few;omega⟩
 have hn1:0<n:=hz.1
 have hn20:n<20:=V0.few
 clear V0 hz
 have HOBL:Hid ((obsN c).length≤1000000000):=Lib.hid HG.out.obl
 obtain⟨ya,HYA⟩:=named (za%n)
 obtain⟨yb,HYB⟩:=named (zb%n)
 have hya:ya<n:=by rw[HYA.out];exact Nat.mod_lt _ (by omega)
 have hyb:yb<n:=by rw[HYB.out];exact Nat.mod_lt _ (by omega)
 have HMA:Hid ((za:Int)%(n:Int)=(ya:Int)):=Lib.hid (by rw[HYA.out];rfl)
 have HMB:Hid ((zb:Int)%(n:Int)=(yb:Int)):=Lib.hid (by rw[HYB.out];rfl)
 clear HYA HYB
 have HFZ:=Lib.hid hfz
 clear hfz
 go_enter Tryd.func4,Tryd.ntmps4
 go_upto_region 2 with (go_at_call 24;rw[←HW2.out];(with_reducible refine (HOF.out n HN.out).mono ?_);rintro e w1 ⟨A0,A1,A2,A3,n1,n2,n3,c0,c1,c2,c3,rfl,hb,hl⟩;rw[←HC0.out]at hl;have HL0:=Lib.hid hl;clear hb hl)
 obtain⟨W1,HW1⟩:=named (w1.alloc (.cells #[.slice A0 n c0,.slice A1 n1 c1,.slice A2 n2 c2,.slice A3 n3 c3] 27))
 rw[←HW1.out]at HL0
 rw[←HW1.out]
 obtain⟨q,HQ⟩:=named w1.heap.size
 rw[←HQ.out]at HL0
 rw[←HQ.out]
 have HFZ1:Hid (Fr W1 (w.heap.size+1) 44 [.int .u8 (za:Int),.int .u8 (zb:Int)]):=Lib.hid (HFZ.out.below HL0.out.bel)
 obtain⟨qz,HQZ⟩:=named (w.heap.size+1)
 rw[←HQZ.out]at HFZ1
 rw[←HQZ.out]
 clear HW1 HQ HOF HFZ HW2
 have HCE:Hid (∀W,BelW W1 W→W.cell? ⟨q,0,none⟩=some (.slice A0 n c0)∧W.cell? ⟨q,1,none⟩=some (.slice A1 n1 c1)∧W.cell? ⟨q,2,none⟩=some (.slice A2 n2 c2)∧W.cell? ⟨q,3,none⟩=some (.slice A3 n3 c3)):=Lib.hid fun W h=>(HL0.out.next h).cells
 have HC:Hid (∀W,BelW W1 W→Tabs W∧Cir W W.heap.size (.agg #[.slice A0 n c0,.slice A1 n1 c1,.slice A2 n2 c2,.slice A3 n3 c3]) c):=Lib.hid fun W h=>⟨(HL0.out.next h).tabs,(HL0.out.next h).all⟩
 have HW0:Hid (Below w.heap.size w W1):=Lib.hid (joinB HB02.out HL0.out.bel)
 have HLV:Hid (∀W,BelW W1 W→Calls Tryd.prog 11 #[] W fun e w'=>e=.returned (.bool true)∧BelW W w'):=Lib.hid fun W h=>lives5_any W (HC.out W h).1
 have HPT:Hid (∀W,BelW W1 W→PtsC c (.agg #[.slice A0 n c0,.slice A1 n1 c1,.slice A2 n2 c2,.slice A3 n3 c3]) n W):=Lib.hid fun W h V hv=>refpts_any c A0 A1 A2 A3 n n1 n2 n3 c0 c1 c2 c3 V (HC.out V (joinB h hv)).2 (by omega) HOBL.out
 obtain⟨x0,x1,x2,x3⟩:=HCE.out W1 (Below.refl _ _)
 have z0:=HFZ1.out.cell 0
 have z1:=HFZ1.out.cell 1
 simp only[List.getElem?_cons_zero,List.getElem?_cons_succ]at z0 z1
 go_upto_region 4 with (fail)
 rw[HMA.out,HMB.out]
 clear z0 z1
 have HRE:Hid (∀W,BelW W1 W→∀f:Nat,f<n→Calls Tryd.prog 25 #[.agg #[.slice A0 n c0,.slice A1 n1 c1,.slice A2 n2 c2,.slice A3 n3 c3],.int .i64 (f:Int),.int .i64 (-1)] W fun e w'=>∃g R,e=.returned (.slice (some ⟨g,0,none⟩) n n)∧BRow w' g R∧R.length=n∧(∀j:Nat,bat R j=true↔Rr (rdL c.nodes) [(f:Int)] (j:Int))∧BelW W w'):=Lib.hid fun W h f hf=>by
  refine (reach5_any c L A0 A1 A2 A3 n n1 n2 n3 c0 c1 c2 c3 W (HC.out W h).2 f (-1) hf (by omega) HG.out.hl0 HG.out.hl1 HG.out.hl2).mono fun e w' ⟨g,R,h1,h2,h3,h4,h5⟩=>?_
  exact⟨g,R,h1,h2,h3,fun j=>(h4 j).trans (rv_rr ⟨by omega,by omega⟩ HG.out.inr'),h5⟩
 have HFI:=Lib.hid (fun(W:World) (h:BelW W1 W) (s:Value) (l:List Int) hs hl=>fanin_g HG.out W (HC.out W h).1 (HC.out W h).2 s l hs hl)
 have HFO:=Lib.hid (fun(W:World) (h:BelW W1 W) (s:Value) (l:List Int) hs hl=>fanout_g HG.out W (HC.out W h).1 (HC.out W h).2 s l hs hl)
 have HR1:=Lib.hid (HRE.out W1 (Below.refl _ _) ya hya)
 go_upto_region 5 with (go_at_call 25;(with_reducible refine HR1.out.mono ?_);rintro e w2 ⟨g1,R1,rfl,h1,h2,h3,h4⟩;have HO1:=Lib.hid h1;have HL1:=Lib.hid h2;have HI1:=Lib.hid h3;have HB2:Hid (BelW W1 w2):=Lib.hid h4;clear h1 h2 h3 h4 x0 x1 x2 x3)
 obtain⟨x0,x1,x2,x3⟩:=HCE.out w2 HB2.out
 have HR2:=Lib.hid (HRE.out w2 HB2.out yb hyb)
 go_upto_region 6 with (go_at_call 25;(with_reducible refine HR2.out.mono ?_);rintro e w3 ⟨g2,R2,rfl,h1,h2,h3,h4⟩;have HO2:=Lib.hid h1;have HL2:=Lib.hid h2;have HI2:=Lib.hid h3;have HB23:Hid (BelW w2 w3):=Lib.hid h4;clear h1 h2 h3 h4 x0 x1 x2 x3)
 have HB3:Hid (BelW W1 w3):=Lib.hid (joinB HB2.out HB23.out)
 obtain⟨x0,x1,x2,x3⟩:=HCE.out w3 HB3.out
 have HYA:Hid (Inr n [(ya:Int)]):=Lib.hid fun x hx=>by obtain rfl:=List.mem_singleton.1 hx;exact⟨by omega,by omega⟩
 have HAL:Hid (∀(W:World) (l:List Int),BelW W (W.alloc (.cells (l.map (Value.int .i64)).toArray 3))):=Lib.hid fun W l=>below_new (Below.refl _ _) _
 have HIM:Hid (∀(W:World) (l:List Int),l.length≤100→Is (W.alloc (.cells (l.map (Value.int .i64)).toArray 3)) (W.alloc (.cells (l.map (Value.int .i64)).toArray 3)).heap.size (.slice (some ⟨W.heap.size,0,none⟩) l.length l.length) l):=Lib.hid fun W l hl=>fr_is (Fr.made _ _ _ rfl) (by unfold maxLen;omega)
 have HHA:=Lib.hid (HFO.out _ (joinB HB3.out (HAL.out w3 [(ya:Int)])) _ _ (HIM.out w3 [(ya:Int)] (by simp)) HYA.out)
 simp only[List.map_cons,List.map_nil,List.length_cons,List.length_nil,Nat.zero_add,Nat.reduceAdd]at HHA
 go_upto_region 7 with (go_at_call 15;(with_reducible refine HHA.out.mono ?_);rintro e w4 ⟨Aa,Ra,hv,rfl,h1,h2⟩;have HVA:=Lib.hid hv;have HIA:=Lib.hid h1;have HB34:Hid (BelW w3 w4):=Lib.hid (joinB (HAL.out w3 [(ya:Int)]) h2);clear hv h1 h2 x0 x1 x2 x3 HHA)
 have HB4:Hid (BelW W1 w4):=Lib.hid (joinB HB3.out HB34.out)
 obtain⟨x0,x1,x2,x3⟩:=HCE.out w4 HB4.out
 have HYB:Hid (Inr n [(ya:Int),(yb:Int),(ya:Int)]):=Lib.hid fun x hx=>by
  simp only[List.mem_cons,List.not_mem_nil,or_false]at hx
  rcases hx with rfl|rfl|rfl<;>exact⟨by omega,by omega⟩
 have HHB:=Lib.hid (HFO.out _ (joinB HB4.out (HAL.out w4 [(ya:Int),(yb:Int),(ya:Int)])) _ _ (HIM.out w4 [(ya:Int),(yb:Int),(ya:Int)] (by simp)) HYB.out)
 simp only[List.map_cons,List.map_nil,List.length_cons,List.length_nil,Nat.zero_add,Nat.reduceAdd]at HHB
 go_upto_region 8 with (go_at_call 15;(with_reducible refine HHB.out.mono ?_);rintro e w5 ⟨Ab,Rb,hv,rfl,h1,h2⟩;have HVB:=Lib.hid hv;have HIB:=Lib.hid h1;have HB45:Hid (BelW w4 w5):=Lib.hid (joinB (HAL.out w4 [(ya:Int),(yb:Int),(ya:Int)]) h2);clear hv h1 h2 x0 x1 x2 x3 HHB)
 have HB5:Hid (BelW W1 w5):=Lib.hid (joinB HB4.out HB45.out)
 obtain⟨x0,x1,x2,x3⟩:=HCE.out w5 HB5.out
 have HHN:=Lib.hid (HFI.out _ HB5.out (.slice none 0 0) [] (Is.nil0 _ _) (fun x hx=>by cases hx))
 go_upto_region 9 with (go_at_call 14;(with_reducible refine HHN.out.mono ?_);rintro e w6 ⟨An,Rn,hv,rfl,-,h2⟩;have HVN:=Lib.hid hv;have HB56:Hid (BelW w5 w6):=Lib.hid h2;clear hv h2 x0 x1 x2 x3 HHN)
 have HB6:Hid (BelW W1 w6):=Lib.hid (joinB HB5.out HB56.out)
 have hne:memB Rn n=[]:=by
  apply List.eq_nil_iff_forall_not_mem.2
  intro d hd
  obtain⟨j,-,rfl,hb⟩:=mem_memB.1 hd
  have h:=(HVN.out.all j).1 hb
  obtain⟨y,hy,-⟩:=rr_one h
  cases hy
 rw[hne,List.length_nil]
 clear hne HVN
 obtain⟨LA,HLA⟩:=named (memB Ra n)
 obtain⟨LB,HLB⟩:=named (memB Rb n)
 rw[←HLA.out]at HIA
 rw[←HLA.out]
 rw[←HLB.out]at HIB
 rw[←HLB.out]
 obtain⟨la,Hla⟩:=named LA.length
 obtain⟨lb,Hlb⟩:=named LB.length
 rw[←Hla.out]at HIA
 rw[←Hla.out]
 rw[←Hlb.out]at HIB
 rw[←Hlb.out]
 obtain⟨g3,HG3⟩:=named w6.heap.size
 have HG32:=Lib.hid HG3.out
 obtain⟨i0,hi,hz0,hz1',hz2⟩:=info_parts info_bool
 have HI:=Lib.hid (And.intro hi (And.intro hz0 (And.intro hz1' hz2)))
 clear hi hz0 hz1' hz2
 have HO13:=Lib.hid (HO1.out.below (joinB HB23.out (joinB HB34.out (joinB HB45.out HB56.out))))
 have HO23:=Lib.hid (HO2.out.below (joinB HB34.out (joinB HB45.out HB56.out)))
 have HIA6:=Lib.hid (HIA.out.on (joinB HB45.out HB56.out))
 have HIB6:=Lib.hid (HIB.out.on HB56.out)
 clear HO1 HO2 HIA HIB
 have HC1:Hid (∀W,BelW w6 W→∀k:Nat,k<n→W.cell? ⟨g1,k,none⟩=some (.bool (bat R1 k))):=Lib.hid fun W h k hk=>(HO13.out.below h).cell (by unfold bat;rw[List.getD_eq_getElem?_getD,List.getElem?_eq_getElem (by have:=HL1.out;omega)];rfl)
 have HC2:Hid (∀W,BelW w6 W→∀k:Nat,k<n→W.cell? ⟨g2,k,none⟩=some (.bool (bat R2 k))):=Lib.hid fun W h k hk=>(HO23.out.below h).cell (by unfold bat;rw[List.getD_eq_getElem?_getD,List.getElem?_eq_getElem (by have:=HL2.out;omega)];rfl)
 have HAR:Hid (∀j,j<n→bat Ra j=bat R1 j):=Lib.hid fun j _=>Bool.eq_iff_iff.2 ((HVA.out.all j).trans (HI1.out j).symm)
 have HEA:Hid (LA=memB R1 n):=Lib.hid (by rw[HLA.out];exact memB_congr HAR.out)
 have HEB:Hid (∀U:List Bool,(∀j,j<n→bat U j=(bat R1 j||bat R2 j))→LB=memB U n):=Lib.hid fun U hU=>by
  rw[HLB.out]
  refine memB_congr fun j hj=>?_
  rw[hU j hj]
  refine Bool.eq_iff_iff.2 ?_
  rw[Bool.or_eq_true,HI1.out j,HI2.out j,HVB.out.all j]
  constructor
  ·intro h
   obtain⟨z,hz,h2⟩:=rr_one h
   simp only[List.mem_cons,List.not_mem_nil,or_false]at hz
   rcases hz with rfl|rfl|rfl
   ·exact .inl h2
   ·exact .inr h2
   ·exact .inl h2
  ·rintro (h|h)
   ·exact rr_many (by simp) h
   ·exact rr_many (by simp) h
 have hnl:=HG.out.len
 have HFK:Hid (∀k:Nat,k<n→∀RF,Vis (fun j:Nat=>dep c.nodes (j:Int)) n (List.replicate n false) [(k:Int)] RF→∀m,m=(memB RF n).length→((memB RF n).take m).any (fun x=>x==(ya:Int))=bat R1 k):=Lib.hid fun k hk RF hv m hm=>by
  rw[hm,List.take_length]
  refine Bool.eq_iff_iff.2 ?_
  rw[List.any_eq_true,HI1.out k,←rr_flip HG.out.wf (a:=(ya:Int)) (b:=(k:Int)) (by rw[hnl];exact⟨by omega,by omega⟩) (by rw[hnl];exact⟨by omega,by omega⟩),←hv.all ya]
  constructor
  ·rintro⟨x,hx,e⟩
   obtain⟨j,-,rfl,hb⟩:=mem_memB.1 hx
   have e2:(j:Int)=(ya:Int):=by simpa using e
   have e3:j=ya:=by omega
   rw[←e3];exact hb
  ·intro hb
   exact⟨(ya:Int),mem_memB.2 ⟨ya,hya,rfl,hb⟩,by simp⟩
 clear hnl
 go_upto_region 10 with (at_make;refine wpList_make_full _ rfl _ _ 41 rfl w6.heap.size 4 i0 (.bool false) 1 Tryd.underlying41 HI.out.1 HI.out.2.1 HI.out.2.2.1 .i64 .i64 _ _ n rfl rfl rfl rfl ?b2 ?b3 ?b4 ?_)
 case b2=>rw[HI.out.2.2.2];omega
 case b3=>unfold maxLen;omega
 case b4=>exact Nat.le_refl _
 intro w7 hown hgr
 rw[made_false]at hown
 rw[←HG32.out]at hown
 have HR3:Hid (BRow w7 g3 (List.replicate n false)):=Lib.hid (by unfold BRow;rw[List.length_replicate];exact hown)
 have HB67:Hid (BelW w6 w7):=Lib.hid ((Below.refl _ _).grown hgr (Nat.le_refl _) (fun k h=>by cases h))
 rw[←HG32.out]
 clear hown hgr
 go_wp2
 go_loopw [17] (fun i wr=>∃(k:Nat) (R:List Bool),k≤n∧i=.int .i64 k∧R.length=n∧Hid (∀j:Nat,j<k→bat R j=(bat R1 j||bat R2 j))∧Hid (BRow wr g3 R)∧Hid (BelW w6 wr)) (fun i _=>n-(intOf i).toNat)
 case atStart=>exact⟨0,_,Nat.zero_le _,rfl,List.length_replicate,Lib.hid (fun j hj=>absurd hj (Nat.not_lt_zero j)),HR3,HB67⟩
 case round=>
  clear HR3 HB67
  obtain⟨k,R,hk,rfl,hRl,HK,HR,HB⟩:=hrel
  by_cases hlt:k<n
  ·have hk2:(k:Int)<(n:Int):=by omega
   have HNX:Hid (∀t:Bool,t=(bat R1 k||bat R2 k)→∀j:Nat,j<k+1→bat (R.set k t) j=(bat R1 j||bat R2 j)):=Lib.hid fun t ht j hj=>by
    rw[bat_set (by omega)]
    by_cases e:j=k
    ·subst e;rw[if_pos rfl];exact ht
    ·rw[if_neg e];exact HK.out j (by omega)
   have HLN:Hid (∀t:Bool,(R.set k t).length=n):=Lib.hid fun t=>by rw[List.length_set];exact hRl
   have HSTR:Hid (∀W,BRow W g3 R→∀t:Bool,BRow (W.setCell ⟨g3,k,none⟩ (.bool t)) g3 (R.set k t)):=Lib.hid fun W h t=>h.set k t
   have HSB:Hid (∀W,BelW w6 W→∀t:Bool,BelW w6 (W.setCell ⟨g3,k,none⟩ (.bool t))):=Lib.hid fun W h t=>h.setCell (p:=⟨g3,k,none⟩) (by rw[HG32.out];exact Nat.le_refl _) _
   obtain⟨t0,e4⟩:∃t:Bool,wr.cell? ⟨g3,k,none⟩=some (.bool t):=⟨_,HR.out.cell (List.getElem?_eq_getElem (by rw[hRl];exact hlt))⟩
   have e3:=HR.out.frozen k
   have e1:=HC1.out wr HB.out k hlt
   have e2:=HC2.out wr HB.out k hlt
   obtain⟨t1,HT1⟩:=named (bat R1 k)
   obtain⟨t2,HT2⟩:=named (bat R2 k)
   rw[←HT1.out]at e1
   rw[←HT2.out]at e2
   clear HK
   cases t1
   ·have HN1:=Lib.hid (HNX.out t2 (by rw[←HT1.out,←HT2.out];rfl))
    have HR5:=Lib.hid (HSTR.out wr HR.out t2)
    have HB5:=Lib.hid (HSB.out wr HB.out t2)
    have HL5:=Lib.hid (HLN.out t2)
    clear HNX HLN HSTR HSB
    go_upto_region 14 with (fail)
    obtain⟨w8,HW8⟩:=named (wr.setCell ⟨g3,k,none⟩ (.bool t2))
    rw[←HW8.out]at HR5 HB5
    rw[←HW8.out]
    clear e1 e2 e3 e4 HW8 HR HB
    have HB8:Hid (BelW W1 w8):=Lib.hid (joinB HB6.out HB5.out)
    obtain⟨x0,x1,x2,x3⟩:=HCE.out w8 HB8.out
    have HKR:Hid (Inr n [(k:Int)]):=Lib.hid fun x hx=>by obtain rfl:=List.mem_singleton.1 hx;exact⟨by omega,by omega⟩
    have HHK:=Lib.hid (HFI.out _ (joinB HB8.out (HAL.out w8 [(k:Int)])) _ _ (HIM.out w8 [(k:Int)] (by simp)) HKR.out)
    simp only[List.map_cons,List.map_nil,List.length_cons,List.length_nil,Nat.zero_add,Nat.reduceAdd]at HHK
    go_upto_region 15 with (go_at_call 14;(with_reducible refine HHK.out.mono ?_);rintro e w9 ⟨Af,RF,hv,rfl,h1,h2⟩;have HVF:=Lib.hid hv;have HIL:=Lib.hid h1;have HB89:Hid (BelW w8 w9):=Lib.hid (joinB (HAL.out w8 [(k:Int)]) h2);clear hv h1 h2 x0 x1 x2 x3 HHK)
    have HB69:Hid (BelW w6 w9):=Lib.hid (joinB HB5.out HB89.out)
    have HR9:=Lib.hid (HR5.out.below HB89.out)
    clear HR5 HB5
    have HTK:=Lib.hid (HFK.out k hlt RF HVF.out)
    obtain⟨LL,HLL⟩:=named (memB RF n)
    rw[←HLL.out]at HIL HTK
    rw[←HLL.out]
    have hml:LL.length≤n:=by rw[HLL.out];exact memB_le _ _
    obtain⟨m,HM⟩:=named LL.length
    rw[←HM.out]at HIL hml
    rw[←HM.out]
    have HTF:Hid ((LL.take m).any (fun x=>x==(ya:Int))=false):=Lib.hid (by rw[HTK.out m HM.out];exact HT1.out.symm)
    have HTI:Hid (∀j,j<m→(LL.take (j+1)).any (fun x=>x==(ya:Int))=((LL.take j).any (fun x=>x==(ya:Int))||(LL.getD j 0==(ya:Int)))):=Lib.hid fun j hj=>take_any (by rw[←HM.out];exact hj)
    have HT0:Hid ((LL.take 0).any (fun x=>x==(ya:Int))=false):=Lib.hid (by simp)
    obtain⟨Af',b5,o5,c5,e,hA5,-,-,hc5⟩:=HIL.out.opens
    simp only[Value.slice.injEq]at e
    obtain⟨rfl,-,rfl⟩:=e
    rw[←HM.out]at hA5 hc5
    have HA5:=Lib.hid hA5
    have HC5:=Lib.hid hc5
    clear hA5 hc5 HTK
    go_wp2
    go_loopw [20,21] (fun bv iv wr=>∃j:Nat,j≤m∧iv=.int .i64 j∧bv=.bool ((LL.take j).any (fun x=>x==(ya:Int)))∧Hid (BelW w9 wr)) (fun _ iv _=>m-(intOf iv).toNat)
    case atStart=>exact⟨0,Nat.zero_le _,rfl,by rw[HT0.out],Lib.hid (Below.refl _ _)⟩
    case round=>
     obtain⟨j,hj,rfl,rfl,HBI⟩:=hrel
     by_cases hjl:j<m
     ·have hj2:(j:Int)<(m:Int):=by omega
      obtain rfl:=HA5.out (by omega)
      have hc0:=(HC5.out j hjl)
      have y1:wr.cell? ⟨b5,o5+j,none⟩=some (.int .i64 (LL.getD j 0)):=(Below.cell HBI.out (p:=⟨b5,o5+j,none⟩) hc0.1).trans hc0.2
      have hti:=HTI.out j hjl
      obtain⟨u,HU⟩:=named (LL.getD j 0)
      rw[←HU.out]at y1 hti
      obtain⟨t,HTT⟩:=named ((LL.take j).any (fun x=>x==(ya:Int)))
      rw[←HTT.out]at hti
      rw[←HTT.out]
      have HTN:=Lib.hid hti
      obtain⟨t9,HT9⟩:∃t9,(u==(ya:Int))=t9:=⟨_,rfl⟩
      have HTN2:Hid ((LL.take (j+1)).any (fun x=>x==(ya:Int))=(t||t9)):=Lib.hid (by rw[HTN.out,HT9])
      clear hc0 hti HU HTT
      cases t
      ·cases t9
       ·go_wp2
        go_roundw
        case rel=>exact⟨j+1,by omega,by go_num,by rw[HTN2.out];rfl,HBI⟩
        case measure=>simp[intOf];omega
       ·go_wp2
        go_roundw
        case rel=>exact⟨j+1,by omega,by go_num,by rw[HTN2.out];rfl,HBI⟩
        case measure=>simp[intOf];omega
      ·go_wp2
       go_roundw
       case rel=>exact⟨j+1,by omega,by go_num,by rw[HTN2.out];rfl,HBI⟩
       case measure=>simp[intOf];omega
     ·obtain rfl:m=j:=by omega
      rw[HTF.out]
      have e1:=HC1.out wr (joinB HB69.out HBI.out) k hlt
      rw[←HT1.out]at e1
      have HR10:=Lib.hid (HR9.out.below HBI.out)
      go_wp2
      go_roundw
      case rel=>exact⟨k+1,_,by omega,by go_num,HL5.out,HN1,HR10,Lib.hid (joinB HB69.out HBI.out)⟩
      case measure=>simp[intOf];omega
   ·have HN1:=Lib.hid (HNX.out true (by rw[←HT1.out,←HT2.out];rfl))
    have HR5:=Lib.hid (HSTR.out wr HR.out true)
    have HB5:=Lib.hid (HSB.out wr HB.out true)
    have HL5:=Lib.hid (HLN.out true)
    clear HNX HLN HSTR HSB
    go_upto_region 14 with (fail)
    obtain⟨w8,HW8⟩:=named (wr.setCell ⟨g3,k,none⟩ (.bool true))
    rw[←HW8.out]at HR5 HB5
    rw[←HW8.out]
    clear e1 e2 e3 e4 HW8 HR HB
    have HB8:Hid (BelW W1 w8):=Lib.hid (joinB HB6.out HB5.out)
    obtain⟨x0,x1,x2,x3⟩:=HCE.out w8 HB8.out
    have HKR:Hid (Inr n [(k:Int)]):=Lib.hid fun x hx=>by obtain rfl:=List.mem_singleton.1 hx;exact⟨by omega,by omega⟩
    have HHK:=Lib.hid (HFI.out _ (joinB HB8.out (HAL.out w8 [(k:Int)])) _ _ (HIM.out w8 [(k:Int)] (by simp)) HKR.out)
    simp only[List.map_cons,List.map_nil,List.length_cons,List.length_nil,Nat.zero_add,Nat.reduceAdd]at HHK
    go_upto_region 15 with (go_at_call 14;(with_reducible refine HHK.out.mono ?_);rintro e w9 ⟨Af,RF,hv,rfl,h1,h2⟩;have HVF:=Lib.hid hv;have HIL:=Lib.hid h1;have HB89:Hid (BelW w8 w9):=Lib.hid (joinB (HAL.out w8 [(k:Int)]) h2);clear hv h1 h2 x0 x1 x2 x3 HHK)
    have HB69:Hid (BelW w6 w9):=Lib.hid (joinB HB5.out HB89.out)
    have HR9:=Lib.hid (HR5.out.below HB89.out)
    clear HR5 HB5
    have HTK:=Lib.hid (HFK.out k hlt RF HVF.out)
    obtain⟨LL,HLL⟩:=named (memB RF n)
    rw[←HLL.out]at HIL HTK
    rw[←HLL.out]
    have hml:LL.length≤n:=by rw[HLL.out];exact memB_le _ _
    obtain⟨m,HM⟩:=named LL.length
    rw[←HM.out]at HIL hml
    rw[←HM.out]
    have HTF:Hid ((LL.take m).any (fun x=>x==(ya:Int))=true):=Lib.hid (by rw[HTK.out m HM.out];exact HT1.out.symm)
    have HTI:Hid (∀j,j<m→(LL.take (j+1)).any (fun x=>x==(ya:Int))=((LL.take j).any (fun x=>x==(ya:Int))||(LL.getD j 0==(ya:Int)))):=Lib.hid fun j hj=>take_any (by rw[←HM.out];exact hj)
    have HT0:Hid ((LL.take 0).any (fun x=>x==(ya:Int))=false):=Lib.hid (by simp)
    obtain⟨Af',b5,o5,c5,e,hA5,-,-,hc5⟩:=HIL.out.opens
    simp only[Value.slice.injEq]at e
    obtain⟨rfl,-,rfl⟩:=e
    rw[←HM.out]at hA5 hc5
    have HA5:=Lib.hid hA5
    have HC5:=Lib.hid hc5
    clear hA5 hc5 HTK
    go_wp2
    go_loopw [20,21] (fun bv iv wr=>∃j:Nat,j≤m∧iv=.int .i64 j∧bv=.bool ((LL.take j).any (fun x=>x==(ya:Int)))∧Hid (BelW w9 wr)) (fun _ iv _=>m-(intOf iv).toNat)
    case atStart=>exact⟨0,Nat.zero_le _,rfl,by rw[HT0.out],Lib.hid (Below.refl _ _)⟩
    case round=>
     obtain⟨j,hj,rfl,rfl,HBI⟩:=hrel
     by_cases hjl:j<m
     ·have hj2:(j:Int)<(m:Int):=by omega
      obtain rfl:=HA5.out (by omega)
      have hc0:=(HC5.out j hjl)
      have y1:wr.cell? ⟨b5,o5+j,none⟩=some (.int .i64 (LL.getD j 0)):=(Below.cell HBI.out (p:=⟨b5,o5+j,none⟩) hc0.1).trans hc0.2
      have hti:=HTI.out j hjl
      obtain⟨u,HU⟩:=named (LL.getD j 0)
      rw[←HU.out]at y1 hti
      obtain⟨t,HTT⟩:=named ((LL.take j).any (fun x=>x==(ya:Int)))
      rw[←HTT.out]at hti
      rw[←HTT.out]
      have HTN:=Lib.hid hti
      obtain⟨t9,HT9⟩:∃t9,(u==(ya:Int))=t9:=⟨_,rfl⟩
      have HTN2:Hid ((LL.take (j+1)).any (fun x=>x==(ya:Int))=(t||t9)):=Lib.hid (by rw[HTN.out,HT9])
      clear hc0 hti HU HTT
      cases t
      ·cases t9
       ·go_wp2
        go_roundw
        case rel=>exact⟨j+1,by omega,by go_num,by rw[HTN2.out];rfl,HBI⟩
        case measure=>simp[intOf];omega
       ·go_wp2
        go_roundw
        case rel=>exact⟨j+1,by omega,by go_num,by rw[HTN2.out];rfl,HBI⟩
        case measure=>simp[intOf];omega
      ·go_wp2
       go_roundw
       case rel=>exact⟨j+1,by omega,by go_num,by rw[HTN2.out];rfl,HBI⟩
       case measure=>simp[intOf];omega
     ·obtain rfl:m=j:=by omega
      rw[HTF.out]
      have e1:=HC1.out wr (joinB HB69.out HBI.out) k hlt
      rw[←HT1.out]at e1
      have HR10:=Lib.hid (HR9.out.below HBI.out)
      go_wp2
      go_roundw
      case rel=>exact⟨k+1,_,by omega,by go_num,HL5.out,HN1,HR10,Lib.hid (joinB HB69.out HBI.out)⟩
      case measure=>simp[intOf];omega
  ·obtain rfl:n=k:=by omega
   have HLB:=Lib.hid (HEB.out R HK.out)
   have HB6r:=HB
   obtain⟨w10,HW10⟩:∃w10,w10=wr:=⟨_,rfl⟩
   subst HW10
   have HB10:Hid (BelW W1 w10):=Lib.hid (joinB HB6.out HB.out)
   obtain⟨x0,x1,x2,x3⟩:=HCE.out w10 HB10.out
   have HYC:Hid (Inr n [(ya:Int),(yb:Int)]):=Lib.hid fun x hx=>by
    simp only[List.mem_cons,List.not_mem_nil,or_false]at hx
    rcases hx with rfl|rfl<;>exact⟨by omega,by omega⟩
   have HHC:=Lib.hid (HFI.out _ (joinB HB10.out (HAL.out w10 [(ya:Int),(yb:Int)])) _ _ (HIM.out w10 [(ya:Int),(yb:Int)] (by simp)) HYC.out)
   simp only[List.map_cons,List.map_nil,List.length_cons,List.length_nil,Nat.zero_add,Nat.reduceAdd]at HHC
   go_upto_region 23 with (go_at_call 14;(with_reducible refine HHC.out.mono ?_);rintro e w11 ⟨Ai,Ri,hv,rfl,h1,h2⟩;have HVI:=Lib.hid hv;have HII:=Lib.hid h1;have HB1011:Hid (BelW w10 w11):=Lib.hid (joinB (HAL.out w10 [(ya:Int),(yb:Int)]) h2);clear hv h1 h2 x0 x1 x2 x3 HHC)
   have HB611:Hid (BelW w6 w11):=Lib.hid (joinB HB.out HB1011.out)
   have HB11:Hid (BelW W1 w11):=Lib.hid (joinB HB6.out HB611.out)
   have HR11:=Lib.hid (HR.out.below HB1011.out)
   have hnl:=HG.out.len
   have HBK:Hid (∀k:Nat,k<n→∀S:List Bool,(∀j:Nat,bat S j=true↔Rr (rdL c.nodes) [(k:Int)] (j:Int))→(bat S ya||bat S yb)=bat Ri k):=Lib.hid fun k hk S hS=>by
    have hfa:=rr_flip HG.out.wf (a:=(k:Int)) (b:=(ya:Int)) (by rw[hnl];exact⟨by omega,by omega⟩) (by rw[hnl];exact⟨by omega,by omega⟩)
    have hfb:=rr_flip HG.out.wf (a:=(k:Int)) (b:=(yb:Int)) (by rw[hnl];exact⟨by omega,by omega⟩) (by rw[hnl];exact⟨by omega,by omega⟩)
    refine Bool.eq_iff_iff.2 ?_
    rw[Bool.or_eq_true,hS ya,hS yb,HVI.out.all k,←hfa,←hfb]
    constructor
    ·rintro (h|h)
     ·exact rr_many (by simp) h
     ·exact rr_many (by simp) h
    ·intro h
     obtain⟨z,hz,h2⟩:=rr_one h
     simp only[List.mem_cons,List.not_mem_nil,or_false]at hz
     rcases hz with rfl|rfl
     ·exact .inl h2
     ·exact .inr h2
   clear hnl
   obtain⟨LI,HLI⟩:=named (memB Ri n)
   rw[←HLI.out]at HII
   rw[←HLI.out]
   obtain⟨li,Hli⟩:=named LI.length
   rw[←Hli.out]at HII
   rw[←Hli.out]
   have HRL:=Lib.hid hRl
   clear HB hk hRl
   go_wp2
   go_loopw [24,25] (fun sv i wr=>∃k:Nat,k≤n∧i=.int .i64 k∧Hid (BStk wr w11.heap.size sv ((List.range k).map (bat Ri)))∧Hid (BelW w11 wr)) (fun _ i _=>n-(intOf i).toNat)
   case atStart=>exact⟨0,Nat.zero_le _,rfl,Lib.hid (BStk.nil _ _),Lib.hid (Below.refl _ _)⟩
   case round=>
    obtain⟨k,hk,rfl,HST,HB⟩:=hrel
    have HBW:Hid (BelW W1 wr):=Lib.hid (joinB HB11.out HB.out)
    obtain⟨x0,x1,x2,x3⟩:=HCE.out wr HBW.out
    by_cases hlt:k<n
    ·have hk2:(k:Int)<(n:Int):=by omega
     have HRK:=Lib.hid (HRE.out wr HBW.out k hlt)
     go_upto_region 28 with (go_at_call 25;(with_reducible refine HRK.out.mono ?_);rintro e w12 ⟨gs,S,rfl,h1,h2,h3,h4⟩;have HOS:=Lib.hid h1;have HLS:=Lib.hid h2;have HIS:=Lib.hid h3;have HB12:Hid (BelW wr w12):=Lib.hid h4;clear h1 h2 h3 h4 x0 x1 x2 x3)
     have e1:w12.cell? ⟨gs,ya,none⟩=some (.bool (bat S ya)):=HOS.out.cell (by unfold bat;rw[List.getD_eq_getElem?_getD,List.getElem?_eq_getElem (by have:=HLS.out;omega)];rfl)
     have e2:w12.cell? ⟨gs,yb,none⟩=some (.bool (bat S yb)):=HOS.out.cell (by unfold bat;rw[List.getD_eq_getElem?_getD,List.getElem?_eq_getElem (by have:=HLS.out;omega)];rfl)
     have hbk:=HBK.out k hlt S HIS.out
     have hya2:(ya:Int)<(n:Int):=by omega
     have hyb2:(yb:Int)<(n:Int):=by omega
     obtain⟨t1,HT1⟩:=named (bat S ya)
     obtain⟨t2,HT2⟩:=named (bat S yb)
     rw[←HT1.out]at e1 hbk
     rw[←HT2.out]at e2 hbk
     have HBB:Hid ((List.range (k+1)).map (bat Ri)=(List.range k).map (bat Ri)++[t1||t2]):=Lib.hid (by rw[List.range_succ,List.map_append,hbk];rfl)
     have HST12:=Lib.hid (HST.out.below HB12.out)
     have HB1112:Hid (BelW w11 w12):=Lib.hid (joinB HB.out HB12.out)
     obtain⟨A6,c6,rfl,hle6,hc6,hsh⟩:=HST.out.shape
     have hrl:((List.range k).map (bat Ri)).length=k:=by simp
     obtain⟨BL,HBL⟩:=named ((List.range k).map (bat Ri))
     rw[←HBL.out]at HST12 HBB hle6 hrl
     rw[←HBL.out]
     have hsz4:w11.heap.size≤w12.heap.size:=Below.size HB1112.out
     clear hbk HT1 HT2 HST HB HOS hsh
     cases t1
     ·go_wp2_with (at_builtin;refine wpList_append_own_at _ rfl _ _ 41 rfl w11.heap.size 4 i0 (.bool false) 1 1 Tryd.underlying41 HI.out.1 HI.out.2.1 HI.out.2.2.1 HI.out.2.2.2 rfl (by decide) _ _ _ rfl (World.ownsRow.alloc HST12.out _) ⟨w12.heap.size,0,none⟩ 1 1 [.bool t2] rfl rfl (by have:=one_new w12 (.bool t2) 4;simpa using this) (bools_oneCell [t2]) (by unfold maxLen;omega) (by omega) (by simp;omega) ?_;intro v' w13 hown' hgrow hnil hloc;have HF:=Lib.hid (pushB_own hsz4 HB1112.out HST12.out hown' hgrow);clear hown' hgrow hnil hloc)
      go_roundw
      case rel=>exact⟨k+1,by omega,by go_num,by rw[HBB.out];exact Lib.hid HF.out.2,Lib.hid HF.out.1⟩
      case measure=>simp[intOf];omega
     ·go_wp2_with (at_builtin;refine wpList_append_own_at _ rfl _ _ 41 rfl w11.heap.size 4 i0 (.bool false) 1 1 Tryd.underlying41 HI.out.1 HI.out.2.1 HI.out.2.2.1 HI.out.2.2.2 rfl (by decide) _ _ _ rfl (World.ownsRow.alloc HST12.out _) ⟨w12.heap.size,0,none⟩ 1 1 [.bool true] rfl rfl (by have:=one_new w12 (.bool true) 4;simpa using this) (bools_oneCell [true]) (by unfold maxLen;omega) (by omega) (by simp;omega) ?_;intro v' w13 hown' hgrow hnil hloc;have HF:=Lib.hid (pushB_own hsz4 HB1112.out HST12.out hown' hgrow);clear hown' hgrow hnil hloc)
      go_roundw
      case rel=>exact⟨k+1,by omega,by go_num,by rw[HBB.out];exact Lib.hid HF.out.2,Lib.hid HF.out.1⟩
      case measure=>simp[intOf];omega
    ·obtain rfl:n=k:=by omega
     have hrl:((List.range n).map (bat Ri)).length=n:=by simp
     obtain⟨A6,c6,rfl,-,-,hsh⟩:=HST.out.shape
     obtain⟨gb,rfl,-,-⟩:=hsh (by rw[hrl];exact hn1)
     have HBC:Hid (∀W,BelW wr W→∀k:Nat,k<n→W.cell? ⟨gb,k,none⟩=some (.bool (bat Ri k))):=Lib.hid fun W h k hk=>by
      have h1:=(HST.out.below h).cell (j:=k) (by rw[hrl];exact hk)
      rw[h1]
      simp[List.getD_eq_getElem?_getD,hk]
     have HB6r:Hid (BelW w6 wr):=Lib.hid (joinB HB611.out HB.out)
     have HS1:Hid (∀W,BelW wr W→Calls Tryd.prog 22 #[.slice (some ⟨g1,0,none⟩) n n] W fun e w'=>∃A d,e=.returned (.slice A la d)∧Is w' w'.heap.size (.slice A la d) LA∧BelW W w'):=Lib.hid fun W h=>by
      refine (set5_cap g1 n n R1 W (fun W' h' k hk=>HC1.out W' (joinB HB6r.out (joinB h h')) k hk) (by omega)).mono fun e w' ⟨A,d,h1,h2,h3⟩=>?_
      rw[←HEA.out]at h1 h2
      exact⟨A,d,by rw[Hla.out];exact h1,by rw[Hla.out];exact h2,h3⟩
     have HS2:Hid (∀W,BelW wr W→Calls Tryd.prog 22 #[.slice (some ⟨g3,0,none⟩) n n] W fun e w'=>∃A d,e=.returned (.slice A lb d)∧Is w' w'.heap.size (.slice A lb d) LB∧BelW W w'):=Lib.hid fun W h=>by
      refine (set5_cap g3 n n R W (fun W' h' k hk=>((HR11.out.below (joinB HB.out (joinB h h'))).cell (by unfold bat;rw[List.getD_eq_getElem?_getD,List.getElem?_eq_getElem (by have:=HRL.out;omega)];rfl))) (by omega)).mono fun e w' ⟨A,d,h1,h2,h3⟩=>?_
      rw[←HLB.out]at h1 h2
      exact⟨A,d,by rw[Hlb.out];exact h1,by rw[Hlb.out];exact h2,h3⟩
     have HS3:Hid (∀W,BelW wr W→Calls Tryd.prog 22 #[.slice (some ⟨gb,0,none⟩) n c6] W fun e w'=>∃A d,e=.returned (.slice A li d)∧Is w' w'.heap.size (.slice A li d) LI∧BelW W w'):=Lib.hid fun W h=>by
      refine (set5_cap gb n c6 Ri W (fun W' h' k hk=>HBC.out W' (joinB h h') k hk) (by omega)).mono fun e w' ⟨A,d,h1,h2,h3⟩=>?_
      rw[←HLI.out]at h1 h2
      exact⟨A,d,by rw[Hli.out];exact h1,by rw[Hli.out];exact h2,h3⟩
     have HT1:Hid (∀W,BelW wr W→∀A d,Is W W.heap.size (.slice A la d) LA→Calls Tryd.prog 20 #[.slice Aa la la,.slice A la d] W fun e w'=>e=.returned (.int .i64 0)∧BelW W w'):=Lib.hid fun W h A d hA=>by
      have h1:=HIA6.out.on (joinB HB6r.out h)
      rw[Hla.out]at h1 hA ⊢
      exact (ints_any LA LA Aa LA.length _ W _ _ h1 hA).mono fun e w' ⟨h3,k,h4⟩=>⟨by rw[h3];simp[intsR],by rw[h4];exact belW_drewN (Below.refl _ _) k⟩
     have HT2:Hid (∀W,BelW wr W→∀A d,Is W W.heap.size (.slice A lb d) LB→Calls Tryd.prog 20 #[.slice Ab lb lb,.slice A lb d] W fun e w'=>e=.returned (.int .i64 0)∧BelW W w'):=Lib.hid fun W h A d hA=>by
      have h1:=HIB6.out.on (joinB HB6r.out h)
      rw[Hlb.out]at h1 hA ⊢
      exact (ints_any LB LB Ab LB.length _ W _ _ h1 hA).mono fun e w' ⟨h3,k,h4⟩=>⟨by rw[h3];simp[intsR],by rw[h4];exact belW_drewN (Below.refl _ _) k⟩
     have HT3:Hid (∀W,BelW wr W→∀A d,Is W W.heap.size (.slice A li d) LI→Calls Tryd.prog 20 #[.slice Ai li li,.slice A li d] W fun e w'=>e=.returned (.int .i64 0)∧BelW W w'):=Lib.hid fun W h A d hA=>by
      have h1:=HII.out.on (joinB HB.out h)
      rw[Hli.out]at h1 hA ⊢
      exact (ints_any LI LI Ai LI.length _ W _ _ h1 hA).mono fun e w' ⟨h3,k,h4⟩=>⟨by rw[h3];simp[intsR],by rw[h4];exact belW_drewN (Below.refl _ _) k⟩
     have HRF:Hid (BelW wr wr):=Lib.hid (Below.refl _ _)
     rw[hrl]
     clear hsh hrl HST
     go_wp2_with (first
      |(go_at_call 22;(with_reducible refine (HS1.out wr HRF.out).mono ?_);rintro e w12 ⟨As,ds,rfl,h1,h2⟩;have HI12:=Lib.hid h1;have HB12:Hid (BelW wr w12):=Lib.hid h2;clear h1 h2)
      |(go_at_call 20;(with_reducible refine (HT1.out w12 HB12.out As ds HI12.out).mono ?_);rintro e w13 ⟨rfl,h2⟩;have HB13:Hid (BelW wr w13):=Lib.hid (joinB HB12.out h2);clear h2)
      |(go_at_call 22;(with_reducible refine (HS2.out w13 HB13.out).mono ?_);rintro e w14 ⟨At,dt,rfl,h1,h2⟩;have HI14:=Lib.hid h1;have HB14:Hid (BelW wr w14):=Lib.hid (joinB HB13.out h2);clear h1 h2)
      |(go_at_call 20;(with_reducible refine (HT2.out w14 HB14.out At dt HI14.out).mono ?_);rintro e w15 ⟨rfl,h2⟩;have HB15:Hid (BelW wr w15):=Lib.hid (joinB HB14.out h2);clear h2)
      |(go_at_call 22;(with_reducible refine (HS3.out w15 HB15.out).mono ?_);rintro e w16 ⟨Au,du,rfl,h1,h2⟩;have HI16:=Lib.hid h1;have HB16:Hid (BelW wr w16):=Lib.hid (joinB HB15.out h2);clear h1 h2)
      |(go_at_call 20;(with_reducible refine (HT3.out w16 HB16.out Au du HI16.out).mono ?_);rintro e w17 ⟨rfl,h2⟩;have HB17:Hid (BelW W1 w17):=Lib.hid (joinB HBW.out (joinB HB16.out h2));clear h2)
      |(go_at_call 11;(with_reducible refine (HLV.out w17 HB17.out).mono ?_);rintro e w18 ⟨rfl,h1⟩;have HB18:=Lib.hid h1;clear h1))
     go_ret
     exact⟨rfl,joinB HW0.out (joinB HB17.out HB18.out)⟩
end Go.Proofs.YtckgnoopjapknaaDoor
