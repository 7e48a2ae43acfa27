import Derived.Test.YtckgnoopjapknaaDoorM41
import Derived.Test.YtckgnoopjapknaaDoorM35
import Derived.Test.YtckgnoopjapknaaDoorM19
import Derived.Test.YtckgnoopjapknaaDoorM43
import Derived.Test.YtckgnoopjapknaaDoorM22
namespace Go.Proofs.YtckgnoopjapknaaDoor
open Go.RowKit
def Y9(CV:Value)(nx:Nat→List Int)(n p:Nat)(PL:List Int):Nat→Value→World→Prop
 |0,v,_=>v=CV
 |1,v,_=>v=CV
 |2,v,W=>∃A,v=.slice A p p∧Is W W.heap.size (.slice A p p) PL
 |3,v,W=>∃A R m,m=(memB R n).length∧Vis nx n (List.replicate n false) PL R∧v=.tuple #[.slice A m m,.int .i64 0]∧Is W W.heap.size (.slice A m m) (memB R n)
 |4,v,W=>∃A R m,m=(memB R n).length∧Vis nx n (List.replicate n false) PL R∧v=.tuple #[.slice A m m,.int .i64 0]∧Is W W.heap.size (.slice A m m) (memB R n)
 |5,v,W=>∃A R m,m=(memB R n).length∧Vis nx n (List.replicate n false) PL R∧v=.slice A m m∧Is W W.heap.size (.slice A m m) (memB R n)
 |6,v,_=>v=.int .i64 0
 |7,v,W=>∃A R m,m=(memB R n).length∧Vis nx n (List.replicate n false) PL R∧v=.slice A m m∧Is W W.heap.size (.slice A m m) (memB R n)
 |_,v,_=>v=.int .i64 0
theorem Y9.next{CV:Value}{nx:Nat→List Int}{n p:Nat}{PL:List Int}(i:Nat)(v:Value)(W W':World)(h:Y9 CV nx n p PL i v W)(hb:Below W.heap.size W W'):Y9 CV nx n p PL i v W':=by
 match i,h with
 |0,h=>exact h
 |1,h=>exact h
 |2,h=>obtain⟨A,h1,h2⟩:=h;exact⟨A,h1,h2.on hb⟩
 |3,h=>obtain⟨A,R,m,h0,h1,h2,h3⟩:=h;exact⟨A,R,m,h0,h1,h2,h3.on hb⟩
 |4,h=>obtain⟨A,R,m,h0,h1,h2,h3⟩:=h;exact⟨A,R,m,h0,h1,h2,h3.on hb⟩
 |5,h=>obtain⟨A,R,m,h0,h1,h2,h3⟩:=h;exact⟨A,R,m,h0,h1,h2,h3.on hb⟩
 |6,h=>exact h
 |7,h=>obtain⟨A,R,m,h0,h1,h2,h3⟩:=h;exact⟨A,R,m,h0,h1,h2,h3.on hb⟩
 |_+8,h=>exact h
set_option maxRecDepth 100000 in
set_option maxHeartbeats 8000000 in
theorem lawAg(x:Cx)(hx:Cok x)(sG sA:Value)(z:Int)(hz8:U8 z)(w:World)(hT:Tabs w)(hG:Gs w w.heap.size sG x.gates)(hA:Ks w w.heap.size sA x.outs):
 Calls Tryd.prog 9 #[.agg #[.int .u8 x.inN,.int .u8 x.dffs,.int .u8 x.d0,.int .u8 x.d1,.bool x.bus,.bool x.mem,.int .u8 x.p0,.int .u8 x.p1,.int .u8 x.p2,.int .u8 x.p3,sG,sA],.int .u8 z] w fun e w'=>e=.returned (.bool true)∧Below w.heap.size w w':=by
 obtain⟨L,V0⟩:=vld_c x hx
 have hz:=sizeN_le x
 have HOF:Hid (∀W,Below w.heap.size w W→∀n,n=sizeN x→Calls Tryd.prog 24 #[.agg #[.int .u8 x.inN,.int .u8 x.dffs,.int .u8 x.d0,.int .u8 x.d1,.bool x.bus,.bool x.mem,.int .u8 x.p0,.int .u8 x.p1,.int .u8 x.p2,.int .u8 x.p3,sG,sA]] W
  fun e w'=>∃A0 A1 A2 A3 n1 n2 n3 c0 c1 c2 c3,e=.returned (.agg #[.slice A0 n c0,.slice A1 n1 c1,.slice A2 n2 c2,.slice A3 n3 c3])∧Below w.heap.size w w'∧
   LC (ofC x) w w'.heap.size A0 A1 A2 A3 n n1 n2 n3 c0 c1 c2 c3 (w'.alloc (.cells #[.slice A0 n c0,.slice A1 n1 c1,.slice A2 n2 c2,.slice A3 n3 c3] 27))):=
  Lib.hid fun W hb n hn=>ofc_c x hx hT hG hA hb hn
 clear hT hG hA hx
 obtain⟨n,HN⟩:=named (sizeN x)
 rw[←HN.out]at V0 hz
 obtain⟨c,HC0⟩:=named (ofC x)
 rw[←HC0.out]at V0
 have HV:=Lib.hid V0
 have HG:Hid (G5 c n L):=Lib.hid ⟨V0.ok,V0.lvl,V0.len.symm,by have:=V0.few;omega⟩
 have HBX:Hid (Below w.heap.size w (w.alloc (.cells #[.int .u8 x.inN,.int .u8 x.dffs,.int .u8 x.d0,.int .u8 x.d1,.bool x.bus,.bool x.mem,.int .u8 x.p0,.int .u8 x.p1,.int .u8 x.p2,.int .u8 x.p3,sG,sA] 49))):=Lib.hid (below_new (Below.refl _ _) _)
 have hn1:0<n:=hz.1
 have hn20:n<20:=V0.few
 clear V0 hz
 have HOBL:Hid ((obsN c).length≤1000000000):=Lib.hid HG.out.obl
 have hzb:=hz8
 unfold U8 at hzb
 obtain⟨zn,rfl⟩:∃zn:Nat,z=(zn:Int):=⟨z.toNat,by omega⟩
 obtain⟨y,HY⟩:=named (zn%n)
 have hyn:y<n:=by rw[HY.out];exact Nat.mod_lt _ (by omega)
 have HYM:Hid ((zn:Int)%(n:Int)=(y:Int)):=Lib.hid (by rw[HY.out];rfl)
 clear hz8 HY
 go_enter Tryd.func9,Tryd.ntmps9
 go_upto_region 2 with (go_at_call 24;(with_reducible refine (HOF.out _ HBX.out n HN.out).mono ?_);rintro e w1 ⟨A0,A1,A2,A3,n1,n2,n3,c0,c1,c2,c3,rfl,hb,hl⟩;rw[←HC0.out]at hl;have HL0:=Lib.hid hl;clear hb hl)
 obtain⟨W1,HW1⟩:=named (w1.alloc (.cells #[.slice A0 n c0,.slice A1 n1 c1,.slice A2 n2 c2,.slice A3 n3 c3] 27))
 rw[←HW1.out]at HL0
 rw[←HW1.out]
 obtain⟨q,HQ⟩:=named w1.heap.size
 rw[←HQ.out]at HL0
 rw[←HQ.out]
 clear HW1 HQ HOF HBX
 have HCE:Hid (∀W,BelW W1 W→W.cell? ⟨q,0,none⟩=some (.slice A0 n c0)∧W.cell? ⟨q,1,none⟩=some (.slice A1 n1 c1)∧W.cell? ⟨q,2,none⟩=some (.slice A2 n2 c2)∧W.cell? ⟨q,3,none⟩=some (.slice A3 n3 c3)):=Lib.hid fun W h=>(HL0.out.next h).cells
 have HC:Hid (∀W,BelW W1 W→Tabs W∧Cir W W.heap.size (.agg #[.slice A0 n c0,.slice A1 n1 c1,.slice A2 n2 c2,.slice A3 n3 c3]) c):=Lib.hid fun W h=>⟨(HL0.out.next h).tabs,(HL0.out.next h).all⟩
 have HW0:Hid (Below w.heap.size w W1):=Lib.hid HL0.out.bel
 have HLV:Hid (∀W,BelW W1 W→Calls Tryd.prog 11 #[] W fun e w'=>e=.returned (.bool true)∧BelW W w'):=Lib.hid fun W h=>lives5_any W (HC.out W h).1
 have HPT:Hid (∀W,BelW W1 W→PtsC c (.agg #[.slice A0 n c0,.slice A1 n1 c1,.slice A2 n2 c2,.slice A3 n3 c3]) n W):=Lib.hid fun W h V hv=>refpts_any c A0 A1 A2 A3 n n1 n2 n3 c0 c1 c2 c3 V (HC.out V (joinB h hv)).2 (by omega) HOBL.out
 have HFI:=Lib.hid (fun(W:World) (h:BelW W1 W) (s:Value) (l:List Int) hs hl=>fanin_g HG.out W (HC.out W h).1 (HC.out W h).2 s l hs hl)
 have HFO:=Lib.hid (fun(W:World) (h:BelW W1 W) (s:Value) (l:List Int) hs hl=>fanout_g HG.out W (HC.out W h).1 (HC.out W h).2 s l hs hl)
 have HYR:Hid (Inr n [(y:Int)]):=Lib.hid fun x hx=>by obtain rfl:=List.mem_singleton.1 hx;exact⟨by omega,by omega⟩
 have HON:Hid (∀W:World,Is (W.alloc (.cells #[.int .i64 (y:Int)] 3)) (W.alloc (.cells #[.int .i64 (y:Int)] 3)).heap.size (.slice (some ⟨W.heap.size,0,none⟩) 1 1) [(y:Int)]):=Lib.hid fun W=>Is.one W _ _ rfl
 have HAL:Hid (∀W:World,BelW W (W.alloc (.cells #[.int .i64 (y:Int)] 3))):=Lib.hid fun W=>below_new (Below.refl _ _) _
 obtain⟨x0,x1,x2,x3⟩:=HCE.out W1 (Below.refl _ _)
 go_upto_region 3 with (fail)
 rw[HYM.out]
 go_upto_region 4 with (go_at_call 14;(with_reducible refine (HFI.out _ (HAL.out W1) _ _ (HON.out W1) HYR.out).mono ?_);rintro e w2 ⟨Aa,Ra,hv,rfl,h1,h2⟩;have HVA:=Lib.hid hv;have HIA:=Lib.hid h1;have HB2:Hid (BelW W1 w2):=Lib.hid (joinB (below_new (Below.refl _ _) _) h2);clear hv h1 h2 x0 x1 x2 x3)
 obtain⟨x0,x1,x2,x3⟩:=HCE.out w2 HB2.out
 have HIR:=Lib.hid (fun R=>memB_inr R n)
 go_upto_region 5 with (go_at_call 14;(with_reducible refine (HFI.out _ HB2.out _ _ HIA.out (HIR.out Ra)).mono ?_);rintro e w3 ⟨Ab,Rb,hv,rfl,h1,h2⟩;have HVB:=Lib.hid hv;have HIB:=Lib.hid h1;have HB23:Hid (BelW w2 w3):=Lib.hid h2;clear hv h1 h2 x0 x1 x2 x3)
 obtain rfl:Rb=Ra:=cone_cone HVA.out HVB.out
 have HB3:Hid (BelW W1 w3):=Lib.hid (joinB HB2.out HB23.out)
 have HIA3:=Lib.hid (HIA.out.on HB23.out)
 clear HIA HVB HVA
 obtain⟨x0,x1,x2,x3⟩:=HCE.out w3 HB3.out
 have HHO:=Lib.hid (HFO.out _ (joinB HB3.out (HAL.out w3)) _ _ (HON.out w3) HYR.out)
 go_upto_region 6 with (go_at_call 15;(with_reducible refine HHO.out.mono ?_);rintro e w4 ⟨Ac,Rc,hv,rfl,h1,h2⟩;have HVC:=Lib.hid hv;have HIC:=Lib.hid h1;have HB34:Hid (BelW w3 w4):=Lib.hid (joinB (below_new (Below.refl _ _) _) h2);clear hv h1 h2 x0 x1 x2 x3)
 have HB4:Hid (BelW W1 w4):=Lib.hid (joinB HB3.out HB34.out)
 obtain⟨x0,x1,x2,x3⟩:=HCE.out w4 HB4.out
 go_upto_region 7 with (go_at_call 15;(with_reducible refine (HFO.out _ HB4.out _ _ HIC.out (HIR.out Rc)).mono ?_);rintro e w5 ⟨Ad,Rd,hv,rfl,h1,h2⟩;have HVD:=Lib.hid hv;have HID:=Lib.hid h1;have HB45:Hid (BelW w4 w5):=Lib.hid h2;clear hv h1 h2 x0 x1 x2 x3)
 obtain rfl:Rd=Rc:=cone_cone HVC.out HVD.out
 have HB5:Hid (BelW W1 w5):=Lib.hid (joinB HB4.out HB45.out)
 have HB35:Hid (BelW w3 w5):=Lib.hid (joinB HB34.out HB45.out)
 have HIA5:=Lib.hid (HIA3.out.on HB35.out)
 have HIB5:=Lib.hid (HIB.out.on HB35.out)
 have HIC5:=Lib.hid (HIC.out.on HB45.out)
 clear HIA3 HIB HIC HVD HVC
 have HBD:Hid (BelW W1 w5.drew):=Lib.hid (Below.drew HB5.out)
 obtain⟨LA,HLA⟩:=named (memB Rb n)
 rw[←HLA.out]at HIA5 HIB5
 rw[←HLA.out]
 obtain⟨LC2,HLC⟩:=named (memB Rd n)
 rw[←HLC.out]at HIC5 HID
 rw[←HLC.out]
 obtain⟨la,Hla⟩:=named LA.length
 obtain⟨lc,Hlc⟩:=named LC2.length
 rw[←Hla.out]at HIA5 HIB5
 rw[←Hla.out]
 rw[←Hlc.out]at HIC5 HID
 rw[←Hlc.out]
 obtain⟨PL,HPL⟩:=named (memB (ptB c) n)
 obtain⟨p,Hp⟩:=named PL.length
 have HPR:Hid (Inr n PL):=Lib.hid (by rw[HPL.out];exact memB_inr _ _)
 have HPA:Hid (∀W,BelW W1 W→Calls Tryd.prog 21 #[.agg #[.slice A0 n c0,.slice A1 n1 c1,.slice A2 n2 c2,.slice A3 n3 c3]] W fun e w'=>∃v,e=.returned v∧Below W.heap.size W w'∧Y9 (.agg #[.slice A0 n c0,.slice A1 n1 c1,.slice A2 n2 c2,.slice A3 n3 c3]) (fun j:Nat=>dep c.nodes (j:Int)) n p PL 2 v w'):=Lib.hid fun W h=>by
  refine (points_any c A0 A1 A2 A3 n n1 n2 n3 c0 c1 c2 c3 W (HC.out W h).2 HG.out.len (by omega)).mono fun e w' hh=>?_
  obtain⟨A,h1,h2,h3⟩:=hh
  rw[←HPL.out,←Hp.out]at h1 h2
  exact⟨_,h1,h3,A,rfl,h2⟩
 have HFP:Hid (∀W,BelW W1 W→∀A,Is W W.heap.size (.slice A p p) PL→Calls Tryd.prog 14 #[.agg #[.slice A0 n c0,.slice A1 n1 c1,.slice A2 n2 c2,.slice A3 n3 c3],.slice A p p] W fun e w'=>∃v,e=.returned v∧Below W.heap.size W w'∧Y9 (.agg #[.slice A0 n c0,.slice A1 n1 c1,.slice A2 n2 c2,.slice A3 n3 c3]) (fun j:Nat=>dep c.nodes (j:Int)) n p PL 3 v w'):=Lib.hid fun W h A hA=>by
  refine (HFI.out W h _ PL hA HPR.out).mono fun e w' hh=>?_
  obtain⟨A2,R,h1,h2,h3,h4⟩:=hh
  exact⟨_,h2,h4,A2,R,_,rfl,h1,rfl,h3⟩
 refine AnyX.start (S:=fun _=>True) (t:=7) (by kernel_rfl) ?_
 refine AnyX.factsGo [56,57,58,59,55,60,61,15,16] (Y9 (.agg #[.slice A0 n c0,.slice A1 n1 c1,.slice A2 n2 c2,.slice A3 n3 c3]) (fun j:Nat=>dep c.nodes (j:Int)) n p PL) _ _ (by decide) ?hts (by decide) Y9.next (by kernel_rfl) (by kernel_rfl) ?hst ?hdo
 case hts => intro t ht; simp only [List.mem_cons, List.not_mem_nil, or_false] at ht; rcases ht with rfl | rfl | rfl | rfl | rfl | rfl | rfl | rfl | rfl <;> (show _ < Array.size _; simp)
 case hst=>
  intro i t a w' hD hF hB hdep
  have hBW:BelW W1 w':=joinB HBD.out hB
  have hi6:i<9:=(List.getElem?_eq_some_iff.1 hD).1
  obtain⟨y0,y1,y2,y3⟩:=HCE.out w' hBW
  rcases (by omega:i=0∨i=1∨i=2∨i=3∨i=4∨i=5∨i=6∨i=7∨i=8) with rfl|rfl|rfl|rfl|rfl|rfl|rfl|rfl|rfl<;>obtain rfl:=Option.some.inj hD
  ·exact fop_loadC rfl rfl rfl rfl rfl (by rw[hF.eval (by decide)];rfl) y0 y1 y2 y3 rfl
  ·exact fop_loadC rfl rfl rfl rfl rfl (by rw[hF.eval (by decide)];rfl) y0 y1 y2 y3 rfl
  ·exact fop_call1 rfl rfl rfl rfl (fun _ _=>rfl) (hdep _ 1 57 rfl rfl (by kernel_rfl)) (HPA.out w' hBW)
  ·obtain⟨A,e2,h2⟩:=(hdep _ 2 58 rfl rfl (by kernel_rfl))
   exact fop_call2 rfl rfl rfl rfl (fun _ _=>rfl) (hdep _ 0 56 rfl rfl (by kernel_rfl)) e2 (HFP.out w' hBW A h2)
  ·have h:=(hdep _ 3 59 rfl rfl (by kernel_rfl))
   exact fop_move rfl rfl rfl rfl rfl h
  ·obtain⟨A,R,m,h0,h1,h2,h3⟩:=(hdep _ 4 55 rfl rfl (by kernel_rfl))
   exact fop_extract rfl rfl rfl rfl h2 rfl ⟨A,R,m,h0,h1,rfl,h3⟩
  ·obtain⟨A,R,m,h0,h1,h2,h3⟩:=(hdep _ 4 55 rfl rfl (by kernel_rfl))
   exact fop_extract rfl rfl rfl rfl h2 rfl rfl
  ·have h:=(hdep _ 5 60 rfl rfl (by kernel_rfl))
   exact fop_assign rfl rfl rfl rfl rfl h
  ·have h:=(hdep _ 6 61 rfl rfl (by kernel_rfl))
   exact fop_assign rfl rfl rfl rfl rfl h
 intro v w6 hb6 hF
 have e0:v 0=_:=(hF 0 (by decide))
 have e1:v 1=_:=(hF 1 (by decide))
 obtain⟨A2z,e2,-⟩:=(hF 2 (by decide))
 obtain⟨A3f,R3,m3,-,-,e3,-⟩:=(hF 3 (by decide))
 obtain⟨A4,R4,m4,-,-,e4,-⟩:=(hF 4 (by decide))
 obtain⟨A5,R5,m5,-,-,e5,-⟩:=(hF 5 (by decide))
 have e6:v 6=_:=(hF 6 (by decide))
 obtain⟨Al,RF,m,hm,hvf,e7,hil⟩:=(hF 7 (by decide))
 have e8:v 8=_:=(hF 8 (by decide))
 have HVF:=Lib.hid hvf
 have HIL:=Lib.hid hil
 have HMM:=Lib.hid hm
 have HB56:Hid (BelW w5 w6):=Lib.hid (joinB (Below.drew (Below.refl _ _)) hb6)
 have HB6:Hid (BelW W1 w6):=Lib.hid (joinB HB5.out HB56.out)
 simp only[putsF,Nat.zero_add,Nat.reduceAdd,e0,e1,e2,e3,e4,e5,e6,e7,e8,Act.put,List.setIfInBounds_toArray,List.set_cons_zero,List.set_cons_succ]
 clear e0 e1 e2 e3 e4 e5 e6 e7 e8 hF hb6 hvf hil hm
 refine AnyX.done (by kernel_rfl) ?_ _
 have HI1:Hid (∀W,BelW w5 W→Calls Tryd.prog 20 #[.slice Aa la la,.slice Ab la la] W fun e w'=>e=.returned (.int .i64 0)∧BelW W w'):=Lib.hid fun W h=>by
  have h1:=HIA5.out.on h
  have h2:=HIB5.out.on h
  rw[Hla.out]at h1 h2 ⊢
  exact (ints_any LA LA Aa LA.length _ W _ _ h1 h2).mono fun e w' ⟨h3,k,h4⟩=>⟨by rw[h3];simp[intsR],by rw[h4];exact belW_drewN (Below.refl _ _) k⟩
 have HI2:Hid (∀W,BelW w5 W→Calls Tryd.prog 20 #[.slice Ac lc lc,.slice Ad lc lc] W fun e w'=>e=.returned (.int .i64 0)∧BelW W w'):=Lib.hid fun W h=>by
  have h1:=HIC5.out.on h
  have h2:=HID.out.on h
  rw[Hlc.out]at h1 h2 ⊢
  exact (ints_any LC2 LC2 Ac LC2.length _ W _ _ h1 h2).mono fun e w' ⟨h3,k,h4⟩=>⟨by rw[h3];simp[intsR],by rw[h4];exact belW_drewN (Below.refl _ _) k⟩
 go_upto_region 10 with (first
  |(go_at_call 20;(with_reducible refine (HI1.out _ HB56.out).mono ?_);rintro e w7 ⟨rfl,h1⟩;have HB57:Hid (BelW w5 w7):=Lib.hid (joinB HB56.out h1);have HB67:Hid (BelW w6 w7):=Lib.hid h1;clear h1)
  |(go_at_call 20;(with_reducible refine (HI2.out _ HB57.out).mono ?_);rintro e w8 ⟨rfl,h1⟩;have HB68:Hid (BelW w6 w8):=Lib.hid (joinB HB67.out h1);clear h1))
 have HB8:Hid (BelW W1 w8):=Lib.hid (joinB HB6.out HB68.out)
 obtain⟨LL,HLL⟩:=named (memB RF n)
 rw[←HLL.out]at HIL HMM
 have hmn:m≤n:=by rw[HMM.out,HLL.out];exact memB_le _ _
 have HTI:Hid (∀j,j<m→(LL.take (j+1)).any (fun x=>x==(y:Int))=((LL.take j).any (fun x=>x==(y:Int))||(LL.getD j 0==(y:Int)))):=Lib.hid fun j hj=>take_any (by rw[←HMM.out];exact hj)
 have HTF:Hid ((LL.take m).any (fun x=>x==(y:Int))=true↔Sn (fun x:Int=>rdL c.nodes x.toNat) (fun x:Int=>bat (ptB c) x.toNat=true) (-1) (y:Int)):=Lib.hid (by
  rw[HMM.out,List.take_length,List.any_eq_true,seen_cone HG.out ⟨by omega,by omega⟩,←HPL.out,←HVF.out.all,HLL.out]
  constructor
  ·rintro⟨x,hx,e⟩
   obtain⟨j,-,rfl,hb⟩:=mem_memB.1 hx
   have e2:(j:Int)=(y:Int):=by simpa using e
   have e3:j=y:=by omega
   rw[←e3];exact hb
  ·intro hb
   exact⟨(y:Int),mem_memB.2 ⟨y,hyn,rfl,hb⟩,by simp⟩)
 have HT0:Hid ((LL.take 0).any (fun x=>x==(y:Int))=false):=Lib.hid (by simp)
 obtain⟨Al',b5,o5,c5,e,hA5,-,-,hc5⟩:=HIL.out.opens
 simp only[Value.slice.injEq]at e
 obtain⟨rfl,-,rfl⟩:=e
 rw[←HMM.out]at hA5 hc5
 have HA5:=Lib.hid hA5
 have HC5:=Lib.hid hc5
 clear hA5 hc5
 go_wp2
 go_loopw [17,18] (fun bv iv wr=>∃j:Nat,j≤m∧iv=.int .i64 j∧bv=.bool ((LL.take j).any (fun x=>x==(y:Int)))∧Hid (BelW w8 wr)) (fun _ iv _=>m-(intOf iv).toNat)
 case atStart=>exact⟨0,Nat.zero_le _,rfl,by rw[HT0.out],Lib.hid (Below.refl _ _)⟩
 case round=>
  obtain⟨j,hj,rfl,rfl,HB⟩:=hrel
  by_cases hjl:j<m
  ·have hj2:(j:Int)<(m:Int):=by omega
   obtain rfl:=HA5.out (by omega)
   have hc0:=(HC5.out j hjl)
   have y1:wr.cell? ⟨b5,o5+j,none⟩=some (.int .i64 (LL.getD j 0)):=(Below.cell (joinB HB68.out HB.out) (p:=⟨b5,o5+j,none⟩) hc0.1).trans hc0.2
   have hti:=HTI.out j hjl
   obtain⟨u,HU⟩:=named (LL.getD j 0)
   rw[←HU.out]at y1 hti
   obtain⟨t,HTT⟩:=named ((LL.take j).any (fun x=>x==(y:Int)))
   rw[←HTT.out]at hti
   rw[←HTT.out]
   have HTN:=Lib.hid hti
   obtain⟨t2,HT2⟩:∃t2,(u==(y:Int))=t2:=⟨_,rfl⟩
   have HTN2:Hid ((LL.take (j+1)).any (fun x=>x==(y:Int))=(t||t2)):=Lib.hid (by rw[HTN.out,HT2])
   clear hc0 hti HU HTT
   cases t
   ·cases t2
    ·go_wp2
     go_roundw
     case rel=>exact⟨j+1,by omega,by go_num,by rw[HTN2.out];rfl,HB⟩
     case measure=>simp[intOf];omega
    ·go_wp2
     go_roundw
     case rel=>exact⟨j+1,by omega,by go_num,by rw[HTN2.out];rfl,HB⟩
     case measure=>simp[intOf];omega
   ·go_wp2
    go_roundw
    case rel=>exact⟨j+1,by omega,by go_num,by rw[HTN2.out];rfl,HB⟩
    case measure=>simp[intOf];omega
  ·obtain rfl:m=j:=by omega
   have HBW9:Hid (BelW W1 wr):=Lib.hid (joinB HB8.out HB.out)
   obtain⟨x0,x1,x2,x3⟩:=HCE.out wr HBW9.out
   obtain⟨t,HTT⟩:=named ((LL.take m).any (fun x=>x==(y:Int)))
   have HSE:Hid (∀W,BelW W1 W→Calls Tryd.prog 31 #[.agg #[.slice A0 n c0,.slice A1 n1 c1,.slice A2 n2 c2,.slice A3 n3 c3],.int .i64 (y:Int),.int .i64 (-1)] W fun e w'=>e=.returned (.bool t)∧BelW W w'):=Lib.hid fun W h=>by
    refine (seen5_any c L A0 A1 A2 A3 n n1 n2 n3 c0 c1 c2 c3 W (HC.out W h).2 (HPT.out W h) y (-1) hyn (by omega) HG.out.hl0 HG.out.hl1 HG.out.hl2).mono fun e w' ⟨b,he,hb,hw⟩=>?_
    have:b=t:=by
     rw[HTT.out]
     exact Bool.eq_iff_iff.2 (hb.trans HTF.out.symm)
    subst this
    exact⟨he,hw⟩
   have HDO:Hid (Calls Tryd.prog 16 #[.agg #[.slice A0 n c0,.slice A1 n1 c1,.slice A2 n2 c2,.slice A3 n3 c3],.int .i64 (y:Int)] wr fun e w'=>∃A k,e=.returned (.tuple #[.slice A k k,.int .i64 0])∧(t=false→k=0)∧BelW wr w'):=Lib.hid (by
    refine (doms_ok c L A0 A1 A2 A3 n n1 n2 n3 c0 c1 c2 c3 wr y hyn HG.out (HC.out wr HBW9.out).1 (HC.out wr HBW9.out).2).mono fun e w' ⟨A,T,h1,h2,_,h3⟩=>?_
    refine⟨A,T.length,h1,fun ht=>?_,h3⟩
    cases T with
    |nil=>rfl
    |cons d T'=>
     exfalso
     have h4:=(h2.mem d (h2.nod d List.mem_cons_self)).1 List.mem_cons_self
     have h5:=HTF.out.2 h4.2.1
     rw[←HTT.out,ht]at h5
     cases h5)
   rw[←HTT.out]
   have htt:(t==t)=true:=by simp
   clear HTT
   cases t
   ·have HDO0:Hid (Calls Tryd.prog 16 #[.agg #[.slice A0 n c0,.slice A1 n1 c1,.slice A2 n2 c2,.slice A3 n3 c3],.int .i64 (y:Int)] wr fun e w'=>∃A,e=.returned (.tuple #[.slice A 0 0,.int .i64 0])∧BelW wr w'):=Lib.hid (HDO.out.mono fun e w' ⟨A,k,h1,h2,h3⟩=>by obtain rfl:=h2 rfl;exact⟨A,h1,h3⟩)
    go_upto_region 16 with (go_at_call 16;(with_reducible refine HDO0.out.mono ?_);rintro e w9 ⟨Ax,rfl,h1⟩;have HB9:Hid (BelW W1 w9):=Lib.hid (joinB HBW9.out h1);clear h1 x0 x1 x2 x3)
    obtain⟨x0,x1,x2,x3⟩:=HCE.out w9 HB9.out
    go_wp2_with (first
     |(go_at_call 31;(with_reducible refine (HSE.out _ HB9.out).mono ?_);rintro e w10 ⟨rfl,h1⟩;have HB10:Hid (BelW W1 w10):=Lib.hid (joinB HB9.out h1);clear h1 x0 x1 x2 x3)
     |(go_at_call 11;(with_reducible refine (HLV.out _ HB10.out).mono ?_);rintro e w11 ⟨rfl,h1⟩;have HB11:Hid (BelW W1 w11):=Lib.hid (joinB HB10.out h1);clear h1))
    go_ret
    exact⟨rfl,joinB HW0.out HB11.out⟩
   ·go_upto_region 16 with (go_at_call 16;(with_reducible refine HDO.out.mono ?_);rintro e w9 ⟨Ax,kx,rfl,-,h1⟩;have HB9:Hid (BelW W1 w9):=Lib.hid (joinB HBW9.out h1);clear h1 x0 x1 x2 x3)
    obtain⟨x0,x1,x2,x3⟩:=HCE.out w9 HB9.out
    go_wp2_with (first
     |(go_at_call 31;(with_reducible refine (HSE.out _ HB9.out).mono ?_);rintro e w10 ⟨rfl,h1⟩;have HB10:Hid (BelW W1 w10):=Lib.hid (joinB HB9.out h1);clear h1 x0 x1 x2 x3)
     |(go_at_call 11;(with_reducible refine (HLV.out _ HB10.out).mono ?_);rintro e w11 ⟨rfl,h1⟩;have HB11:Hid (BelW W1 w11):=Lib.hid (joinB HB10.out h1);clear h1))
    go_ret
    exact⟨rfl,joinB HW0.out HB11.out⟩
end Go.Proofs.YtckgnoopjapknaaDoor
