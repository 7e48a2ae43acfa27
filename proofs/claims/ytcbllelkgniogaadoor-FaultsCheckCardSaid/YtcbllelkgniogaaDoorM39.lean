/- The texts Txf. -/
import Derived.Test.YtcbllelkgniogaaDoorM38
import Derived.Test.YtcbllelkgniogaaDoorM19
import Derived.Deep.AppendLies
import Derived.Test.YtcbllelkgniogaaDoorM32
namespace Go.Proofs.YtcbllelkgniogaaDoor
open Go.RowKit
attribute [local go_sem] Oper.semAt_some
theorem info_txs:(Tryd.prog.info? 9).map (fun i=>(i.zero,i.size,i.bytes))=some (some (.string ⟨#[]⟩),1,16):=by kernel_rfl
def mwS(i:Nat):ByteArray:=([⟨#[115,116,117,99,107]⟩,⟨#[115,108,111,119]⟩,⟨#[119,105,114,101,100]⟩,⟨#[115,116,114,111,110,103]⟩]:List ByteArray).getD i ByteArray.empty
def MWs(w:World):Prop:=0<w.heap.size∧∀i,i<4→w.cell? ⟨0,i,none⟩=some (.string (mwS i))
theorem MWs.below{w w':World}(h:MWs w)(hb:BelW w w'):MWs w':=⟨Nat.lt_of_lt_of_le h.1 (Below.size hb),fun i hi=>(Below.cell hb (p:=⟨0,i,none⟩) h.1).trans (h.2 i hi)⟩
theorem app_bel{W0 W W':World}{B:Nat}{t:TypeId}{z:Nat}{v:Value}{n:Nat}{xs:List Value}(hB:W0.heap.size≤B)(hb:BelW W0 W)(ho:W.ownsRow B t z v n xs)(hg:W.grownBy W' v.ownBlock):BelW W0 W':=
 Below.grown hb hg (Below.size hb) fun r e=>Nat.le_trans hB (ho.lt r e).1
theorem own_some{w:World}{B:Nat}{t:TypeId}{z:Nat}{v:Value}{n:Nat}{xs:List Value}(h:w.ownsRow B t z v n xs)(hn:0<n):∃g c,v=.slice (some ⟨g,0,none⟩) n c:=by
 rcases h.2 with⟨-,h0⟩| ⟨g,cap,cur,rfl,-⟩
 ·omega
 ·exact⟨g,cap,rfl⟩
theorem own_bel{w w':World}{B:Nat}{t:TypeId}{z g n c:Nat}{xs:List Value}(h:w.ownsRow B t z (.slice (some ⟨g,0,none⟩) n c) n xs)(hb:BelW w w'):w'.ownsRow B t z (.slice (some ⟨g,0,none⟩) n c) n xs:=
 h.kept (grown_of hb none) (.inr (by intro e;cases e))
theorem two_newS(w:World)(x y:Value)(t:TypeId):∀(j:Nat) (r:Value),[x,y][j]? =some r→(w.alloc (.cells #[x,y] t)).cell? ((⟨w.heap.size,0,none⟩:Addr).add j)=some r:=by
 intro j r h
 rw[Go.WideShapes.add_plain,Nat.zero_add]
 have:=(Fr.made w [x,y] t rfl).cell j
 exact this.trans h
theorem join_own{B g cap:Nat}{xs:List ByteArray}{w:World}(sep:ByteArray)(ho:w.ownsRow B 9 1 (.slice (some ⟨g,0,none⟩) xs.length cap) xs.length (xs.map Value.string))(hN:xs.length≤1000)(hlen:(Lib.join (xs.map (·.data.toList)) sep.data.toList).length≤1000):
 Calls Tryd.prog 40 #[.slice (some ⟨g,0,none⟩) xs.length cap,.string sep] w fun e w'=>e=.returned (.string ⟨(Lib.join (xs.map (·.data.toList)) sep.data.toList).toArray⟩)∧BelW w w':=by
 refine join_any g 0 cap xs sep w (fun j x hx=>?_) (ho.lt g rfl).2 (by omega) ?_ (by omega)
 ·have hj:j<xs.length:=(List.getElem?_eq_some_iff.1 hx).1
  have:=World.ownsRow.cellAt ho j (by omega)
  rw[Nat.zero_add,this,List.getElem?_map,hx]
  rfl
 ·rcases ho.2 with⟨h,-⟩| ⟨g',cap',cur,h,-,-,h2,-⟩
  ·cases h
  ·cases h;exact h2
set_option maxHeartbeats 4000000 in
theorem txt_line(k j:Nat)(hk:k<10)(hj:j<10)(v:Nat)(hv:v<10)(w:World)(hM:MWs w):
 Calls Tryd.prog 21 #[.agg #[.int .u8 0,.int .i64 (k:Int),.int .i64 (j:Int),.int .u8 (v:Int),.int .i64 0]] w fun e w'=>e=.returned (.string ⟨(Lib.join [(mwS 0).data.toList,[48+UInt8.ofNat k,46,48+UInt8.ofNat j],[48+UInt8.ofNat v]] [32]).toArray⟩)∧BelW w w':=by
 obtain⟨W1,HW1⟩:=named (w.alloc (.cells #[.int .u8 0,.int .i64 (k:Int),.int .i64 (j:Int),.int .u8 (v:Int),.int .i64 0] 33))
 have hb1:BelW w W1:=by rw[HW1.out];exact below_new (Below.refl _ _) _
 have hfl:Fr W1 w.heap.size 33 [.int .u8 0,.int .i64 (k:Int),.int .i64 (j:Int),.int .u8 (v:Int),.int .i64 0]:=by rw[HW1.out];exact Fr.made _ _ _ rfl
 have HB1:=Lib.hid hb1
 have HFL:=Lib.hid hfl
 obtain⟨i1,hi1,hz0,hz1,hz2⟩:=infoF_parts info_txs
 have HI1:=Lib.hid (And.intro hi1 (And.intro hz0 (And.intro hz1 hz2)))
 have HMW:=Lib.hid (hM.below hb1)
 clear hi1 hz0 hz1 hz2 hM hb1
 obtain⟨mw,HMS⟩:=named (mwS 0)
 have m0:=HMW.out.2 0 (by decide)
 rw[←HMS.out]at m0
 have f0:=hfl.cell 0
 obtain⟨W2,HW2⟩:=named (W1.alloc (.cells #[.string mw] 9))
 have hb2:BelW W1 W2:=by rw[HW2.out];exact below_new (Below.refl _ _) _
 have HOW:Hid (W2.ownsRow W1.heap.size 9 1 (.slice (some ⟨W1.heap.size,0,none⟩) 1 1) 1 [.string mw]):=Lib.hid (by rw[HW2.out];exact World.ownsRow_lit W1 #[.string mw] 1 (Nat.le_refl _) (by decide) rfl)
 have HB2:=Lib.hid hb2
 have g0:=(hfl.below hb2).cell 0
 have g1:=(hfl.below hb2).cell 1
 have g2:=(hfl.below hb2).cell 2
 have g3:=(hfl.below hb2).cell 3
 have g4:=(hfl.below hb2).cell 4
 clear hb2 hfl
 simp only[List.getElem?_cons_zero,List.getElem?_cons_succ]at f0 g0 g1 g2 g3 g4
 go_enter Tryd.func21,Tryd.ntmps21
 go_upto_region 1 with (fail)
 rw[←HW1.out]
 go_upto_region 4 with (fail)
 rw[←HW2.out]
 have HLT:Hid (Calls Tryd.prog 39 #[.agg #[.int .i64 (k:Int),.int .i64 (j:Int)]] W2 fun e w'=>e=.returned (.string ⟨#[48+UInt8.ofNat k,46,48+UInt8.ofNat j]⟩)∧BelW W2 w'):=Lib.hid (lineText_pin k j hk hj W2)
 have HIT:Hid (∀V,Calls Tryd.prog 38 #[.int .i64 (v:Int)] V fun e w'=>e=.returned (.string ⟨#[48+UInt8.ofNat v]⟩)∧V=w'):=Lib.hid fun V=>itoa_lo v hv V
 obtain⟨s1,HS1⟩:=named (⟨#[48+UInt8.ofNat k,46,48+UInt8.ofNat j]⟩:ByteArray)
 obtain⟨s2,HS2⟩:=named (⟨#[48+UInt8.ofNat v]⟩:ByteArray)
 rw[←HS1.out]at HLT
 rw[←HS2.out]at HIT
 have HJN:Hid (∀(w7:World) (g c:Nat),w7.ownsRow W1.heap.size 9 1 (.slice (some ⟨g,0,none⟩) 3 c) 3 [.string mw,.string s1,.string s2]→Calls Tryd.prog 40 #[.slice (some ⟨g,0,none⟩) 3 c,.string ⟨#[32]⟩] w7 fun e w'=>e=.returned (.string ⟨(Lib.join [mw.data.toList,s1.data.toList,s2.data.toList] [32]).toArray⟩)∧BelW w7 w'):=Lib.hid fun w7 g c h=>join_own (xs:=[mw,s1,s2]) ⟨#[32]⟩ h (by simp) (by rw[HMS.out,HS1.out,HS2.out];simp[Lib.join,List.intercalate,mwS])
 have HRES:Hid (Lib.join [(mwS 0).data.toList,[48+UInt8.ofNat k,46,48+UInt8.ofNat j],[48+UInt8.ofNat v]] [32]=Lib.join [mw.data.toList,s1.data.toList,s2.data.toList] [32]):=Lib.hid (by rw[HMS.out,HS1.out,HS2.out])
 clear HS1 HS2 HMS
 go_upto_region 7 with (first
  |(go_at_call 17;(with_reducible refine (isBridge_any _ _).mono ?_);rintro e w2 ⟨rfl,rfl⟩)
  |(go_at_call 39;(with_reducible refine HLT.out.mono ?_);rintro e w3 ⟨rfl,h1⟩;have HB3:Hid (BelW W1 w3):=Lib.hid (joinB HB2.out h1);have HO3:=Lib.hid (own_bel HOW.out h1);clear h1)
  |(at_builtin;refine wpList_append_own _ rfl _ _ 35 rfl W1.heap.size 9 i1 (.string ⟨#[]⟩) 1 16 Tryd.underlying35 HI1.out.1 HI1.out.2.1 HI1.out.2.2.1 HI1.out.2.2.2 rfl (by decide) _ _ _ rfl (World.ownsRow.alloc HO3.out _) ⟨w3.heap.size,0,none⟩ 1 1 [.string s1] rfl rfl (one_new _ _ _) (by simp[Value.oneCell']) (by decide) (by decide) (by have:=Below.size HB3.out;simp;omega) ?_;intro v' w4 hown hg hnil;obtain⟨bq4,cq4,rfl⟩:=own_some hown (by decide);have HO4:=Lib.hid hown;have HB4:Hid (BelW W1 w4):=Lib.hid (app_bel (Nat.le_refl _) (joinB HB3.out (below_new (Below.refl _ _) _)) (World.ownsRow.alloc HO3.out _) hg);clear hown hg hnil g0 g1 g2 g3 g4;have g0:=(HFL.out.below HB4.out).cell 0;have g1:=(HFL.out.below HB4.out).cell 1;have g2:=(HFL.out.below HB4.out).cell 2;have g3:=(HFL.out.below HB4.out).cell 3;have g4:=(HFL.out.below HB4.out).cell 4;simp only[List.getElem?_cons_zero,List.getElem?_cons_succ]at g0 g1 g2 g3 g4))
 go_upto_region 9 with (first
  |(go_at_call 38;(with_reducible refine (HIT.out _).mono ?_);rintro e w5 ⟨rfl,rfl⟩)
  |(at_builtin;refine wpList_append_own _ rfl _ _ 35 rfl W1.heap.size 9 i1 (.string ⟨#[]⟩) 1 16 Tryd.underlying35 HI1.out.1 HI1.out.2.1 HI1.out.2.2.1 HI1.out.2.2.2 rfl (by decide) _ _ _ rfl (World.ownsRow.alloc HO4.out _) ⟨w4.heap.size,0,none⟩ 1 1 [.string s2] rfl rfl (one_new _ _ _) (by simp[Value.oneCell']) (by decide) (by decide) (by have:=Below.size HB4.out;simp;omega) ?_;intro v' w6 hown hg hnil;obtain⟨bq6,cq6,rfl⟩:=own_some hown (by decide);have HO6:=Lib.hid hown;have HB6:Hid (BelW W1 w6):=Lib.hid (app_bel (Nat.le_refl _) (joinB HB4.out (below_new (Below.refl _ _) _)) (World.ownsRow.alloc HO4.out _) hg);clear hown hg hnil g0 g1 g2 g3 g4;have g0:=(HFL.out.below HB6.out).cell 0;have g1:=(HFL.out.below HB6.out).cell 1;have g2:=(HFL.out.below HB6.out).cell 2;have g3:=(HFL.out.below HB6.out).cell 3;have g4:=(HFL.out.below HB6.out).cell 4;simp only[List.getElem?_cons_zero,List.getElem?_cons_succ]at g0 g1 g2 g3 g4))
 go_wp2_with (go_at_call 40;(with_reducible refine (HJN.out _ _ _ HO6.out).mono ?_);rintro e w8 ⟨rfl,h1⟩;have HB8:Hid (BelW W1 w8):=Lib.hid (joinB HB6.out h1);clear h1)
 go_ret
 exact⟨by(rw[HRES.out];try rfl),joinB HB1.out HB8.out⟩
set_option maxHeartbeats 4000000 in
theorem txt_wired(a b:Nat)(ha:a<10)(hb:b<10)(v:Nat)(hv:v<10)(w:World)(hM:MWs w):
 Calls Tryd.prog 21 #[.agg #[.int .u8 2,.int .i64 (a:Int),.int .i64 (-1),.int .u8 (v:Int),.int .i64 (b:Int)]] w fun e w'=>e=.returned (.string ⟨(Lib.join [(mwS 2).data.toList,[48+UInt8.ofNat a],[48+UInt8.ofNat b],[48+UInt8.ofNat v]] [32]).toArray⟩)∧BelW w w':=by
 obtain⟨W1,HW1⟩:=named (w.alloc (.cells #[.int .u8 2,.int .i64 (a:Int),.int .i64 (-1),.int .u8 (v:Int),.int .i64 (b:Int)] 33))
 have hb1:BelW w W1:=by rw[HW1.out];exact below_new (Below.refl _ _) _
 have hfl:Fr W1 w.heap.size 33 [.int .u8 2,.int .i64 (a:Int),.int .i64 (-1),.int .u8 (v:Int),.int .i64 (b:Int)]:=by rw[HW1.out];exact Fr.made _ _ _ rfl
 have HB1:=Lib.hid hb1
 have HFL:=Lib.hid hfl
 obtain⟨i1,hi1,hz0,hz1,hz2⟩:=infoF_parts info_txs
 have HI1:=Lib.hid (And.intro hi1 (And.intro hz0 (And.intro hz1 hz2)))
 have HMW:=Lib.hid (hM.below hb1)
 clear hi1 hz0 hz1 hz2 hM hb1
 obtain⟨mw,HMS⟩:=named (mwS 2)
 have m0:=HMW.out.2 2 (by decide)
 rw[←HMS.out]at m0
 have f0:=hfl.cell 0
 obtain⟨W2,HW2⟩:=named (W1.alloc (.cells #[.string mw] 9))
 have hb2:BelW W1 W2:=by rw[HW2.out];exact below_new (Below.refl _ _) _
 have HOW:Hid (W2.ownsRow W1.heap.size 9 1 (.slice (some ⟨W1.heap.size,0,none⟩) 1 1) 1 [.string mw]):=Lib.hid (by rw[HW2.out];exact World.ownsRow_lit W1 #[.string mw] 1 (Nat.le_refl _) (by decide) rfl)
 have HB2:=Lib.hid hb2
 have g0:=(hfl.below hb2).cell 0
 have g1:=(hfl.below hb2).cell 1
 have g2:=(hfl.below hb2).cell 2
 have g3:=(hfl.below hb2).cell 3
 have g4:=(hfl.below hb2).cell 4
 clear hb2 hfl
 simp only[List.getElem?_cons_zero,List.getElem?_cons_succ]at f0 g0 g1 g2 g3 g4
 go_enter Tryd.func21,Tryd.ntmps21
 go_upto_region 1 with (fail)
 rw[←HW1.out]
 go_upto_region 4 with (fail)
 rw[←HW2.out]
 have HIA:Hid (∀V,Calls Tryd.prog 38 #[.int .i64 (a:Int)] V fun e w'=>e=.returned (.string ⟨#[48+UInt8.ofNat a]⟩)∧V=w'):=Lib.hid fun V=>itoa_lo a ha V
 have HIB:Hid (∀V,Calls Tryd.prog 38 #[.int .i64 (b:Int)] V fun e w'=>e=.returned (.string ⟨#[48+UInt8.ofNat b]⟩)∧V=w'):=Lib.hid fun V=>itoa_lo b hb V
 have HIT:Hid (∀V,Calls Tryd.prog 38 #[.int .i64 (v:Int)] V fun e w'=>e=.returned (.string ⟨#[48+UInt8.ofNat v]⟩)∧V=w'):=Lib.hid fun V=>itoa_lo v hv V
 obtain⟨sa,HSA⟩:=named (⟨#[48+UInt8.ofNat a]⟩:ByteArray)
 obtain⟨sb,HSB⟩:=named (⟨#[48+UInt8.ofNat b]⟩:ByteArray)
 obtain⟨sv,HSV⟩:=named (⟨#[48+UInt8.ofNat v]⟩:ByteArray)
 rw[←HSA.out]at HIA
 rw[←HSB.out]at HIB
 rw[←HSV.out]at HIT
 have HJN:Hid (∀(w7:World) (g c:Nat),w7.ownsRow W1.heap.size 9 1 (.slice (some ⟨g,0,none⟩) 4 c) 4 [.string mw,.string sa,.string sb,.string sv]→Calls Tryd.prog 40 #[.slice (some ⟨g,0,none⟩) 4 c,.string ⟨#[32]⟩] w7 fun e w'=>e=.returned (.string ⟨(Lib.join [mw.data.toList,sa.data.toList,sb.data.toList,sv.data.toList] [32]).toArray⟩)∧BelW w7 w'):=Lib.hid fun w7 g c h=>join_own (xs:=[mw,sa,sb,sv]) ⟨#[32]⟩ h (by simp) (by rw[HMS.out,HSA.out,HSB.out,HSV.out];simp[Lib.join,List.intercalate,mwS])
 have HRES:Hid (Lib.join [(mwS 2).data.toList,[48+UInt8.ofNat a],[48+UInt8.ofNat b],[48+UInt8.ofNat v]] [32]=Lib.join [mw.data.toList,sa.data.toList,sb.data.toList,sv.data.toList] [32]):=Lib.hid (by rw[HMS.out,HSA.out,HSB.out,HSV.out])
 clear HSA HSB HSV HMS
 go_upto_region 5 with (go_at_call 17;(with_reducible refine (isBridge_any _ _).mono ?_);rintro e w2 ⟨rfl,rfl⟩)
 have HFS:Hid (∀V,BelW W1 V→V.cell? ⟨w.heap.size,1,none⟩=some (.int .i64 (a:Int))∧V.cell? ⟨w.heap.size,4,none⟩=some (.int .i64 (b:Int))):=Lib.hid fun V h=>⟨(HFL.out.below h).cell 1,(HFL.out.below h).cell 4⟩
 have HBD:Hid (BelW W1 W2.drew):=Lib.hid (Below.drew HB2.out)
 have HOD:Hid (W2.drew.ownsRow W1.heap.size 9 1 (.slice (some ⟨W1.heap.size,0,none⟩) 1 1) 1 [.string mw]):=HOW
 have HS0:=Lib.hid (HFS.out _ HBD.out)
 clear g0 g1 g2 g3 g4
 refine AnyX.start (S:=fun w'=>w'.cell? ⟨w.heap.size,1,none⟩=some (.int .i64 (a:Int))∧w'.cell? ⟨w.heap.size,4,none⟩=some (.int .i64 (b:Int))) (t:=10) (by kernel_rfl) ?_
 refine AnyX.take (i:=0) (oi:=⟨some 15,_,_,_,_,_⟩) (v:=.slice (some ⟨W1.heap.size,0,none⟩) 1 1) rfl rfl (by kernel_rfl) (by kernel_rfl) (by kernel_rfl) (by kernel_rfl) (fun _ _ _ h=>h) (Or.inl ⟨by rfl,?_⟩) HS0.out ?_
 ·intro w' hSw
  obtain⟨k1,k4⟩:=hSw
  first|(go_simp;done)|(go_simp;with_reducible rfl)|(go_simp;intro hh;exfalso;omega)
 simp only[Act.put,List.setIfInBounds_toArray,List.set_cons_zero,List.set_cons_succ]
 refine AnyX.take (i:=1) (oi:=⟨some 16,_,_,_,_,_⟩) (v:=.pointer (some ⟨w.heap.size,1,none⟩)) rfl rfl (by kernel_rfl) (by kernel_rfl) (by kernel_rfl) (by kernel_rfl) (fun _ _ _ h=>h) (Or.inl ⟨by rfl,?_⟩) HS0.out ?_
 ·intro w' hSw
  obtain⟨k1,k4⟩:=hSw
  first|(go_simp;done)|(go_simp;with_reducible rfl)|(go_simp;intro hh;exfalso;omega)
 simp only[Act.put,List.setIfInBounds_toArray,List.set_cons_zero,List.set_cons_succ]
 refine AnyX.take (i:=2) (oi:=⟨some 17,_,_,_,_,_⟩) (v:=.pointer (some ⟨w.heap.size,1,none⟩)) rfl rfl (by kernel_rfl) (by kernel_rfl) (by kernel_rfl) (by kernel_rfl) (fun _ _ _ h=>h) (Or.inl ⟨by rfl,?_⟩) HS0.out ?_
 ·intro w' hSw
  obtain⟨k1,k4⟩:=hSw
  first|(go_simp;done)|(go_simp;with_reducible rfl)|(go_simp;intro hh;exfalso;omega)
 simp only[Act.put,List.setIfInBounds_toArray,List.set_cons_zero,List.set_cons_succ]
 refine AnyX.take (i:=3) (oi:=⟨some 18,_,_,_,_,_⟩) (v:=.int .i64 (a:Int)) rfl rfl (by kernel_rfl) (by kernel_rfl) (by kernel_rfl) (by kernel_rfl) (fun _ _ _ h=>h) (Or.inl ⟨by rfl,?_⟩) HS0.out ?_
 ·intro w' hSw
  obtain⟨k1,k4⟩:=hSw
  first|(go_simp;done)|(go_simp;with_reducible rfl)|(go_simp;intro hh;exfalso;omega)
 simp only[Act.put,List.setIfInBounds_toArray,List.set_cons_zero,List.set_cons_succ]
 refine AnyX.take (i:=5) (oi:=⟨some 20,_,_,_,_,_⟩) (v:=.pointer (some ⟨w.heap.size,4,none⟩)) rfl rfl (by kernel_rfl) (by kernel_rfl) (by kernel_rfl) (by kernel_rfl) (fun _ _ _ h=>h) (Or.inl ⟨by rfl,?_⟩) HS0.out ?_
 ·intro w' hSw
  obtain⟨k1,k4⟩:=hSw
  first|(go_simp;done)|(go_simp;with_reducible rfl)|(go_simp;intro hh;exfalso;omega)
 simp only[Act.put,List.setIfInBounds_toArray,List.set_cons_zero,List.set_cons_succ]
 refine AnyX.take (i:=6) (oi:=⟨some 21,_,_,_,_,_⟩) (v:=.int .i64 (b:Int)) rfl rfl (by kernel_rfl) (by kernel_rfl) (by kernel_rfl) (by kernel_rfl) (fun _ _ _ h=>h) (Or.inl ⟨by rfl,?_⟩) HS0.out ?_
 ·intro w' hSw
  obtain⟨k1,k4⟩:=hSw
  first|(go_simp;done)|(go_simp;with_reducible rfl)|(go_simp;intro hh;exfalso;omega)
 simp only[Act.put,List.setIfInBounds_toArray,List.set_cons_zero,List.set_cons_succ]
 refine AnyX.one (i:=4) (o:=⟨some 19,_,_,_,_,_⟩) (by kernel_rfl) rfl (fun K' hK=>?_)
 have HK:=Lib.hid hK
 clear hK
 go_simp
 go_at_call 38
 (with_reducible refine (HIA.out _).mono ?_)
 rintro e w3 ⟨rfl,rfl⟩
 refine HK.out _ _ (fun _=>HS0.out) ?_
 clear HK
 (try simp only[Act.put,List.setIfInBounds_toArray,List.set_cons_zero,List.set_cons_succ])
 refine AnyX.one (i:=7) (o:=⟨some 22,_,_,_,_,_⟩) (by kernel_rfl) rfl (fun K' hK=>?_)
 have HK:=Lib.hid hK
 clear hK
 go_simp
 go_at_call 38
 (with_reducible refine (HIB.out _).mono ?_)
 rintro e w3 ⟨rfl,rfl⟩
 refine HK.out _ _ (fun _=>HS0.out) ?_
 clear HK
 (try simp only[Act.put,List.setIfInBounds_toArray,List.set_cons_zero,List.set_cons_succ])
 refine AnyX.one (i:=8) (o:=⟨some 23,_,_,_,_,_⟩) (by kernel_rfl) rfl (fun K' hK=>?_)
 have HK:=Lib.hid hK
 clear hK
 go_simp
 refine HK.out _ _ (fun _=>HFS.out _ (joinB HBD.out (below_new (Below.refl _ _) _))) ?_
 clear HK
 (try simp only[Act.put,List.setIfInBounds_toArray,List.set_cons_zero,List.set_cons_succ])
 refine AnyX.one (i:=9) (o:=⟨some 24,_,_,_,_,_⟩) (by kernel_rfl) rfl (fun K' hK=>?_)
 have HK:=Lib.hid hK
 clear hK
 refine step_append_lies _ (by rfl) (.tmp 15) (.tmp 23) 35 (by rfl) W1.heap.size 9 i1 (.string ⟨#[]⟩) 1 16 Tryd.underlying35 HI1.out.1 HI1.out.2.1 HI1.out.2.2.1 HI1.out.2.2.2 rfl (by decide) (.slice (some ⟨W1.heap.size,0,none⟩) 1 1) 1 [.string mw] (by simp[Act.eval]) (World.ownsRow.alloc HOD.out _) ⟨W2.drew.heap.size,0,none⟩ 2 2 [.string sa,.string sb] (by simp[Act.eval]) rfl (two_newS _ _ _ _) (by intro u hu;simp at hu;rcases hu with rfl|rfl<;>rfl) (by decide) (by unfold maxLen;omega) (by omega) (by have:=Below.size HB2.out;simp;omega) _ rfl ?_
 intro bq4 cq4 w4 hown hg _ _
 have HO4:=Lib.hid hown
 have HB4:Hid (BelW W1 w4):=Lib.hid (app_bel (Nat.le_refl _) (joinB HBD.out (below_new (Below.refl _ _) _)) (World.ownsRow.alloc HOD.out _) hg)
 clear hown hg
 refine HK.out _ _ (fun _=>HFS.out _ HB4.out) ?_
 clear HK
 (try simp only[Act.put,List.setIfInBounds_toArray,List.set_cons_zero,List.set_cons_succ])
 refine AnyX.one (i:=10) (o:=⟨some 3,_,_,_,_,_⟩) (by kernel_rfl) rfl (fun K' hK=>?_)
 have HK:=Lib.hid hK
 clear hK
 go_simp
 refine HK.out _ _ (fun h=>absurd rfl h) ?_
 clear HK
 (try simp only[Act.put,List.setIfInBounds_toArray,List.set_cons_zero,List.set_cons_succ])
 refine AnyX.done (by kernel_rfl) ?_ _
 have g0:=(HFL.out.below HB4.out).cell 0
 have g1:=(HFL.out.below HB4.out).cell 1
 have g2:=(HFL.out.below HB4.out).cell 2
 have g3:=(HFL.out.below HB4.out).cell 3
 have g4:=(HFL.out.below HB4.out).cell 4
 simp only[List.getElem?_cons_zero,List.getElem?_cons_succ]at g0 g1 g2 g3 g4
 go_upto_region 9 with (first
  |(go_at_call 38;(with_reducible refine (HIT.out _).mono ?_);rintro e w5 ⟨rfl,rfl⟩)
  |(at_builtin;refine wpList_append_own _ rfl _ _ 35 rfl W1.heap.size 9 i1 (.string ⟨#[]⟩) 1 16 Tryd.underlying35 HI1.out.1 HI1.out.2.1 HI1.out.2.2.1 HI1.out.2.2.2 rfl (by decide) _ _ _ rfl (World.ownsRow.alloc HO4.out _) ⟨w4.heap.size,0,none⟩ 1 1 [.string sv] rfl rfl (one_new _ _ _) (by simp[Value.oneCell']) (by decide) (by decide) (by have:=Below.size HB4.out;simp;omega) ?_;intro v' w6 hown hg hnil;obtain⟨bq6,cq6,rfl⟩:=own_some hown (by decide);have HO6:=Lib.hid hown;have HB6:Hid (BelW W1 w6):=Lib.hid (app_bel (Nat.le_refl _) (joinB HB4.out (below_new (Below.refl _ _) _)) (World.ownsRow.alloc HO4.out _) hg);clear hown hg hnil g0 g1 g2 g3 g4;have g0:=(HFL.out.below HB6.out).cell 0;have g1:=(HFL.out.below HB6.out).cell 1;have g2:=(HFL.out.below HB6.out).cell 2;have g3:=(HFL.out.below HB6.out).cell 3;have g4:=(HFL.out.below HB6.out).cell 4;simp only[List.getElem?_cons_zero,List.getElem?_cons_succ]at g0 g1 g2 g3 g4))
 go_wp2_with (go_at_call 40;(with_reducible refine (HJN.out _ _ _ HO6.out).mono ?_);rintro e w8 ⟨rfl,h1⟩;have HB8:Hid (BelW W1 w8):=Lib.hid (joinB HB6.out h1);clear h1)
 go_ret
 exact⟨by(rw[HRES.out];try rfl),joinB HB1.out HB8.out⟩
set_option maxHeartbeats 4000000 in
theorem txt_strong(a b:Nat)(ha:a<10)(hb:b<10)(v:Nat)(hv:v<10)(w:World)(hM:MWs w):
 Calls Tryd.prog 21 #[.agg #[.int .u8 3,.int .i64 (a:Int),.int .i64 (-1),.int .u8 (v:Int),.int .i64 (b:Int)]] w fun e w'=>e=.returned (.string ⟨(Lib.join [(mwS 3).data.toList,[48+UInt8.ofNat a],[48+UInt8.ofNat b]] [32]).toArray⟩)∧BelW w w':=by
 obtain⟨W1,HW1⟩:=named (w.alloc (.cells #[.int .u8 3,.int .i64 (a:Int),.int .i64 (-1),.int .u8 (v:Int),.int .i64 (b:Int)] 33))
 have hb1:BelW w W1:=by rw[HW1.out];exact below_new (Below.refl _ _) _
 have hfl:Fr W1 w.heap.size 33 [.int .u8 3,.int .i64 (a:Int),.int .i64 (-1),.int .u8 (v:Int),.int .i64 (b:Int)]:=by rw[HW1.out];exact Fr.made _ _ _ rfl
 have HB1:=Lib.hid hb1
 have HFL:=Lib.hid hfl
 obtain⟨i1,hi1,hz0,hz1,hz2⟩:=infoF_parts info_txs
 have HI1:=Lib.hid (And.intro hi1 (And.intro hz0 (And.intro hz1 hz2)))
 have HMW:=Lib.hid (hM.below hb1)
 clear hi1 hz0 hz1 hz2 hM hb1
 obtain⟨mw,HMS⟩:=named (mwS 3)
 have m0:=HMW.out.2 3 (by decide)
 rw[←HMS.out]at m0
 have f0:=hfl.cell 0
 obtain⟨W2,HW2⟩:=named (W1.alloc (.cells #[.string mw] 9))
 have hb2:BelW W1 W2:=by rw[HW2.out];exact below_new (Below.refl _ _) _
 have HOW:Hid (W2.ownsRow W1.heap.size 9 1 (.slice (some ⟨W1.heap.size,0,none⟩) 1 1) 1 [.string mw]):=Lib.hid (by rw[HW2.out];exact World.ownsRow_lit W1 #[.string mw] 1 (Nat.le_refl _) (by decide) rfl)
 have HB2:=Lib.hid hb2
 have g0:=(hfl.below hb2).cell 0
 have g1:=(hfl.below hb2).cell 1
 have g2:=(hfl.below hb2).cell 2
 have g3:=(hfl.below hb2).cell 3
 have g4:=(hfl.below hb2).cell 4
 clear hb2 hfl
 simp only[List.getElem?_cons_zero,List.getElem?_cons_succ]at f0 g0 g1 g2 g3 g4
 go_enter Tryd.func21,Tryd.ntmps21
 go_upto_region 1 with (fail)
 rw[←HW1.out]
 go_upto_region 4 with (fail)
 rw[←HW2.out]
 have HIA:Hid (∀V,Calls Tryd.prog 38 #[.int .i64 (a:Int)] V fun e w'=>e=.returned (.string ⟨#[48+UInt8.ofNat a]⟩)∧V=w'):=Lib.hid fun V=>itoa_lo a ha V
 have HIB:Hid (∀V,Calls Tryd.prog 38 #[.int .i64 (b:Int)] V fun e w'=>e=.returned (.string ⟨#[48+UInt8.ofNat b]⟩)∧V=w'):=Lib.hid fun V=>itoa_lo b hb V
 have HIT:Hid (∀V,Calls Tryd.prog 38 #[.int .i64 (v:Int)] V fun e w'=>e=.returned (.string ⟨#[48+UInt8.ofNat v]⟩)∧V=w'):=Lib.hid fun V=>itoa_lo v hv V
 obtain⟨sa,HSA⟩:=named (⟨#[48+UInt8.ofNat a]⟩:ByteArray)
 obtain⟨sb,HSB⟩:=named (⟨#[48+UInt8.ofNat b]⟩:ByteArray)
 obtain⟨sv,HSV⟩:=named (⟨#[48+UInt8.ofNat v]⟩:ByteArray)
 rw[←HSA.out]at HIA
 rw[←HSB.out]at HIB
 rw[←HSV.out]at HIT
 have HJN:Hid (∀(w7:World) (g c:Nat),w7.ownsRow W1.heap.size 9 1 (.slice (some ⟨g,0,none⟩) 3 c) 3 [.string mw,.string sa,.string sb]→Calls Tryd.prog 40 #[.slice (some ⟨g,0,none⟩) 3 c,.string ⟨#[32]⟩] w7 fun e w'=>e=.returned (.string ⟨(Lib.join [mw.data.toList,sa.data.toList,sb.data.toList] [32]).toArray⟩)∧BelW w7 w'):=Lib.hid fun w7 g c h=>join_own (xs:=[mw,sa,sb]) ⟨#[32]⟩ h (by simp) (by rw[HMS.out,HSA.out,HSB.out];simp[Lib.join,List.intercalate,mwS])
 have HRES:Hid (Lib.join [(mwS 3).data.toList,[48+UInt8.ofNat a],[48+UInt8.ofNat b]] [32]=Lib.join [mw.data.toList,sa.data.toList,sb.data.toList] [32]):=Lib.hid (by rw[HMS.out,HSA.out,HSB.out])
 clear HSA HSB HSV HMS
 go_upto_region 5 with (go_at_call 17;(with_reducible refine (isBridge_any _ _).mono ?_);rintro e w2 ⟨rfl,rfl⟩)
 have HFS:Hid (∀V,BelW W1 V→V.cell? ⟨w.heap.size,1,none⟩=some (.int .i64 (a:Int))∧V.cell? ⟨w.heap.size,4,none⟩=some (.int .i64 (b:Int))):=Lib.hid fun V h=>⟨(HFL.out.below h).cell 1,(HFL.out.below h).cell 4⟩
 have HBD:Hid (BelW W1 W2.drew):=Lib.hid (Below.drew HB2.out)
 have HOD:Hid (W2.drew.ownsRow W1.heap.size 9 1 (.slice (some ⟨W1.heap.size,0,none⟩) 1 1) 1 [.string mw]):=HOW
 have HS0:=Lib.hid (HFS.out _ HBD.out)
 clear g0 g1 g2 g3 g4
 refine AnyX.start (S:=fun w'=>w'.cell? ⟨w.heap.size,1,none⟩=some (.int .i64 (a:Int))∧w'.cell? ⟨w.heap.size,4,none⟩=some (.int .i64 (b:Int))) (t:=10) (by kernel_rfl) ?_
 refine AnyX.take (i:=0) (oi:=⟨some 15,_,_,_,_,_⟩) (v:=.slice (some ⟨W1.heap.size,0,none⟩) 1 1) rfl rfl (by kernel_rfl) (by kernel_rfl) (by kernel_rfl) (by kernel_rfl) (fun _ _ _ h=>h) (Or.inl ⟨by rfl,?_⟩) HS0.out ?_
 ·intro w' hSw
  obtain⟨k1,k4⟩:=hSw
  first|(go_simp;done)|(go_simp;with_reducible rfl)|(go_simp;intro hh;exfalso;omega)
 simp only[Act.put,List.setIfInBounds_toArray,List.set_cons_zero,List.set_cons_succ]
 refine AnyX.take (i:=1) (oi:=⟨some 16,_,_,_,_,_⟩) (v:=.pointer (some ⟨w.heap.size,1,none⟩)) rfl rfl (by kernel_rfl) (by kernel_rfl) (by kernel_rfl) (by kernel_rfl) (fun _ _ _ h=>h) (Or.inl ⟨by rfl,?_⟩) HS0.out ?_
 ·intro w' hSw
  obtain⟨k1,k4⟩:=hSw
  first|(go_simp;done)|(go_simp;with_reducible rfl)|(go_simp;intro hh;exfalso;omega)
 simp only[Act.put,List.setIfInBounds_toArray,List.set_cons_zero,List.set_cons_succ]
 refine AnyX.take (i:=2) (oi:=⟨some 17,_,_,_,_,_⟩) (v:=.pointer (some ⟨w.heap.size,1,none⟩)) rfl rfl (by kernel_rfl) (by kernel_rfl) (by kernel_rfl) (by kernel_rfl) (fun _ _ _ h=>h) (Or.inl ⟨by rfl,?_⟩) HS0.out ?_
 ·intro w' hSw
  obtain⟨k1,k4⟩:=hSw
  first|(go_simp;done)|(go_simp;with_reducible rfl)|(go_simp;intro hh;exfalso;omega)
 simp only[Act.put,List.setIfInBounds_toArray,List.set_cons_zero,List.set_cons_succ]
 refine AnyX.take (i:=3) (oi:=⟨some 18,_,_,_,_,_⟩) (v:=.int .i64 (a:Int)) rfl rfl (by kernel_rfl) (by kernel_rfl) (by kernel_rfl) (by kernel_rfl) (fun _ _ _ h=>h) (Or.inl ⟨by rfl,?_⟩) HS0.out ?_
 ·intro w' hSw
  obtain⟨k1,k4⟩:=hSw
  first|(go_simp;done)|(go_simp;with_reducible rfl)|(go_simp;intro hh;exfalso;omega)
 simp only[Act.put,List.setIfInBounds_toArray,List.set_cons_zero,List.set_cons_succ]
 refine AnyX.take (i:=5) (oi:=⟨some 20,_,_,_,_,_⟩) (v:=.pointer (some ⟨w.heap.size,4,none⟩)) rfl rfl (by kernel_rfl) (by kernel_rfl) (by kernel_rfl) (by kernel_rfl) (fun _ _ _ h=>h) (Or.inl ⟨by rfl,?_⟩) HS0.out ?_
 ·intro w' hSw
  obtain⟨k1,k4⟩:=hSw
  first|(go_simp;done)|(go_simp;with_reducible rfl)|(go_simp;intro hh;exfalso;omega)
 simp only[Act.put,List.setIfInBounds_toArray,List.set_cons_zero,List.set_cons_succ]
 refine AnyX.take (i:=6) (oi:=⟨some 21,_,_,_,_,_⟩) (v:=.int .i64 (b:Int)) rfl rfl (by kernel_rfl) (by kernel_rfl) (by kernel_rfl) (by kernel_rfl) (fun _ _ _ h=>h) (Or.inl ⟨by rfl,?_⟩) HS0.out ?_
 ·intro w' hSw
  obtain⟨k1,k4⟩:=hSw
  first|(go_simp;done)|(go_simp;with_reducible rfl)|(go_simp;intro hh;exfalso;omega)
 simp only[Act.put,List.setIfInBounds_toArray,List.set_cons_zero,List.set_cons_succ]
 refine AnyX.one (i:=4) (o:=⟨some 19,_,_,_,_,_⟩) (by kernel_rfl) rfl (fun K' hK=>?_)
 have HK:=Lib.hid hK
 clear hK
 go_simp
 go_at_call 38
 (with_reducible refine (HIA.out _).mono ?_)
 rintro e w3 ⟨rfl,rfl⟩
 refine HK.out _ _ (fun _=>HS0.out) ?_
 clear HK
 (try simp only[Act.put,List.setIfInBounds_toArray,List.set_cons_zero,List.set_cons_succ])
 refine AnyX.one (i:=7) (o:=⟨some 22,_,_,_,_,_⟩) (by kernel_rfl) rfl (fun K' hK=>?_)
 have HK:=Lib.hid hK
 clear hK
 go_simp
 go_at_call 38
 (with_reducible refine (HIB.out _).mono ?_)
 rintro e w3 ⟨rfl,rfl⟩
 refine HK.out _ _ (fun _=>HS0.out) ?_
 clear HK
 (try simp only[Act.put,List.setIfInBounds_toArray,List.set_cons_zero,List.set_cons_succ])
 refine AnyX.one (i:=8) (o:=⟨some 23,_,_,_,_,_⟩) (by kernel_rfl) rfl (fun K' hK=>?_)
 have HK:=Lib.hid hK
 clear hK
 go_simp
 refine HK.out _ _ (fun _=>HFS.out _ (joinB HBD.out (below_new (Below.refl _ _) _))) ?_
 clear HK
 (try simp only[Act.put,List.setIfInBounds_toArray,List.set_cons_zero,List.set_cons_succ])
 refine AnyX.one (i:=9) (o:=⟨some 24,_,_,_,_,_⟩) (by kernel_rfl) rfl (fun K' hK=>?_)
 have HK:=Lib.hid hK
 clear hK
 refine step_append_lies _ (by rfl) (.tmp 15) (.tmp 23) 35 (by rfl) W1.heap.size 9 i1 (.string ⟨#[]⟩) 1 16 Tryd.underlying35 HI1.out.1 HI1.out.2.1 HI1.out.2.2.1 HI1.out.2.2.2 rfl (by decide) (.slice (some ⟨W1.heap.size,0,none⟩) 1 1) 1 [.string mw] (by simp[Act.eval]) (World.ownsRow.alloc HOD.out _) ⟨W2.drew.heap.size,0,none⟩ 2 2 [.string sa,.string sb] (by simp[Act.eval]) rfl (two_newS _ _ _ _) (by intro u hu;simp at hu;rcases hu with rfl|rfl<;>rfl) (by decide) (by unfold maxLen;omega) (by omega) (by have:=Below.size HB2.out;simp;omega) _ rfl ?_
 intro bq4 cq4 w4 hown hg _ _
 have HO4:=Lib.hid hown
 have HB4:Hid (BelW W1 w4):=Lib.hid (app_bel (Nat.le_refl _) (joinB HBD.out (below_new (Below.refl _ _) _)) (World.ownsRow.alloc HOD.out _) hg)
 clear hown hg
 refine HK.out _ _ (fun _=>HFS.out _ HB4.out) ?_
 clear HK
 (try simp only[Act.put,List.setIfInBounds_toArray,List.set_cons_zero,List.set_cons_succ])
 refine AnyX.one (i:=10) (o:=⟨some 3,_,_,_,_,_⟩) (by kernel_rfl) rfl (fun K' hK=>?_)
 have HK:=Lib.hid hK
 clear hK
 go_simp
 refine HK.out _ _ (fun h=>absurd rfl h) ?_
 clear HK
 (try simp only[Act.put,List.setIfInBounds_toArray,List.set_cons_zero,List.set_cons_succ])
 refine AnyX.done (by kernel_rfl) ?_ _
 have g0:=(HFL.out.below HB4.out).cell 0
 have g1:=(HFL.out.below HB4.out).cell 1
 have g2:=(HFL.out.below HB4.out).cell 2
 have g3:=(HFL.out.below HB4.out).cell 3
 have g4:=(HFL.out.below HB4.out).cell 4
 simp only[List.getElem?_cons_zero,List.getElem?_cons_succ]at g0 g1 g2 g3 g4
 go_wp2_with (go_at_call 40;(with_reducible refine (HJN.out _ _ _ HO4.out).mono ?_);rintro e w8 ⟨rfl,h1⟩;have HB8:Hid (BelW W1 w8):=Lib.hid (joinB HB4.out h1);clear h1)
 go_ret
 exact⟨by(rw[HRES.out];try rfl),joinB HB1.out HB8.out⟩
end Go.Proofs.YtcbllelkgniogaaDoor
