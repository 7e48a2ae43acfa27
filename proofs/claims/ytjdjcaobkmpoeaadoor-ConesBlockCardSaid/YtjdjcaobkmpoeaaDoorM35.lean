/- The texts Lv5. -/
import Derived.Test.YtjdjcaobkmpoeaaDoorM34
import Derived.Test.YtjdjcaobkmpoeaaDoorM19
namespace Go.Proofs.YtjdjcaobkmpoeaaDoor
open Go.RowKit
theorem int5{V:World}{A:Option Addr}{m:Nat}{l:List Int}(hl:l.length=m)(hi:Is V V.heap.size (.slice A m m) l)(t:TypeId){W:World}{s:Value}(hb:BelW V W)(hs:Is W W.heap.size s l):
 Calls Tryd.prog 15 #[.slice A m m,s] W fun e w'=>e=.returned (.int .i64 0)∧∃k,w'=W.drewN k:=by
 subst hl
 refine (ints_any l l A l.length s W _ _ ((hi.below hb).more (Below.size hb)) hs).mono fun e w' ⟨h1,k,h2⟩=>⟨by rw[h1];simp[intsR],k,h2⟩
theorem lit5(V:World)(l:List Int)(hm:l.length≤maxLen):Is (V.alloc (.cells (l.map (Value.int .i64)).toArray 3)) (V.alloc (.cells (l.map (Value.int .i64)).toArray 3)).heap.size (.slice (some ⟨V.heap.size,0,none⟩) l.length l.length) l:=is_of 3 (heap_alloc_new _ _) hm (by simp)
theorem intc5{V:World}{A:Option Addr}{m:Nat}{l:List Int}(hl:l.length=m)(hi:Is V V.heap.size (.slice A m m) l)(hm:m≤maxLen)(cs:Array Value)(hcs:cs=(l.map (Value.int .i64)).toArray):
 Calls Tryd.prog 15 #[.slice A m m,.slice (some ⟨V.heap.size,0,none⟩) m m] (V.alloc (.cells cs 3)) fun e w'=>e=.returned (.int .i64 0)∧BelW V w':=by
 subst hcs
 have hal:BelW V (V.alloc (.cells (l.map (Value.int .i64)).toArray 3)):=below_new (Below.refl _ _) _
 have hl2:=lit5 V l (by rw[hl];exact hm)
 rw[hl]at hl2
 refine (int5 hl hi 3 hal hl2).mono fun e w' ⟨h1,k,h2⟩=>⟨h1,?_⟩
 rw[h2]
 exact belW_drewN hal k
section
variable (A0 A1 A3:Option Addr) (c0 c1 c3:Nat)
set_option maxRecDepth 100000 in
theorem fanin5(W:World)(l:List Int)(s:Value)(R:List Int)(S:List Bool)(hT:Tabs W)(hc:Cir W W.heap.size (.agg #[.slice A0 5 c0,.slice A1 5 c1,.slice none 0 0,.slice A3 1 c3]) E5)(hs:Is W W.heap.size s l)(hck:ckI E5 l=0)(hl:Inr 5 l)(hS:cloN (fun j=>dep E5.nodes (j:Int)) 5 l 5=S)(h1:cloS (fun j=>dep E5.nodes (j:Int)) 5 S=S)(h0:(l.all fun x=>bat S x.toNat)=true)(hR:memB S 5=R)(m:Nat)(hm:R.length=m):
 Calls Tryd.prog 9 #[.agg #[.slice A0 5 c0,.slice A1 5 c1,.slice none 0 0,.slice A3 1 c3],s] W fun e w'=>∃A,e=.returned (.tuple #[.slice A m m,.int .i64 0])∧Is w' w'.heap.size (.slice A m m) R∧BelW W w':=by
 refine (fanin_ok E5 l s A0 A1 none A3 5 5 0 1 c0 c1 0 c3 W hT hc hs hck hl g5_ex.depi (by decide)).mono fun e w' ⟨A,R',hv,he,hi,hb⟩=>?_
 have hRS:=e5_vis _ hv hl g5_ex.depi hS h1 h0
 subst hRS
 rw[hR,hm]at he hi
 exact⟨A,he,hi,hb⟩
theorem fanout5(W:World)(l:List Int)(s:Value)(R:List Int)(S:List Bool)(hT:Tabs W)(hc:Cir W W.heap.size (.agg #[.slice A0 5 c0,.slice A1 5 c1,.slice none 0 0,.slice A3 1 c3]) E5)(hs:Is W W.heap.size s l)(hck:ckI E5 l=0)(hl:Inr 5 l)(hS:cloN (rdL E5.nodes) 5 l 5=S)(h1:cloS (rdL E5.nodes) 5 S=S)(h0:(l.all fun x=>bat S x.toNat)=true)(hR:memB S 5=R)(m:Nat)(hm:R.length=m):
 Calls Tryd.prog 10 #[.agg #[.slice A0 5 c0,.slice A1 5 c1,.slice none 0 0,.slice A3 1 c3],s] W fun e w'=>∃A,e=.returned (.tuple #[.slice A m m,.int .i64 0])∧Is w' w'.heap.size (.slice A m m) R∧BelW W w':=by
 refine (fanout_ok E5 l s A0 A1 none A3 5 5 0 1 c0 c1 0 c3 W hT hc hs hck hl g5_ex.inr' (by decide) g5_ex.np).mono fun e w' ⟨A,R',hv,he,hi,hb⟩=>?_
 have hRS:=e5_vis _ hv hl g5_ex.inr' hS h1 h0
 subst hRS
 rw[hR,hm]at he hi
 exact⟨A,he,hi,hb⟩
theorem ck5(l:List Int)(h:anyP (badI 5) l=false):ckI E5 l=0:=by
 unfold ckI
 rw[if_pos e5_ok,if_neg]
 rw[show E5.nodes.length=5 from rfl,h]
 decide
theorem doms5(W:World)(x:Nat)(hx:x<5)(hT:Tabs W)(hc:Cir W W.heap.size (.agg #[.slice A0 5 c0,.slice A1 5 c1,.slice none 0 0,.slice A3 1 c3]) E5):
 Calls Tryd.prog 11 #[.agg #[.slice A0 5 c0,.slice A1 5 c1,.slice none 0 0,.slice A3 1 c3],.int .i64 (x:Int)] W fun e w'=>∃A,e=.returned (.tuple #[.slice A (dm5 x).length (dm5 x).length,.int .i64 0])∧Is w' w'.heap.size (.slice A (dm5 x).length (dm5 x).length) (dm5 x)∧BelW W w':=by
 refine (doms_ok E5 [0,1,2,3,4] A0 A1 none A3 5 5 0 1 c0 c1 0 c3 W x hx g5_ex hT hc).mono fun e w' ⟨A,T,he,hd,hi,hb⟩=>?_
 have:=e5_dom x hx T hd
 subst this
 exact⟨A,he,hi,hb⟩
theorem meets5x(W:World)(x:Nat)(hx:x<5)(hT:Tabs W)(hc:Cir W W.heap.size (.agg #[.slice A0 5 c0,.slice A1 5 c1,.slice none 0 0,.slice A3 1 c3]) E5):
 Calls Tryd.prog 12 #[.agg #[.slice A0 5 c0,.slice A1 5 c1,.slice none 0 0,.slice A3 1 c3],.int .i64 (x:Int)] W fun e w'=>∃A,e=.returned (.tuple #[.slice A (mt5 x).length (mt5 x).length,.int .i64 0])∧Is w' w'.heap.size (.slice A (mt5 x).length (mt5 x).length) (mt5 x)∧BelW W w':=by
 refine (meets_ok E5 [0,1,2,3,4] A0 A1 none A3 5 5 0 1 c0 c1 0 c3 W x hx g5_ex hT hc).mono fun e w' ⟨A,R,T,he,hv,hTT,hi,hb⟩=>?_
 rw[e5_meet x hx R hv]at hTT
 subst hTT
 exact⟨A,he,hi,hb⟩
theorem regs5(W:World)(hT:Tabs W)(hc:Cir W W.heap.size (.agg #[.slice A0 5 c0,.slice A1 5 c1,.slice none 0 0,.slice A3 1 c3]) E5):
 Calls Tryd.prog 13 #[.agg #[.slice A0 5 c0,.slice A1 5 c1,.slice none 0 0,.slice A3 1 c3]] W fun e w'=>∃A,e=.returned (.tuple #[.slice A 5 5,.int .i64 0])∧Is w' w'.heap.size (.slice A 5 5) [0,1,4,4,4]∧BelW W w':=by
 refine (regions_ok E5 [0,1,2,3,4] A0 A1 none A3 5 5 0 1 c0 c1 0 c3 W g5_ex hT hc).mono fun e w' ⟨g,he,hr,hb⟩=>?_
 rw[e5_stem]at hr
 exact⟨_,he,hr.is (by show 5≤maxLen;unfold maxLen;decide),hb⟩
theorem regP5(W:World)(hT:Tabs W)(hc:Cir W W.heap.size (.agg #[.slice A0 5 c0,.slice A1 5 c1,.slice none 0 0,.slice A3 1 c3]) E5):Calls Tryd.prog 13 #[.agg #[.slice A0 5 c0,.slice A1 5 c1,.slice none 0 0,.slice A3 1 c3]] W (RegP (stemL E5) 5 W):=by
 refine (regions_ok E5 [0,1,2,3,4] A0 A1 none A3 5 5 0 1 c0 c1 0 c3 W g5_ex hT hc).mono fun e w' ⟨g,he,hr,hb⟩=>?_
 rw[e5_stem]at hr ⊢
 exact⟨_,_,he,hr.is (by show 5≤maxLen;unfold maxLen;decide),hb⟩
theorem stems5(W:World)(hT:Tabs W)(hc:Cir W W.heap.size (.agg #[.slice A0 5 c0,.slice A1 5 c1,.slice none 0 0,.slice A3 1 c3]) E5):
 Calls Tryd.prog 14 #[.agg #[.slice A0 5 c0,.slice A1 5 c1,.slice none 0 0,.slice A3 1 c3]] W fun e w'=>∃A,e=.returned (.tuple #[.slice A 3 3,.int .i64 0])∧Is w' w'.heap.size (.slice A 3 3) [0,1,4]∧BelW W w':=by
 refine (stems_ok A0 A1 none A3 5 5 0 1 c0 c1 0 c3 (stemL E5) W (by decide) fun V h=>regP5 A0 A1 A3 c0 c1 c3 V (hT.below h) ((hc.below h).more (Below.size h))).mono fun e w' ⟨A,he,hi,hb⟩=>?_
 rw[e5_stems]at he hi
 exact⟨A,he,hi,hb⟩
theorem pts5(W:World)(hc:Cir W W.heap.size (.agg #[.slice A0 5 c0,.slice A1 5 c1,.slice none 0 0,.slice A3 1 c3]) E5):
 Calls Tryd.prog 16 #[.agg #[.slice A0 5 c0,.slice A1 5 c1,.slice none 0 0,.slice A3 1 c3]] W fun e w'=>∃A,e=.returned (.slice A 1 1)∧Is w' w'.heap.size (.slice A 1 1) [4]∧BelW W w':=by
 refine (points_any E5 A0 A1 none A3 5 5 0 1 c0 c1 0 c3 W hc rfl (by decide)).mono fun e w' ⟨A,he,hi,hb⟩=>?_
 rw[e5_pts]at he hi
 exact⟨A,he,hi,hb⟩
end
set_option maxRecDepth 100000 in
set_option maxHeartbeats 8000000 in
theorem lives5_any(w:World)(hT:Tabs w):Calls Tryd.prog 6 #[] w fun e w'=>e=.returned (.bool true)∧BelW w w':=by
 have HEX:=Lib.hid (example5_any w)
 have HTA:=Lib.hid hT
 clear hT
 go_enter Tryd.func6,Tryd.ntmps6
 go_upto_region 2 with (go_at_call 22;(with_reducible refine HEX.out.mono ?_);rintro e w1 ⟨⟨A0,A1,A3,c0,c1,c3,rfl,h1⟩,h2⟩;have HC1:=Lib.hid h1;have HB1:=Lib.hid h2;clear h1 h2)
 obtain⟨W1,HW1⟩:=named (w1.alloc (.cells #[.slice A0 5 c0,.slice A1 5 c1,.slice none 0 0,.slice A3 1 c3] 27))
 have hb1:BelW w1 W1:=by rw[HW1.out];exact below_new (Below.refl _ _) _
 have hfr:Fr W1 w1.heap.size 27 [.slice A0 5 c0,.slice A1 5 c1,.slice none 0 0,.slice A3 1 c3]:=by rw[HW1.out];exact Fr.made _ _ _ rfl
 obtain⟨q,HQ⟩:=named w1.heap.size
 rw[←HQ.out]at hfr
 have HCE:Hid (∀W,BelW W1 W→W.cell? ⟨q,0,none⟩=some (.slice A0 5 c0)∧W.cell? ⟨q,1,none⟩=some (.slice A1 5 c1)∧W.cell? ⟨q,2,none⟩=some (.slice none 0 0)∧W.cell? ⟨q,3,none⟩=some (.slice A3 1 c3)):=Lib.hid fun W h=>⟨(hfr.below h).cell 0,(hfr.below h).cell 1,(hfr.below h).cell 2,(hfr.below h).cell 3⟩
 have HC:Hid (∀W,BelW W1 W→Tabs W∧Cir W W.heap.size (.agg #[.slice A0 5 c0,.slice A1 5 c1,.slice none 0 0,.slice A3 1 c3]) E5):=Lib.hid fun W h=>⟨HTA.out.below (joinB HB1.out (joinB hb1 h)),(HC1.out.below (joinB hb1 h)).more (Below.size (joinB hb1 h))⟩
 have HW0:Hid (BelW w W1):=Lib.hid (joinB HB1.out hb1)
 have HQ2:=Lib.hid HQ.out
 have HW11:=Lib.hid HW1.out
 clear hb1 hfr HQ HW1
 rw[←HW11.out,←HQ2.out]
 have hal:BelW W1 (W1.alloc (.cells #[.int .i64 2] 3)):=below_new (Below.refl _ _) _
 have HF2:Hid (Calls Tryd.prog 9 #[.agg #[.slice A0 5 c0,.slice A1 5 c1,.slice none 0 0,.slice A3 1 c3],.slice (some ⟨W1.heap.size,0,none⟩) 1 1] (W1.alloc (.cells #[.int .i64 2] 3)) fun e w'=>∃A,e=.returned (.tuple #[.slice A 3 3,.int .i64 0])∧Is w' w'.heap.size (.slice A 3 3) [0,1,2]∧BelW (W1.alloc (.cells #[.int .i64 2] 3)) w'):=Lib.hid (fanin5 A0 A1 A3 c0 c1 c3 _ [2] _ [0,1,2] [true,true,true,false,false] (HC.out _ hal).1 (HC.out _ hal).2 (lit5 W1 [2] (by show 1≤maxLen;unfold maxLen;decide)) (ck5 _ (by decide)) (e5_inr _ (by decide)) (by decide) (by decide) (by decide) (by decide) 3 rfl)
 have HAL2:=Lib.hid hal
 clear hal
 obtain⟨x0,x1,x2,x3⟩:=HCE.out W1 (Below.refl _ _)
 go_upto_region 3 with (go_at_call 9;(with_reducible refine HF2.out.mono ?_);rintro e w2 ⟨Ar2,rfl,h1,h2⟩;have HI2:=Lib.hid h1;have HB2:Hid (BelW W1 w2):=Lib.hid (joinB HAL2.out h2);have HS2:Hid (BelW W1 w2):=Lib.hid (joinB (below_new (Below.refl _ _) _) h2);clear h1 h2 x0 x1 x2 x3)
 have hal:BelW W1 (w2.alloc (.cells #[.int .i64 3,.int .i64 1] 3)):=below_new HB2.out _
 have HF3:Hid (Calls Tryd.prog 9 #[.agg #[.slice A0 5 c0,.slice A1 5 c1,.slice none 0 0,.slice A3 1 c3],.slice (some ⟨w2.heap.size,0,none⟩) 2 2] (w2.alloc (.cells #[.int .i64 3,.int .i64 1] 3)) fun e w'=>∃A,e=.returned (.tuple #[.slice A 4 4,.int .i64 0])∧Is w' w'.heap.size (.slice A 4 4) [0,1,2,3]∧BelW (w2.alloc (.cells #[.int .i64 3,.int .i64 1] 3)) w'):=Lib.hid (fanin5 A0 A1 A3 c0 c1 c3 _ [3,1] _ [0,1,2,3] [true,true,true,true,false] (HC.out _ hal).1 (HC.out _ hal).2 (lit5 w2 [3,1] (by show 2≤maxLen;unfold maxLen;decide)) (ck5 _ (by decide)) (e5_inr _ (by decide)) (by decide) (by decide) (by decide) (by decide) 4 rfl)
 have HAL3:=Lib.hid hal
 clear hal
 obtain⟨x0,x1,x2,x3⟩:=HCE.out w2 HB2.out
 go_upto_region 4 with (go_at_call 9;(with_reducible refine HF3.out.mono ?_);rintro e w3 ⟨Ar3,rfl,h1,h2⟩;have HI3:=Lib.hid h1;have HB3:Hid (BelW W1 w3):=Lib.hid (joinB HAL3.out h2);have HS3:Hid (BelW w2 w3):=Lib.hid (joinB (below_new (Below.refl _ _) _) h2);clear h1 h2 x0 x1 x2 x3)
 have hal:BelW W1 (w3.alloc (.cells #[.int .i64 1] 3)):=below_new HB3.out _
 have HF4:Hid (Calls Tryd.prog 10 #[.agg #[.slice A0 5 c0,.slice A1 5 c1,.slice none 0 0,.slice A3 1 c3],.slice (some ⟨w3.heap.size,0,none⟩) 1 1] (w3.alloc (.cells #[.int .i64 1] 3)) fun e w'=>∃A,e=.returned (.tuple #[.slice A 4 4,.int .i64 0])∧Is w' w'.heap.size (.slice A 4 4) [1,2,3,4]∧BelW (w3.alloc (.cells #[.int .i64 1] 3)) w'):=Lib.hid (fanout5 A0 A1 A3 c0 c1 c3 _ [1] _ [1,2,3,4] [false,true,true,true,true] (HC.out _ hal).1 (HC.out _ hal).2 (lit5 w3 [1] (by show 1≤maxLen;unfold maxLen;decide)) (ck5 _ (by decide)) (e5_inr _ (by decide)) (by decide) (by decide) (by decide) (by decide) 4 rfl)
 have HAL4:=Lib.hid hal
 clear hal
 obtain⟨x0,x1,x2,x3⟩:=HCE.out w3 HB3.out
 go_upto_region 5 with (go_at_call 10;(with_reducible refine HF4.out.mono ?_);rintro e w4 ⟨Ar4,rfl,h1,h2⟩;have HI4:=Lib.hid h1;have HB4:Hid (BelW W1 w4):=Lib.hid (joinB HAL4.out h2);have HS4:Hid (BelW w3 w4):=Lib.hid (joinB (below_new (Below.refl _ _) _) h2);clear h1 h2 x0 x1 x2 x3)
 have hal:BelW W1 w4:=HB4.out
 have HF5:=Lib.hid (regs5 A0 A1 A3 c0 c1 c3 w4 (HC.out _ hal).1 (HC.out _ hal).2)
 have HAL5:=Lib.hid hal
 clear hal
 obtain⟨x0,x1,x2,x3⟩:=HCE.out w4 HB4.out
 go_upto_region 6 with (go_at_call 13;(with_reducible refine HF5.out.mono ?_);rintro e w5 ⟨Ar5,rfl,h1,h2⟩;have HI5:=Lib.hid h1;have HB5:Hid (BelW W1 w5):=Lib.hid (joinB HAL5.out h2);have HS5:Hid (BelW w4 w5):=Lib.hid (h2);clear h1 h2 x0 x1 x2 x3)
 have hal:BelW W1 w5:=HB5.out
 have HF6:=Lib.hid (stems5 A0 A1 A3 c0 c1 c3 w5 (HC.out _ hal).1 (HC.out _ hal).2)
 have HAL6:=Lib.hid hal
 clear hal
 obtain⟨x0,x1,x2,x3⟩:=HCE.out w5 HB5.out
 go_upto_region 7 with (go_at_call 14;(with_reducible refine HF6.out.mono ?_);rintro e w6 ⟨Ar6,rfl,h1,h2⟩;have HI6:=Lib.hid h1;have HB6:Hid (BelW W1 w6):=Lib.hid (joinB HAL6.out h2);have HS6:Hid (BelW w5 w6):=Lib.hid (h2);clear h1 h2 x0 x1 x2 x3)
 have HL2:Hid (∀W,BelW w6 W→Is W W.heap.size (.slice Ar2 3 3) [0,1,2]):=Lib.hid fun W h=>(HI2.out.below (joinB (joinB HS3.out (joinB HS4.out (joinB HS5.out HS6.out))) h)).more (Below.size (joinB (joinB HS3.out (joinB HS4.out (joinB HS5.out HS6.out))) h))
 have HL3:Hid (∀W,BelW w6 W→Is W W.heap.size (.slice Ar3 4 4) [0,1,2,3]):=Lib.hid fun W h=>(HI3.out.below (joinB (joinB HS4.out (joinB HS5.out HS6.out)) h)).more (Below.size (joinB (joinB HS4.out (joinB HS5.out HS6.out)) h))
 have HL4:Hid (∀W,BelW w6 W→Is W W.heap.size (.slice Ar4 4 4) [1,2,3,4]):=Lib.hid fun W h=>(HI4.out.below (joinB (joinB HS5.out HS6.out) h)).more (Below.size (joinB (joinB HS5.out HS6.out) h))
 have HL5:Hid (∀W,BelW w6 W→Is W W.heap.size (.slice Ar5 5 5) [0,1,4,4,4]):=Lib.hid fun W h=>(HI5.out.below (joinB HS6.out h)).more (Below.size (joinB HS6.out h))
 have HL6:Hid (∀W,BelW w6 W→Is W W.heap.size (.slice Ar6 3 3) [0,1,4]):=Lib.hid fun W h=>(HI6.out.below (joinB (Below.refl _ _) h)).more (Below.size (joinB (Below.refl _ _) h))
 have HP7:=Lib.hid (pts5 A0 A1 A3 c0 c1 c3 w6 (HC.out _ HB6.out).2)
 obtain⟨x0,x1,x2,x3⟩:=HCE.out w6 HB6.out
 go_upto_region 9 with (first
  |(go_at_call 16;(with_reducible refine HP7.out.mono ?_);rintro e w7 ⟨Ar7,rfl,h1,h2⟩;have HI7:=Lib.hid h1;have HB7:Hid (BelW w6 w7):=Lib.hid h2;have HN7:=Lib.hid (intc5 (V:=w7) (A:=Ar7) (m:=1) (l:=[4]) rfl (HI7.out) (by show 1≤maxLen;unfold maxLen;decide) #[.int .i64 4] rfl);clear h1 h2 x0 x1 x2 x3)
  |(go_at_call 15;(with_reducible refine HN7.out.mono ?_);rintro e w8 ⟨rfl,hb⟩;have HB8:Hid (BelW w6 w8):=Lib.hid (joinB HB7.out hb);have HN2:=Lib.hid (intc5 (V:=w8) (A:=Ar2) (m:=3) (l:=[0,1,2]) rfl (HL2.out w8 HB8.out) (by show 3≤maxLen;unfold maxLen;decide) #[.int .i64 0,.int .i64 1,.int .i64 2] rfl);clear hb)
  |(go_at_call 15;(with_reducible refine HN2.out.mono ?_);rintro e w9 ⟨rfl,hb⟩;have HB9:Hid (BelW w6 w9):=Lib.hid (joinB HB8.out hb);have HN3:=Lib.hid (intc5 (V:=w9) (A:=Ar3) (m:=4) (l:=[0,1,2,3]) rfl (HL3.out w9 HB9.out) (by show 4≤maxLen;unfold maxLen;decide) #[.int .i64 0,.int .i64 1,.int .i64 2,.int .i64 3] rfl);clear hb)
  |(go_at_call 15;(with_reducible refine HN3.out.mono ?_);rintro e w10 ⟨rfl,hb⟩;have HB10:Hid (BelW w6 w10):=Lib.hid (joinB HB9.out hb);have HN4:=Lib.hid (intc5 (V:=w10) (A:=Ar4) (m:=4) (l:=[1,2,3,4]) rfl (HL4.out w10 HB10.out) (by show 4≤maxLen;unfold maxLen;decide) #[.int .i64 1,.int .i64 2,.int .i64 3,.int .i64 4] rfl);clear hb)
  |(go_at_call 15;(with_reducible refine HN4.out.mono ?_);rintro e w11 ⟨rfl,hb⟩;have HB11:Hid (BelW w6 w11):=Lib.hid (joinB HB10.out hb);have HN5:=Lib.hid (intc5 (V:=w11) (A:=Ar5) (m:=5) (l:=[0,1,4,4,4]) rfl (HL5.out w11 HB11.out) (by show 5≤maxLen;unfold maxLen;decide) #[.int .i64 0,.int .i64 1,.int .i64 4,.int .i64 4,.int .i64 4] rfl);clear hb)
  |(go_at_call 15;(with_reducible refine HN5.out.mono ?_);rintro e w12 ⟨rfl,hb⟩;have HB12:Hid (BelW w6 w12):=Lib.hid (joinB HB11.out hb);have HN6:=Lib.hid (intc5 (V:=w12) (A:=Ar6) (m:=3) (l:=[0,1,4]) rfl (HL6.out w12 HB12.out) (by show 3≤maxLen;unfold maxLen;decide) #[.int .i64 0,.int .i64 1,.int .i64 4] rfl);clear hb)
  |(go_at_call 15;(with_reducible refine HN6.out.mono ?_);rintro e w13 ⟨rfl,hb⟩;have HB13:Hid (BelW w6 w13):=Lib.hid (joinB HB12.out hb);clear hb))
 go_upto_region 11 with (fail)
 generalize hW:World.alloc _ _=V
 obtain⟨hz,h0,h1,h2,h3,h4,h5,h6,h7,hb⟩:=eight5 w13 V _ _ _ _ _ _ _ _ hW.symm
 clear hW
 have HDM:Hid (∀k:Nat,k<5→∃A c,V.cell? ⟨w13.heap.size+1+1+1+1,0+k,none⟩=some (.slice A (dm5 k).length c)∧Is V V.heap.size (.slice A (dm5 k).length c) (dm5 k)):=Lib.hid fun k hk=>by
  rw[cell_of_row V _ _ _ _ _ h4]
  have hk5:k=0∨k=1∨k=2∨k=3∨k=4:=by omega
  rcases hk5 with rfl|rfl|rfl|rfl|rfl
  ·exact⟨_,_,rfl,is_of (l:=[4]) _ h0 (by simp[maxLen]) (by omega)⟩
  ·exact⟨_,_,rfl,is_of (l:=[4]) _ h1 (by simp[maxLen]) (by omega)⟩
  ·exact⟨_,_,rfl,is_of (l:=[3,4]) _ h2 (by simp[maxLen]) (by omega)⟩
  ·exact⟨_,_,rfl,is_of (l:=[4]) _ h3 (by simp[maxLen]) (by omega)⟩
  ·exact⟨_,_,rfl,Arr.nil _ _ _ _ _⟩
 have HMT:Hid (∀k:Nat,k<5→∃A c,V.cell? ⟨w13.heap.size+1+1+1+1+1+1+1,0+k,none⟩=some (.slice A (mt5 k).length c)∧Is V V.heap.size (.slice A (mt5 k).length c) (mt5 k)):=Lib.hid fun k hk=>by
  rw[cell_of_row V _ _ _ _ _ h7]
  have hk5:k=0∨k=1∨k=2∨k=3∨k=4:=by omega
  rcases hk5 with rfl|rfl|rfl|rfl|rfl
  ·exact⟨_,_,rfl,is_of (l:=[2,4]) _ h5 (by simp[maxLen]) (by omega)⟩
  ·exact⟨_,_,rfl,is_of (l:=[4]) _ h6 (by simp[maxLen]) (by omega)⟩
  ·exact⟨_,_,rfl,Arr.nil _ _ _ _ _⟩
  ·exact⟨_,_,rfl,Arr.nil _ _ _ _ _⟩
  ·exact⟨_,_,rfl,Arr.nil _ _ _ _ _⟩
 have HBV:Hid (BelW W1 V):=Lib.hid (joinB HB6.out (joinB HB13.out hb))
 have HLD:Hid (∀k:Nat,k<5→(dm5 k).length≤1000):=Lib.hid fun k hk=>five_of (p:=fun k=>(dm5 k).length≤1000) (by decide) (by decide) (by decide) (by decide) (by decide) k hk
 obtain⟨gD,HGD⟩:=named (w13.heap.size+1+1+1+1)
 obtain⟨gM,HGM⟩:=named (w13.heap.size+1+1+1+1+1+1+1)
 have HGL:Hid (gD<V.heap.size∧gM<V.heap.size):=Lib.hid ⟨by rw[HGD.out];omega,by rw[HGM.out];omega⟩
 rw[←HGD.out]at HDM
 rw[←HGM.out]at HMT
 rw[←HGM.out,←HGD.out]
 clear hz h0 h1 h2 h3 h4 h5 h6 h7 hb HGD HGM
 go_wp2
 go_loopw [14] (fun iv wr=>∃k:Nat,k≤5∧iv=.int .i64 k∧Hid (BelW V wr)) (fun iv _=>5-(intOf iv).toNat)
 case atStart=>exact⟨0,Nat.zero_le _,rfl,Lib.hid (Below.refl _ _)⟩
 case round=>
  obtain⟨k,hk,rfl,HB⟩:=hrel
  by_cases hlt:k<5
  ·have hk2:(k:Int)<5:=by omega
   have HBW:Hid (BelW W1 wr):=Lib.hid (joinB HBV.out HB.out)
   obtain⟨x0,x1,x2,x3⟩:=HCE.out wr HBW.out
   have HDO:=Lib.hid (doms5 A0 A1 A3 c0 c1 c3 wr k hlt (HC.out wr HBW.out).1 (HC.out wr HBW.out).2)
   obtain⟨Ad,cd,hd1,hd2⟩:=HDM.out k hlt
   obtain⟨Am,cm,hm1,hm2⟩:=HMT.out k hlt
   have HD1:=Lib.hid hd1
   have HD2:=Lib.hid hd2
   have HM1:=Lib.hid hm1
   have HM2:=Lib.hid hm2
   have HLDD:Hid ((dm5 k).length≤maxLen∧(mt5 k).length≤maxLen):=Lib.hid ⟨Arr.len HD2.out,Arr.len HM2.out⟩
   have hmo:=fun W h=>meets5x A0 A1 A3 c0 c1 c3 W k hlt (HC.out W h).1 (HC.out W h).2
   have HMO:=Lib.hid hmo
   obtain⟨dl,HDL⟩:=named (dm5 k)
   obtain⟨ml,HML⟩:=named (mt5 k)
   rw[←HDL.out]at HDO HD1 HD2
   rw[←HML.out]at HM1 HM2 HMO
   obtain⟨nd,HND⟩:=named dl.length
   obtain⟨nm,HNM⟩:=named ml.length
   rw[←HND.out]at HDO HD1 HD2
   rw[←HNM.out]at HM1 HM2 HMO
   clear hd1 hd2 hm1 hm2 hmo HDL HML
   go_upto_region 15 with (go_at_call 11;(with_reducible refine HDO.out.mono ?_);rintro e v2 ⟨A20,rfl,h1,h2⟩;have HI20:=Lib.hid h1;have HB20:=Lib.hid h2;clear h1 h2 x0 x1 x2 x3)
   have HBW2:Hid (BelW W1 v2):=Lib.hid (joinB HBW.out HB20.out)
   have HMO2:=Lib.hid (HMO.out v2 HBW2.out)
   obtain⟨x0,x1,x2,x3⟩:=HCE.out v2 HBW2.out
   go_upto_region 16 with (go_at_call 12;(with_reducible refine HMO2.out.mono ?_);rintro e v3 ⟨A30,rfl,h1,h2⟩;have HI30:=Lib.hid h1;have HB30:=Lib.hid h2;clear h1 h2 x0 x1 x2 x3)
   have HBV3:Hid (BelW V v3):=Lib.hid (joinB HB.out (joinB HB20.out HB30.out))
   have HQ1:Hid (∀n,Calls Tryd.prog 15 #[.slice A20 nd nd,.slice Ad nd cd] (v3.drewN n) fun e w'=>e=.returned (.int .i64 0)∧∃k,w'=(v3.drewN n).drewN k):=Lib.hid fun n=>int5 (V:=v3) (l:=dl) HND.out.symm ((HI20.out.below HB30.out).more (Below.size HB30.out)) 3 (belW_drewN (Below.refl _ _) n) ((HD2.out.below (belW_drewN HBV3.out n)).more (Below.size (belW_drewN HBV3.out n)))
   have HQ3:Hid (∀n,Calls Tryd.prog 15 #[.slice A30 nm nm,.slice Am nm cm] (v3.drewN n) fun e w'=>e=.returned (.int .i64 0)∧∃k,w'=(v3.drewN n).drewN k):=Lib.hid fun n=>int5 (V:=v3) (l:=ml) HNM.out.symm HI30.out 3 (belW_drewN (Below.refl _ _) n) ((HM2.out.below (belW_drewN HBV3.out n)).more (Below.size (belW_drewN HBV3.out n)))
   have y0:v3.cell? ⟨gD,k,none⟩=some (.slice Ad nd cd):=by have h:=(Below.cell HBV3.out (p:=⟨gD,0+k,none⟩) HGL.out.1).trans HD1.out;rwa [Nat.zero_add]at h
   have y1:v3.cell? ⟨gM,k,none⟩=some (.slice Am nm cm):=by have h:=(Below.cell HBV3.out (p:=⟨gM,0+k,none⟩) HGL.out.2).trans HM1.out;rwa [Nat.zero_add]at h
   go_quiet (first|(go_at_call 15;with_reducible exact Calls.quiet_of (HQ1.out _))|(go_at_call 15;with_reducible exact Calls.quiet_of (HQ3.out _)))
   go_wp2
   go_roundw
   case rel=>exact⟨k+1,by omega,by go_num,Lib.hid (belW_drewN HBV3.out _)⟩
   case measure=>simp[intOf];omega
  ·obtain rfl:k=5:=by omega
   go_wp2
   go_ret
   exact⟨rfl,joinB HW0.out (joinB HBV.out HB.out)⟩
end Go.Proofs.YtjdjcaobkmpoeaaDoor
