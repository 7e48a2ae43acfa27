import Derived.Test.YtcbllelkgniogaaDoorM38
import Derived.Test.YtcbllelkgniogaaDoorM41
namespace Go.Proofs.YtcbllelkgniogaaDoor
open Go.RowKit
attribute [local go_sem] Oper.semAt_some
theorem noM_G5(x:Cx)(hx:Cok x):∃L,G5 (ofC x.noM) (ofC x.noM).nodes.length L∧ckF (ofC x.noM)=0:=by
 have hok:=ofC_ok x.noM (cok_noM hx)
 have hlen:(ofC x.noM).nodes.length≤20:=by
  rw[ofC_len]
  have:=sizeN_le x.noM
  omega
 obtain⟨L,G⟩:=g5_of hok hlen
 refine⟨L,G,?_⟩
 unfold ckF
 have hm:(ofC x.noM).mems.length=0:=by
  show (memsN x.noM).length=0
  simp[memsN,Cx.noM]
 rw[if_pos hok,hm,if_neg (Nat.lt_irrefl _)]
set_option maxRecDepth 100000 in
set_option maxHeartbeats 8000000 in
theorem fchk_law(x:Cx)(hx:Cok x)(f:Ft)(hvl:0≤f.vl)(sG sA:Value)(w:World)(hT:Tabs w)(hM:MWs w)(hG:Gs w w.heap.size sG x.gates)(hA:Ks w w.heap.size sA x.outs):
 Calls Tryd.prog 3 #[.agg #[.int .u8 x.inN,.int .u8 x.dffs,.int .u8 x.d0,.int .u8 x.d1,.bool x.bus,.bool x.mem,.int .u8 x.p0,.int .u8 x.p1,.int .u8 x.p2,.int .u8 x.p3,sG,sA],.agg #[.int .u8 f.md,.int .i64 f.nd,.int .i64 f.pn,.int .u8 f.vl,.int .i64 f.ot]] w
  fun e w'=>e=.returned (.bool true)∧BelW w w':=by
 obtain⟨L,G,hck⟩:=noM_G5 x hx
 obtain⟨md,nd,pn,vl,ot⟩:=f
 simp only at hvl ⊢
 have HCI:∀V,Below w.heap.size w V→Calls Tryd.prog 7 #[.agg #[.int .u8 x.inN,.int .u8 x.dffs,.int .u8 x.d0,.int .u8 x.d1,.bool x.bus,.bool x.mem,.int .u8 x.p0,.int .u8 x.p1,.int .u8 x.p2,.int .u8 x.p3,sG,sA]] V fun e w'=>(∃A0 A1 A2 A3 n1 n2 n3 c0 c1 c2 c3,e=.returned (.agg #[.slice A0 (ofC x.noM).nodes.length c0,.slice A1 n1 c1,.slice A2 n2 c2,.slice A3 n3 c3])∧Cir w' w'.heap.size (.agg #[.slice A0 (ofC x.noM).nodes.length c0,.slice A1 n1 c1,.slice A2 n2 c2,.slice A3 n3 c3]) (ofC x.noM))∧Below w.heap.size w w'∧BelW V w':=fun V hV=>by
  refine (circ12_any x hx sG sA V (Arr.keep stays_g hG (Below.size hV) fun _ hp=>Below.cell hV hp) (Arr.keep stays_u8 hA (Below.size hV) fun _ hp=>Below.cell hV hp)).mono ?_
  rintro e w' ⟨⟨v0,v1,v2,v3,rfl,hc⟩,hb⟩
  refine⟨?_,joinB hV hb,hb⟩
  obtain⟨u0,u1,u2,u3,ev,hns,hss,hms,hos⟩:=hc
  simp only[Value.agg.injEq,Array.mk.injEq,List.cons.injEq,and_true]at ev
  obtain⟨rfl,rfl,rfl,rfl⟩:=ev
  obtain⟨A0,b0,o0,c0,rfl,-⟩:=id hns
  obtain⟨A1,b1,o1,c1,rfl,-⟩:=id hss
  obtain⟨A2,b2,o2,c2,rfl,-⟩:=id hms
  obtain⟨A3,b3,o3,c3,rfl,-⟩:=id hos
  exact⟨_,_,_,_,_,_,_,_,_,_,_,rfl,_,_,_,_,rfl,hns,hss,hms,hos⟩
 obtain⟨c,HC⟩:=named (ofC x.noM)
 rw[←HC.out]at G hck HCI
 obtain⟨n,HN⟩:=named c.nodes.length
 rw[←HN.out]at G HCI
 have HCK:Hid (∀(A0 A1 A2 A3:Option Addr) (n1 n2 n3 c0 c1 c2 c3:Nat) V,Below w.heap.size w V→Cir V V.heap.size (.agg #[.slice A0 n c0,.slice A1 n1 c1,.slice A2 n2 c2,.slice A3 n3 c3]) c→Calls Tryd.prog 8 #[.agg #[.slice A0 n c0,.slice A1 n1 c1,.slice A2 n2 c2,.slice A3 n3 c3],.agg #[.int .u8 md,.int .i64 nd,.int .i64 pn,.int .u8 vl,.int .i64 ot]] V fun e w'=>e=.returned (.int .i64 (chkV c md nd pn vl ot))∧BelW V w'):=Lib.hid fun A0 A1 A2 A3 n1 n2 n3 c0 c1 c2 c3 V hV hc=>fcheck_ok G A0 A1 A2 A3 n1 n2 n3 c0 c1 c2 c3 md nd pn vl ot V (hT.below hV) hc hck
 have HLK:Hid (∀(A0 A1 A2 A3:Option Addr) (n1 n2 n3 c0 c1 c2 c3:Nat) V,Cir V V.heap.size (.agg #[.slice A0 n c0,.slice A1 n1 c1,.slice A2 n2 c2,.slice A3 n3 c3]) c→Calls Tryd.prog 9 #[.agg #[.slice A0 n c0,.slice A1 n1 c1,.slice A2 n2 c2,.slice A3 n3 c3],.agg #[.int .u8 md,.int .i64 nd,.int .i64 pn,.int .u8 vl,.int .i64 ot]] V fun e w'=>e=.returned (.int .i64 (chkV c md nd pn vl ot))∧BelW V w'):=Lib.hid fun A0 A1 A2 A3 n1 n2 n3 c0 c1 c2 c3 V hc=>lck_any G A0 A1 A2 A3 n1 n2 n3 c0 c1 c2 c3 md nd pn vl ot hvl V hc
 have HLV:Hid (∀V,Below w.heap.size w V→Calls Tryd.prog 10 #[] V fun e w'=>e=.returned (.bool true)∧BelW V w'):=Lib.hid fun V hV=>lives12_any V (hT.below hV) (hM.below hV)
 obtain⟨AG,nG,bG,cG,eG,-⟩:=id hG
 obtain⟨AA,nA,bA,cA,eA,-⟩:=id hA
 subst eG eA
 have HCI2:=Lib.hid HCI
 obtain⟨v,HV⟩:=named (chkV c md nd pn vl ot)
 rw[←HV.out]at HCK HLK
 clear HCI hG hA hT hM hx G hck HC HN HV hvl
 obtain⟨W1,HW1⟩:=named ((w.alloc (.cells #[.int .u8 x.inN,.int .u8 x.dffs,.int .u8 x.d0,.int .u8 x.d1,.bool x.bus,.bool x.mem,.int .u8 x.p0,.int .u8 x.p1,.int .u8 x.p2,.int .u8 x.p3,.slice AG x.gates.length cG,.slice AA x.outs.length cA] 27)).alloc (.cells #[.int .u8 md,.int .i64 nd,.int .i64 pn,.int .u8 vl,.int .i64 ot] 33))
 have hb1:Below w.heap.size w W1:=by rw[HW1.out];exact below_new (below_new (Below.refl _ _) _) _
 have hfx:Fr W1 w.heap.size 27 [.int .u8 x.inN,.int .u8 x.dffs,.int .u8 x.d0,.int .u8 x.d1,.bool x.bus,.bool x.mem,.int .u8 x.p0,.int .u8 x.p1,.int .u8 x.p2,.int .u8 x.p3,.slice AG x.gates.length cG,.slice AA x.outs.length cA]:=by rw[HW1.out];exact (Fr.made _ _ _ rfl).alloc _
 have hff:Fr W1 (w.heap.size+1) 33 [.int .u8 md,.int .i64 nd,.int .i64 pn,.int .u8 vl,.int .i64 ot]:=by rw[HW1.out];exact Fr.made _ _ _ (by simp)
 have x0:=hfx.cell 0
 have x1:=hfx.cell 1
 have x2:=hfx.cell 2
 have x3:=hfx.cell 3
 have x4:=hfx.cell 4
 have x5:=hfx.cell 5
 have x6:=hfx.cell 6
 have x7:=hfx.cell 7
 have x8:=hfx.cell 8
 have x9:=hfx.cell 9
 have x10:=hfx.cell 10
 have x11:=hfx.cell 11
 simp only[List.getElem?_cons_zero,List.getElem?_cons_succ]at x0 x1 x2 x3 x4 x5 x6 x7 x8 x9 x10 x11
 have HB1:=Lib.hid hb1
 have HFF:=Lib.hid hff
 clear hfx hff
 go_enter Tryd.func3,Tryd.ntmps3
 go_upto_region 1 with (fail)
 rw[←HW1.out]
 go_upto_region 2 with (go_at_call 7;(with_reducible refine (HCI2.out _ hb1).mono ?_);rintro e w2 ⟨⟨A0,A1,A2,A3,n1,n2,n3,c0,c1,c2,c3,rfl,h1⟩,h2,h3⟩;have HCC:=Lib.hid h1;have HB2:Hid (Below w.heap.size w w2):=Lib.hid h2;have HB12:Hid (BelW W1 w2):=Lib.hid h3;clear h1 h2 h3 x0 x1 x2 x3 x4 x5 x6 x7 x8 x9 x10 x11)
 obtain⟨W3,HW3⟩:=named (w2.alloc (.cells #[.slice A0 n c0,.slice A1 n1 c1,.slice A2 n2 c2,.slice A3 n3 c3] 39))
 have hb3:BelW w2 W3:=by rw[HW3.out];exact below_new (Below.refl _ _) _
 have hfc:Fr W3 w2.heap.size 39 [.slice A0 n c0,.slice A1 n1 c1,.slice A2 n2 c2,.slice A3 n3 c3]:=by rw[HW3.out];exact Fr.made _ _ _ rfl
 have hff:Fr W3 (w.heap.size+1) 33 [.int .u8 md,.int .i64 nd,.int .i64 pn,.int .u8 vl,.int .i64 ot]:=HFF.out.below (joinB HB12.out hb3)
 rw[←HW3.out]
 have qc0:∀xx:Beh W3,xx.x.cell? ⟨w2.heap.size,0,none⟩=some (.slice A0 n c0):=fun xx=>(hfc.below xx.below).cell 0
 have qc1:∀xx:Beh W3,xx.x.cell? ⟨w2.heap.size,1,none⟩=some (.slice A1 n1 c1):=fun xx=>(hfc.below xx.below).cell 1
 have qc2:∀xx:Beh W3,xx.x.cell? ⟨w2.heap.size,2,none⟩=some (.slice A2 n2 c2):=fun xx=>(hfc.below xx.below).cell 2
 have qc3:∀xx:Beh W3,xx.x.cell? ⟨w2.heap.size,3,none⟩=some (.slice A3 n3 c3):=fun xx=>(hfc.below xx.below).cell 3
 have qf0:∀xx:Beh W3,xx.x.cell? ⟨w.heap.size+1,0,none⟩=some (.int .u8 md):=fun xx=>(hff.below xx.below).cell 0
 have qf1:∀xx:Beh W3,xx.x.cell? ⟨w.heap.size+1,1,none⟩=some (.int .i64 nd):=fun xx=>(hff.below xx.below).cell 1
 have qf2:∀xx:Beh W3,xx.x.cell? ⟨w.heap.size+1,2,none⟩=some (.int .i64 pn):=fun xx=>(hff.below xx.below).cell 2
 have qf3:∀xx:Beh W3,xx.x.cell? ⟨w.heap.size+1,3,none⟩=some (.int .u8 vl):=fun xx=>(hff.below xx.below).cell 3
 have qf4:∀xx:Beh W3,xx.x.cell? ⟨w.heap.size+1,4,none⟩=some (.int .i64 ot):=fun xx=>(hff.below xx.below).cell 4
 have hcx:∀xx:Beh W3,Cir xx.x xx.x.heap.size (.agg #[.slice A0 n c0,.slice A1 n1 c1,.slice A2 n2 c2,.slice A3 n3 c3]) c:=fun xx=>(HCC.out.below (joinB hb3 xx.below)).more (Below.size (joinB hb3 xx.below))
 have hwx:∀xx:Beh W3,Below w.heap.size w xx.x:=fun xx=>joinB HB2.out (joinB hb3 xx.below)
 have HK1:Hid (∀xx:Beh W3,Calls Tryd.prog 8 #[.agg #[.slice A0 n c0,.slice A1 n1 c1,.slice A2 n2 c2,.slice A3 n3 c3],.agg #[.int .u8 md,.int .i64 nd,.int .i64 pn,.int .u8 vl,.int .i64 ot]] xx.x fun e w'=>e=.returned (.int .i64 v)∧Below W3.heap.size W3 w'):=Lib.hid fun xx=>(HCK.out A0 A1 A2 A3 n1 n2 n3 c0 c1 c2 c3 xx.x (hwx xx) (hcx xx)).mono fun _ _ h=>⟨h.1,joinB xx.below h.2⟩
 have HK2:Hid (∀xx:Beh W3,Calls Tryd.prog 9 #[.agg #[.slice A0 n c0,.slice A1 n1 c1,.slice A2 n2 c2,.slice A3 n3 c3],.agg #[.int .u8 md,.int .i64 nd,.int .i64 pn,.int .u8 vl,.int .i64 ot]] xx.x fun e w'=>e=.returned (.int .i64 v)∧Below W3.heap.size W3 w'):=Lib.hid fun xx=>(HLK.out A0 A1 A2 A3 n1 n2 n3 c0 c1 c2 c3 xx.x (hcx xx)).mono fun _ _ h=>⟨h.1,joinB xx.below h.2⟩
 have HK3:Hid (∀xx:Beh W3,Calls Tryd.prog 10 #[] xx.x fun e w'=>e=.returned (.bool true)∧Below W3.heap.size W3 w'):=Lib.hid fun xx=>(HLV.out xx.x (hwx xx)).mono fun _ _ h=>⟨h.1,joinB xx.below h.2⟩
 have hvv:(v==v)=true:=by simp
 have HB3:Hid (Below w.heap.size w W3):=Lib.hid (joinB HB2.out hb3)
 clear hb3 hfc hff hcx hwx HCK HLK HLV HCI2 HFF hb1
 refine region_class (w0:=W3) (Below.refl _ _) (by kernel_rfl) (by kernel_rfl) ?_
 repeat (first
  |go_big_quiet_skip
  |(go_big_quiet_want;go_big_quiet_op;first
   |go_big_quiet_on
   |(apply Exists.intro
     refine⟨fun xx=>?_,?_⟩
     focus first
      |(go_at_call 8;with_reducible exact beh_of (HK1.out xx))
      |(go_at_call 9;with_reducible exact beh_of (HK2.out xx))
      |(go_at_call 10;with_reducible exact beh_of (HK3.out xx))
     go_big_quiet_on)))
 refine wpQuiet_nil ?_
 rintro w9 ⟨⟨wz,hz9⟩,rfl⟩
 go_wp2
 go_ret
 exact⟨rfl,joinB HB3.out hz9⟩
end Go.Proofs.YtcbllelkgniogaaDoor
