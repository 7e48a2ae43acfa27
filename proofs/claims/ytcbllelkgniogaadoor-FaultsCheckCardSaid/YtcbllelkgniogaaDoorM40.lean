/- The texts Gt2 Lvz. -/
import Derived.Test.YtcbllelkgniogaaDoorM21
import Derived.Test.YtcbllelkgniogaaDoorM13
import Derived.Test.YtcbllelkgniogaaDoorM38
import Derived.Test.YtcbllelkgniogaaDoorM37
import Derived.Test.YtcbllelkgniogaaDoorM39
namespace Go.Proofs.YtcbllelkgniogaaDoor
open Go.RowKit
def g2N:List Nd:=[⟨0,[],0,0⟩,⟨0,[],0,0⟩,⟨5,[0,1],0,0⟩]
def g2S:List ByteArray:=[⟨#[97]⟩,⟨#[98]⟩,⟨#[121]⟩]
def G2:Ck:=⟨g2N,g2S,[],[2]⟩
theorem g2_lvl:Lvl g2N [0,0,1]:=by
 refine⟨rfl,fun i hi=>?_⟩
 have:i=0∨i=1∨i=2:=by simp[g2N]at hi;omega
 rcases this with rfl|rfl|rfl<;>decide
theorem g2_shape:shapeErr G2=0:=by decide
theorem g2_ok:chkErr G2=0:=by
 unfold chkErr
 rw[if_neg (by rw[g2_shape];simp),if_pos ⟨_,g2_lvl⟩]
theorem five12(w W:World)(o0 o1 o2 o3 o4:Obj)(h:W=((((w.alloc o0).alloc o1).alloc o2).alloc o3).alloc o4):
 W.heap.size=w.heap.size+5∧W.heap[w.heap.size]? =some o0∧W.heap[w.heap.size+1]? =some o1∧W.heap[w.heap.size+1+1]? =some o2∧W.heap[w.heap.size+1+1+1]? =some o3∧W.heap[w.heap.size+1+1+1+1]? =some o4∧Below w.heap.size w W:=by
 subst h
 refine⟨by simp,?_,?_,?_,?_,?_,?_⟩
 any_goals (simp only[World.alloc,Array.getElem?_push,Array.size_push,if_true]<;>(repeat' split)<;>first|rfl|omega)
 exact below_new (below_new (below_new (below_new (below_new (Below.refl _ _) _) _) _) _) _
set_option maxHeartbeats 4000000 in
theorem gate12_any(w:World):Calls Tryd.prog 20 #[] w fun e w'=>(∃A0 A1 A3 c0 c1 c3,e=.returned (.agg #[.slice A0 3 c0,.slice A1 3 c1,.slice none 0 0,.slice A3 1 c3])∧Cir w' w'.heap.size (.agg #[.slice A0 3 c0,.slice A1 3 c1,.slice none 0 0,.slice A3 1 c3]) G2)∧Below w.heap.size w w':=by
 go_enter Tryd.func20,Tryd.ntmps20
 go_wp2
 generalize hW:World.alloc _ _=W
 obtain⟨hz,h0,h1,h2,h3,h4,hb⟩:=five12 w W _ _ _ _ _ hW.symm
 clear hW
 (try simp only[Exit.inBlock,Exit.then])
 refine bodyPost_ret (results_cell_row rfl _ _ _ _ _ _ _ rfl h0 Tryd.underlying39 rfl (by kernel_rfl)) rfl ?_
 refine⟨⟨_,_,_,_,_,_,rfl,_,_,_,_,rfl,?_,?_,Arr.nil _ _ _ _ _,?_⟩,hb⟩
 ·refine⟨_,w.heap.size+1+1,0,3,rfl,fun _=>rfl,Nat.le_refl _,by simp[G2,g2N,maxLen],fun k hk=>⟨by omega,?_⟩⟩
  have hk6:k=0∨k=1∨k=2:=by simp[G2,g2N]at hk;omega
  unfold NdAt
  simp only[cell_of_row W _ _ _ _ _ h2]
  rcases hk6 with rfl|rfl|rfl
  ·exact⟨_,rfl,rfl,rfl,rfl,Arr.nil _ _ _ _ _,by decide,by decide⟩
  ·exact⟨_,rfl,rfl,rfl,rfl,Arr.nil _ _ _ _ _,by decide,by decide⟩
  ·exact⟨_,rfl,rfl,rfl,rfl,is_of (l:=[0,1]) _ h1 (by simp[maxLen]) (by omega),by decide,by decide⟩
 ·refine⟨_,w.heap.size+1+1+1,0,3,rfl,fun _=>rfl,Nat.le_refl _,by simp[G2,g2S,maxLen],fun k hk=>⟨by omega,?_⟩⟩
  have hk6:k=0∨k=1∨k=2:=by simp[G2,g2S]at hk;omega
  unfold StrAt
  simp only[cell_of_row W _ _ _ _ _ h3]
  rcases hk6 with rfl|rfl|rfl<;>exact⟨rfl,by decide⟩
 ·exact is_of (l:=[2]) _ h4 (by simp[maxLen]) (by omega)
attribute [local go_sem] Oper.semAt_some
theorem g2_G5:G5 G2 3 [0,0,1]:=⟨g2_ok,g2_lvl,rfl,by decide⟩
theorem g2_ck:ckF G2=0:=by unfold ckF;rw[if_pos g2_ok,if_neg (by decide)]
theorem g2_ins:∀k,k<3→(G2.nodes.getD k default).ins.length≤1000000:=fun k hk=>by
 have:k=0∨k=1∨k=2:=by omega
 rcases this with rfl|rfl|rfl<;>decide
theorem g2_lns:lnsL G2=[(0,-1),(1,-1),(2,-1),(2,0),(2,1)]:=by rfl
theorem g2_stk:stkL G2 0=[⟨0,0,-1,0,0⟩,⟨0,0,-1,1,0⟩,⟨0,1,-1,0,0⟩,⟨0,1,-1,1,0⟩,⟨0,2,-1,0,0⟩,⟨0,2,-1,1,0⟩,⟨0,2,0,0,0⟩,⟨0,2,0,1,0⟩,⟨0,2,1,0,0⟩,⟨0,2,1,1,0⟩]:=by rfl
theorem g2_wir:brL G2 2=[⟨2,0,-1,0,1⟩,⟨2,0,-1,1,1⟩]:=by rfl
theorem g2_str:brL G2 3=[⟨3,0,-1,0,1⟩,⟨3,1,-1,0,0⟩]:=by rfl
theorem lns2(A0 A1 A3:Option Addr)(c0 c1 c3:Nat)(V:World)(hT:Tabs V)(hc:Cir V V.heap.size (.agg #[.slice A0 3 c0,.slice A1 3 c1,.slice none 0 0,.slice A3 1 c3]) G2):Calls Tryd.prog 11 #[.agg #[.slice A0 3 c0,.slice A1 3 c1,.slice none 0 0,.slice A3 1 c3]] V fun e w'=>∃b o,e=.returned (.tuple #[.slice (some ⟨b,o,none⟩) 5 5,.int .i64 0])∧(∀W,BelW w' W→W.cell? ⟨b,o+8,none⟩=some (.int .i64 2)∧W.cell? ⟨b,o+8+1,none⟩=some (.int .i64 1))∧BelW V w':=by
 refine (flines_ok G2 A0 A1 none A3 3 3 0 1 c0 c1 0 c3 V hT hc g2_ck (by decide) g2_ins (by rw[g2_lns];decide)).mono ?_
 rintro e w' ⟨A,rfl,hl,hb⟩
 rw[g2_lns]at hl
 obtain⟨A',b,o,c,e1,hA,-,-,hcell⟩:=hl
 simp only[Value.slice.injEq]at e1
 obtain⟨rfl,-,-⟩:=e1
 obtain rfl:=hA (by decide)
 obtain⟨hb4,h4,h5⟩:=hcell 4 (by decide)
 exact⟨b,o,by rw[g2_lns];rfl,fun W hW=>⟨(hW.cell (p:=⟨b,o+8,none⟩) hb4).trans h4,(hW.cell (p:=⟨b,o+8+1,none⟩) hb4).trans h5⟩,hb⟩
theorem flat_five{α β:Type}(f:α→List β)(hf:∀x,(f x).length=5)(l:List α):∀k,k≤l.length→((l.take k).flatMap f).length=5*k
 |0,_=>by simp
 |k+1,h=>by
  rw[flat_succ f l (List.getElem?_eq_getElem (show k<l.length by omega)),flat_five f hf l k (by omega),hf]
  omega
theorem ft_cells{w':World}{base:Nat}{A:Option Addr}{cv:Nat}{zs:List Ft}{k:Nat}{f:Ft}(h:w'.ownsRow base 33 5 (.slice A zs.length cv) zs.length (ftC zs))(hk:zs[k]? =some f):
 ∃g,A=some ⟨g,0,none⟩∧∀W,BelW w' W→W.cell? ⟨g,5*k,none⟩=some (.int .u8 f.md)∧W.cell? ⟨g,5*k+1,none⟩=some (.int .i64 f.nd)∧W.cell? ⟨g,5*k+2,none⟩=some (.int .i64 f.pn)∧W.cell? ⟨g,5*k+3,none⟩=some (.int .u8 f.vl)∧W.cell? ⟨g,5*k+4,none⟩=some (.int .i64 f.ot):=by
 have hkl:k<zs.length:=(List.getElem?_eq_some_iff.1 hk).1
 obtain⟨g,c,e⟩:=own_some h (by omega)
 simp only[Value.slice.injEq]at e
 obtain⟨rfl,-,rfl⟩:=e
 refine⟨g,rfl,fun W hW=>?_⟩
 have hfl:∀j,j<5→(ftC zs)[5*k+j]? =[Value.int .u8 f.md,.int .i64 f.nd,.int .i64 f.pn,.int .u8 f.vl,.int .i64 f.ot][j]? :=fun j hj=>by
  have h1:=flat_at (fun f:Ft=>[Value.int .u8 f.md,.int .i64 f.nd,.int .i64 f.pn,.int .u8 f.vl,.int .i64 f.ot]) zs hk (j:=j) (by simpa using hj)
  have h2:((zs.take k).flatMap (fun f:Ft=>[Value.int .u8 f.md,.int .i64 f.nd,.int .i64 f.pn,.int .u8 f.vl,.int .i64 f.ot])).length=5*k:=by
   exact flat_five _ (fun _=>rfl) zs k (by omega)
  rw[h2]at h1
  exact h1
 have hc:∀j,j<5→W.cell? ⟨g,5*k+j,none⟩=[Value.int .u8 f.md,.int .i64 f.nd,.int .i64 f.pn,.int .u8 f.vl,.int .i64 f.ot][j]? :=fun j hj=>by
  rw[hW.cell (p:=⟨g,5*k+j,none⟩) (h.lt g rfl).2,World.ownsRow.cellAt h (5*k+j) (by omega),hfl j hj]
 exact⟨hc 0 (by decide),hc 1 (by decide),hc 2 (by decide),hc 3 (by decide),hc 4 (by decide)⟩
theorem all2(m:Int)(zs:List Ft)(k:Nat)(f:Ft)(hm:(m=0∧zs=stkL G2 0)∨((m=2∨m=3)∧zs=brL G2 m))(N:Nat)(hN:zs.length=N)(hz:N≤65536)(hk:zs[k]? =some f)(A0 A1 A3:Option Addr)(c0 c1 c3:Nat)(V:World)(hT:Tabs V)(hc:Cir V V.heap.size (.agg #[.slice A0 3 c0,.slice A1 3 c1,.slice none 0 0,.slice A3 1 c3]) G2):Calls Tryd.prog 12 #[.agg #[.slice A0 3 c0,.slice A1 3 c1,.slice none 0 0,.slice A3 1 c3],.int .u8 m] V fun e w'=>∃g,e=.returned (.tuple #[.slice (some ⟨g,0,none⟩) N N,.int .i64 0])∧(∀W,BelW w' W→W.cell? ⟨g,5*k,none⟩=some (.int .u8 f.md)∧W.cell? ⟨g,5*k+1,none⟩=some (.int .i64 f.nd)∧W.cell? ⟨g,5*k+2,none⟩=some (.int .i64 f.pn)∧W.cell? ⟨g,5*k+3,none⟩=some (.int .u8 f.vl)∧W.cell? ⟨g,5*k+4,none⟩=some (.int .i64 f.ot))∧BelW V w':=by
 subst hN
 have hFO:∀W,BelW V W→Calls Tryd.prog 25 #[.agg #[.slice A0 3 c0,.slice A1 3 c1,.slice none 0 0,.slice A3 1 c3],.int .u8 m] W fun e w'=>∃gf lb,e=.returned (.func (.func gf) #[] lb)∧BelW W w'∧(∀args X,(callFunc gf args).run Tryd.prog X=.ok (.enter gf args) X)∧∀X,BelW w' X→SeqT V.heap.size (Kr V.heap.size [33,48]) Fence.wide 8 5 Tryd.prog gf lb encF zs X:=fun W hW=>by
  rcases hm with⟨rfl,rfl⟩| ⟨hm,rfl⟩
  ·exact faultsOf_stk G2 A0 A1 none A3 3 3 0 1 c0 c1 0 c3 V.heap.size 0 W (Below.size hW) (hc.below hW) (by decide) (by decide) g2_ins
  ·exact faultsOf_brg g2_G5 A0 A1 none A3 3 0 1 c0 c1 0 c3 V.heap.size m W (Below.size hW) (hT.below hW) (hc.below hW) hm
 refine (all_gen G2 A0 A1 none A3 3 3 0 1 c0 c1 0 c3 m zs V hT hc g2_ck (by rcases hm with h|h;have:=h.1;omega;have:=h.1;omega) hz hFO).mono ?_
 rintro e w' ⟨A,base,rfl,-,⟨cv,ho⟩,hb⟩
 obtain⟨g,rfl,hcl⟩:=ft_cells ho hk
 exact⟨g,rfl,hcl,hb⟩
set_option maxHeartbeats 8000000 in
theorem lives12_any(w:World)(hT:Tabs w)(hM:MWs w):Calls Tryd.prog 10 #[] w fun e w'=>e=.returned (.bool true)∧BelW w w':=by
 have HLN:Hid (∀(A0 A1 A3:Option Addr) (c0 c1 c3:Nat) (V:World),BelW w V→Cir V V.heap.size (.agg #[.slice A0 3 c0,.slice A1 3 c1,.slice none 0 0,.slice A3 1 c3]) G2→Calls Tryd.prog 11 #[.agg #[.slice A0 3 c0,.slice A1 3 c1,.slice none 0 0,.slice A3 1 c3]] V fun e w'=>∃b o,e=.returned (.tuple #[.slice (some ⟨b,o,none⟩) 5 5,.int .i64 0])∧(∀W,BelW w' W→W.cell? ⟨b,o+8,none⟩=some (.int .i64 2)∧W.cell? ⟨b,o+8+1,none⟩=some (.int .i64 1))∧BelW V w'):=Lib.hid fun A0 A1 A3 c0 c1 c3 V hV hc=>lns2 A0 A1 A3 c0 c1 c3 V (hT.below hV) hc
 have HA0:Hid (∀(A0 A1 A3:Option Addr) (c0 c1 c3:Nat) (V:World),BelW w V→Cir V V.heap.size (.agg #[.slice A0 3 c0,.slice A1 3 c1,.slice none 0 0,.slice A3 1 c3]) G2→Calls Tryd.prog 12 #[.agg #[.slice A0 3 c0,.slice A1 3 c1,.slice none 0 0,.slice A3 1 c3],.int .u8 0] V fun e w'=>∃g,e=.returned (.tuple #[.slice (some ⟨g,0,none⟩) 10 10,.int .i64 0])∧(∀W,BelW w' W→W.cell? ⟨g,45,none⟩=some (.int .u8 0)∧W.cell? ⟨g,46,none⟩=some (.int .i64 2)∧W.cell? ⟨g,47,none⟩=some (.int .i64 1)∧W.cell? ⟨g,48,none⟩=some (.int .u8 1)∧W.cell? ⟨g,49,none⟩=some (.int .i64 0))∧BelW V w'):=Lib.hid fun A0 A1 A3 c0 c1 c3 V hV hc=>all2 0 (stkL G2 0) 9 ⟨0,2,1,1,0⟩ (.inl ⟨rfl,rfl⟩) 10 (by rw[g2_stk];rfl) (by decide) (by rw[g2_stk];rfl) A0 A1 A3 c0 c1 c3 V (hT.below hV) hc
 have HA2:Hid (∀(A0 A1 A3:Option Addr) (c0 c1 c3:Nat) (V:World),BelW w V→Cir V V.heap.size (.agg #[.slice A0 3 c0,.slice A1 3 c1,.slice none 0 0,.slice A3 1 c3]) G2→Calls Tryd.prog 12 #[.agg #[.slice A0 3 c0,.slice A1 3 c1,.slice none 0 0,.slice A3 1 c3],.int .u8 2] V fun e w'=>∃g,e=.returned (.tuple #[.slice (some ⟨g,0,none⟩) 2 2,.int .i64 0])∧(∀W,BelW w' W→W.cell? ⟨g,5,none⟩=some (.int .u8 2)∧W.cell? ⟨g,6,none⟩=some (.int .i64 0)∧W.cell? ⟨g,7,none⟩=some (.int .i64 (-1))∧W.cell? ⟨g,8,none⟩=some (.int .u8 1)∧W.cell? ⟨g,9,none⟩=some (.int .i64 1))∧BelW V w'):=Lib.hid fun A0 A1 A3 c0 c1 c3 V hV hc=>all2 2 (brL G2 2) 1 ⟨2,0,-1,1,1⟩ (.inr ⟨.inl rfl,rfl⟩) 2 (by rw[g2_wir];rfl) (by decide) (by rw[g2_wir];rfl) A0 A1 A3 c0 c1 c3 V (hT.below hV) hc
 have HA3:Hid (∀(A0 A1 A3:Option Addr) (c0 c1 c3:Nat) (V:World),BelW w V→Cir V V.heap.size (.agg #[.slice A0 3 c0,.slice A1 3 c1,.slice none 0 0,.slice A3 1 c3]) G2→Calls Tryd.prog 12 #[.agg #[.slice A0 3 c0,.slice A1 3 c1,.slice none 0 0,.slice A3 1 c3],.int .u8 3] V fun e w'=>∃g,e=.returned (.tuple #[.slice (some ⟨g,0,none⟩) 2 2,.int .i64 0])∧(∀W,BelW w' W→W.cell? ⟨g,5,none⟩=some (.int .u8 3)∧W.cell? ⟨g,6,none⟩=some (.int .i64 1)∧W.cell? ⟨g,7,none⟩=some (.int .i64 (-1))∧W.cell? ⟨g,8,none⟩=some (.int .u8 0)∧W.cell? ⟨g,9,none⟩=some (.int .i64 0))∧BelW V w'):=Lib.hid fun A0 A1 A3 c0 c1 c3 V hV hc=>all2 3 (brL G2 3) 1 ⟨3,1,-1,0,0⟩ (.inr ⟨.inr rfl,rfl⟩) 2 (by rw[g2_str];rfl) (by decide) (by rw[g2_str];rfl) A0 A1 A3 c0 c1 c3 V (hT.below hV) hc
 have HT1:Hid (∀V,BelW w V→Calls Tryd.prog 21 #[.agg #[.int .u8 0,.int .i64 2,.int .i64 1,.int .u8 1,.int .i64 0]] V fun e w'=>e=.returned (.string ⟨#[115,116,117,99,107,32,50,46,49,32,49]⟩)∧BelW V w'):=Lib.hid fun V hV=>txt_line 2 1 (by decide) (by decide) 1 (by decide) V (hM.below hV)
 have HT2:Hid (∀V,BelW w V→Calls Tryd.prog 21 #[.agg #[.int .u8 2,.int .i64 0,.int .i64 (-1),.int .u8 1,.int .i64 1]] V fun e w'=>e=.returned (.string ⟨#[119,105,114,101,100,32,48,32,49,32,49]⟩)∧BelW V w'):=Lib.hid fun V hV=>txt_wired 0 1 (by decide) (by decide) 1 (by decide) V (hM.below hV)
 have HT3:Hid (∀V,BelW w V→Calls Tryd.prog 21 #[.agg #[.int .u8 3,.int .i64 1,.int .i64 (-1),.int .u8 0,.int .i64 0]] V fun e w'=>e=.returned (.string ⟨#[115,116,114,111,110,103,32,49,32,48]⟩)∧BelW V w'):=Lib.hid fun V hV=>txt_strong 1 0 (by decide) (by decide) 0 (by decide) V (hM.below hV)
 have HCK:Hid (∀(A0 A1 A3:Option Addr) (c0 c1 c3:Nat) (V:World),BelW w V→Cir V V.heap.size (.agg #[.slice A0 3 c0,.slice A1 3 c1,.slice none 0 0,.slice A3 1 c3]) G2→Calls Tryd.prog 8 #[.agg #[.slice A0 3 c0,.slice A1 3 c1,.slice none 0 0,.slice A3 1 c3],.agg #[.int .u8 3,.int .i64 0,.int .i64 (-1),.int .u8 0,.int .i64 2]] V fun e w'=>e=.returned (.int .i64 6)∧BelW V w'):=Lib.hid fun A0 A1 A3 c0 c1 c3 V hV hc=>fcheck_ok g2_G5 A0 A1 none A3 3 0 1 c0 c1 0 c3 3 0 (-1) 0 2 V (hT.below hV) hc g2_ck
 clear hT hM
 go_enter Tryd.func10,Tryd.ntmps10
 go_upto_region 2 with (first
  |(go_at_call 20;(with_reducible refine (gate12_any _).mono ?_);rintro e w1 ⟨⟨A10,A11,A13,c10,c11,c13,rfl,h1⟩,h2⟩;have HS1:Hid (BelW w w1):=Lib.hid h2;have HB1:Hid (BelW w w1):=Lib.hid (h2);have HX1:=Lib.hid h1;clear h1 h2)
  |(go_at_call 11;(with_reducible refine (HLN.out _ _ _ _ _ _ _ HB1.out HX1.out).mono ?_);rintro e w2 ⟨bl,ol,rfl,h1,h2⟩;have HS2:Hid (BelW w1 w2):=Lib.hid h2;have HB2:Hid (BelW w w2):=Lib.hid (joinB HB1.out h2);have HC2:=Lib.hid h1;clear h1;clear h2))
 go_upto_region 3 with (first
  |(go_at_call 20;(with_reducible refine (gate12_any _).mono ?_);rintro e w3 ⟨⟨A30,A31,A33,c30,c31,c33,rfl,h1⟩,h2⟩;have HS3:Hid (BelW w2 w3):=Lib.hid h2;have HB3:Hid (BelW w w3):=Lib.hid (joinB HB2.out h2);have HX3:=Lib.hid h1;clear h1 h2)
  |(go_at_call 12;(with_reducible refine (HA0.out _ _ _ _ _ _ _ HB3.out HX3.out).mono ?_);rintro e w4 ⟨g4,rfl,h1,h2⟩;have HS4:Hid (BelW w3 w4):=Lib.hid h2;have HB4:Hid (BelW w w4):=Lib.hid (joinB HB3.out h2);have HC4:=Lib.hid h1;clear h1;clear h2))
 go_upto_region 4 with (first
  |(go_at_call 20;(with_reducible refine (gate12_any _).mono ?_);rintro e w5 ⟨⟨A50,A51,A53,c50,c51,c53,rfl,h1⟩,h2⟩;have HS5:Hid (BelW w4 w5):=Lib.hid h2;have HB5:Hid (BelW w w5):=Lib.hid (joinB HB4.out h2);have HX5:=Lib.hid h1;clear h1 h2)
  |(go_at_call 12;(with_reducible refine (HA2.out _ _ _ _ _ _ _ HB5.out HX5.out).mono ?_);rintro e w6 ⟨g6,rfl,h1,h2⟩;have HS6:Hid (BelW w5 w6):=Lib.hid h2;have HB6:Hid (BelW w w6):=Lib.hid (joinB HB5.out h2);have HC6:=Lib.hid h1;clear h1;clear h2))
 go_upto_region 5 with (first
  |(go_at_call 20;(with_reducible refine (gate12_any _).mono ?_);rintro e w7 ⟨⟨A70,A71,A73,c70,c71,c73,rfl,h1⟩,h2⟩;have HS7:Hid (BelW w6 w7):=Lib.hid h2;have HB7:Hid (BelW w w7):=Lib.hid (joinB HB6.out h2);have HX7:=Lib.hid h1;clear h1 h2)
  |(go_at_call 12;(with_reducible refine (HA3.out _ _ _ _ _ _ _ HB7.out HX7.out).mono ?_);rintro e w8 ⟨g8,rfl,h1,h2⟩;have HS8:Hid (BelW w7 w8):=Lib.hid h2;have HB8:Hid (BelW w w8):=Lib.hid (joinB HB7.out h2);have HC8:=Lib.hid h1;clear h1;clear h2))
 go_upto_region 7 with (fail)
 have HB28:Hid (BelW w4 w8):=Lib.hid (joinB HS5.out (joinB HS6.out (joinB HS7.out HS8.out)))
 obtain⟨y0,y1⟩:=HC2.out w8 (joinB HS3.out (joinB HS4.out HB28.out))
 obtain⟨z0,z1,z2,z3,z4⟩:=HC4.out w8 HB28.out
 clear HLN HA0 HA2 HA3
 go_wp2_with (first
  |(go_at_call 21;(with_reducible refine (HT1.out _ HB8.out).mono ?_);rintro e w9 ⟨rfl,h2⟩;have HS9:Hid (BelW w8 w9):=Lib.hid h2;have HB9:Hid (BelW w w9):=Lib.hid (joinB HB8.out h2);clear y0 y1 z0 z1 z2 z3 z4;obtain⟨z0,z1,z2,z3,z4⟩:=HC6.out w9 (joinB HS7.out (joinB HS8.out h2));clear h2)
  |(go_at_call 21;(with_reducible refine (HT2.out _ HB9.out).mono ?_);rintro e w10 ⟨rfl,h2⟩;have HS10:Hid (BelW w9 w10):=Lib.hid h2;have HB10:Hid (BelW w w10):=Lib.hid (joinB HB9.out h2);clear z0 z1 z2 z3 z4;obtain⟨z0,z1,z2,z3,z4⟩:=HC8.out w10 (joinB HS9.out h2);clear h2)
  |(go_at_call 21;(with_reducible refine (HT3.out _ HB10.out).mono ?_);rintro e w11 ⟨rfl,h2⟩;have HS11:Hid (BelW w10 w11):=Lib.hid h2;have HB11:Hid (BelW w w11):=Lib.hid (joinB HB10.out h2);clear z0 z1 z2 z3 z4;clear h2)
  |(go_at_call 20;(with_reducible refine (gate12_any _).mono ?_);rintro e w12 ⟨⟨A120,A121,A123,c120,c121,c123,rfl,h1⟩,h2⟩;have HS12:Hid (BelW w11 w12):=Lib.hid h2;have HB12:Hid (BelW w w12):=Lib.hid (joinB HB11.out h2);have HX12:=Lib.hid h1;clear h1 h2)
  |(go_at_call 8;(with_reducible refine (HCK.out _ _ _ _ _ _ _ HB12.out HX12.out).mono ?_);rintro e w13 ⟨rfl,h2⟩;have HS13:Hid (BelW w12 w13):=Lib.hid h2;have HB13:Hid (BelW w w13):=Lib.hid (joinB HB12.out h2);clear h2))
 go_ret
 exact⟨rfl,HB13.out⟩
end Go.Proofs.YtcbllelkgniogaaDoor
