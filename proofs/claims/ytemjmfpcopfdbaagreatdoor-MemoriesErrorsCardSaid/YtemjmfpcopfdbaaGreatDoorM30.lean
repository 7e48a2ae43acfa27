/- The texts Cy9 Ft9 Smt Smu Smk Me9. -/
import Derived.Test.YtemjmfpcopfdbaaGreatDoorM26
import Derived.Test.YtemjmfpcopfdbaaGreatDoorM29
import Derived.Test.YtemjmfpcopfdbaaGreatDoorM16
import Derived.Test.YtemjmfpcopfdbaaGreatDoorM17
import Derived.Deep.AppendLies
import Derived.Deep.RegionHeld3
import Derived.Test.YtemjmfpcopfdbaaGreatDoorM20
namespace Go.Proofs.YtemjmfpcopfdbaaGreatDoor
open Go.RowKit
theorem gtrans{w w1 w2:World}{r:Option Nat}(h:w.grownBy w1 r)(k:w1.grownBy w2 r):w.grownBy w2 r:=by
 obtain⟨a1,a2,a3,a4,a5⟩:=h
 obtain⟨b1,b2,b3,b4,b5⟩:=k
 exact⟨b1.trans a1,b2.trans a2,b3.trans a3,Nat.le_trans a4 b4,fun i hi hne=>(b5 i (Nat.lt_of_lt_of_le hi a4) hne).trans (a5 i hi hne)⟩
theorem results_row2_tmp2{P:Program}{fn:Func}{p p' t1 t2:Tmp}{ty ty':TypeId}(h:fn.results= #[.cell p ty,.cell p' ty',.tmp t1,.tmp t2]) (tmps:Array Value) (w:World) (g g':Nat) (t t':TypeId) (cs cs':Array Value) (fr fr':Nat×Nat) (d d':TypeDesc)
 (hp:tmps.getD p undef=.pointer (some ⟨g,0,none⟩)) (hg:w.heap[g]? =some (.cells cs t fr)) (hp':tmps.getD p' undef=.pointer (some ⟨g',0,none⟩)) (hg':w.heap[g']? =some (.cells cs' t' fr'))
 (hu:P.underlying ty=some d) (hd:(match d with| .struct _| .array _ _=>true|_=>false)=true) (hi:(P.info? ty).map (·.size)=some cs.size)
 (hu':P.underlying ty'=some d') (hd':(match d' with| .struct _| .array _ _=>true|_=>false)=true) (hi':(P.info? ty').map (·.size)=some cs'.size):
 (results fn tmps).run P w=.ok (.tuple #[.agg cs,.agg cs',tmps.getD t1 undef,tmps.getD t2 undef]) w:=by
 have q:tmps[p]?.getD undef=.pointer (some ⟨g,0,none⟩):=by simpa using hp
 have q':tmps[p']?.getD undef=.pointer (some ⟨g',0,none⟩):=by simpa using hp'
 simp[results,h,q,q',asAddr,run_loadVar_row w g t ty cs fr d hg hu hd hi,run_loadVar_row w g' t' ty' cs' fr' d' hg' hu' hd' hi',Sem.run_bind,Result.andThen]
theorem OSt.offT{w:World}{D1 D2 L m k1 k2 b:Nat}{nw:Nat→Nat}{fw:Nat→Nat→List Int}{fr:Nat→List Int}{t:TypeId}{l:List Value}(h:OSt w D1 D2 L m nw fw fr k1 k2)(hf:Fr w b t l)(ht1:t≠43)(ht2:t≠41)(ht3:t≠77)(hb:b<L)(j:Nat)(x:Value):OSt (w.setCell ⟨b,j,none⟩ x) D1 D2 L m nw fw fr k1 k2:=by
 obtain⟨⟨vs,a1,a2,a3⟩,⟨us,b1,b2,b3⟩,d1,d2,ne⟩:=h
 exact⟨⟨vs,a1.other (a:=⟨b,j,none⟩) (hf.apart9 a1 ht1) _,a2,fun i hi=>by
  obtain⟨D,T,e,s,l⟩:=a3 i hi
  exact⟨D,T,e,s.other (a:=⟨b,j,none⟩) (Nat.lt_of_lt_of_le hb l) _,l⟩⟩,⟨us,b1.other (a:=⟨b,j,none⟩) (hf.apart9 b1 ht2) _,b2,fun i hi=>by
  obtain⟨g,e,v⟩:=b3 i hi
  exact⟨g,e,v.other (a:=⟨b,j,none⟩) (hf.apart9 v.fr ht3) _⟩⟩,d1,d2,ne⟩
def cyB(c:Ck)(n:Nat)(s9:Stt)(inp:List Int):List Int:=asg (asg (List.replicate n 0) (ofTo c.nodes [0] c.nodes.length) inp) (ofTo c.nodes [14] c.nodes.length) s9.dff
structure CyOk(c:Ck)(s9:Stt)(inp:List Int)(n ni ns m:Nat):Prop where
 hn:c.nodes.length=n
 hm:c.mems.length=m
 hni:(ofTo c.nodes [0] c.nodes.length).length=ni
 hns:(ofTo c.nodes [14] c.nodes.length).length=ns
 ck:ckC c ni ns m s9 inp=0
 li:inp.length=ni
 ld:s9.dff.length=ns
 wf:Wf c.nodes
 pins:∀k,k<c.nodes.length→(c.nodes.getD k default).ins.length≤16
 mem:MemOk c.nodes s9.read
 nx:NxOk c.mems s9.words n
 nsz:n≤1000000
 msz:m≤1000
 port:∀k,k<m→(c.mems.getD k default).addr.length≤16∧(c.mems.getD k default).data.length≤1000
 outs:c.outs.length≤17592186044416
set_option maxRecDepth 100000 in
set_option maxHeartbeats 8000000 in
theorem mcycle_ok(c:Ck)(s9:Stt)(inp:List Int)(P:List Int→Prop)(A0 A1 A2 A3 As0 As1 As2 Ai:Option Addr)(n n1 m n3 c0 c1 c2 c3 p2 d0 d1 d2 ci ns ni:Nat)(w:World)(hT:Lg.Tabs w)(hC:Cir w w.heap.size (.agg #[.slice A0 n c0,.slice A1 n1 c1,.slice A2 m c2,.slice A3 n3 c3]) c) (hS:StR w w.heap.size As0 As1 As2 ns m p2 d0 d1 d2 s9) (hI:Ks w w.heap.size (.slice Ai ni ci) inp) (ok:CyOk c s9 inp n ni ns m)
 (hor:∀W,BelW w W→Calls Tryz.prog 33 #[.agg #[.slice A0 n c0,.slice A1 n1 c1,.slice A2 m c2,.slice A3 n3 c3]] W fun e w'=>∃R d,(P R∧R.length=n∧∀x∈R,0≤x∧x<(n:Int))∧e=.returned (.tuple #[.slice (some ⟨d,0,none⟩) n n,.int .i64 0])∧W.heap.size≤d∧Row w' d R∧BelW W w'):
 Calls Tryz.prog 9 #[.agg #[.slice A0 n c0,.slice A1 n1 c1,.slice A2 m c2,.slice A3 n3 c3],.agg #[.slice As0 ns d0,.slice As1 m d1,.slice As2 p2 d2],.slice Ai ni ci] w fun e w'=>∃R gB D1 D2 go gn g,P R∧e=.returned (.tuple #[.agg #[.slice (some ⟨gB,0,none⟩) ns ns,.slice (some ⟨D1,0,none⟩) m m,.slice (some ⟨D2,0,none⟩) m m],.agg #[.slice (some ⟨go,0,none⟩) (outV c (stmK c.nodes s9.read (cyB c n s9 inp) R n)).length (outV c (stmK c.nodes s9.read (cyB c n s9 inp) R n)).length,.slice (some ⟨gn,0,none⟩) ns ns],.slice (some ⟨g,0,none⟩) n n,.int .i64 0])
  ∧VRow w' g (stmK c.nodes s9.read (cyB c n s9 inp) R n)∧VRow w' go (outV c (stmK c.nodes s9.read (cyB c n s9 inp) R n))∧VRow w' gn (nextV c (stmK c.nodes s9.read (cyB c n s9 inp) R n))∧VRow w' gB (bitsL (nextV c (stmK c.nodes s9.read (cyB c n s9 inp) R n)) ns)
  ∧(∃L,OSt w' D1 D2 L m (fun k=>(s9.words.getD k []).length) (nxW c.mems s9.words (stmK c.nodes s9.read (cyB c n s9 inp) R n)) (nxR c.mems s9.words (stmK c.nodes s9.read (cyB c n s9 inp) R n)) m m)∧BelW w w':=by
 obtain⟨y0,y1,y2,y3,e,hN,hNm,hM,hO⟩:=id hC
 simp only[Value.agg.injEq,Array.mk.injEq,List.cons.injEq,and_true]at e
 obtain⟨rfl,rfl,rfl,rfl⟩:=e
 obtain⟨W1,HW1⟩:=named ((((w.alloc (.cells #[.slice A0 n c0,.slice A1 n1 c1,.slice A2 m c2,.slice A3 n3 c3] 39)).alloc (.cells #[.slice As0 ns d0,.slice As1 m d1,.slice As2 p2 d2] 45)).alloc (.cells #[.slice none 0 0,.slice none 0 0,.slice none 0 0] 45)).alloc (.cells #[.slice none 0 0,.slice none 0 0] 49))
 have hb1:BelW w W1:=by rw[HW1.out];exact below_new (below_new (below_new (below_new (Below.refl _ _) _) _) _) _
 have hfc:Fr W1 w.heap.size 39 [.slice A0 n c0,.slice A1 n1 c1,.slice A2 m c2,.slice A3 n3 c3]:=by rw[HW1.out];exact Fr.alloc (Fr.alloc (Fr.alloc (Fr.made _ [.slice A0 n c0,.slice A1 n1 c1,.slice A2 m c2,.slice A3 n3 c3] _ rfl) _) _) _
 have hfs:Fr W1 (w.heap.size+1) 45 [.slice As0 ns d0,.slice As1 m d1,.slice As2 p2 d2]:=by rw[HW1.out];exact Fr.alloc (Fr.alloc (Fr.made _ [.slice As0 ns d0,.slice As1 m d1,.slice As2 p2 d2] _ (by simp)) _) _
 have hft:Fr W1 (w.heap.size+1+1) 45 [.slice none 0 0,.slice none 0 0,.slice none 0 0]:=by rw[HW1.out];exact Fr.alloc (Fr.made _ [.slice none 0 0,.slice none 0 0,.slice none 0 0] _ (by simp)) _
 have hfr:Fr W1 (w.heap.size+1+1+1) 49 [.slice none 0 0,.slice none 0 0]:=by rw[HW1.out];exact Fr.made _ [.slice none 0 0,.slice none 0 0] _ (by simp)
 obtain⟨s,HS⟩:=named w.heap.size
 have HSW:Hid (w.heap.size≤s):=Lib.hid (by rw[HS.out];exact Nat.le_refl _)
 rw[←HS.out]at hfc hfs hft hfr
 have HB1:Hid (∀W,BelW W1 W→BelW w W):=Lib.hid fun W h=>joinB hb1 h
 have HCE:Hid (∀W,BelW W1 W→W.cell? ⟨s,0,none⟩=some (.slice A0 n c0)∧W.cell? ⟨s,1,none⟩=some (.slice A1 n1 c1)∧W.cell? ⟨s,2,none⟩=some (.slice A2 m c2)∧W.cell? ⟨s,3,none⟩=some (.slice A3 n3 c3)∧W.cell? ⟨s+1,0,none⟩=some (.slice As0 ns d0)∧W.cell? ⟨s+1,1,none⟩=some (.slice As1 m d1)∧W.cell? ⟨s+1,2,none⟩=some (.slice As2 p2 d2)):=Lib.hid fun W h=>⟨(hfc.below h).cell 0,(hfc.below h).cell 1,(hfc.below h).cell 2,(hfc.below h).cell 3,(hfs.below h).cell 0,(hfs.below h).cell 1,(hfs.below h).cell 2⟩
 have HFC:=Lib.hid hfc
 have HFS:=Lib.hid hfs
 have HFT:=Lib.hid hft
 have HFR:=Lib.hid hfr
 have HOR:Hid (∀W,BelW W1 W→Calls Tryz.prog 33 #[.agg #[.slice A0 n c0,.slice A1 n1 c1,.slice A2 m c2,.slice A3 n3 c3]] W fun e w'=>∃R d,(P R∧R.length=n∧∀x∈R,0≤x∧x<(n:Int))∧e=.returned (.tuple #[.slice (some ⟨d,0,none⟩) n n,.int .i64 0])∧W.heap.size≤d∧Row w' d R∧BelW W w'):=Lib.hid fun W h=>hor W (joinB hb1 h)
 have HCK:Hid (∀W,BelW W1 W→Calls Tryz.prog 34 #[.agg #[.slice A0 n c0,.slice A1 n1 c1,.slice A2 m c2,.slice A3 n3 c3],.agg #[.slice As0 ns d0,.slice As1 m d1,.slice As2 p2 d2],.slice Ai ni ci] W fun e w'=>e=.returned (.int .i64 0)∧BelW W w'):=Lib.hid fun W h=>by
  have hbw:=joinB hb1 h
  have:=ckcyc_any c s9 inp A0 A1 A2 A3 As0 As1 As2 Ai n n1 m n3 c0 c1 c2 c3 ns m p2 d0 d1 d2 ni ci ns ni W ((hC.below hbw).more (Below.size hbw)) (hS.keep (Nat.le_refl _) hbw (Below.size hbw)) (Arr.keep stays_u8 hI (Below.size hbw) fun _ hp=>Below.cell hbw hp) (by rw[ok.hn];exact ok.nsz) ok.hns ok.hni (by rw[←ok.hns];exact Nat.le_trans (ofTo_len _ _ _) (by rw[ok.hn];exact ok.nsz)) ok.msz ok.port
  rw[ok.ck]at this
  exact this
 have HIN:Hid (∀W,BelW w W→Calls Tryz.prog 36 #[.agg #[.slice A0 n c0,.slice A1 n1 c1,.slice A2 m c2,.slice A3 n3 c3]] W fun e w'=>∃A,e=.returned (.slice A ni ni)∧Is w' w'.heap.size (.slice A ni ni) (ofTo c.nodes [0] c.nodes.length)∧BelW W w'):=Lib.hid fun W h=>
  (inputs_any c _ W W.heap.size (Nat.le_refl _) ((hC.below h).more (Below.size h)) (by rw[ok.hn];exact ok.nsz)).mono fun e w' ⟨A,he,hi,hb⟩=>⟨A,by rw[←ok.hni];exact he,by rw[←ok.hni];exact hi,hb⟩
 have HSN:Hid (∀W,BelW w W→Calls Tryz.prog 37 #[.agg #[.slice A0 n c0,.slice A1 n1 c1,.slice A2 m c2,.slice A3 n3 c3]] W fun e w'=>∃A,e=.returned (.slice A ns ns)∧Is w' w'.heap.size (.slice A ns ns) (ofTo c.nodes [14] c.nodes.length)∧BelW W w'):=Lib.hid fun W h=>
  (states_any c _ W W.heap.size (Nat.le_refl _) ((hC.below h).more (Below.size h)) (by rw[ok.hn];exact ok.nsz)).mono fun e w' ⟨A,he,hi,hb⟩=>⟨A,by rw[←ok.hns];exact he,by rw[←ok.hns];exact hi,hb⟩
 have HOK:=Lib.hid ok
 have HTB:=Lib.hid hT
 have HCI:=Lib.hid hC
 have HSR:=Lib.hid hS
 have HIR:=Lib.hid hI
 have h1n:c.names.length=n1:=by
  obtain⟨_,_,_,_,e,-⟩:=id hNm
  simp only[Value.slice.injEq]at e
  exact e.2.1.symm
 have h3n:c.outs.length=n3:=by
  obtain⟨_,_,_,_,e,-⟩:=id hO
  simp only[Value.slice.injEq]at e
  exact e.2.1.symm
 have HLN:=Lib.hid (And.intro h1n h3n)
 have HNN:=Lib.hid hN
 have HMM:=Lib.hid hM
 have hnz:=ok.nsz
 have hb11:BelW W1 W1:=Below.refl _ _
 obtain⟨x0,x1,x2,x3,y0,y1,y2⟩:=HCE.out W1 hb11
 clear h1n h3n hT hC hS hI ok hor hN hNm hM hO hb1 hfc hfs hft hfr
 go_enter Tryz.func9,Tryz.ntmps9
 go_upto_region 1 with (fail)
 rw[←HW1.out,←HS.out]
 go_upto_region 6 with (first
  |(go_at_call 33;(with_reducible refine (HOR.out _ hb11).mono ?_);rintro e w2 ⟨R,d,hR,rfl,hd2,hrow2,hb2⟩;have HR:=Lib.hid hR;have HB2:Hid (BelW W1 w2):=Lib.hid hb2;have HD2:=Lib.hid hrow2;clear x0 x1 x2 x3 y0 y1 y2;obtain⟨x0,x1,x2,x3,y0,y1,y2⟩:=HCE.out w2 hb2;clear hR hd2 hrow2 hb2)
  |(go_at_call 34;(with_reducible refine (HCK.out _ HB2.out).mono ?_);rintro e w3 ⟨rfl,hb3⟩;have HB23:Hid (BelW W1 w3):=Lib.hid (joinB HB2.out hb3);have HD3:=Lib.hid (HD2.out.below hb3);clear x0 x1 x2 x3 y0 y1 y2 hb3))
 refine wp_region_held_drew (S:=fun w'=>Below w3.heap.size w3 w') (by kernel_rfl) (Below.refl _ _).drew (fun hHeld=>?_)
 refine wpAnyH_take (i:=0) (oi:=⟨some 30,_,_,_,_,_⟩) (v:=.agg #[.slice A0 n c0,.slice A1 n1 c1,.slice A2 m c2,.slice A3 n3 c3]) rfl (by kernel_rfl) (by kernel_rfl) (by kernel_rfl) (fun _ _ _ h=>h) (Or.inl ⟨by rfl,?_⟩) hHeld ?_
 ·intro w' hSw;obtain⟨x0,x1,x2,x3,y0,y1,y2⟩:=HCE.out w' (joinB HB23.out hSw);first|(go_simp;done)|(go_simp;with_reducible rfl)
 simp only[Act.put,List.setIfInBounds_toArray,List.set_cons_zero,List.set_cons_succ]
 refine wpAnyH_take (i:=1) (oi:=⟨some 31,_,_,_,_,_⟩) (v:=.agg #[.slice As0 ns d0,.slice As1 m d1,.slice As2 p2 d2]) rfl (by kernel_rfl) (by kernel_rfl) (by kernel_rfl) (fun _ _ _ h=>h) (Or.inl ⟨by rfl,?_⟩) hHeld ?_
 ·intro w' hSw;obtain⟨x0,x1,x2,x3,y0,y1,y2⟩:=HCE.out w' (joinB HB23.out hSw);first|(go_simp;done)|(go_simp;with_reducible rfl)
 simp only[Act.put,List.setIfInBounds_toArray,List.set_cons_zero,List.set_cons_succ]
 refine wpAnyH_take (i:=2) (oi:=⟨some 32,_,_,_,_,_⟩) (v:=.slice (some ⟨d,0,none⟩) n n) rfl (by kernel_rfl) (by kernel_rfl) (by kernel_rfl) (fun _ _ _ h=>h) (Or.inl ⟨by rfl,?_⟩) hHeld ?_
 ·intro w' hSw;obtain⟨x0,x1,x2,x3,y0,y1,y2⟩:=HCE.out w' (joinB HB23.out hSw);first|(go_simp;done)|(go_simp;with_reducible rfl)
 simp only[Act.put,List.setIfInBounds_toArray,List.set_cons_zero,List.set_cons_succ]
 refine wpAnyH_take (i:=3) (oi:=⟨some 33,_,_,_,_,_⟩) (v:=.int .i64 (n:Int)) rfl (by kernel_rfl) (by kernel_rfl) (by kernel_rfl) (fun _ _ _ h=>h) (Or.inl ⟨by rfl,?_⟩) hHeld ?_
 ·intro w' hSw;obtain⟨x0,x1,x2,x3,y0,y1,y2⟩:=HCE.out w' (joinB HB23.out hSw);first|(go_simp;done)|(go_simp;with_reducible rfl)
 simp only[Act.put,List.setIfInBounds_toArray,List.set_cons_zero,List.set_cons_succ]
 refine cy_reg (n:=n) (wb:=w3) _ hnz rfl (by kernel_rfl) ⟨_,rfl,rfl,rfl,rfl,by kernel_rfl⟩ ⟨_,rfl,rfl,rfl,rfl,by kernel_rfl⟩ ⟨_,rfl,rfl,rfl,rfl,by kernel_rfl⟩ ⟨_,rfl,rfl,rfl,rfl,by kernel_rfl⟩ (Nat.le_of_ble_eq_true (by rfl)) rfl rfl rfl ?_ ?_ _ hHeld
 ·rfl
 intro v12 v34 v35 g gm W6 I
 obtain⟨rfl,rfl,rfl,hb36,hv6,hg6,hgm6,hfm6⟩:=cy_end I
 clear I hHeld
 simp only[Gcy,Act.put,List.setIfInBounds_toArray,List.set_cons_zero,List.set_cons_succ]
 have hB6:BelW W1 W6:=joinB HB23.out hb36
 have hw3:W1.heap.size≤w3.heap.size:=Below.size HB23.out
 have hg1:W1.heap.size≤g:=Nat.le_trans hw3 hg6
 have hd6:=HD3.out.below hb36
 have hdg:d≠g:=by have:=HD3.out.lt;omega
 have hmg:gm≠g:=hfm6.apart9 hv6.fr (by decide)
 have HGB:Hid (∀W,W6.grownBy W (some g)→BelW W1 W):=Lib.hid fun W h=>bgrown hB6 h hg1
 have HMC:Hid (∀W,W6.grownBy W (some g)→W.cell? ⟨gm,0,none⟩=some (.slice A0 n c0)∧W.cell? ⟨gm,1,none⟩=some (.slice A1 n1 c1)∧W.cell? ⟨gm,2,none⟩=some (.slice A2 m c2)∧W.cell? ⟨gm,3,none⟩=some (.slice A3 n3 c3)∧W.cell? ⟨gm,4,none⟩=some (.slice As0 ns d0)∧W.cell? ⟨gm,5,none⟩=some (.slice As1 m d1)∧W.cell? ⟨gm,6,none⟩=some (.slice As2 p2 d2)∧W.cell? ⟨gm,7,none⟩=some (.slice (some ⟨g,0,none⟩) n n)):=Lib.hid fun W h=>by
  have h2:some gm≠some g:=by simpa using hmg
  exact⟨h.cell (hfm6.cell 0) h2,h.cell (hfm6.cell 1) h2,h.cell (hfm6.cell 2) h2,h.cell (hfm6.cell 3) h2,h.cell (hfm6.cell 4) h2,h.cell (hfm6.cell 5) h2,h.cell (hfm6.cell 6) h2,h.cell (hfm6.cell 7) h2⟩
 have HKE:Hid (∀w',W6.grownBy w' (some g)→W6.grownBy w' (some g)∧w'.cell? ⟨s,0,none⟩=some (.slice A0 n c0)∧w'.cell? ⟨s,1,none⟩=some (.slice A1 n1 c1)∧w'.cell? ⟨s,2,none⟩=some (.slice A2 m c2)∧w'.cell? ⟨s,3,none⟩=some (.slice A3 n3 c3)∧w'.cell? ⟨s+1,0,none⟩=some (.slice As0 ns d0)∧w'.cell? ⟨s+1,1,none⟩=some (.slice As1 m d1)∧w'.cell? ⟨s+1,2,none⟩=some (.slice As2 p2 d2)∧w'.cell? ⟨gm,0,none⟩=some (.slice A0 n c0)∧w'.cell? ⟨gm,1,none⟩=some (.slice A1 n1 c1)∧w'.cell? ⟨gm,2,none⟩=some (.slice A2 m c2)∧w'.cell? ⟨gm,3,none⟩=some (.slice A3 n3 c3)∧w'.cell? ⟨gm,4,none⟩=some (.slice As0 ns d0)∧w'.cell? ⟨gm,5,none⟩=some (.slice As1 m d1)∧w'.cell? ⟨gm,6,none⟩=some (.slice As2 p2 d2)∧w'.cell? ⟨gm,7,none⟩=some (.slice (some ⟨g,0,none⟩) n n)):=Lib.hid fun w' h=>by
  obtain⟨q0,q1,q2,q3,q4,q5,q6⟩:=HCE.out w' (HGB.out w' h)
  obtain⟨z0,z1,z2,z3,z4,z5,z6,z7⟩:=HMC.out w' h
  exact⟨h,q0,q1,q2,q3,q4,q5,q6,z0,z1,z2,z3,z4,z5,z6,z7⟩
 have HV6:=Lib.hid hv6
 have HFM:Hid (∀W,W6.grownBy W (some g)→Fr W gm 90 [.slice A0 n c0,.slice A1 n1 c1,.slice A2 m c2,.slice A3 n3 c3,.slice As0 ns d0,.slice As1 m d1,.slice As2 p2 d2,.slice (some ⟨g,0,none⟩) n n]):=Lib.hid fun W h=>hfm6.kept h (by simpa using hmg)
 have HD6:=Lib.hid hd6
 have HDG:=Lib.hid hdg
 have HGG:Hid (w.heap.size≤g):=Lib.hid (Nat.le_trans (Below.size (HB1.out W1 (Below.refl _ _))) hg1)
 have HAS1:Hid (∀W A,W6.grownBy W (some g)→Is W W.heap.size (.slice A ni ni) (ofTo c.nodes [0] c.nodes.length)→VRow W g (List.replicate n 0)→Calls Tryz.prog 35 #[.agg #[.slice A0 n c0,.slice A1 n1 c1,.slice A2 m c2,.slice A3 n3 c3,.slice As0 ns d0,.slice As1 m d1,.slice As2 p2 d2,.slice (some ⟨g,0,none⟩) n n],.slice A ni ni,.slice Ai ni ci] W fun e w'=>e=.returned (.tuple #[])∧VRow w' g (asg (List.replicate n 0) (ofTo c.nodes [0] c.nodes.length) inp)∧W.grownBy w' (some g)):=Lib.hid fun W A h hi hv=>by
  have hbw:=HB1.out W (HGB.out W h)
  exact massign_any (List.replicate n 0) (ofTo c.nodes [0] c.nodes.length) inp _ _ _ _ _ _ _ A Ai ni ci g n ni w.heap.size W hv hi (Arr.keep stays_u8 HIR.out (Nat.le_refl _) fun _ hp=>Below.cell hbw hp) HGG.out HOK.out.hni.symm HOK.out.li.symm (List.length_replicate ..).symm (fun x hx=>by have:=ofTo_in hx;rw[HOK.out.hn]at this;exact this)
 have HAS2:Hid (∀W A,W6.grownBy W (some g)→Is W W.heap.size (.slice A ns ns) (ofTo c.nodes [14] c.nodes.length)→VRow W g (asg (List.replicate n 0) (ofTo c.nodes [0] c.nodes.length) inp)→Calls Tryz.prog 35 #[.agg #[.slice A0 n c0,.slice A1 n1 c1,.slice A2 m c2,.slice A3 n3 c3,.slice As0 ns d0,.slice As1 m d1,.slice As2 p2 d2,.slice (some ⟨g,0,none⟩) n n],.slice A ns ns,.slice As0 ns d0] W fun e w'=>e=.returned (.tuple #[])∧VRow w' g (cyB c n s9 inp)∧W.grownBy w' (some g)):=Lib.hid fun W A h hi hv=>by
  have hbw:=HB1.out W (HGB.out W h)
  exact massign_any _ (ofTo c.nodes [14] c.nodes.length) s9.dff _ _ _ _ _ _ _ A As0 ns d0 g n ns w.heap.size W hv hi (Arr.keep stays_u8 HSR.out.sd (Nat.le_refl _) fun _ hp=>Below.cell hbw hp) HGG.out HOK.out.hns.symm HOK.out.ld.symm (by rw[asg_len,List.length_replicate]) (fun x hx=>by have:=ofTo_in hx;rw[HOK.out.hn]at this;exact this)
 have HEV:Hid (∀W,W6.grownBy W (some g)→VRow W g (cyB c n s9 inp)→Calls Tryz.prog 38 #[.agg #[.slice A0 n c0,.slice A1 n1 c1,.slice A2 m c2,.slice A3 n3 c3,.slice As0 ns d0,.slice As1 m d1,.slice As2 p2 d2,.slice (some ⟨g,0,none⟩) n n],.slice (some ⟨d,0,none⟩) n n] W fun e w'=>e=.returned (.tuple #[])∧VRow w' g (stmK c.nodes s9.read (cyB c n s9 inp) R n)∧W.grownBy w' (some g)):=Lib.hid fun W h hv=>by
  have hbw:=HB1.out W (HGB.out W h)
  have hok:=HOK.out
  have hdW:Row W d R:=HD6.out.kept h (by simpa using HDG.out)
  exact (meval_any c.nodes s9.read (cyB c n s9 inp) R A0 As2 _ _ _ _ _ n c0 p2 d2 g d n w W hbw HGG.out HTB.out HNN.out HSR.out.sr hv (by unfold cyB;rw[asg_len,asg_len,List.length_replicate]) hdW HDG.out HR.out.2.1 HR.out.2.2 hok.wf hok.pins hok.mem hok.nsz).mono fun e w' ⟨h1,h2,_,h4⟩=>⟨h1,h2,h4⟩
 have hg0:W6.grownBy W6 (some g):=World.grownBy.refl _ _
 have hv60:VRow W6.drew g (List.replicate n 0):=hv6.below (BelW.drew (Below.refl _ _))
 have hbd:BelW w W6.drew:=HB1.out _ (HGB.out _ (gdrew hg0))
 clear hB6 hw3 hg1 hd6 hdg hmg hb36 hv6 hg6 hgm6 hfm6
 go_upto_region 7 with (fail)
 go_region_held3 (fun w'=>W6.grownBy w' (some g)∧w'.cell? ⟨s,0,none⟩=some (.slice A0 n c0)∧w'.cell? ⟨s,1,none⟩=some (.slice A1 n1 c1)∧w'.cell? ⟨s,2,none⟩=some (.slice A2 m c2)∧w'.cell? ⟨s,3,none⟩=some (.slice A3 n3 c3)∧w'.cell? ⟨s+1,0,none⟩=some (.slice As0 ns d0)∧w'.cell? ⟨s+1,1,none⟩=some (.slice As1 m d1)∧w'.cell? ⟨s+1,2,none⟩=some (.slice As2 p2 d2)∧w'.cell? ⟨gm,0,none⟩=some (.slice A0 n c0)∧w'.cell? ⟨gm,1,none⟩=some (.slice A1 n1 c1)∧w'.cell? ⟨gm,2,none⟩=some (.slice A2 m c2)∧w'.cell? ⟨gm,3,none⟩=some (.slice A3 n3 c3)∧w'.cell? ⟨gm,4,none⟩=some (.slice As0 ns d0)∧w'.cell? ⟨gm,5,none⟩=some (.slice As1 m d1)∧w'.cell? ⟨gm,6,none⟩=some (.slice As2 p2 d2)∧w'.cell? ⟨gm,7,none⟩=some (.slice (some ⟨g,0,none⟩) n n))
  ((refine HKE.out _ ?_;first|(with_reducible assumption)|(refine gdrew ?_;with_reducible assumption)))
  (first
    |(go_at_call 36;(refine Calls.mono (HIN.out _ hbd) ?_)
      rintro e w7 ⟨Ai2,rfl,his7,hb7⟩
      have hg7:W6.grownBy w7 (some g):=gnext (gdrew hg0) hb7
      have hv7:VRow w7 g (List.replicate n 0):=hv60.below hb7)
    |(go_at_call 35;(with_reducible refine Calls.mono (HAS1.out w7 Ai2 hg7 his7 hv7) ?_)
      rintro e w8 ⟨rfl,hv8,hg78⟩
      have hg8:W6.grownBy w8 (some g):=gtrans hg7 hg78))
 have HV8:=Lib.hid hv8
 have HG8:=Lib.hid hg8
 have hv80:VRow w8.drew g (asg (List.replicate n 0) (ofTo c.nodes [0] c.nodes.length) inp):=hv8.below (BelW.drew (Below.refl _ _))
 have hbd8:BelW w w8.drew:=HB1.out _ (HGB.out _ (gdrew hg8))
 clear hg0 hv60 hbd his7 hb7 hg7 hv7 hv8 hg78
 go_upto_region 8 with (fail)
 go_region_held3 (fun w'=>W6.grownBy w' (some g)∧w'.cell? ⟨s,0,none⟩=some (.slice A0 n c0)∧w'.cell? ⟨s,1,none⟩=some (.slice A1 n1 c1)∧w'.cell? ⟨s,2,none⟩=some (.slice A2 m c2)∧w'.cell? ⟨s,3,none⟩=some (.slice A3 n3 c3)∧w'.cell? ⟨s+1,0,none⟩=some (.slice As0 ns d0)∧w'.cell? ⟨s+1,1,none⟩=some (.slice As1 m d1)∧w'.cell? ⟨s+1,2,none⟩=some (.slice As2 p2 d2)∧w'.cell? ⟨gm,0,none⟩=some (.slice A0 n c0)∧w'.cell? ⟨gm,1,none⟩=some (.slice A1 n1 c1)∧w'.cell? ⟨gm,2,none⟩=some (.slice A2 m c2)∧w'.cell? ⟨gm,3,none⟩=some (.slice A3 n3 c3)∧w'.cell? ⟨gm,4,none⟩=some (.slice As0 ns d0)∧w'.cell? ⟨gm,5,none⟩=some (.slice As1 m d1)∧w'.cell? ⟨gm,6,none⟩=some (.slice As2 p2 d2)∧w'.cell? ⟨gm,7,none⟩=some (.slice (some ⟨g,0,none⟩) n n))
  ((refine HKE.out _ ?_;first|(with_reducible assumption)|(refine gdrew ?_;with_reducible assumption)))
  (first
    |(go_at_call 37;(refine Calls.mono (HSN.out _ hbd8) ?_)
      rintro e w9 ⟨Ai3,rfl,his9,hb9⟩
      have hg9:W6.grownBy w9 (some g):=gnext (gdrew hg8) hb9
      have hv9:=hv80.below hb9)
    |(go_at_call 35;(with_reducible refine Calls.mono (HAS2.out w9 Ai3 hg9 his9 hv9) ?_)
      rintro e w10 ⟨rfl,hv10,hg910⟩
      have hg10:W6.grownBy w10 (some g):=gtrans hg9 hg910))
 have HEV10:=Lib.hid (HEV.out w10 hg10 hv10)
 have HG10:=Lib.hid hg10
 obtain⟨-,x0,x1,x2,x3,y0,y1,y2,z0,z1,z2,z3,z4,z5,z6,z7⟩:=HKE.out w10 hg10
 clear hg8 hv80 hbd8 his9 hb9 hg9 hv9 hv10 hg910 hg10
 go_upto_region 10 with (go_at_call 38;(with_reducible refine HEV10.out.mono ?_);rintro e w11 ⟨rfl,hv11,hg11⟩;have HV11:=Lib.hid hv11;have HG11:Hid (W6.grownBy w11 (some g)):=Lib.hid (gtrans HG10.out hg11);clear x0 x1 x2 x3 y0 y1 y2 z0 z1 z2 z3 z4 z5 z6 z7 hv11 hg11)
 obtain⟨nets,HNE⟩:=named (stmK c.nodes s9.read (cyB c n s9 inp) R n)
 have HND:Hid (nets=stmK c.nodes s9.read (cyB c n s9 inp) R n):=HNE
 rw[←HNE.out]at HV11
 have hnl:nets.length=n:=by rw[HNE.out,stmK_len];unfold cyB;rw[asg_len,asg_len,List.length_replicate]
 have hnx:(nextV c nets).length=ns:=by unfold nextV;rw[List.length_map];exact HOK.out.hns
 have HOB:Hid (Calls Tryz.prog 39 #[.agg #[.slice A0 n c0,.slice A1 n1 c1,.slice A2 m c2,.slice A3 n3 c3],.slice (some ⟨g,0,none⟩) n n] w11 fun e w'=>∃go gn,e=.returned (.agg #[.slice (some ⟨go,0,none⟩) (outV c nets).length (outV c nets).length,.slice (some ⟨gn,0,none⟩) ns ns])∧VRow w' go (outV c nets)∧VRow w' gn (nextV c nets)∧BelW w11 w'):=Lib.hid (by
  have hbw:=HB1.out w11 (HGB.out w11 HG11.out)
  have hcc:=(HCI.out.below hbw).more (Below.size hbw)
  rw[←HOK.out.hn,←HLN.out.1,←HOK.out.hm,←HLN.out.2]at hcc
  have hks:=HV11.out.ks
  rw[hnl]at hks
  have:=observe_any c nets A0 A1 A2 A3 (some ⟨g,0,none⟩) c0 c1 c2 c3 n n w11 w11.heap.size (Nat.le_refl _) hcc hks (by rw[HOK.out.hn];exact hnz) HOK.out.outs
  rw[HOK.out.hn,HLN.out.1,HOK.out.hm,HLN.out.2]at this
  refine this.mono fun e w' ⟨go,gn,h1,h2,h3,_,_,_,h7⟩=>⟨go,gn,?_,h2,h3,h7⟩
  rw[h1,hnx])
 obtain⟨-,x0,x1,x2,x3,y0,y1,y2,z0,z1,z2,z3,z4,z5,z6,z7⟩:=HKE.out w11 HG11.out
 have HNL:=Lib.hid hnl
 have HNX:=Lib.hid hnx
 clear hnl hnx
 go_upto_region 11 with (go_at_call 39;(with_reducible refine HOB.out.mono ?_);rintro e w12 ⟨go,gn,rfl,hvo,hvn,hb12⟩;have HVO:=Lib.hid hvo;have HVN:=Lib.hid hvn;have HB12:Hid (BelW w11 w12):=Lib.hid hb12;clear x0 x1 x2 x3 y0 y1 y2 z0 z1 z2 z3 z4 z5 z6 z7 hvo hvn hb12)
 obtain⟨lo,HLO⟩:=named (outV c nets).length
 rw[←HLO.out]
 obtain⟨W13,HW13⟩:=named (w12.alloc (.cells #[.slice (some ⟨go,0,none⟩) lo lo,.slice (some ⟨gn,0,none⟩) ns ns] 49))
 rw[←HW13.out]
 have hb1213:BelW w12 W13:=by rw[HW13.out];exact below_new (Below.refl _ _) _
 have hfu:Fr W13 w12.heap.size 49 [.slice (some ⟨go,0,none⟩) lo lo,.slice (some ⟨gn,0,none⟩) ns ns]:=by rw[HW13.out];exact Fr.made _ [.slice (some ⟨go,0,none⟩) lo lo,.slice (some ⟨gn,0,none⟩) ns ns] _ rfl
 obtain⟨u,HU⟩:=named w12.heap.size
 rw[←HU.out]at hfu
 rw[←HU.out]
 have hb13:BelW w11 W13:=joinB HB12.out hb1213
 have hbw13:BelW W1 W13:=joinB (HGB.out w11 HG11.out) hb13
 have HB13:Hid (∀W,BelW W13 W→BelW w W):=Lib.hid fun W h=>HB1.out W (joinB hbw13 h)
 have hfm13:Fr W13 gm 90 [.slice A0 n c0,.slice A1 n1 c1,.slice A2 m c2,.slice A3 n3 c3,.slice As0 ns d0,.slice As1 m d1,.slice As2 p2 d2,.slice (some ⟨g,0,none⟩) n n]:=(HFM.out w11 HG11.out).below hb13
 have HMU:Hid (∀W,BelW W13 W→W.cell? ⟨u,0,none⟩=some (.slice (some ⟨go,0,none⟩) lo lo)∧W.cell? ⟨u,1,none⟩=some (.slice (some ⟨gn,0,none⟩) ns ns)∧W.cell? ⟨gm,0,none⟩=some (.slice A0 n c0)∧W.cell? ⟨gm,1,none⟩=some (.slice A1 n1 c1)∧W.cell? ⟨gm,2,none⟩=some (.slice A2 m c2)∧W.cell? ⟨gm,3,none⟩=some (.slice A3 n3 c3)∧W.cell? ⟨gm,4,none⟩=some (.slice As0 ns d0)∧W.cell? ⟨gm,5,none⟩=some (.slice As1 m d1)∧W.cell? ⟨gm,6,none⟩=some (.slice As2 p2 d2)∧W.cell? ⟨gm,7,none⟩=some (.slice (some ⟨g,0,none⟩) n n)):=Lib.hid fun W h=>⟨(hfu.below h).cell 0,(hfu.below h).cell 1,(hfm13.below h).cell 0,(hfm13.below h).cell 1,(hfm13.below h).cell 2,(hfm13.below h).cell 3,(hfm13.below h).cell 4,(hfm13.below h).cell 5,(hfm13.below h).cell 6,(hfm13.below h).cell 7⟩
 have hns1:ns≤1000000:=by rw[←HOK.out.hns];exact Nat.le_trans (ofTo_len _ _ _) (by rw[HOK.out.hn];exact hnz)
 have hvn13:=HVN.out.below hb1213
 have HNXT:Hid (∀W,BelW W13 W→Calls Tryz.prog 40 #[.agg #[.slice A0 n c0,.slice A1 n1 c1,.slice A2 m c2,.slice A3 n3 c3,.slice As0 ns d0,.slice As1 m d1,.slice As2 p2 d2,.slice (some ⟨g,0,none⟩) n n],.slice (some ⟨gn,0,none⟩) ns ns] W fun e w'=>∃gB D1 D2,e=.returned (.agg #[.slice (some ⟨gB,0,none⟩) ns ns,.slice (some ⟨D1,0,none⟩) m m,.slice (some ⟨D2,0,none⟩) m m])∧VRow w' gB (bitsL (nextV c nets) ns)∧(∃L,W.heap.size≤L∧OSt w' D1 D2 L m (fun k=>(s9.words.getD k []).length) (nxW c.mems s9.words nets) (nxR c.mems s9.words nets) m m)∧BelW W w'):=Lib.hid fun W h=>by
  have hbw:=HB13.out W h
  have hks:=(hvn13.below h).ks
  rw[HNX.out]at hks
  exact mnext_any c.mems s9.words nets (nextV c nets) A2 As1 (some ⟨gn,0,none⟩) _ _ _ _ _ m c2 d1 g n ns ns W ((HMM.out.below hbw).more (Below.size hbw)) (Arr.keep stays_wws HSR.out.sw (Below.size hbw) fun _ hp=>Below.cell hbw hp) ((HV11.out.below hb13).below h) HNL.out hks HOK.out.nx HOK.out.msz hns1
 have HS3:Hid (∀W gB D1 D2,BelW W13 W→(BelW w (((W.setCell ⟨s+1+1,0,none⟩ (.slice (some ⟨gB,0,none⟩) ns ns)).setCell ⟨s+1+1,1,none⟩ (.slice (some ⟨D1,0,none⟩) m m)).setCell ⟨s+1+1,2,none⟩ (.slice (some ⟨D2,0,none⟩) m m))∧(((W.setCell ⟨s+1+1,0,none⟩ (.slice (some ⟨gB,0,none⟩) ns ns)).setCell ⟨s+1+1,1,none⟩ (.slice (some ⟨D1,0,none⟩) m m)).setCell ⟨s+1+1,2,none⟩ (.slice (some ⟨D2,0,none⟩) m m)).cell? ⟨u,0,none⟩=some (.slice (some ⟨go,0,none⟩) lo lo)∧(((W.setCell ⟨s+1+1,0,none⟩ (.slice (some ⟨gB,0,none⟩) ns ns)).setCell ⟨s+1+1,1,none⟩ (.slice (some ⟨D1,0,none⟩) m m)).setCell ⟨s+1+1,2,none⟩ (.slice (some ⟨D2,0,none⟩) m m)).cell? ⟨u,1,none⟩=some (.slice (some ⟨gn,0,none⟩) ns ns)∧(((W.setCell ⟨s+1+1,0,none⟩ (.slice (some ⟨gB,0,none⟩) ns ns)).setCell ⟨s+1+1,1,none⟩ (.slice (some ⟨D1,0,none⟩) m m)).setCell ⟨s+1+1,2,none⟩ (.slice (some ⟨D2,0,none⟩) m m)).cell? ⟨gm,0,none⟩=some (.slice A0 n c0)∧(((W.setCell ⟨s+1+1,0,none⟩ (.slice (some ⟨gB,0,none⟩) ns ns)).setCell ⟨s+1+1,1,none⟩ (.slice (some ⟨D1,0,none⟩) m m)).setCell ⟨s+1+1,2,none⟩ (.slice (some ⟨D2,0,none⟩) m m)).cell? ⟨gm,1,none⟩=some (.slice A1 n1 c1)∧(((W.setCell ⟨s+1+1,0,none⟩ (.slice (some ⟨gB,0,none⟩) ns ns)).setCell ⟨s+1+1,1,none⟩ (.slice (some ⟨D1,0,none⟩) m m)).setCell ⟨s+1+1,2,none⟩ (.slice (some ⟨D2,0,none⟩) m m)).cell? ⟨gm,2,none⟩=some (.slice A2 m c2)∧(((W.setCell ⟨s+1+1,0,none⟩ (.slice (some ⟨gB,0,none⟩) ns ns)).setCell ⟨s+1+1,1,none⟩ (.slice (some ⟨D1,0,none⟩) m m)).setCell ⟨s+1+1,2,none⟩ (.slice (some ⟨D2,0,none⟩) m m)).cell? ⟨gm,3,none⟩=some (.slice A3 n3 c3)∧(((W.setCell ⟨s+1+1,0,none⟩ (.slice (some ⟨gB,0,none⟩) ns ns)).setCell ⟨s+1+1,1,none⟩ (.slice (some ⟨D1,0,none⟩) m m)).setCell ⟨s+1+1,2,none⟩ (.slice (some ⟨D2,0,none⟩) m m)).cell? ⟨gm,4,none⟩=some (.slice As0 ns d0)∧(((W.setCell ⟨s+1+1,0,none⟩ (.slice (some ⟨gB,0,none⟩) ns ns)).setCell ⟨s+1+1,1,none⟩ (.slice (some ⟨D1,0,none⟩) m m)).setCell ⟨s+1+1,2,none⟩ (.slice (some ⟨D2,0,none⟩) m m)).cell? ⟨gm,5,none⟩=some (.slice As1 m d1)∧(((W.setCell ⟨s+1+1,0,none⟩ (.slice (some ⟨gB,0,none⟩) ns ns)).setCell ⟨s+1+1,1,none⟩ (.slice (some ⟨D1,0,none⟩) m m)).setCell ⟨s+1+1,2,none⟩ (.slice (some ⟨D2,0,none⟩) m m)).cell? ⟨gm,6,none⟩=some (.slice As2 p2 d2)∧(((W.setCell ⟨s+1+1,0,none⟩ (.slice (some ⟨gB,0,none⟩) ns ns)).setCell ⟨s+1+1,1,none⟩ (.slice (some ⟨D1,0,none⟩) m m)).setCell ⟨s+1+1,2,none⟩ (.slice (some ⟨D2,0,none⟩) m m)).cell? ⟨gm,7,none⟩=some (.slice (some ⟨g,0,none⟩) n n))∧(BelW w (((((W.setCell ⟨s+1+1,0,none⟩ (.slice (some ⟨gB,0,none⟩) ns ns)).setCell ⟨s+1+1,1,none⟩ (.slice (some ⟨D1,0,none⟩) m m)).setCell ⟨s+1+1,2,none⟩ (.slice (some ⟨D2,0,none⟩) m m)).setCell ⟨s+1+1+1,0,none⟩ (.slice (some ⟨go,0,none⟩) lo lo)).setCell ⟨s+1+1+1,1,none⟩ (.slice (some ⟨gn,0,none⟩) ns ns))∧(((((W.setCell ⟨s+1+1,0,none⟩ (.slice (some ⟨gB,0,none⟩) ns ns)).setCell ⟨s+1+1,1,none⟩ (.slice (some ⟨D1,0,none⟩) m m)).setCell ⟨s+1+1,2,none⟩ (.slice (some ⟨D2,0,none⟩) m m)).setCell ⟨s+1+1+1,0,none⟩ (.slice (some ⟨go,0,none⟩) lo lo)).setCell ⟨s+1+1+1,1,none⟩ (.slice (some ⟨gn,0,none⟩) ns ns)).cell? ⟨u,0,none⟩=some (.slice (some ⟨go,0,none⟩) lo lo)∧(((((W.setCell ⟨s+1+1,0,none⟩ (.slice (some ⟨gB,0,none⟩) ns ns)).setCell ⟨s+1+1,1,none⟩ (.slice (some ⟨D1,0,none⟩) m m)).setCell ⟨s+1+1,2,none⟩ (.slice (some ⟨D2,0,none⟩) m m)).setCell ⟨s+1+1+1,0,none⟩ (.slice (some ⟨go,0,none⟩) lo lo)).setCell ⟨s+1+1+1,1,none⟩ (.slice (some ⟨gn,0,none⟩) ns ns)).cell? ⟨u,1,none⟩=some (.slice (some ⟨gn,0,none⟩) ns ns)∧(((((W.setCell ⟨s+1+1,0,none⟩ (.slice (some ⟨gB,0,none⟩) ns ns)).setCell ⟨s+1+1,1,none⟩ (.slice (some ⟨D1,0,none⟩) m m)).setCell ⟨s+1+1,2,none⟩ (.slice (some ⟨D2,0,none⟩) m m)).setCell ⟨s+1+1+1,0,none⟩ (.slice (some ⟨go,0,none⟩) lo lo)).setCell ⟨s+1+1+1,1,none⟩ (.slice (some ⟨gn,0,none⟩) ns ns)).cell? ⟨gm,0,none⟩=some (.slice A0 n c0)∧(((((W.setCell ⟨s+1+1,0,none⟩ (.slice (some ⟨gB,0,none⟩) ns ns)).setCell ⟨s+1+1,1,none⟩ (.slice (some ⟨D1,0,none⟩) m m)).setCell ⟨s+1+1,2,none⟩ (.slice (some ⟨D2,0,none⟩) m m)).setCell ⟨s+1+1+1,0,none⟩ (.slice (some ⟨go,0,none⟩) lo lo)).setCell ⟨s+1+1+1,1,none⟩ (.slice (some ⟨gn,0,none⟩) ns ns)).cell? ⟨gm,1,none⟩=some (.slice A1 n1 c1)∧(((((W.setCell ⟨s+1+1,0,none⟩ (.slice (some ⟨gB,0,none⟩) ns ns)).setCell ⟨s+1+1,1,none⟩ (.slice (some ⟨D1,0,none⟩) m m)).setCell ⟨s+1+1,2,none⟩ (.slice (some ⟨D2,0,none⟩) m m)).setCell ⟨s+1+1+1,0,none⟩ (.slice (some ⟨go,0,none⟩) lo lo)).setCell ⟨s+1+1+1,1,none⟩ (.slice (some ⟨gn,0,none⟩) ns ns)).cell? ⟨gm,2,none⟩=some (.slice A2 m c2)∧(((((W.setCell ⟨s+1+1,0,none⟩ (.slice (some ⟨gB,0,none⟩) ns ns)).setCell ⟨s+1+1,1,none⟩ (.slice (some ⟨D1,0,none⟩) m m)).setCell ⟨s+1+1,2,none⟩ (.slice (some ⟨D2,0,none⟩) m m)).setCell ⟨s+1+1+1,0,none⟩ (.slice (some ⟨go,0,none⟩) lo lo)).setCell ⟨s+1+1+1,1,none⟩ (.slice (some ⟨gn,0,none⟩) ns ns)).cell? ⟨gm,3,none⟩=some (.slice A3 n3 c3)∧(((((W.setCell ⟨s+1+1,0,none⟩ (.slice (some ⟨gB,0,none⟩) ns ns)).setCell ⟨s+1+1,1,none⟩ (.slice (some ⟨D1,0,none⟩) m m)).setCell ⟨s+1+1,2,none⟩ (.slice (some ⟨D2,0,none⟩) m m)).setCell ⟨s+1+1+1,0,none⟩ (.slice (some ⟨go,0,none⟩) lo lo)).setCell ⟨s+1+1+1,1,none⟩ (.slice (some ⟨gn,0,none⟩) ns ns)).cell? ⟨gm,4,none⟩=some (.slice As0 ns d0)∧(((((W.setCell ⟨s+1+1,0,none⟩ (.slice (some ⟨gB,0,none⟩) ns ns)).setCell ⟨s+1+1,1,none⟩ (.slice (some ⟨D1,0,none⟩) m m)).setCell ⟨s+1+1,2,none⟩ (.slice (some ⟨D2,0,none⟩) m m)).setCell ⟨s+1+1+1,0,none⟩ (.slice (some ⟨go,0,none⟩) lo lo)).setCell ⟨s+1+1+1,1,none⟩ (.slice (some ⟨gn,0,none⟩) ns ns)).cell? ⟨gm,5,none⟩=some (.slice As1 m d1)∧(((((W.setCell ⟨s+1+1,0,none⟩ (.slice (some ⟨gB,0,none⟩) ns ns)).setCell ⟨s+1+1,1,none⟩ (.slice (some ⟨D1,0,none⟩) m m)).setCell ⟨s+1+1,2,none⟩ (.slice (some ⟨D2,0,none⟩) m m)).setCell ⟨s+1+1+1,0,none⟩ (.slice (some ⟨go,0,none⟩) lo lo)).setCell ⟨s+1+1+1,1,none⟩ (.slice (some ⟨gn,0,none⟩) ns ns)).cell? ⟨gm,6,none⟩=some (.slice As2 p2 d2)∧(((((W.setCell ⟨s+1+1,0,none⟩ (.slice (some ⟨gB,0,none⟩) ns ns)).setCell ⟨s+1+1,1,none⟩ (.slice (some ⟨D1,0,none⟩) m m)).setCell ⟨s+1+1,2,none⟩ (.slice (some ⟨D2,0,none⟩) m m)).setCell ⟨s+1+1+1,0,none⟩ (.slice (some ⟨go,0,none⟩) lo lo)).setCell ⟨s+1+1+1,1,none⟩ (.slice (some ⟨gn,0,none⟩) ns ns)).cell? ⟨gm,7,none⟩=some (.slice (some ⟨g,0,none⟩) n n))):=Lib.hid fun W gB D1 D2 h=>by
  have ft:=HFT.out.below (joinB hbw13 h)
  have frr:=HFR.out.below (joinB hbw13 h)
  have fu:=hfu.below h
  have fm:=hfm13.below h
  have hsw:=HSW.out
  have hlt:=HFR.out.lt
  have hu2:W1.heap.size≤u:=by rw[HU.out];exact Nat.le_trans (Below.size (HGB.out w11 HG11.out)) (Below.size HB12.out)
  have n1:s+1+1≠u:=by omega
  have n3:s+1+1+1≠u:=by omega
  have n2:=ft.apart9 fm (by decide)
  have n4:=frr.apart9 fm (by decide)
  have hw:=HB13.out W h
  have a1:=(((fu.other (a:=⟨s+1+1,0,none⟩) n1 (.slice (some ⟨gB,0,none⟩) ns ns)).other (a:=⟨s+1+1,1,none⟩) n1 (.slice (some ⟨D1,0,none⟩) m m)).other (a:=⟨s+1+1,2,none⟩) n1 (.slice (some ⟨D2,0,none⟩) m m))
  have a2:=(((fm.other (a:=⟨s+1+1,0,none⟩) n2 (.slice (some ⟨gB,0,none⟩) ns ns)).other (a:=⟨s+1+1,1,none⟩) n2 (.slice (some ⟨D1,0,none⟩) m m)).other (a:=⟨s+1+1,2,none⟩) n2 (.slice (some ⟨D2,0,none⟩) m m))
  have b1:=(((((fu.other (a:=⟨s+1+1,0,none⟩) n1 (.slice (some ⟨gB,0,none⟩) ns ns)).other (a:=⟨s+1+1,1,none⟩) n1 (.slice (some ⟨D1,0,none⟩) m m)).other (a:=⟨s+1+1,2,none⟩) n1 (.slice (some ⟨D2,0,none⟩) m m)).other (a:=⟨s+1+1+1,0,none⟩) n3 (.slice (some ⟨go,0,none⟩) lo lo)).other (a:=⟨s+1+1+1,1,none⟩) n3 (.slice (some ⟨gn,0,none⟩) ns ns))
  have b2:=(((((fm.other (a:=⟨s+1+1,0,none⟩) n2 (.slice (some ⟨gB,0,none⟩) ns ns)).other (a:=⟨s+1+1,1,none⟩) n2 (.slice (some ⟨D1,0,none⟩) m m)).other (a:=⟨s+1+1,2,none⟩) n2 (.slice (some ⟨D2,0,none⟩) m m)).other (a:=⟨s+1+1+1,0,none⟩) n4 (.slice (some ⟨go,0,none⟩) lo lo)).other (a:=⟨s+1+1+1,1,none⟩) n4 (.slice (some ⟨gn,0,none⟩) ns ns))
  exact⟨⟨(((hw.setCell (p:=⟨s+1+1,0,none⟩) (by show w.heap.size≤s+1+1;omega) (.slice (some ⟨gB,0,none⟩) ns ns)).setCell (p:=⟨s+1+1,1,none⟩) (by show w.heap.size≤s+1+1;omega) (.slice (some ⟨D1,0,none⟩) m m)).setCell (p:=⟨s+1+1,2,none⟩) (by show w.heap.size≤s+1+1;omega) (.slice (some ⟨D2,0,none⟩) m m)),a1.cell 0,a1.cell 1,a2.cell 0,a2.cell 1,a2.cell 2,a2.cell 3,a2.cell 4,a2.cell 5,a2.cell 6,a2.cell 7⟩,⟨(((((hw.setCell (p:=⟨s+1+1,0,none⟩) (by show w.heap.size≤s+1+1;omega) (.slice (some ⟨gB,0,none⟩) ns ns)).setCell (p:=⟨s+1+1,1,none⟩) (by show w.heap.size≤s+1+1;omega) (.slice (some ⟨D1,0,none⟩) m m)).setCell (p:=⟨s+1+1,2,none⟩) (by show w.heap.size≤s+1+1;omega) (.slice (some ⟨D2,0,none⟩) m m)).setCell (p:=⟨s+1+1+1,0,none⟩) (by show w.heap.size≤s+1+1+1;omega) (.slice (some ⟨go,0,none⟩) lo lo)).setCell (p:=⟨s+1+1+1,1,none⟩) (by show w.heap.size≤s+1+1+1;omega) (.slice (some ⟨gn,0,none⟩) ns ns)),b1.cell 0,b1.cell 1,b2.cell 0,b2.cell 1,b2.cell 2,b2.cell 3,b2.cell 4,b2.cell 5,b2.cell 6,b2.cell 7⟩⟩
 have HF5:Hid (∀W gB D1 D2 L,BelW W13 W→VRow W gB (bitsL (nextV c nets) ns)→W13.heap.size≤L→OSt W D1 D2 L m (fun k=>(s9.words.getD k []).length) (nxW c.mems s9.words nets) (nxR c.mems s9.words nets) m m→VRow (((((W.setCell ⟨s+1+1,0,none⟩ (.slice (some ⟨gB,0,none⟩) ns ns)).setCell ⟨s+1+1,1,none⟩ (.slice (some ⟨D1,0,none⟩) m m)).setCell ⟨s+1+1,2,none⟩ (.slice (some ⟨D2,0,none⟩) m m)).setCell ⟨s+1+1+1,0,none⟩ (.slice (some ⟨go,0,none⟩) lo lo)).setCell ⟨s+1+1+1,1,none⟩ (.slice (some ⟨gn,0,none⟩) ns ns)) g nets∧VRow (((((W.setCell ⟨s+1+1,0,none⟩ (.slice (some ⟨gB,0,none⟩) ns ns)).setCell ⟨s+1+1,1,none⟩ (.slice (some ⟨D1,0,none⟩) m m)).setCell ⟨s+1+1,2,none⟩ (.slice (some ⟨D2,0,none⟩) m m)).setCell ⟨s+1+1+1,0,none⟩ (.slice (some ⟨go,0,none⟩) lo lo)).setCell ⟨s+1+1+1,1,none⟩ (.slice (some ⟨gn,0,none⟩) ns ns)) go (outV c nets)∧VRow (((((W.setCell ⟨s+1+1,0,none⟩ (.slice (some ⟨gB,0,none⟩) ns ns)).setCell ⟨s+1+1,1,none⟩ (.slice (some ⟨D1,0,none⟩) m m)).setCell ⟨s+1+1,2,none⟩ (.slice (some ⟨D2,0,none⟩) m m)).setCell ⟨s+1+1+1,0,none⟩ (.slice (some ⟨go,0,none⟩) lo lo)).setCell ⟨s+1+1+1,1,none⟩ (.slice (some ⟨gn,0,none⟩) ns ns)) gn (nextV c nets)∧VRow (((((W.setCell ⟨s+1+1,0,none⟩ (.slice (some ⟨gB,0,none⟩) ns ns)).setCell ⟨s+1+1,1,none⟩ (.slice (some ⟨D1,0,none⟩) m m)).setCell ⟨s+1+1,2,none⟩ (.slice (some ⟨D2,0,none⟩) m m)).setCell ⟨s+1+1+1,0,none⟩ (.slice (some ⟨go,0,none⟩) lo lo)).setCell ⟨s+1+1+1,1,none⟩ (.slice (some ⟨gn,0,none⟩) ns ns)) gB (bitsL (nextV c nets) ns)∧(OSt (((((W.setCell ⟨s+1+1,0,none⟩ (.slice (some ⟨gB,0,none⟩) ns ns)).setCell ⟨s+1+1,1,none⟩ (.slice (some ⟨D1,0,none⟩) m m)).setCell ⟨s+1+1,2,none⟩ (.slice (some ⟨D2,0,none⟩) m m)).setCell ⟨s+1+1+1,0,none⟩ (.slice (some ⟨go,0,none⟩) lo lo)).setCell ⟨s+1+1+1,1,none⟩ (.slice (some ⟨gn,0,none⟩) ns ns)) D1 D2 L m (fun k=>(s9.words.getD k []).length) (nxW c.mems s9.words nets) (nxR c.mems s9.words nets) m m)∧BelW w (((((W.setCell ⟨s+1+1,0,none⟩ (.slice (some ⟨gB,0,none⟩) ns ns)).setCell ⟨s+1+1,1,none⟩ (.slice (some ⟨D1,0,none⟩) m m)).setCell ⟨s+1+1,2,none⟩ (.slice (some ⟨D2,0,none⟩) m m)).setCell ⟨s+1+1+1,0,none⟩ (.slice (some ⟨go,0,none⟩) lo lo)).setCell ⟨s+1+1+1,1,none⟩ (.slice (some ⟨gn,0,none⟩) ns ns))∧Fr (((((W.setCell ⟨s+1+1,0,none⟩ (.slice (some ⟨gB,0,none⟩) ns ns)).setCell ⟨s+1+1,1,none⟩ (.slice (some ⟨D1,0,none⟩) m m)).setCell ⟨s+1+1,2,none⟩ (.slice (some ⟨D2,0,none⟩) m m)).setCell ⟨s+1+1+1,0,none⟩ (.slice (some ⟨go,0,none⟩) lo lo)).setCell ⟨s+1+1+1,1,none⟩ (.slice (some ⟨gn,0,none⟩) ns ns)) (s+1+1) 45 [.slice (some ⟨gB,0,none⟩) ns ns,.slice (some ⟨D1,0,none⟩) m m,.slice (some ⟨D2,0,none⟩) m m]∧Fr (((((W.setCell ⟨s+1+1,0,none⟩ (.slice (some ⟨gB,0,none⟩) ns ns)).setCell ⟨s+1+1,1,none⟩ (.slice (some ⟨D1,0,none⟩) m m)).setCell ⟨s+1+1,2,none⟩ (.slice (some ⟨D2,0,none⟩) m m)).setCell ⟨s+1+1+1,0,none⟩ (.slice (some ⟨go,0,none⟩) lo lo)).setCell ⟨s+1+1+1,1,none⟩ (.slice (some ⟨gn,0,none⟩) ns ns)) (s+1+1+1) 49 [.slice (some ⟨go,0,none⟩) lo lo,.slice (some ⟨gn,0,none⟩) ns ns]):=Lib.hid fun W gB D1 D2 L h hvB hL hst=>by
  have ft:=HFT.out.below (joinB hbw13 h)
  have frr:=HFR.out.below (joinB hbw13 h)
  have hsw:=HSW.out
  have hlt:=HFR.out.lt
  have hlt2:=Below.size hbw13
  have hw:=HB13.out W h
  have v1:=(HV11.out.below hb13).below h
  have v2:=(HVO.out.below hb1213).below h
  have v3:=hvn13.below h
  have frn:=(((frr.other (a:=⟨s+1+1,0,none⟩) (by show s+1+1≠s+1+1+1;omega) (.slice (some ⟨gB,0,none⟩) ns ns)).other (a:=⟨s+1+1,1,none⟩) (by show s+1+1≠s+1+1+1;omega) (.slice (some ⟨D1,0,none⟩) m m)).other (a:=⟨s+1+1,2,none⟩) (by show s+1+1≠s+1+1+1;omega) (.slice (some ⟨D2,0,none⟩) m m))
  have e1:=(((ft.set 0 (.slice (some ⟨gB,0,none⟩) ns ns)).set 1 (.slice (some ⟨D1,0,none⟩) m m)).set 2 (.slice (some ⟨D2,0,none⟩) m m))
  have e2:=((frn.set 0 (.slice (some ⟨go,0,none⟩) lo lo)).set 1 (.slice (some ⟨gn,0,none⟩) ns ns))
  refine⟨(((((v1.other (a:=⟨s+1+1,0,none⟩) (ft.apart9 v1.fr (by decide)) (.slice (some ⟨gB,0,none⟩) ns ns)).other (a:=⟨s+1+1,1,none⟩) (ft.apart9 v1.fr (by decide)) (.slice (some ⟨D1,0,none⟩) m m)).other (a:=⟨s+1+1,2,none⟩) (ft.apart9 v1.fr (by decide)) (.slice (some ⟨D2,0,none⟩) m m)).other (a:=⟨s+1+1+1,0,none⟩) (frr.apart9 v1.fr (by decide)) (.slice (some ⟨go,0,none⟩) lo lo)).other (a:=⟨s+1+1+1,1,none⟩) (frr.apart9 v1.fr (by decide)) (.slice (some ⟨gn,0,none⟩) ns ns)),(((((v2.other (a:=⟨s+1+1,0,none⟩) (ft.apart9 v2.fr (by decide)) (.slice (some ⟨gB,0,none⟩) ns ns)).other (a:=⟨s+1+1,1,none⟩) (ft.apart9 v2.fr (by decide)) (.slice (some ⟨D1,0,none⟩) m m)).other (a:=⟨s+1+1,2,none⟩) (ft.apart9 v2.fr (by decide)) (.slice (some ⟨D2,0,none⟩) m m)).other (a:=⟨s+1+1+1,0,none⟩) (frr.apart9 v2.fr (by decide)) (.slice (some ⟨go,0,none⟩) lo lo)).other (a:=⟨s+1+1+1,1,none⟩) (frr.apart9 v2.fr (by decide)) (.slice (some ⟨gn,0,none⟩) ns ns)),(((((v3.other (a:=⟨s+1+1,0,none⟩) (ft.apart9 v3.fr (by decide)) (.slice (some ⟨gB,0,none⟩) ns ns)).other (a:=⟨s+1+1,1,none⟩) (ft.apart9 v3.fr (by decide)) (.slice (some ⟨D1,0,none⟩) m m)).other (a:=⟨s+1+1,2,none⟩) (ft.apart9 v3.fr (by decide)) (.slice (some ⟨D2,0,none⟩) m m)).other (a:=⟨s+1+1+1,0,none⟩) (frr.apart9 v3.fr (by decide)) (.slice (some ⟨go,0,none⟩) lo lo)).other (a:=⟨s+1+1+1,1,none⟩) (frr.apart9 v3.fr (by decide)) (.slice (some ⟨gn,0,none⟩) ns ns)),(((((hvB.other (a:=⟨s+1+1,0,none⟩) (ft.apart9 hvB.fr (by decide)) (.slice (some ⟨gB,0,none⟩) ns ns)).other (a:=⟨s+1+1,1,none⟩) (ft.apart9 hvB.fr (by decide)) (.slice (some ⟨D1,0,none⟩) m m)).other (a:=⟨s+1+1,2,none⟩) (ft.apart9 hvB.fr (by decide)) (.slice (some ⟨D2,0,none⟩) m m)).other (a:=⟨s+1+1+1,0,none⟩) (frr.apart9 hvB.fr (by decide)) (.slice (some ⟨go,0,none⟩) lo lo)).other (a:=⟨s+1+1+1,1,none⟩) (frr.apart9 hvB.fr (by decide)) (.slice (some ⟨gn,0,none⟩) ns ns)),(((((hst.off ft (by omega) 0 (.slice (some ⟨gB,0,none⟩) ns ns)).off (ft.set 0 (.slice (some ⟨gB,0,none⟩) ns ns)) (by omega) 1 (.slice (some ⟨D1,0,none⟩) m m)).off ((ft.set 0 (.slice (some ⟨gB,0,none⟩) ns ns)).set 1 (.slice (some ⟨D1,0,none⟩) m m)) (by omega) 2 (.slice (some ⟨D2,0,none⟩) m m)).offT frn (by decide) (by decide) (by decide) (by omega) 0 (.slice (some ⟨go,0,none⟩) lo lo)).offT (frn.set 0 (.slice (some ⟨go,0,none⟩) lo lo)) (by decide) (by decide) (by decide) (by omega) 1 (.slice (some ⟨gn,0,none⟩) ns ns)),(((((hw.setCell (p:=⟨s+1+1,0,none⟩) (by show w.heap.size≤s+1+1;omega) (.slice (some ⟨gB,0,none⟩) ns ns)).setCell (p:=⟨s+1+1,1,none⟩) (by show w.heap.size≤s+1+1;omega) (.slice (some ⟨D1,0,none⟩) m m)).setCell (p:=⟨s+1+1,2,none⟩) (by show w.heap.size≤s+1+1;omega) (.slice (some ⟨D2,0,none⟩) m m)).setCell (p:=⟨s+1+1+1,0,none⟩) (by show w.heap.size≤s+1+1+1;omega) (.slice (some ⟨go,0,none⟩) lo lo)).setCell (p:=⟨s+1+1+1,1,none⟩) (by show w.heap.size≤s+1+1+1;omega) (.slice (some ⟨gn,0,none⟩) ns ns)),((e1.other (a:=⟨s+1+1+1,0,none⟩) (by show s+1+1+1≠s+1+1;omega) (.slice (some ⟨go,0,none⟩) lo lo)).other (a:=⟨s+1+1+1,1,none⟩) (by show s+1+1+1≠s+1+1;omega) (.slice (some ⟨gn,0,none⟩) ns ns)),e2⟩
 have hs13:BelW W13 W13:=Below.refl _ _
 have HRB:Hid (∀W,BelW W13 W→W.cell? ⟨s+1+1,0,none⟩=some (.slice none 0 0)∧W.cell? ⟨s+1+1,1,none⟩=some (.slice none 0 0)∧W.cell? ⟨s+1+1,2,none⟩=some (.slice none 0 0)∧W.cell? ⟨s+1+1+1,0,none⟩=some (.slice none 0 0)∧W.cell? ⟨s+1+1+1,1,none⟩=some (.slice none 0 0)∧(W.frozen? ⟨s+1+1,0,none⟩=false∧W.frozen? ⟨s+1+1,1,none⟩=false∧W.frozen? ⟨s+1+1,2,none⟩=false)∧W.frozen? ⟨s+1+1+1,0,none⟩=false∧W.frozen? ⟨s+1+1+1,1,none⟩=false):=Lib.hid fun W h=>by
  have ft:=HFT.out.below (joinB hbw13 h)
  have frr:=HFR.out.below (joinB hbw13 h)
  exact⟨ft.cell 0,ft.cell 1,ft.cell 2,frr.cell 0,frr.cell 1,⟨ft.frozen 0,ft.frozen 1,ft.frozen 2⟩,frr.frozen 0,frr.frozen 1⟩
 have HK11:Hid (∀w',BelW W13 w'→BelW w w'∧w'.cell? ⟨u,0,none⟩=some (.slice (some ⟨go,0,none⟩) lo lo)∧w'.cell? ⟨u,1,none⟩=some (.slice (some ⟨gn,0,none⟩) ns ns)∧w'.cell? ⟨gm,0,none⟩=some (.slice A0 n c0)∧w'.cell? ⟨gm,1,none⟩=some (.slice A1 n1 c1)∧w'.cell? ⟨gm,2,none⟩=some (.slice A2 m c2)∧w'.cell? ⟨gm,3,none⟩=some (.slice A3 n3 c3)∧w'.cell? ⟨gm,4,none⟩=some (.slice As0 ns d0)∧w'.cell? ⟨gm,5,none⟩=some (.slice As1 m d1)∧w'.cell? ⟨gm,6,none⟩=some (.slice As2 p2 d2)∧w'.cell? ⟨gm,7,none⟩=some (.slice (some ⟨g,0,none⟩) n n)):=Lib.hid fun w' h=>by
  obtain⟨r0,r1,z0,z1,z2,z3,z4,z5,z6,z7⟩:=HMU.out w' h
  exact⟨HB13.out w' h,r0,r1,z0,z1,z2,z3,z4,z5,z6,z7⟩
 have HSZ:Hid (∀W L,BelW W13 W→W.heap.size≤L→W13.heap.size≤L):=Lib.hid fun W L h hl=>Nat.le_trans (Below.size h) hl
 clear hb1213 hfu hb13 hbw13 hfm13 hns1 hvn13
 go_region_held3 (fun w'=>BelW w w'∧w'.cell? ⟨u,0,none⟩=some (.slice (some ⟨go,0,none⟩) lo lo)∧w'.cell? ⟨u,1,none⟩=some (.slice (some ⟨gn,0,none⟩) ns ns)∧w'.cell? ⟨gm,0,none⟩=some (.slice A0 n c0)∧w'.cell? ⟨gm,1,none⟩=some (.slice A1 n1 c1)∧w'.cell? ⟨gm,2,none⟩=some (.slice A2 m c2)∧w'.cell? ⟨gm,3,none⟩=some (.slice A3 n3 c3)∧w'.cell? ⟨gm,4,none⟩=some (.slice As0 ns d0)∧w'.cell? ⟨gm,5,none⟩=some (.slice As1 m d1)∧w'.cell? ⟨gm,6,none⟩=some (.slice As2 p2 d2)∧w'.cell? ⟨gm,7,none⟩=some (.slice (some ⟨g,0,none⟩) n n))
  ((first|(with_reducible exact h14a)|(with_reducible exact h14b)|(refine HK11.out _ ?_;with_reducible repeat (first|assumption|refine BelW.drew ?_|refine BelW.alloc ?_ _))))
  ((go_at_call 40;(refine Calls.mono (HNXT.out _ (BelW.drew hs13)) ?_)
    rintro e w14 ⟨gB,D1,D2,rfl,hvB,⟨L,hL,hst⟩,hb14⟩
    have hk14:BelW W13 w14:=BelW.trans (BelW.drew hs13) hb14
    have hL13:=HSZ.out _ L (BelW.drew hs13) hL
    obtain⟨h14a,h14b⟩:=HS3.out w14 gB D1 D2 hk14
    obtain⟨t0,t1,t2,t3,t4,⟨t5,t6,t7⟩,t8,t9⟩:=HRB.out w14 hk14))
 obtain⟨f1,f2,f3,f4,f5,f6,f7,f8⟩:=HF5.out w14 gB D1 D2 L hk14 hvB hL13 hst
 (try simp only[Exit.inBlock,Exit.then])
 have hgo:(outV c nets).length=lo:=HLO.out.symm
 have HFN:=Lib.hid (And.intro f1 (And.intro f2 (And.intro f3 (And.intro f4 (And.intro f5 f6)))))
 clear h14a h14b t0 t1 t2 t3 t4 t5 t6 t7 t8 t9 f1 f2 f3 f4 f5 f6
 go_wp2
 (try simp only[Exit.inBlock,Exit.then])
 refine bodyPost_ret (results_row2_tmp2 rfl _ _ _ _ _ _ _ _ _ _ _ _ rfl f7 rfl f8 Tryz.underlying45 rfl (by kernel_rfl) Tryz.underlying49 rfl (by kernel_rfl)) rfl ?_
 refine⟨R,gB,D1,D2,go,gn,g,HR.out.1,?_⟩
 rw[←HNE.out,hgo]
 exact⟨rfl,HFN.out.1,HFN.out.2.1,HFN.out.2.2.1,HFN.out.2.2.2.1,⟨L,HFN.out.2.2.2.2.1⟩,HFN.out.2.2.2.2.2⟩
structure FitS(c:Ck)(ns m:Nat)(s:Stt):Prop where
 dl:s.dff.length=ns
 dv:∀j,j<ns→s.dff.getD j 0≤2
 wl:s.words.length=m
 wk:∀k,k<m→(s.words.getD k []).length=blN c.mems k∧∀i,i<blN c.mems k→((s.words.getD k []).getD i []).length=(c.mems.getD k default).data.length∧∀j,j<(c.mems.getD k default).data.length→((s.words.getD k []).getD i []).getD j 0≤2
 rl:s.read.length=m
 rk:∀k,k<m→(s.read.getD k []).length=(c.mems.getD k default).data.length∧∀j,j<(c.mems.getD k default).data.length→(s.read.getD k []).getD j 0≤2
theorem getD_range_map{α:Type}(f:Nat→α)(n k:Nat)(d:α)(h:k<n):((List.range n).map f).getD k d=f k:=by
 rw[List.getD_eq_getElem?_getD,List.getElem?_map,List.getElem?_range h]
 rfl
theorem fits_rel{c:Ck}{ns m:Nat}{s:Stt}(F:FitS c ns m s)(p:Int→Int→Bool)(hp:∀a b,a≤2→p a b=true):relS p s (blS c ns m)=true:=by
 have h1:relL p s.dff (blS c ns m).dff=true:=allEq_of 0 p _ _ (by rw[F.dl];simp[blS]) fun j hj=>hp _ _ (F.dv j (by rw[←F.dl];exact hj))
 have h2:relV p s.words (blS c ns m).words=true:=allEq_of [] (relW p) _ _ (by rw[F.wl];simp[blS]) fun k hk=>by
  rw[F.wl]at hk
  have e:(blS c ns m).words.getD k []=(List.range (blN c.mems k)).map (blW c.mems k):=getD_range_map _ _ _ _ hk
  rw[e]
  refine allEq_of [] (relL p) _ _ (by rw[(F.wk k hk).1];simp) fun i hi=>?_
  rw[(F.wk k hk).1]at hi
  rw[getD_range_map _ _ _ _ hi]
  obtain⟨g1,g2⟩:=(F.wk k hk).2 i hi
  exact allEq_of 0 p _ _ (by rw[g1];simp[blW]) fun j hj=>hp _ _ (g2 j (by rw[←g1];exact hj))
 have h3:relW p s.read (blS c ns m).read=true:=allEq_of [] (relL p) _ _ (by rw[F.rl];simp[blS]) fun k hk=>by
  rw[F.rl]at hk
  have e:(blS c ns m).read.getD k []=blR c.mems k:=getD_range_map _ _ _ _ hk
  rw[e]
  obtain⟨g1,g2⟩:=F.rk k hk
  exact allEq_of 0 p _ _ (by rw[g1];simp[blR]) fun j hj=>hp _ _ (g2 j (by rw[←g1];exact hj))
 unfold relS
 rw[h1,h2,h3]
 rfl
theorem ck_fits{c:Ck}{ni ns m:Nat}{s:Stt}{inp:List Int}(F:FitS c ns m s)(hl:inp.length=ni)(hv:∀j,j<inp.length→inp.getD j 0≤3):ckC c ni ns m s inp=0:=by
 have h1:=fits_rel F yesI (fun _ _ _=>rfl)
 have h2:=fits_rel F lowI (fun a b h=>by unfold lowI;simpa using h)
 have h3:anyP higV inp=false:=anyP_no fun j hj=>by
  have:=hv j hj
  unfold higV
  rw[decide_eq_false_iff_not]
  omega
 unfold ckC
 rw[if_neg (by rw[hl];simp),h1,h2,h3]
 rfl
theorem FitS.nx{c:Ck}{n ns m:Nat}{s:Stt}(F:FitS c ns m s)(hm:c.mems.length=m)(hp:∀k,k<m→(∀x∈(c.mems.getD k default).addr,0≤x∧x<(n:Int))∧(∀x∈(c.mems.getD k default).data,0≤x∧x<(n:Int))∧0≤(c.mems.getD k default).write∧(c.mems.getD k default).write<(n:Int)∧(c.mems.getD k default).addr.length≤9∧(c.mems.getD k default).data.length≤1000):NxOk c.mems s.words n:=by
 refine⟨by rw[F.wl,hm],fun k hk=>?_,fun k hk=>?_⟩
 ·obtain⟨a,b,c1,d,e,f⟩:=hp k (by rw[←hm];exact hk)
  exact⟨a,b,c1,d,by omega,f⟩
 ·rw[hm]at hk
  obtain⟨g1,g2⟩:=F.wk k hk
  obtain⟨-,-,-,-,e,f⟩:=hp k hk
  have h2:2^(c.mems.getD k default).addr.length≤2^9:=Nat.pow_le_pow_right (by decide) e
  have h3:0<2^(c.mems.getD k default).addr.length:=Nat.pow_pos (by decide)
  have e1:blN c.mems k=2^(c.mems.getD k default).addr.length:=rfl
  have e2:(2:Nat)^9=512:=by decide
  exact⟨by omega,by omega,fun i hi=>by rw[g1]at hi;rw[(g2 i hi).1];exact f⟩
def VStk(w:World)(base:Nat)(v:Value)(l:List Int):Prop:=w.ownsRow base 77 1 v l.length (l.map (Value.int .u8))
section
variable {w w':World} {base:Nat} {v:Value} {l:List Int}
theorem VStk.nil(w:World)(base:Nat):VStk w base (.slice none 0 0) []:=World.ownsRow_nil w base _ _
theorem VStk.kept{row:Option Nat}(h:VStk w base v l)(hg:w.grownBy w' row)(hne:∀q,row=some q→q<base):VStk w' base v l:=by
 refine World.ownsRow.kept h hg ?_
 rcases ho:v.ownBlock with _|q
 ·exact .inl rfl
 ·refine .inr fun e=>?_
  have h1:=(World.ownsRow.lt h q ho).1
  have h2:=hne q e.symm
  omega
theorem VStk.below(h:VStk w base v l)(hb:Below w.heap.size w w'):VStk w' base v l:=
 h.kept (row:=none) ⟨hb.os,hb.tape,hb.output,hb.size,fun i hi _=>hb.block i hi⟩ (by simp)
theorem VStk.form(h:VStk w base v l):∃A c,v=.slice A l.length c∧l.length≤c∧c≤maxLen∧(0<l.length→∃q,A=some ⟨q,0,none⟩∧base≤q∧q<w.heap.size):=by
 have hlt:=World.ownsRow.lt h
 rcases h.2 with⟨rfl,hn⟩| ⟨g,cap,cur,rfl,hb,hg,hle,hm,-⟩
 ·exact⟨none,0,by rw[hn],by omega,by simp,fun h=>by omega⟩
 ·exact⟨_,cap,rfl,hle,hm,fun _=>⟨g,rfl,hb,(hlt g rfl).2⟩⟩
theorem VStk.cell{q c:Nat}(h:VStk w base (.slice (some ⟨q,0,none⟩) l.length c) l){j:Nat}(hj:j<l.length):w.cell? ⟨q,j,none⟩=some (.int .u8 (l.getD j 0)):=by
 rw[World.ownsRow.cellAt h j (by omega),List.getElem?_map,List.getElem?_eq_getElem hj]
 simp[List.getD_eq_getElem?_getD,List.getElem?_eq_getElem hj]
theorem VStk.ks(h:VStk w base v l):Ks w w.heap.size v l:=by
 obtain⟨A,c,rfl,hle,hm,hq⟩:=h.form
 by_cases h0:0<l.length
 ·obtain⟨q,rfl,-,hlt⟩:=hq h0
  refine⟨_,q,0,c,rfl,fun _=>rfl,hle,Nat.le_trans hle hm,fun j hj=>⟨hlt,?_⟩⟩
  show World.cell? _ _=_
  rw[Nat.zero_add,Nat.mul_one]
  exact h.cell hj
 ·exact⟨A,0,0,c,rfl,fun h=>absurd h h0,hle,Nat.le_trans hle hm,fun j hj=>absurd hj (by omega)⟩
theorem vpush{wo w1:World}{g:Nat}{sv v':Value}{st:List Int}{x:Int}{o:Obj}(hg:g≤wo.heap.size)(hb:Below g w wo)(hstk:VStk wo g sv st)
 (hown:w1.ownsRow g 77 1 v' (st.length+1) (st.map (Value.int .u8)++[.int .u8 x])) (hgr:(wo.alloc o).grownBy w1 sv.ownBlock):Below g w w1∧VStk w1 g v' (st++[x]):=by
 have hq:∀q,sv.ownBlock=some q→g≤q:=fun q h=>(World.ownsRow.lt hstk q h).1
 refine⟨(hb.alloc hg o).grown hgr (by simp;omega) hq,?_⟩
 unfold VStk
 rw[List.length_append,List.map_append]
 exact hown
end
theorem VStk.setS{w:World}{base:Nat}{v:Value}{l:List Int}(h:VStk w base v l){a:Addr}(ha:a.block<base)(x:Value):VStk (w.setCell a x) base v l:=
 h.kept (row:=some a.block) ⟨rfl,rfl,rfl,by simp[World.setCell],fun i _ hne=>Below.heap_setCell _ _ _ _ (fun e=>hne (by rw[e]))⟩ (fun q e=>by injection e with e;omega)
theorem VStk.low{w:World}{base base':Nat}{v:Value}{l:List Int}(h:VStk w base v l)(hb:base'≤base):VStk w base' v l:=by
 refine⟨h.1,?_⟩
 rcases h.2 with h2| ⟨g,cap,cur,e,hb',h3⟩
 ·exact .inl h2
 ·exact .inr ⟨g,cap,cur,e,Nat.le_trans hb hb',h3⟩
theorem getD_inL{l:List Int}{i:Nat}(h:i<l.length):l.getD i 0∈l:=by
 rw[List.getD_eq_getElem?_getD,List.getElem?_eq_getElem h];exact List.getElem_mem h
structure MV(V3:World)(q4 ni ns cI cS:Nat)(AI AS:Option Addr)(lI lS:List Int)(wr:World):Prop where
 bel:BelW V3 wr
 box:Fr wr q4 73 [.slice AI ni cI,.slice AS ns cS]
 rI:VStk wr V3.heap.size (.slice AI ni cI) lI
 rS:VStk wr V3.heap.size (.slice AS ns cS) lS
 apart:∀a b,(Value.slice AI ni cI).ownBlock=some a→(Value.slice AS ns cS).ownBlock=some b→a≠b
 offI:∀a,(Value.slice AI ni cI).ownBlock=some a→a≠q4
 offS:∀a,(Value.slice AS ns cS).ownBlock=some a→a≠q4
 lenI:lI.length=ni
 lenS:lS.length=ns
section
variable {V3 wr w':World} {q4 ni ns cI cS:Nat} {AI AS:Option Addr} {lI lS:List Int}
end
theorem eqv_iff{α:Type}(d:α)(f:α→α→Bool):∀(l l':List α),(l.length==l'.length&&(l.zip l').all fun p=>f p.1 p.2)=true↔l.length=l'.length∧∀j,j<l.length→f (l.getD j d) (l'.getD j d)=true
 |[],[]=>by simp
 |[],_::_=>by simp
 |_::_,[]=>by simp
 |a::l,b::l'=>by
  have ih:=eqv_iff d f l l'
  rw[Bool.and_eq_true,beq_iff_eq]at ih
  rw[Bool.and_eq_true,beq_iff_eq,List.zip_cons_cons,List.all_cons,Bool.and_eq_true,List.length_cons,List.length_cons]
  constructor
  ·rintro⟨h1,h2,h3⟩
   have h4:=ih.1 ⟨by omega,h3⟩
   refine⟨h1,fun j hj=>?_⟩
   cases j with
   |zero=>exact h2
   |succ j=>exact h4.2 j (by omega)
  ·rintro⟨h1,h2⟩
   have h4:=ih.2 ⟨by omega,fun j hj=>h2 (j+1) (by omega)⟩
   exact⟨h1,h2 0 (by omega),h4.2⟩
structure LenS(c:Ck)(ns m:Nat)(s:Stt):Prop where
 d:s.dff.length=ns
 w:s.words.length=m
 r:s.read.length=m
 k:∀k,k<m→(s.words.getD k []).length=blN c.mems k∧(s.read.getD k []).length=(c.mems.getD k default).data.length∧∀i,i<blN c.mems k→((s.words.getD k []).getD i []).length=(c.mems.getD k default).data.length
theorem rel_iff(p:Int→Int→Bool)(p2:Int→Bool)(hp:∀a,p a 2=p2 a)(c:Ck)(ns m:Nat)(s:Stt):relS p s (blS c ns m)=true↔LenS c ns m s∧(∀j,j<ns→p2 (s.dff.getD j 0)=true)∧∀k,k<m→(∀j,j<(c.mems.getD k default).data.length→p2 ((s.read.getD k []).getD j 0)=true)∧∀i,i<blN c.mems k→∀j,j<(c.mems.getD k default).data.length→p2 (((s.words.getD k []).getD i []).getD j 0)=true:=by
 have hrep:∀n j:Nat,j<n→(List.replicate n (2:Int)).getD j 0=2:=fun n j h=>by simp[List.getD_eq_getElem?_getD,h]
 have hL:∀(l:List Int) (n:Nat),relL p l (List.replicate n 2)=true↔l.length=n∧∀j,j<n→p2 (l.getD j 0)=true:=fun l n=>by
  refine (eqv_iff 0 p l _).trans ?_
  rw[List.length_replicate]
  constructor
  ·rintro⟨h1,h2⟩
   exact⟨h1,fun j hj=>by have:=h2 j (by omega);rwa [hrep n j hj,hp]at this⟩
  ·rintro⟨h1,h2⟩
   exact⟨h1,fun j hj=>by rw[hrep n j (by omega),hp];exact h2 j (by omega)⟩
 have hd:relL p s.dff (blS c ns m).dff=true↔s.dff.length=ns∧∀j,j<ns→p2 (s.dff.getD j 0)=true:=hL _ _
 have hr:relW p s.read (blS c ns m).read=true↔s.read.length=m∧∀k,k<m→(s.read.getD k []).length=(c.mems.getD k default).data.length∧∀j,j<(c.mems.getD k default).data.length→p2 ((s.read.getD k []).getD j 0)=true:=by
  refine (eqv_iff [] (relL p) _ _).trans ?_
  have hl:(blS c ns m).read.length=m:=by simp[blS]
  rw[hl]
  have he:∀k,k<m→(blS c ns m).read.getD k []=List.replicate (c.mems.getD k default).data.length 2:=fun k hk=>getD_range_map _ _ _ _ hk
  constructor
  ·rintro⟨h1,h2⟩
   exact⟨h1,fun k hk=>by have:=h2 k (by omega);rw[he k hk]at this;exact (hL _ _).1 this⟩
  ·rintro⟨h1,h2⟩
   exact⟨h1,fun k hk=>by rw[he k (by omega)];exact (hL _ _).2 (h2 k (by omega))⟩
 have hw:relV p s.words (blS c ns m).words=true↔s.words.length=m∧∀k,k<m→(s.words.getD k []).length=blN c.mems k∧∀i,i<blN c.mems k→((s.words.getD k []).getD i []).length=(c.mems.getD k default).data.length∧∀j,j<(c.mems.getD k default).data.length→p2 (((s.words.getD k []).getD i []).getD j 0)=true:=by
  refine (eqv_iff [] (relW p) _ _).trans ?_
  have hl:(blS c ns m).words.length=m:=by simp[blS]
  rw[hl]
  have he:∀k,k<m→(blS c ns m).words.getD k []=(List.range (blN c.mems k)).map (blW c.mems k):=fun k hk=>getD_range_map _ _ _ _ hk
  have hk:∀k,k<m→(relW p (s.words.getD k []) ((blS c ns m).words.getD k [])=true↔(s.words.getD k []).length=blN c.mems k∧∀i,i<blN c.mems k→((s.words.getD k []).getD i []).length=(c.mems.getD k default).data.length∧∀j,j<(c.mems.getD k default).data.length→p2 (((s.words.getD k []).getD i []).getD j 0)=true):=fun k hk=>by
   rw[he k hk]
   refine (eqv_iff [] (relL p) _ _).trans ?_
   have hl2:((List.range (blN c.mems k)).map (blW c.mems k)).length=blN c.mems k:=by simp
   rw[hl2]
   have he2:∀i,i<blN c.mems k→((List.range (blN c.mems k)).map (blW c.mems k)).getD i []=List.replicate (c.mems.getD k default).data.length 2:=fun i hi=>getD_range_map _ _ _ _ hi
   constructor
   ·rintro⟨h1,h2⟩
    exact⟨h1,fun i hi=>by have:=h2 i (by omega);rw[he2 i hi]at this;exact (hL _ _).1 this⟩
   ·rintro⟨h1,h2⟩
    exact⟨h1,fun i hi=>by rw[he2 i (by omega)];exact (hL _ _).2 (h2 i (by omega))⟩
  constructor
  ·rintro⟨h1,h2⟩
   exact⟨h1,fun k hk'=>(hk k hk').1 (h2 k (by omega))⟩
  ·rintro⟨h1,h2⟩
   exact⟨h1,fun k hk'=>(hk k (by omega)).2 (h2 k (by omega))⟩
 unfold relS
 rw[Bool.and_eq_true,Bool.and_eq_true,hd,hw,hr]
 constructor
 ·rintro⟨⟨⟨a1,a2⟩,b1,b2⟩,c1,c2⟩
  exact⟨⟨a1,b1,c1,fun k hk=>⟨(b2 k hk).1,(c2 k hk).1,fun i hi=>((b2 k hk).2 i hi).1⟩⟩,a2,fun k hk=>⟨(c2 k hk).2,fun i hi=>((b2 k hk).2 i hi).2⟩⟩
 ·rintro⟨F,a2,h⟩
  exact⟨⟨⟨F.d,a2⟩,F.w,fun k hk=>⟨(F.k k hk).1,fun i hi=>⟨(F.k k hk).2.2 i hi,(h k hk).2 i hi⟩⟩⟩,F.r,fun k hk=>⟨(F.k k hk).2.1,(h k hk).1⟩⟩
theorem rel_yes{c:Ck}{ns m:Nat}{s:Stt} :relS yesI s (blS c ns m)=true↔LenS c ns m s:=
 (rel_iff yesI (fun _=>true) (fun _=>rfl) c ns m s).trans ⟨fun h=>h.1,fun h=>⟨h,fun _ _=>rfl,fun _ _=>⟨fun _ _=>rfl,fun _ _ _ _=>rfl⟩⟩⟩
def wrdL(s:Stt)(k i:Nat):List Int:=(List.range i).flatMap fun j=>(s.words.getD k []).getD j []
def memL(c:Ck)(s:Stt)(k:Nat):List Int:=s.read.getD k []++wrdL s k (blN c.mems k)
def memsL(c:Ck)(s:Stt)(k:Nat):List Int:=(List.range k).flatMap (memL c s)
def allL(c:Ck)(s:Stt)(m:Nat):List Int:=memsL c s m++s.dff
theorem wrdL_succ(s:Stt)(k i:Nat):wrdL s k (i+1)=wrdL s k i++(s.words.getD k []).getD i []:=by
 unfold wrdL;rw[List.range_succ,List.flatMap_append,List.flatMap_cons,List.flatMap_nil,List.append_nil]
theorem memsL_succ(c:Ck)(s:Stt)(k:Nat):memsL c s (k+1)=memsL c s k++memL c s k:=by
 unfold memsL;rw[List.range_succ,List.flatMap_append,List.flatMap_cons,List.flatMap_nil,List.append_nil]
theorem rel_low{c:Ck}{ns m:Nat}{s:Stt}(F:LenS c ns m s):relS lowI s (blS c ns m)=true↔∀x∈allL c s m,x≤2:=by
 refine (rel_iff lowI (fun a=>decide (a≤2)) (fun _=>rfl) c ns m s).trans ?_
 have hget:∀ {l:List Int} {x:Int},x∈l→∃j,j<l.length∧l.getD j 0=x:=fun {l x} h=>by
  obtain⟨j,hj,e⟩:=List.mem_iff_getElem.1 h
  exact⟨j,hj,by rw[List.getD_eq_getElem?_getD,List.getElem?_eq_getElem hj,e];rfl⟩
 constructor
 ·rintro⟨-,h1,h2⟩ x hx
  rcases List.mem_append.1 hx with hx|hx
  ·obtain⟨k,hk,hx⟩:=List.mem_flatMap.1 hx
   have hk:=List.mem_range.1 hk
   obtain⟨g1,g2,g3⟩:=F.k k hk
   rcases List.mem_append.1 hx with hx|hx
   ·obtain⟨j,hj,rfl⟩:=hget hx
    exact of_decide_eq_true ((h2 k hk).1 j (by omega))
   ·obtain⟨i,hi,hx⟩:=List.mem_flatMap.1 hx
    have hi:=List.mem_range.1 hi
    obtain⟨j,hj,rfl⟩:=hget hx
    exact of_decide_eq_true ((h2 k hk).2 i hi j (by have:=g3 i hi;omega))
  ·obtain⟨j,hj,rfl⟩:=hget hx
   exact of_decide_eq_true (h1 j (by have:=F.d;omega))
 ·intro h
  refine⟨F,fun j hj=>decide_eq_true (h _ (List.mem_append_right _ (getD_inL (by rw[F.d];exact hj)))),fun k hk=>?_⟩
  obtain⟨g1,g2,g3⟩:=F.k k hk
  have hm:∀x∈memL c s k,x≤2:=fun x hx=>h x (List.mem_append_left _ (List.mem_flatMap.2 ⟨k,List.mem_range.2 hk,hx⟩))
  exact⟨fun j hj=>decide_eq_true (hm _ (List.mem_append_left _ (getD_inL (by rw[g2];exact hj)))),fun i hi j hj=>decide_eq_true (hm _ (List.mem_append_right _ (List.mem_flatMap.2 ⟨i,List.mem_range.2 hi,getD_inL (by rw[g3 i hi];exact hj)⟩)))⟩
section
variable {c:Ck} {ni ns m:Nat} {s:Stt} {inp:List Int}
theorem ck_wide_in(h:inp.length≠ni):ckC c ni ns m s inp=8:=by
 unfold ckC;rw[if_pos (by simpa using fun e=>h (by exact_mod_cast e))]
theorem ck_wide(h:¬LenS c ns m s):ckC c ni ns m s inp=8:=by
 have h1:relS yesI s (blS c ns m)=false:=Bool.eq_false_iff.2 fun e=>h (rel_yes.1 e)
 unfold ckC
 rw[if_pos h1]
 split<;>rfl
theorem ck_rest(hi:inp.length=ni)(h:LenS c ns m s):ckC c ni ns m s inp=if anyP higV inp=true then 1 else if relS lowI s (blS c ns m)=false then 1 else 0:=by
 unfold ckC
 rw[if_neg (by rw[hi];simp),if_neg (by rw[rel_yes.2 h];decide)]
theorem ck_high_in(hi:inp.length=ni)(h:LenS c ns m s)(hx:∃k,k<inp.length∧3<inp.getD k 0):ckC c ni ns m s inp=1:=by
 obtain⟨k,hk,h3⟩:=hx
 rw[ck_rest hi h,if_pos (anyP_yes k hk (decide_eq_true h3))]
theorem ck_high(hi:inp.length=ni)(h:LenS c ns m s)(hx:∃k,k<(allL c s m).length∧2<(allL c s m).getD k 0):ckC c ni ns m s inp=1:=by
 obtain⟨k,hk,h3⟩:=hx
 rw[ck_rest hi h]
 split
 ·rfl
 ·rw[if_pos (Bool.eq_false_iff.2 fun e=>by have:=(rel_low h).1 e _ (getD_inL hk);omega)]
theorem ck_none(hi:inp.length=ni)(h:LenS c ns m s)(h1:∀k,k<(allL c s m).length→¬2<(allL c s m).getD k 0)(h2:∀k,k<inp.length→¬3<inp.getD k 0):ckC c ni ns m s inp=0:=by
 have h3:relS lowI s (blS c ns m)=true:=(rel_low h).2 fun x hx=>by
  obtain⟨j,hj,e⟩:=List.mem_iff_getElem.1 hx
  have:=h1 j hj
  rw[List.getD_eq_getElem?_getD,List.getElem?_eq_getElem hj,e]at this
  exact Int.not_lt.1 this
 rw[ck_rest hi h,anyP_no fun j hj=>decide_eq_false (h2 j hj),h3]
 rfl
theorem ck_zero(h:ckC c ni ns m s inp=0):inp.length=ni∧FitS c ns m s∧∀k,k<inp.length→¬3<inp.getD k 0:=by
 by_cases hi:inp.length=ni
 ·by_cases hl:LenS c ns m s
  ·rw[ck_rest hi hl]at h
   split at h
   ·cases h
   ·rename_i h1
    split at h
    ·cases h
    ·rename_i h2
     have h3:=(rel_iff lowI (fun a=>decide (a≤2)) (fun _=>rfl) c ns m s).1 (by simpa using h2)
     refine⟨hi,⟨hl.d,fun j hj=>of_decide_eq_true (h3.2.1 j hj),hl.w,fun k hk=>⟨(hl.k k hk).1,fun i hi=>⟨(hl.k k hk).2.2 i hi,fun j hj=>of_decide_eq_true ((h3.2.2 k hk).2 i hi j hj)⟩⟩,hl.r,fun k hk=>⟨(hl.k k hk).2.1,fun j hj=>of_decide_eq_true ((h3.2.2 k hk).1 j hj)⟩⟩,fun k hk h4=>h1 (anyP_yes k hk (decide_eq_true h4))⟩
  ·rw[ck_wide hl]at h;cases h
 ·rw[ck_wide_in hi]at h;cases h
theorem ck_blank:ckC c ni ns m (blS c ns m) (List.replicate ni 2)=0:=by
 refine ck_fits (F:=?_) (by simp) fun j hj=>by rw[List.length_replicate]at hj;simp[List.getD_eq_getElem?_getD,hj]
 have hrep:∀n j:Nat,j<n→(List.replicate n (2:Int)).getD j 0≤2:=fun n j h=>by simp[List.getD_eq_getElem?_getD,h]
 refine⟨by simp[blS],fun j hj=>hrep _ _ hj,by simp[blS],fun k hk=>?_,by simp[blS],fun k hk=>?_⟩
 ·have e:(blS c ns m).words.getD k []=(List.range (blN c.mems k)).map (blW c.mems k):=getD_range_map _ _ _ _ hk
  rw[e]
  refine⟨by simp,fun i hi=>?_⟩
  rw[getD_range_map _ _ _ _ hi]
  exact⟨by simp[blW],fun j hj=>hrep _ _ hj⟩
 ·have e:(blS c ns m).read.getD k []=blR c.mems k:=getD_range_map _ _ _ _ hk
  rw[e]
  exact⟨by simp[blR],fun j hj=>hrep _ _ hj⟩
end
end Go.Proofs.YtemjmfpcopfdbaaGreatDoor
