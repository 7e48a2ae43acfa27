/- The texts Ofs Ofv Hef Lcv Sna Cs St9 Cz9 Bz9 Cm9 Nt9 Knp Kn9. -/
import Derived.Test.YtemjmfpcopfdbaaGreatDoorM33
import Derived.Test.YtemjmfpcopfdbaaGreatDoorM34
import Derived.Laws.BytesArg
import Derived.Test.YtemjmfpcopfdbaaGreatDoorM10
import Derived.Test.YtemjmfpcopfdbaaGreatDoorM16
import Derived.Test.YtemjmfpcopfdbaaGreatDoorM11
import Derived.Deep.DeepCutAuto
import Derived.Deep.CutBlock
import Derived.Deep.RegionHeld3
import Derived.Test.YtemjmfpcopfdbaaGreatDoorM30
import Derived.Test.YtemjmfpcopfdbaaGreatDoorM31
import Derived.Test.YtemjmfpcopfdbaaGreatDoorM15
namespace Go.Proofs.YtemjmfpcopfdbaaGreatDoor
open Go.RowKit
def GAt(w:World)(_B b p:Nat)(g:Gx):Prop:=w.cell? ⟨b,p,none⟩=some (.int .u8 g.kind)∧w.cell? ⟨b,p+1,none⟩=some (.int .u8 g.i0)∧w.cell? ⟨b,p+2,none⟩=some (.int .u8 g.i1)∧w.cell? ⟨b,p+3,none⟩=some (.int .u8 g.i2)
def Gs(w:World)(B:Nat)(v:Value)(l:List Gx):Prop:=Arr default 4 GAt w B v l
def xCs(x:Cx)(sG sO:Value):List Value:=[.int .u8 x.inN,.int .u8 x.dffs,.int .u8 x.d0,.int .u8 x.d1,.bool x.bus,.bool x.mem,.int .u8 x.p0,.int .u8 x.p1,.int .u8 x.p2,.int .u8 x.p3,sG,sO]
def nil4:List Value:=[.slice none 0 0,.slice none 0 0,.slice none 0 0,.slice none 0 0]
structure OW(xs:List Value)(w:World)(q1 q2 q3 T:Nat)(sN sS sM sO:Value)(wr:World):Prop where
 bel:Below w.heap.size w wr
 low:T≤wr.heap.size
 e1:w.heap.size≤q1
 e2:q1<q2
 e3:q2<q3
 eT:q3<T
 fx:Fr wr q1 27 xs
 fr:Fr wr q2 39 nil4
 fc:Fr wr q3 39 [sN,sS,sM,sO]
section
variable {xs:List Value} {w wr w1 w2:World} {q1 q2 q3 T:Nat} {sN sS sM sO u:Value}
end
structure Gate(nodes:List Nd)(nd:Nd):Prop where
 lo:1≤nd.kind
 hi:nd.kind≤13
 wid:Proofs.YtemjmfpcopfdbaaGreatDoor.lo nd.kind≤nd.ins.length∧(nd.ins.length:Int)≤Proofs.YtemjmfpcopfdbaaGreatDoor.hi nd.kind
 ins:∀y∈nd.ins,∃i:Nat,y=(i:Int)∧i<nodes.length
 bus:nd.kind=13→∀y∈nd.ins,(nodes.getD y.toNat default).kind=12
 mem:nd.mem=0
 bit:nd.bit=0
def MG(w:World)(T:Nat)(s:Value)(l:List Mm):Prop:=∀w',Kp T none w w'→Ms w' w'.heap.size s l
theorem chk_shape{c:Ck}(h:chkErr c=0):shapeErr c=0:=by
 unfold chkErr at h
 by_cases e:shapeErr c=0
 ·exact e
 ·rw[if_pos e]at h;exact absurd h e
structure Vld(c:Ck)(L:List Int)(n:Nat):Prop where
 ok:chkErr c=0
 lvl:Lvl c.nodes L
 len:n=c.nodes.length
 few:n<20
section
variable {c:Ck} {L:List Int} {n:Nat}
variable {w w1 W:World} {q:Nat} {A0 A1 A2 A3:Option Addr} {n1 n2 n3 c0 c1 c2 c3:Nat}
end
def BRow(w:World)(g:Nat)(l:List Bool):Prop:=w.ownsRow g 4 1 (.slice (some ⟨g,0,none⟩) l.length l.length) l.length (l.map Value.bool)
section
variable {w w':World} {g:Nat} {l:List Bool}
end
structure Cst(c:Ck)(L:List Int)(n n1 n3 ni ns:Nat):Prop where
 vld:Vld c L n
 h1:c.names.length=n1
 h2:c.mems.length=0
 h3:c.outs.length=n3
 hi:(ofTo c.nodes [0] n).length=ni
 hs:(ofTo c.nodes [14] n).length=ns
 outs:c.outs.length≤17592186044416
section
variable {c:Ck} {L:List Int} {n n1 n3 ni ns:Nat}
end
structure Cs(c:Ck)(n n1 n3:Nat)(A0 A1 A2 A3:Option Addr)(c0 c1 c2 c3 q:Nat)(W:World):Prop where
 tabs:Lg.Tabs W
 cir:Cir W W.heap.size (.agg #[.slice A0 n c0,.slice A1 n1 c1,.slice A2 0 c2,.slice A3 n3 c3]) c
 box:Fr W q 39 [.slice A0 n c0,.slice A1 n1 c1,.slice A2 0 c2,.slice A3 n3 c3]
section
variable {c:Ck} {L:List Int} {n n1 n3 ni ns:Nat} {A0 A1 A2 A3:Option Addr} {c0 c1 c2 c3 q:Nat} {W W':World}
end
noncomputable def nxtS (c:Ck) (ns m:Nat) (s:Stt) (nets:List Int):Stt:=
 ⟨bitsL (nextV c nets) ns,(List.range m).map fun k=>(List.range (s.words.getD k []).length).map (nxW c.mems s.words nets k),(List.range m).map (nxR c.mems s.words nets)⟩
set_option maxRecDepth 100000 in
set_option maxHeartbeats 4000000 in
theorem mcycle_bad(z:Int)(hz:z≠0)(A0 A1 A2 A3 As0 As1 As2 Ai:Option Addr)(n0 n1 n2 n3 c0 c1 c2 c3 p0 p1 p2 d0 d1 d2 mi ci:Nat)(w:World)
 (h:(∀W,BelW w W→Calls Tryz.prog 33 #[.agg #[.slice A0 n0 c0,.slice A1 n1 c1,.slice A2 n2 c2,.slice A3 n3 c3]] W fun e w'=>(∃s,e=.returned (.tuple #[s,.int .i64 z]))∧BelW W w')∨
   ((∀W,BelW w W→Calls Tryz.prog 33 #[.agg #[.slice A0 n0 c0,.slice A1 n1 c1,.slice A2 n2 c2,.slice A3 n3 c3]] W fun e w'=>(∃s,e=.returned (.tuple #[s,.int .i64 0]))∧BelW W w')∧
    ∀W,BelW w W→Calls Tryz.prog 34 #[.agg #[.slice A0 n0 c0,.slice A1 n1 c1,.slice A2 n2 c2,.slice A3 n3 c3],.agg #[.slice As0 p0 d0,.slice As1 p1 d1,.slice As2 p2 d2],.slice Ai mi ci] W fun e w'=>e=.returned (.int .i64 z)∧BelW W w')):
 Calls Tryz.prog 9 #[.agg #[.slice A0 n0 c0,.slice A1 n1 c1,.slice A2 n2 c2,.slice A3 n3 c3],.agg #[.slice As0 p0 d0,.slice As1 p1 d1,.slice As2 p2 d2],.slice Ai mi ci] w fun e w'=>e=.returned (.tuple #[.agg #[.slice none 0 0,.slice none 0 0,.slice none 0 0],.agg #[.slice none 0 0,.slice none 0 0],.slice none 0 0,.int .i64 z])∧BelW w w':=by
 obtain⟨W1,HW1⟩:=named ((((w.alloc (.cells #[.slice A0 n0 c0,.slice A1 n1 c1,.slice A2 n2 c2,.slice A3 n3 c3] 39)).alloc (.cells #[.slice As0 p0 d0,.slice As1 p1 d1,.slice As2 p2 d2] 45)).alloc (.cells #[.slice none 0 0,.slice none 0 0,.slice none 0 0] 45)).alloc (.cells #[.slice none 0 0,.slice none 0 0] 49))
 have hb1:BelW w W1:=by rw[HW1.out];exact below_new (below_new (below_new (below_new (Below.refl _ _) _) _) _) _
 have hfc:Fr W1 w.heap.size 39 [.slice A0 n0 c0,.slice A1 n1 c1,.slice A2 n2 c2,.slice A3 n3 c3]:=by rw[HW1.out];exact Fr.alloc (Fr.alloc (Fr.alloc (Fr.made _ [.slice A0 n0 c0,.slice A1 n1 c1,.slice A2 n2 c2,.slice A3 n3 c3] _ rfl) _) _) _
 have hfs:Fr W1 (w.heap.size+1) 45 [.slice As0 p0 d0,.slice As1 p1 d1,.slice As2 p2 d2]:=by rw[HW1.out];exact Fr.alloc (Fr.alloc (Fr.made _ [.slice As0 p0 d0,.slice As1 p1 d1,.slice As2 p2 d2] _ (by simp)) _) _
 have hft:Fr W1 (w.heap.size+1+1) 45 [.slice none 0 0,.slice none 0 0,.slice none 0 0]:=by rw[HW1.out];exact Fr.alloc (Fr.made _ [.slice none 0 0,.slice none 0 0,.slice none 0 0] _ (by simp)) _
 have hfr:Fr W1 (w.heap.size+1+1+1) 49 [.slice none 0 0,.slice none 0 0]:=by rw[HW1.out];exact Fr.made _ [.slice none 0 0,.slice none 0 0] _ (by simp)
 obtain⟨s,HS⟩:=named w.heap.size
 have hsw:w.heap.size≤s:=by rw[HS.out];exact Nat.le_refl _
 rw[←HS.out]at hfc hfs hft hfr
 have HCE:Hid (∀W,BelW W1 W→W.cell? ⟨s,0,none⟩=some (.slice A0 n0 c0)∧W.cell? ⟨s,1,none⟩=some (.slice A1 n1 c1)∧W.cell? ⟨s,2,none⟩=some (.slice A2 n2 c2)∧W.cell? ⟨s,3,none⟩=some (.slice A3 n3 c3)∧W.cell? ⟨s+1,0,none⟩=some (.slice As0 p0 d0)∧W.cell? ⟨s+1,1,none⟩=some (.slice As1 p1 d1)∧W.cell? ⟨s+1,2,none⟩=some (.slice As2 p2 d2)∧W.cell? ⟨s+1+1,0,none⟩=some (.slice none 0 0)∧W.cell? ⟨s+1+1,1,none⟩=some (.slice none 0 0)∧W.cell? ⟨s+1+1,2,none⟩=some (.slice none 0 0)∧W.cell? ⟨s+1+1+1,0,none⟩=some (.slice none 0 0)∧W.cell? ⟨s+1+1+1,1,none⟩=some (.slice none 0 0)∧W.frozen? ⟨s+1+1,0,none⟩=false∧W.frozen? ⟨s+1+1,1,none⟩=false∧W.frozen? ⟨s+1+1,2,none⟩=false∧W.frozen? ⟨s+1+1+1,0,none⟩=false∧W.frozen? ⟨s+1+1+1,1,none⟩=false):=Lib.hid fun W h=>⟨(hfc.below h).cell 0,(hfc.below h).cell 1,(hfc.below h).cell 2,(hfc.below h).cell 3,(hfs.below h).cell 0,(hfs.below h).cell 1,(hfs.below h).cell 2,(hft.below h).cell 0,(hft.below h).cell 1,(hft.below h).cell 2,(hfr.below h).cell 0,(hfr.below h).cell 1,(hft.below h).frozen 0,(hft.below h).frozen 1,(hft.below h).frozen 2,(hfr.below h).frozen 0,(hfr.below h).frozen 1⟩
 have HEND:Hid (∀W,BelW W1 W→Fr (((((W.setCell ⟨s+1+1,0,none⟩ (.slice none 0 0)).setCell ⟨s+1+1,1,none⟩ (.slice none 0 0)).setCell ⟨s+1+1,2,none⟩ (.slice none 0 0)).setCell ⟨s+1+1+1,0,none⟩ (.slice none 0 0)).setCell ⟨s+1+1+1,1,none⟩ (.slice none 0 0)) (s+1+1) 45 [.slice none 0 0,.slice none 0 0,.slice none 0 0]∧Fr (((((W.setCell ⟨s+1+1,0,none⟩ (.slice none 0 0)).setCell ⟨s+1+1,1,none⟩ (.slice none 0 0)).setCell ⟨s+1+1,2,none⟩ (.slice none 0 0)).setCell ⟨s+1+1+1,0,none⟩ (.slice none 0 0)).setCell ⟨s+1+1+1,1,none⟩ (.slice none 0 0)) (s+1+1+1) 49 [.slice none 0 0,.slice none 0 0]∧BelW w (((((W.setCell ⟨s+1+1,0,none⟩ (.slice none 0 0)).setCell ⟨s+1+1,1,none⟩ (.slice none 0 0)).setCell ⟨s+1+1,2,none⟩ (.slice none 0 0)).setCell ⟨s+1+1+1,0,none⟩ (.slice none 0 0)).setCell ⟨s+1+1+1,1,none⟩ (.slice none 0 0))):=Lib.hid fun W h=>by
  have ft:=hft.below h
  have frr:=hfr.below h
  have hw:=joinB hb1 h
  exact⟨(((((ft.set 0 (.slice none 0 0)).set 1 (.slice none 0 0)).set 2 (.slice none 0 0)).other (a:=⟨s+1+1+1,0,none⟩) (by show s+1+1+1≠s+1+1;omega) (.slice none 0 0)).other (a:=⟨s+1+1+1,1,none⟩) (by show s+1+1+1≠s+1+1;omega) (.slice none 0 0)),(((((frr.other (a:=⟨s+1+1,0,none⟩) (by show s+1+1≠s+1+1+1;omega) (.slice none 0 0)).other (a:=⟨s+1+1,1,none⟩) (by show s+1+1≠s+1+1+1;omega) (.slice none 0 0)).other (a:=⟨s+1+1,2,none⟩) (by show s+1+1≠s+1+1+1;omega) (.slice none 0 0)).set 0 (.slice none 0 0)).set 1 (.slice none 0 0)),(((((hw.setCell (p:=⟨s+1+1,0,none⟩) (by show w.heap.size≤s+1+1;omega) (.slice none 0 0)).setCell (p:=⟨s+1+1,1,none⟩) (by show w.heap.size≤s+1+1;omega) (.slice none 0 0)).setCell (p:=⟨s+1+1,2,none⟩) (by show w.heap.size≤s+1+1;omega) (.slice none 0 0)).setCell (p:=⟨s+1+1+1,0,none⟩) (by show w.heap.size≤s+1+1+1;omega) (.slice none 0 0)).setCell (p:=⟨s+1+1+1,1,none⟩) (by show w.heap.size≤s+1+1+1;omega) (.slice none 0 0))⟩
 have hzz:(z != 0)=true:=by simpa using hz
 have hzf:(z==0)=false:=by simpa using hz
 obtain⟨x0,x1,x2,x3,y0,y1,y2,r0,r1,r2,r3,r4,f0,f1,f2,f3,f4⟩:=HCE.out W1 (Below.refl _ _)
 rcases h with h| ⟨h,h'⟩
 ·have HOR:=Lib.hid (h W1 hb1)
  clear h hfc hfs hft hfr hb1 hz hsw
  go_enter Tryz.func9,Tryz.ntmps9
  go_upto_region 1 with (fail)
  rw[←HW1.out,←HS.out]
  go_wp2_with (go_at_call 33;(with_reducible refine HOR.out.mono ?_);rintro e w2 ⟨⟨s2,rfl⟩,hb⟩;have HBX:=Lib.hid hb;clear x0 x1 x2 x3 y0 y1 y2 r0 r1 r2 r3 r4 f0 f1 f2 f3 f4;obtain⟨x0,x1,x2,x3,y0,y1,y2,r0,r1,r2,r3,r4,f0,f1,f2,f3,f4⟩:=HCE.out _ hb;clear hb)
  (try simp only[Exit.inBlock,Exit.then])
  obtain⟨e1,e2,e3⟩:=HEND.out _ HBX.out
  refine bodyPost_ret (results_row2_tmp2 rfl _ _ _ _ _ _ _ _ _ _ _ _ rfl e1 rfl e2 Tryz.underlying45 rfl (by kernel_rfl) Tryz.underlying49 rfl (by kernel_rfl)) rfl ?_
  exact⟨rfl,e3⟩
 ·have HOR:=Lib.hid (h W1 hb1)
  have HCP:Hid (∀W,BelW W1 W→Calls Tryz.prog 34 #[.agg #[.slice A0 n0 c0,.slice A1 n1 c1,.slice A2 n2 c2,.slice A3 n3 c3],.agg #[.slice As0 p0 d0,.slice As1 p1 d1,.slice As2 p2 d2],.slice Ai mi ci] W fun e w'=>e=.returned (.int .i64 z)∧BelW W w'):=Lib.hid fun W hb=>h' W (joinB hb1 hb)
  clear h h' hfc hfs hft hfr hb1 hz hsw
  go_enter Tryz.func9,Tryz.ntmps9
  go_upto_region 1 with (fail)
  rw[←HW1.out,←HS.out]
  go_wp2_with (first
   |(go_at_call 33;(with_reducible refine HOR.out.mono ?_);rintro e w2 ⟨⟨s2,rfl⟩,hb⟩;have HB2:=Lib.hid hb;clear x0 x1 x2 x3 y0 y1 y2 r0 r1 r2 r3 r4 f0 f1 f2 f3 f4;obtain⟨x0,x1,x2,x3,y0,y1,y2,r0,r1,r2,r3,r4,f0,f1,f2,f3,f4⟩:=HCE.out _ hb;clear hb)
   |(go_at_call 34;(with_reducible refine (HCP.out _ HB2.out).mono ?_);rintro e w3 ⟨rfl,hb⟩;have HBX:=Lib.hid (joinB HB2.out hb);clear x0 x1 x2 x3 y0 y1 y2 r0 r1 r2 r3 r4 f0 f1 f2 f3 f4 hb;obtain⟨x0,x1,x2,x3,y0,y1,y2,r0,r1,r2,r3,r4,f0,f1,f2,f3,f4⟩:=HCE.out _ HBX.out))
  (try simp only[Exit.inBlock,Exit.then])
  obtain⟨e1,e2,e3⟩:=HEND.out _ HBX.out
  refine bodyPost_ret (results_row2_tmp2 rfl _ _ _ _ _ _ _ _ _ _ _ _ rfl e1 rfl e2 Tryz.underlying45 rfl (by kernel_rfl) Tryz.underlying49 rfl (by kernel_rfl)) rfl ?_
  exact⟨rfl,e3⟩
set_option maxHeartbeats 2000000 in
theorem mcheck_any(z y:Int)(A0 A1 A2 A3 As0 As1 As2 Ai:Option Addr)(n0 n1 n2 n3 c0 c1 c2 c3 p0 p1 p2 d0 d1 d2 mi ci:Nat)(w:World)(h:∀W,BelW w W→Calls Tryz.prog 59 #[.agg #[.slice A0 n0 c0,.slice A1 n1 c1,.slice A2 n2 c2,.slice A3 n3 c3]] W fun e w'=>e=.returned (.int .i64 z)∧BelW W w') (h':z=0→∀W,BelW w W→Calls Tryz.prog 34 #[.agg #[.slice A0 n0 c0,.slice A1 n1 c1,.slice A2 n2 c2,.slice A3 n3 c3],.agg #[.slice As0 p0 d0,.slice As1 p1 d1,.slice As2 p2 d2],.slice Ai mi ci] W fun e w'=>e=.returned (.int .i64 y)∧BelW W w'):
 Calls Tryz.prog 19 #[.agg #[.slice A0 n0 c0,.slice A1 n1 c1,.slice A2 n2 c2,.slice A3 n3 c3],.agg #[.slice As0 p0 d0,.slice As1 p1 d1,.slice As2 p2 d2],.slice Ai mi ci] w fun e w'=>e=.returned (.int .i64 (if z=0 then y else z))∧BelW w w':=by
 obtain⟨W1,HW1⟩:=named ((w.alloc (.cells #[.slice A0 n0 c0,.slice A1 n1 c1,.slice A2 n2 c2,.slice A3 n3 c3] 39)).alloc (.cells #[.slice As0 p0 d0,.slice As1 p1 d1,.slice As2 p2 d2] 45))
 have hb1:BelW w W1:=by rw[HW1.out];exact below_new (below_new (Below.refl _ _) _) _
 have hfc:Fr W1 w.heap.size 39 [.slice A0 n0 c0,.slice A1 n1 c1,.slice A2 n2 c2,.slice A3 n3 c3]:=by rw[HW1.out];exact Fr.alloc (Fr.made _ [.slice A0 n0 c0,.slice A1 n1 c1,.slice A2 n2 c2,.slice A3 n3 c3] _ rfl) _
 have hfs:Fr W1 (w.heap.size+1) 45 [.slice As0 p0 d0,.slice As1 p1 d1,.slice As2 p2 d2]:=by rw[HW1.out];exact Fr.made _ [.slice As0 p0 d0,.slice As1 p1 d1,.slice As2 p2 d2] _ (by simp)
 obtain⟨s,HS⟩:=named w.heap.size
 rw[←HS.out]at hfc hfs
 have HCE:Hid (∀W,BelW W1 W→W.cell? ⟨s,0,none⟩=some (.slice A0 n0 c0)∧W.cell? ⟨s,1,none⟩=some (.slice A1 n1 c1)∧W.cell? ⟨s,2,none⟩=some (.slice A2 n2 c2)∧W.cell? ⟨s,3,none⟩=some (.slice A3 n3 c3)∧W.cell? ⟨s+1,0,none⟩=some (.slice As0 p0 d0)∧W.cell? ⟨s+1,1,none⟩=some (.slice As1 p1 d1)∧W.cell? ⟨s+1,2,none⟩=some (.slice As2 p2 d2)):=Lib.hid fun W h=>⟨(hfc.below h).cell 0,(hfc.below h).cell 1,(hfc.below h).cell 2,(hfc.below h).cell 3,(hfs.below h).cell 0,(hfs.below h).cell 1,(hfs.below h).cell 2⟩
 have HH:=Lib.hid (h W1 hb1)
 have HK:Hid (z=0→∀W,BelW W1 W→Calls Tryz.prog 34 #[.agg #[.slice A0 n0 c0,.slice A1 n1 c1,.slice A2 n2 c2,.slice A3 n3 c3],.agg #[.slice As0 p0 d0,.slice As1 p1 d1,.slice As2 p2 d2],.slice Ai mi ci] W fun e w'=>e=.returned (.int .i64 y)∧BelW W w'):=Lib.hid fun e W hb=>h' e W (joinB hb1 hb)
 have HB1:=Lib.hid hb1
 obtain⟨x0,x1,x2,x3,y0,y1,y2⟩:=HCE.out W1 (Below.refl _ _)
 clear h h' hfc hfs hb1
 by_cases hz:z=0
 ·have HK0:=Lib.hid (HK.out hz)
  subst hz
  go_enter Tryz.func19,Tryz.ntmps19
  go_upto_region 1 with (fail)
  rw[←HW1.out,←HS.out]
  go_wp2_with (first
   |(go_at_call 59;(with_reducible refine HH.out.mono ?_);rintro e w2 ⟨rfl,hb⟩;have HB2:=Lib.hid hb;clear x0 x1 x2 x3 y0 y1 y2;obtain⟨x0,x1,x2,x3,y0,y1,y2⟩:=HCE.out _ hb;clear hb)
   |(go_at_call 34;(with_reducible refine (HK0.out _ HB2.out).mono ?_);rintro e w3 ⟨rfl,hb⟩;have HB3:=Lib.hid (joinB HB2.out hb);clear hb))
  go_ret
  exact⟨rfl,joinB HB1.out HB3.out⟩
 ·have hzz:(z != 0)=true:=by simpa using hz
  rw[if_neg hz]
  clear hz
  go_enter Tryz.func19,Tryz.ntmps19
  go_upto_region 1 with (fail)
  rw[←HW1.out,←HS.out]
  go_wp2_with (go_at_call 59;(with_reducible refine HH.out.mono ?_);rintro e w2 ⟨rfl,hb⟩;have HB2:=Lib.hid hb;clear hb)
  go_ret
  exact⟨rfl,joinB HB1.out HB2.out⟩
section
variable (A0 A1 A2 A3:Option Addr) (n0 n1 n2 n3 c0 c1 c2 c3:Nat) (w:World)
set_option maxHeartbeats 2000000 in
theorem mBlank_bad(z:Int)(hz:z≠0)(h:∀W,BelW w W→Calls Tryz.prog 59 #[.agg #[.slice A0 n0 c0,.slice A1 n1 c1,.slice A2 n2 c2,.slice A3 n3 c3]] W fun e w'=>e=.returned (.int .i64 z)∧BelW W w'):
 Calls Tryz.prog 20 #[.agg #[.slice A0 n0 c0,.slice A1 n1 c1,.slice A2 n2 c2,.slice A3 n3 c3]] w fun e w'=>e=.returned (.agg #[.slice none 0 0,.slice none 0 0,.slice none 0 0])∧BelW w w':=by
 obtain⟨W1,HW1⟩:=named ((w.alloc (.cells #[.slice A0 n0 c0,.slice A1 n1 c1,.slice A2 n2 c2,.slice A3 n3 c3] 39)).alloc (.cells #[.slice none 0 0,.slice none 0 0,.slice none 0 0] 45))
 have hb1:BelW w W1:=by rw[HW1.out];exact below_new (below_new (Below.refl _ _) _) _
 have hfc:Fr W1 w.heap.size 39 [.slice A0 n0 c0,.slice A1 n1 c1,.slice A2 n2 c2,.slice A3 n3 c3]:=by rw[HW1.out];exact Fr.alloc (Fr.made _ [.slice A0 n0 c0,.slice A1 n1 c1,.slice A2 n2 c2,.slice A3 n3 c3] _ rfl) _
 have hft:Fr W1 (w.heap.size+1) 45 [.slice none 0 0,.slice none 0 0,.slice none 0 0]:=by rw[HW1.out];exact Fr.made _ [.slice none 0 0,.slice none 0 0,.slice none 0 0] _ (by simp)
 obtain⟨s,HS⟩:=named w.heap.size
 have hsw:w.heap.size≤s:=by rw[HS.out];exact Nat.le_refl _
 rw[←HS.out]at hfc hft
 have HCE:Hid (∀W,BelW W1 W→W.cell? ⟨s,0,none⟩=some (.slice A0 n0 c0)∧W.cell? ⟨s,1,none⟩=some (.slice A1 n1 c1)∧W.cell? ⟨s,2,none⟩=some (.slice A2 n2 c2)∧W.cell? ⟨s,3,none⟩=some (.slice A3 n3 c3)∧W.cell? ⟨s+1,0,none⟩=some (.slice none 0 0)∧W.cell? ⟨s+1,1,none⟩=some (.slice none 0 0)∧W.cell? ⟨s+1,2,none⟩=some (.slice none 0 0)∧W.frozen? ⟨s+1,0,none⟩=false∧W.frozen? ⟨s+1,1,none⟩=false∧W.frozen? ⟨s+1,2,none⟩=false):=Lib.hid fun W h=>⟨(hfc.below h).cell 0,(hfc.below h).cell 1,(hfc.below h).cell 2,(hfc.below h).cell 3,(hft.below h).cell 0,(hft.below h).cell 1,(hft.below h).cell 2,(hft.below h).frozen 0,(hft.below h).frozen 1,(hft.below h).frozen 2⟩
 have HEND:Hid (∀W,BelW W1 W→Fr (((W.setCell ⟨s+1,0,none⟩ (.slice none 0 0)).setCell ⟨s+1,1,none⟩ (.slice none 0 0)).setCell ⟨s+1,2,none⟩ (.slice none 0 0)) (s+1) 45 [.slice none 0 0,.slice none 0 0,.slice none 0 0]∧BelW w (((W.setCell ⟨s+1,0,none⟩ (.slice none 0 0)).setCell ⟨s+1,1,none⟩ (.slice none 0 0)).setCell ⟨s+1,2,none⟩ (.slice none 0 0))):=Lib.hid fun W h=>by
  have ft:=hft.below h
  have hw:=joinB hb1 h
  exact⟨(((ft.set 0 (.slice none 0 0)).set 1 (.slice none 0 0)).set 2 (.slice none 0 0)),(((hw.setCell (p:=⟨s+1,0,none⟩) (by show w.heap.size≤s+1;omega) (.slice none 0 0)).setCell (p:=⟨s+1,1,none⟩) (by show w.heap.size≤s+1;omega) (.slice none 0 0)).setCell (p:=⟨s+1,2,none⟩) (by show w.heap.size≤s+1;omega) (.slice none 0 0))⟩
 have hzz:(z != 0)=true:=by simpa using hz
 have HH:=Lib.hid (h W1 hb1)
 obtain⟨x0,x1,x2,x3,r0,r1,r2,f0,f1,f2⟩:=HCE.out W1 (Below.refl _ _)
 clear h hfc hft hb1 hz hsw
 go_enter Tryz.func20,Tryz.ntmps20
 go_upto_region 1 with (fail)
 rw[←HW1.out,←HS.out]
 go_wp2_with (go_at_call 59;(with_reducible refine HH.out.mono ?_);rintro e w2 ⟨rfl,hb⟩;have HBX:=Lib.hid hb;clear x0 x1 x2 x3 r0 r1 r2 f0 f1 f2;obtain⟨x0,x1,x2,x3,r0,r1,r2,f0,f1,f2⟩:=HCE.out _ hb;clear hb)
 (try simp only[Exit.inBlock,Exit.then])
 refine bodyPost_ret (results_cell_row rfl _ _ _ _ _ _ _ rfl (HEND.out _ HBX.out).1 Tryz.underlying45 rfl (by kernel_rfl)) rfl ?_
 exact⟨rfl,(HEND.out _ HBX.out).2⟩
set_option maxHeartbeats 2000000 in
theorem mBlank_ok(ns m:Nat)(lo:List Int)(nw:Nat→Nat)(fw:Nat→Nat→List Int)(fr:Nat→List Int)(h:∀W,BelW w W→Calls Tryz.prog 59 #[.agg #[.slice A0 n0 c0,.slice A1 n1 c1,.slice A2 n2 c2,.slice A3 n3 c3]] W fun e w'=>e=.returned (.int .i64 0)∧BelW W w')
 (h':∀W,BelW w W→Calls Tryz.prog 60 #[.agg #[.slice A0 n0 c0,.slice A1 n1 c1,.slice A2 n2 c2,.slice A3 n3 c3]] W fun e w'=>∃gB D1 D2,e=.returned (.agg #[.slice (some ⟨gB,0,none⟩) ns ns,.slice (some ⟨D1,0,none⟩) m m,.slice (some ⟨D2,0,none⟩) m m])∧VRow w' gB lo∧(∃L,W.heap.size≤L∧OSt w' D1 D2 L m nw fw fr m m)∧BelW W w'):
 Calls Tryz.prog 20 #[.agg #[.slice A0 n0 c0,.slice A1 n1 c1,.slice A2 n2 c2,.slice A3 n3 c3]] w fun e w'=>∃gB D1 D2,e=.returned (.agg #[.slice (some ⟨gB,0,none⟩) ns ns,.slice (some ⟨D1,0,none⟩) m m,.slice (some ⟨D2,0,none⟩) m m])∧VRow w' gB lo∧(∃L,w.heap.size≤L∧OSt w' D1 D2 L m nw fw fr m m)∧BelW w w':=by
 obtain⟨W1,HW1⟩:=named ((w.alloc (.cells #[.slice A0 n0 c0,.slice A1 n1 c1,.slice A2 n2 c2,.slice A3 n3 c3] 39)).alloc (.cells #[.slice none 0 0,.slice none 0 0,.slice none 0 0] 45))
 have hb1:BelW w W1:=by rw[HW1.out];exact below_new (below_new (Below.refl _ _) _) _
 have hfc:Fr W1 w.heap.size 39 [.slice A0 n0 c0,.slice A1 n1 c1,.slice A2 n2 c2,.slice A3 n3 c3]:=by rw[HW1.out];exact Fr.alloc (Fr.made _ [.slice A0 n0 c0,.slice A1 n1 c1,.slice A2 n2 c2,.slice A3 n3 c3] _ rfl) _
 have hft:Fr W1 (w.heap.size+1) 45 [.slice none 0 0,.slice none 0 0,.slice none 0 0]:=by rw[HW1.out];exact Fr.made _ [.slice none 0 0,.slice none 0 0,.slice none 0 0] _ (by simp)
 obtain⟨s,HS⟩:=named w.heap.size
 have hsw:w.heap.size≤s:=by rw[HS.out];exact Nat.le_refl _
 rw[←HS.out]at hfc hft
 have hlt:s+1<W1.heap.size:=hft.lt
 have HCE:Hid (∀W,BelW W1 W→W.cell? ⟨s,0,none⟩=some (.slice A0 n0 c0)∧W.cell? ⟨s,1,none⟩=some (.slice A1 n1 c1)∧W.cell? ⟨s,2,none⟩=some (.slice A2 n2 c2)∧W.cell? ⟨s,3,none⟩=some (.slice A3 n3 c3)∧W.cell? ⟨s+1,0,none⟩=some (.slice none 0 0)∧W.cell? ⟨s+1,1,none⟩=some (.slice none 0 0)∧W.cell? ⟨s+1,2,none⟩=some (.slice none 0 0)∧W.frozen? ⟨s+1,0,none⟩=false∧W.frozen? ⟨s+1,1,none⟩=false∧W.frozen? ⟨s+1,2,none⟩=false):=Lib.hid fun W h=>⟨(hfc.below h).cell 0,(hfc.below h).cell 1,(hfc.below h).cell 2,(hfc.below h).cell 3,(hft.below h).cell 0,(hft.below h).cell 1,(hft.below h).cell 2,(hft.below h).frozen 0,(hft.below h).frozen 1,(hft.below h).frozen 2⟩
 have HEND:Hid (∀W gB D1 D2 L,BelW W1 W→VRow W gB lo→W1.heap.size≤L→OSt W D1 D2 L m nw fw fr m m→Fr (((W.setCell ⟨s+1,0,none⟩ (.slice (some ⟨gB,0,none⟩) ns ns)).setCell ⟨s+1,1,none⟩ (.slice (some ⟨D1,0,none⟩) m m)).setCell ⟨s+1,2,none⟩ (.slice (some ⟨D2,0,none⟩) m m)) (s+1) 45 [.slice (some ⟨gB,0,none⟩) ns ns,.slice (some ⟨D1,0,none⟩) m m,.slice (some ⟨D2,0,none⟩) m m]∧VRow (((W.setCell ⟨s+1,0,none⟩ (.slice (some ⟨gB,0,none⟩) ns ns)).setCell ⟨s+1,1,none⟩ (.slice (some ⟨D1,0,none⟩) m m)).setCell ⟨s+1,2,none⟩ (.slice (some ⟨D2,0,none⟩) m m)) gB lo∧(∃L,w.heap.size≤L∧OSt (((W.setCell ⟨s+1,0,none⟩ (.slice (some ⟨gB,0,none⟩) ns ns)).setCell ⟨s+1,1,none⟩ (.slice (some ⟨D1,0,none⟩) m m)).setCell ⟨s+1,2,none⟩ (.slice (some ⟨D2,0,none⟩) m m)) D1 D2 L m nw fw fr m m)∧BelW w (((W.setCell ⟨s+1,0,none⟩ (.slice (some ⟨gB,0,none⟩) ns ns)).setCell ⟨s+1,1,none⟩ (.slice (some ⟨D1,0,none⟩) m m)).setCell ⟨s+1,2,none⟩ (.slice (some ⟨D2,0,none⟩) m m))):=Lib.hid fun W gB D1 D2 L h hv hL hst=>by
  have ft:=hft.below h
  have hw:=joinB hb1 h
  exact⟨(((ft.set 0 (.slice (some ⟨gB,0,none⟩) ns ns)).set 1 (.slice (some ⟨D1,0,none⟩) m m)).set 2 (.slice (some ⟨D2,0,none⟩) m m)),(((hv.other (a:=⟨s+1,0,none⟩) (ft.apart9 hv.fr (by decide)) (.slice (some ⟨gB,0,none⟩) ns ns)).other (a:=⟨s+1,1,none⟩) (ft.apart9 hv.fr (by decide)) (.slice (some ⟨D1,0,none⟩) m m)).other (a:=⟨s+1,2,none⟩) (ft.apart9 hv.fr (by decide)) (.slice (some ⟨D2,0,none⟩) m m)),⟨L,by omega,(((hst.off ft (by omega) 0 (.slice (some ⟨gB,0,none⟩) ns ns)).off (ft.set 0 (.slice (some ⟨gB,0,none⟩) ns ns)) (by omega) 1 (.slice (some ⟨D1,0,none⟩) m m)).off ((ft.set 0 (.slice (some ⟨gB,0,none⟩) ns ns)).set 1 (.slice (some ⟨D1,0,none⟩) m m)) (by omega) 2 (.slice (some ⟨D2,0,none⟩) m m))⟩,(((hw.setCell (p:=⟨s+1,0,none⟩) (by show w.heap.size≤s+1;omega) (.slice (some ⟨gB,0,none⟩) ns ns)).setCell (p:=⟨s+1,1,none⟩) (by show w.heap.size≤s+1;omega) (.slice (some ⟨D1,0,none⟩) m m)).setCell (p:=⟨s+1,2,none⟩) (by show w.heap.size≤s+1;omega) (.slice (some ⟨D2,0,none⟩) m m))⟩
 have HH:=Lib.hid (h W1 hb1)
 have HK:Hid (∀W,BelW W1 W→Calls Tryz.prog 60 #[.agg #[.slice A0 n0 c0,.slice A1 n1 c1,.slice A2 n2 c2,.slice A3 n3 c3]] W fun e w'=>∃gB D1 D2,e=.returned (.agg #[.slice (some ⟨gB,0,none⟩) ns ns,.slice (some ⟨D1,0,none⟩) m m,.slice (some ⟨D2,0,none⟩) m m])∧VRow w' gB lo∧(∃L,W.heap.size≤L∧OSt w' D1 D2 L m nw fw fr m m)∧BelW W w'):=Lib.hid fun W hb=>h' W (joinB hb1 hb)
 obtain⟨x0,x1,x2,x3,r0,r1,r2,f0,f1,f2⟩:=HCE.out W1 (Below.refl _ _)
 clear h h' hfc hft hb1 hsw hlt
 go_enter Tryz.func20,Tryz.ntmps20
 go_upto_region 1 with (fail)
 rw[←HW1.out,←HS.out]
 go_wp2_with (first
  |(go_at_call 59;(with_reducible refine HH.out.mono ?_);rintro e w2 ⟨rfl,hb⟩;have HB2:=Lib.hid hb;clear x0 x1 x2 x3 r0 r1 r2 f0 f1 f2;obtain⟨x0,x1,x2,x3,r0,r1,r2,f0,f1,f2⟩:=HCE.out _ hb;clear hb)
  |(go_at_call 60;(with_reducible refine (HK.out _ HB2.out).mono ?_);rintro e w3 ⟨gB,D1,D2,rfl,hv3,⟨L,hL3,hst3⟩,hb3⟩;have HE:=Lib.hid (HEND.out w3 gB D1 D2 L (joinB HB2.out hb3) hv3 (Nat.le_trans (Below.size HB2.out) hL3) hst3);clear x0 x1 x2 x3 r0 r1 r2 f0 f1 f2;obtain⟨x0,x1,x2,x3,r0,r1,r2,f0,f1,f2⟩:=HCE.out _ (joinB HB2.out hb3);clear hv3 hL3 hst3 hb3))
 (try simp only[Exit.inBlock,Exit.then])
 refine bodyPost_ret (results_cell_row rfl _ _ _ _ _ _ _ rfl HE.out.1 Tryz.underlying45 rfl (by kernel_rfl)) rfl ?_
 exact⟨gB,D1,D2,rfl,HE.out.2.1,HE.out.2.2.1,HE.out.2.2.2⟩
end
structure Cmt(c:Ck)(L:List Int)(n n1 m n3 ni ns:Nat):Prop where
 vld:Vld c L n
 h1:c.names.length=n1
 h2:c.mems.length=m
 h3:c.outs.length=n3
 hi:(ofTo c.nodes [0] n).length=ni
 hs:(ofTo c.nodes [14] n).length=ns
 m1:m≤1
 port:∀k,k<m→(c.mems.getD k default).addr.length=1∧(c.mems.getD k default).data.length=2
 outs:c.outs.length≤17592186044416
theorem getD_mem_mm{l:List Mm}{i:Nat}(h:i<l.length):l.getD i default∈l:=by
 rw[List.getD_eq_getElem?_getD,List.getElem?_eq_getElem h];exact List.getElem_mem h
theorem memErr_zero{c:Ck}{x:Mm}(h:memErr c x=0):(0≤x.write∧x.write<(c.nodes.length:Int))∧(∀y∈x.addr,0≤y∧y<(c.nodes.length:Int))∧(∀y∈x.data,0≤y∧y<(c.nodes.length:Int)):=by
 unfold memErr at h
 split at h
 ·cases h
 split at h
 ·cases h
 ·rename_i h1 h2
  refine⟨isIdx_iff.1 ?_,areIdx_iff.1 ?_,areIdx_iff.1 ?_⟩
  ·refine (Bool.not_eq_false _).mp fun e=>h2 (.inl e)
  ·refine (Bool.not_eq_false _).mp fun e=>h2 (.inr (.inl e))
  ·refine (Bool.not_eq_false _).mp fun e=>h2 (.inr (.inr e))
section
variable {c:Ck} {L:List Int} {n n1 m n3 ni ns:Nat}
end
structure Cm(c:Ck)(n n1 m n3:Nat)(A0 A1 A2 A3:Option Addr)(c0 c1 c2 c3 q:Nat)(W:World):Prop where
 tabs:Lg.Tabs W
 cir:Cir W W.heap.size (.agg #[.slice A0 n c0,.slice A1 n1 c1,.slice A2 m c2,.slice A3 n3 c3]) c
 box:Fr W q 39 [.slice A0 n c0,.slice A1 n1 c1,.slice A2 m c2,.slice A3 n3 c3]
section
variable {c:Ck} {L:List Int} {n n1 m n3 ni ns:Nat} {A0 A1 A2 A3:Option Addr} {c0 c1 c2 c3 q:Nat} {W W':World}
theorem osts_reads{w:World}{gB D1 D2 LL:Nat}{ns m:Nat}{lo:List Int}{nw:Nat→Nat}{fw:Nat→Nat→List Int}{fr:Nat→List Int}(hB:VRow w gB lo)(hl:lo.length=ns)(h:OSt w D1 D2 LL m nw fw fr m m)(hm:m≤maxLen)(hn:∀j,j<m→nw j≤maxLen):
 StR w w.heap.size (some ⟨gB,0,none⟩) (some ⟨D1,0,none⟩) (some ⟨D2,0,none⟩) ns m m ns m m ⟨lo,(List.range m).map fun j=>(List.range (nw j)).map (fw j),(List.range m).map fr⟩:=by
 obtain⟨r1,r2⟩:=h.reads hm hn
 have r0:=hB.ks
 rw[hl]at r0
 exact⟨r0,r1,r2⟩
end
def baseM(nodes:List Nd)(rds:List (List Int))(base:List Int):List Int:=(List.range nodes.length).map fun i=>if (nodes.getD i default).kind=15 then memV nodes rds (i:Nat) else lat base i
structure StM(nodes:List Nd)(rds:List (List Int))(base P out:List Int):Prop where
 len:out.length=nodes.length
 off:∀i:Nat,i<nodes.length→cmb (nodes.getD i default).kind=false→(nodes.getD i default).kind≠15→lat out i=lat base i
 mem:∀y∈P,(nodes.getD y.toNat default).kind=15→lat out y=memV nodes rds y
 on:∀y∈P,cmb (nodes.getD y.toNat default).kind=true→lat out y=gateV nodes out y
def k01(v:Int):Prop:=v=0∨v=1
instance (v:Int):Decidable (k01 v):=inferInstanceAs (Decidable (v=0∨v=1))
section
variable {V V' wr:World} {q ni ns cI cS:Nat} {AI AS:Option Addr} {lI lS:List Int}
end
structure KnS(s:Stt):Prop where
 d:∀y∈s.dff,k01 y
 w:∀ws∈s.words,∀l∈ws,∀y∈l,k01 y
 r:∀l∈s.read,∀y∈l,k01 y
end Go.Proofs.YtemjmfpcopfdbaaGreatDoor
