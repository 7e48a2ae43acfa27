/- The texts Srt Sor Exp Liv Nms. -/
import Derived.Test.YtemjmfpcopfdbaaGreatDoorM10
import Derived.BigRegion
import Derived.LoopN
import Derived.Test.YtemjmfpcopfdbaaGreatDoorM07
import Derived.Test.YtemjmfpcopfdbaaGreatDoorM08
import Derived.Test.YtemjmfpcopfdbaaGreatDoorM01
namespace Go.Proofs.YtemjmfpcopfdbaaGreatDoor
open Go.RowKit
def cmpI(x y:Int):Int:=if x<y then-1 else if y<x then 1 else 0
set_option maxHeartbeats 400000 in
theorem nan_any(x:Int)(w:World):Calls Tryz.prog 124 #[.int .i64 x] w fun e w'=>e=.returned (.bool false)∧w=w':=by
 go_enter Tryz.func124,Tryz.ntmps124
 go_wp2
 go_ret
 exact⟨ret_bool (by simp),rfl⟩
set_option maxHeartbeats 400000 in
theorem compare_any(x y:Int)(w:World):Calls Tryz.prog 79 #[.int .i64 x,.int .i64 y] w fun e w'=>e=.returned (.int .i64 (cmpI x y))∧w=w':=by
 obtain⟨z,HZ⟩:=named (cmpI x y)
 rw[←HZ.out]
 by_cases h:x<y
 ·have hv:z= -1:=by rw[HZ.out,cmpI,if_pos h]
  have HV:=Lib.hid hv
  clear hv
  go_enter Tryz.func79,Tryz.ntmps79
  go_wp2_with (go_at_call 124;(with_reducible refine (nan_any _ _).mono ?_);rintro e w' ⟨rfl,rfl⟩)
  go_ret
  exact⟨ret_int (by rw[HV.out]),rfl⟩
 ·by_cases h':y<x
  ·have hv:z=1:=by rw[HZ.out,cmpI,if_neg h,if_pos h']
   have HV:=Lib.hid hv
   clear hv
   go_enter Tryz.func79,Tryz.ntmps79
   go_wp2_with (go_at_call 124;(with_reducible refine (nan_any _ _).mono ?_);rintro e w' ⟨rfl,rfl⟩)
   go_ret
   exact⟨ret_int (by rw[HV.out]),rfl⟩
  ·have hv:z=0:=by rw[HZ.out,cmpI,if_neg h,if_neg h']
   have HV:=Lib.hid hv
   clear hv
   go_enter Tryz.func79,Tryz.ntmps79
   go_wp2_with (go_at_call 124;(with_reducible refine (nan_any _ _).mono ?_);rintro e w' ⟨rfl,rfl⟩)
   go_ret
   exact⟨ret_int (by rw[HV.out]),rfl⟩
set_option maxHeartbeats 1000000 in
theorem order1_any(L:List Int)(a b:Nat)(ha:a<L.length)(hb:b<L.length)(hL:L.length≤1000000)(g q:Nat)(w:World)(hr:Row w g L)(hq:w.cell? ⟨q,0,none⟩=some (.slice (some ⟨g,0,none⟩) L.length L.length)):
 Calls Tryz.prog 78 #[.int .i64 a,.int .i64 b,.pointer (some ⟨q,0,none⟩)] w fun e w'=>e=.returned (.int .i64 (cmpI (lat L a) (lat L b)))∧∃n,w'=w.drewN n:=by
 have h1:=hr.cell ha
 have h2:=hr.cell hb
 obtain⟨x,HX⟩:=named (lat L a)
 obtain⟨y,HY⟩:=named (lat L b)
 rw[←HX.out]at h1 ⊢
 rw[←HY.out]at h2 ⊢
 obtain⟨n,HN⟩:=named L.length
 rw[←HN.out]at hq ha hb hL
 obtain⟨z,HZ⟩:=named (cmpI x y)
 have hC:=fun w=>compare_any x y w
 rw[←HZ.out]at hC
 rw[←HZ.out]
 have HC:=Lib.hid hC
 have ha':(a:Int)<(n:Int):=by omega
 have hb':(b:Int)<(n:Int):=by omega
 clear hC hr
 go_enter Tryz.func78,Tryz.ntmps78
 go_wp2
 go_quiet ((go_at_call 79;exact Calls.quiet_of_same ((HC.out _).mono fun _ _ h=>⟨h.1,h.2.symm⟩)))
 go_wp2
 go_ret
 exact⟨rfl,_,rfl⟩
def Lex(L:List Int)(x y:Int):Prop:=lat L x<lat L y∨(lat L x=lat L y∧x<y)
def rng(i n:Nat):List Int:=(List.range (n-i)).map fun k=>((i+k:Nat):Int)
theorem rng_len(i n:Nat):(rng i n).length=n-i:=by simp[rng]
def SortTo(L:List Int)(n i:Nat)(R:List Int):Prop:=
 ∃S,R=S++rng i n∧S.length=i∧i≤n∧S.Pairwise (Lex L)∧∀x∈S,0≤x∧x<(i:Int)
def Mid(L:List Int)(n i j:Nat)(R:List Int):Prop:=
 ∃P S,R=P++(i:Int)::(S++rng (i+1) n)∧P.length=j∧P.length+S.length=i∧i<n∧(P++S).Pairwise (Lex L)∧(∀x∈P++S,0≤x∧x<(i:Int))∧∀x∈S,Lex L i x
theorem Row.otherS{w:World}{g:Nat}{l:List Int}(h:Row w g l){a:Addr}(ha:a.block≠g)(v:Value):Row (w.setCell a v) g l:=
 h.kept (row:=some a.block) ⟨rfl,rfl,rfl,by simp[World.setCell],fun i _ hne=>Below.heap_setCell _ _ _ _ (fun e=>hne (by rw[e]))⟩ (fun e=>ha (by injection e with e;exact e.symm))
structure SW(w:World)(B d g q n:Nat)(L R:List Int)(wr:World):Prop where
 bel:Below B w wr
 size:wr.heap.size=w.heap.size
 row:Row wr d R
 lev:Row wr g L
 cell:wr.cell? ⟨q,0,none⟩=some (.slice (some ⟨g,0,none⟩) n n)
theorem SW.drewN{w:World}{B d g q n:Nat}{L R:List Int}{wr:World}(h:SW w B d g q n L R wr)(k:Nat):SW w B d g q n L R (wr.drewN k):=⟨below_drewN h.bel k,h.size,h.row,h.lev,h.cell⟩
theorem SW.drew{w:World}{B d g q n:Nat}{L R:List Int}{wr:World}(h:SW w B d g q n L R wr):SW w B d g q n L R wr.drew:=⟨h.bel.drew,h.size,h.row,h.lev,h.cell⟩
theorem SW.set{w:World}{B d g q n:Nat}{L R:List Int}{wr:World}(h:SW w B d g q n L R wr)(hd:B≤d)(hg:d≠g)(hq:d≠q)(j:Nat)(x:Int):SW w B d g q n L (R.set j x) (wr.setCell ⟨d,j,none⟩ (.int .i64 x)):=
 ⟨h.bel.setCell hd _,by rw[World.size_setCell];exact h.size,h.row.set j x,h.lev.otherS hg _,by rw[World.cell?_setCell_other _ _ _ _ (by simp[hq])];exact h.cell⟩
def SortPost(L:List Int)(w:World)(B d g q n:Nat)(e:Ending)(w':World):Prop:=e=.returned (.tuple #[])∧∃R,SortTo L n n R∧SW w B d g q n L R w'
theorem fillL_rng(z:Value)(n:Nat):fillL (fun j=>.int .i64 (j:Int)) z n n=(rng 0 n).map (Value.int .i64):=by
 apply List.ext_getElem?
 intro j
 by_cases hj:j<n
 ·rw[fillL_get _ _ _ _ _ hj,if_pos hj];simp[rng,hj]
 ·rw[List.getElem?_eq_none (by simp[fillL_len];omega),List.getElem?_eq_none (by simp[rng];omega)]
def OrdPost(c:Ck)(w:World)(e:Ending)(w':World):Prop:=
 Below w.heap.size w w'∧((chkErr c=0∧shapeErr c=0∧∃L R d,Lvl c.nodes L∧(∀i:Nat,i<c.nodes.length→lat L i<(c.nodes.length:Int))∧SortTo L c.nodes.length c.nodes.length R∧w.heap.size≤d∧e=.returned (.tuple #[.slice (some ⟨d,0,none⟩) c.nodes.length c.nodes.length,.int .i64 0])∧Row w' d R)
  ∨(chkErr c≠0∧e=.returned (.tuple #[.slice none 0 0,.int .i64 (chkErr c)])))
def exN(k2:Int)(i2:List Int):List Nd:=[⟨0,[],0,0⟩,⟨14,[3],0,0⟩,⟨k2,i2,0,0⟩,⟨5,[1,2],0,0⟩]
def exS(b:UInt8):List ByteArray:=[⟨#[97]⟩,⟨#[113]⟩,⟨#[b]⟩,⟨#[103]⟩]
def Ex:Ck:=⟨exN 4 [0],exS 110,[],[3]⟩
structure LW(w:World)(q:Nat)(A0 A1 A2 A3:Option Addr)(c0 c1 c2 c3:Nat)(wr:World):Prop where
 bel:Below w.heap.size w wr
 low:w.heap.size≤q
 tabs:Tabs wr
 cir:Cir wr q (.agg #[.slice A0 4 c0,.slice A1 4 c1,.slice A2 0 c2,.slice A3 1 c3]) Ex
 box:Fr wr q 39 [.slice A0 4 c0,.slice A1 4 c1,.slice A2 0 c2,.slice A3 1 c3]
section
variable {w w1 W:World} {q:Nat} {A0 A1 A2 A3:Option Addr} {c0 c1 c2 c3:Nat}
end
def First(l:List ByteArray)(s:ByteArray)(r:Int):Prop:=
 (r= -1∧∀j:Nat,j<l.length→(s.toList==(l.getD j ByteArray.empty).toList)=false)∨∃k:Nat,k<l.length∧r=(k:Int)∧(s.toList==(l.getD k ByteArray.empty).toList)=true∧∀j:Nat,j<k→(s.toList==(l.getD j ByteArray.empty).toList)=false
theorem refComb_any(k:Int)(w:World):Calls Tryz.prog 88 #[.int .u8 k] w fun e w'=>e=.returned (.bool (cmb k))∧w=w':=by
 obtain⟨y,HY⟩:=named (cmb k)
 rw[←HY.out]
 by_cases h1:1≤k
 all_goals
  go_enter Tryz.func88,Tryz.ntmps88
  go_wp2
  go_ret
  exact⟨ret_bool (by rw[HY.out];first|(simp[cmb,h1];done)|(simp[cmb,h1];omega)),rfl⟩
theorem nmb_cases(z:Int):(nmb z=false∧(decide (z≤32)=true∨(decide (z≤32)=false∧decide (126<z)=true)∨(decide (z≤32)=false∧decide (126<z)=false∧(z==40)=true)∨(decide (z≤32)=false∧decide (126<z)=false∧(z==40)=false∧(z==41)=true)∨
 (decide (z≤32)=false∧decide (126<z)=false∧(z==40)=false∧(z==41)=false∧(z==61)=true)∨(decide (z≤32)=false∧decide (126<z)=false∧(z==40)=false∧(z==41)=false∧(z==61)=false∧(z==44)=true)∨
 (decide (z≤32)=false∧decide (126<z)=false∧(z==40)=false∧(z==41)=false∧(z==61)=false∧(z==44)=false∧(z==35)=true)))∨
 (nmb z=true∧decide (z≤32)=false∧decide (126<z)=false∧(z==40)=false∧(z==41)=false∧(z==61)=false∧(z==44)=false∧(z==35)=false):=by
 by_cases h1:z≤32
 ·refine .inl ⟨?_,.inl (by simp[h1])⟩
  simp[nmb];omega
 ·by_cases h2:126<z
  ·refine .inl ⟨?_,.inr (.inl ⟨by simp[h1],by simp[h2]⟩)⟩
   simp[nmb];omega
  ·by_cases h3:z=40
   ·subst h3;simp[nmb]
   ·by_cases h4:z=41
    ·subst h4;simp[nmb]
    ·by_cases h5:z=61
     ·subst h5;simp[nmb]
     ·by_cases h6:z=44
      ·subst h6;simp[nmb]
      ·by_cases h7:z=35
       ·subst h7;simp[nmb]
       ·refine .inr ⟨?_,by simp[h1],by simp[h2],by simp[h3],by simp[h4],by simp[h5],by simp[h6],by simp[h7]⟩
        simp[nmb,h3,h4,h5,h6,h7];omega
def From(l:List ByteArray)(s:ByteArray)(k:Nat)(r:Int):Prop:=
 (r= -1∧∀j:Nat,k≤j→j<l.length→(s.toList==(l.getD j ByteArray.empty).toList)=false)∨∃m:Nat,k≤m∧m<l.length∧r=(m:Int)∧(s.toList==(l.getD m ByteArray.empty).toList)=true∧∀j:Nat,k≤j→j<m→(s.toList==(l.getD j ByteArray.empty).toList)=false
end Go.Proofs.YtemjmfpcopfdbaaGreatDoor
