/- The texts Lsc Nms. -/
import Derived.Test.YtjdjcaobkmpoeaaDoorM19
import Derived.Test.YtjdjcaobkmpoeaaDoorM02
import Derived.Test.YtjdjcaobkmpoeaaDoorM01
namespace Go.Proofs.YtjdjcaobkmpoeaaDoor
open Go.RowKit
structure LC(c:Ck)(w:World)(q:Nat)(A0 A1 A2 A3:Option Addr)(n0 n1 n2 n3 c0 c1 c2 c3:Nat)(wr:World):Prop where
 bel:Below w.heap.size w wr
 low:w.heap.size≤q
 tabs:Tabs wr
 cir:Cir wr q (.agg #[.slice A0 n0 c0,.slice A1 n1 c1,.slice A2 n2 c2,.slice A3 n3 c3]) c
 box:Fr wr q 27 [.slice A0 n0 c0,.slice A1 n1 c1,.slice A2 n2 c2,.slice A3 n3 c3]
section
variable {c:Ck} {w w1 W:World} {q:Nat} {A0 A1 A2 A3:Option Addr} {n0 n1 n2 n3 c0 c1 c2 c3:Nat}
theorem LC.next(h:LC c w q A0 A1 A2 A3 n0 n1 n2 n3 c0 c1 c2 c3 w1)(hb:Below w1.heap.size w1 W):LC c w q A0 A1 A2 A3 n0 n1 n2 n3 c0 c1 c2 c3 W:=
 ⟨joinB h.bel hb,h.low,h.tabs.below hb,h.cir.below (hb.mono (Nat.le_of_lt h.box.lt)),h.box.below hb⟩
theorem LC.cells(h:LC c w q A0 A1 A2 A3 n0 n1 n2 n3 c0 c1 c2 c3 w1):w1.cell? ⟨q,0,none⟩=some (.slice A0 n0 c0)∧w1.cell? ⟨q,1,none⟩=some (.slice A1 n1 c1)∧w1.cell? ⟨q,2,none⟩=some (.slice A2 n2 c2)∧w1.cell? ⟨q,3,none⟩=some (.slice A3 n3 c3):=
 ⟨h.box.cell 0,h.box.cell 1,h.box.cell 2,h.box.cell 3⟩
theorem LC.all(h:LC c w q A0 A1 A2 A3 n0 n1 n2 n3 c0 c1 c2 c3 w1):Cir w1 w1.heap.size (.agg #[.slice A0 n0 c0,.slice A1 n1 c1,.slice A2 n2 c2,.slice A3 n3 c3]) c:=h.cir.more (Nat.le_of_lt h.box.lt)
theorem LC.start(hT:Tabs w)(hc:Cir w w.heap.size (.agg #[.slice A0 n0 c0,.slice A1 n1 c1,.slice A2 n2 c2,.slice A3 n3 c3]) c):
 LC c w w.heap.size A0 A1 A2 A3 n0 n1 n2 n3 c0 c1 c2 c3 (w.alloc (.cells #[.slice A0 n0 c0,.slice A1 n1 c1,.slice A2 n2 c2,.slice A3 n3 c3] 27)):=
 ⟨below_new (Below.refl _ _) _,Nat.le_refl _,hT.below (below_new (Below.refl _ _) _),hc.below (below_new (Below.refl _ _) _),heap_alloc_new _ _⟩
end
def First(l:List ByteArray)(s:ByteArray)(r:Int):Prop:=
 (r= -1∧∀j:Nat,j<l.length→(s.toList==(l.getD j ByteArray.empty).toList)=false)∨∃k:Nat,k<l.length∧r=(k:Int)∧(s.toList==(l.getD k ByteArray.empty).toList)=true∧∀j:Nat,j<k→(s.toList==(l.getD j ByteArray.empty).toList)=false
theorem First.uniq{l:List ByteArray}{s:ByteArray}{r r':Int}(h:First l s r)(h':First l s r'):r=r':=by
 rcases h with⟨rfl,h1⟩| ⟨k,hk,rfl,h1,h2⟩ <;>rcases h' with⟨rfl,h1'⟩| ⟨k',hk',rfl,h1',h2'⟩
 ·rfl
 ·rw[h1 k' hk']at h1';cases h1'
 ·rw[h1' k hk]at h1;cases h1
 ·rcases Nat.lt_trichotomy k k' with h|h|h
  ·rw[h2' k h]at h1;cases h1
  ·rw[h]
  ·rw[h2 k' h]at h1';cases h1'
theorem refComb_any(k:Int)(w:World):Calls Tryd.prog 49 #[.int .u8 k] w fun e w'=>e=.returned (.bool (cmb k))∧w=w':=by
 obtain⟨y,HY⟩:=named (cmb k)
 rw[←HY.out]
 by_cases h1:1≤k
 all_goals
  go_enter Tryd.func49,Tryd.ntmps49
  go_wp2
  go_ret
  exact⟨ret_bool (by rw[HY.out];first|(simp[cmb,h1];done)|(simp[cmb,h1];omega)),rfl⟩
theorem nmb_cases(z:Int):(nmb z=false∧(decide (z≤32)=true∨(decide (z≤32)=false∧decide (126<z)=true)∨(decide (z≤32)=false∧decide (126<z)=false∧(z==40)=true)∨(decide (z≤32)=false∧decide (126<z)=false∧(z==40)=false∧(z==41)=true)∨
 (decide (z≤32)=false∧decide (126<z)=false∧(z==40)=false∧(z==41)=false∧(z==61)=true)∨(decide (z≤32)=false∧decide (126<z)=false∧(z==40)=false∧(z==41)=false∧(z==61)=false∧(z==44)=true)∨
 (decide (z≤32)=false∧decide (126<z)=false∧(z==40)=false∧(z==41)=false∧(z==61)=false∧(z==44)=false∧(z==35)=true)))∨
 (nmb z=true∧decide (z≤32)=false∧decide (126<z)=false∧(z==40)=false∧(z==41)=false∧(z==61)=false∧(z==44)=false∧(z==35)=false):=by
 by_cases h1:z≤32
 ·refine .inl ⟨?_,.inl (by simp[h1])⟩
  simp[nmb];omega
 ·by_cases h2:126<z
  ·refine .inl ⟨?_,.inr (.inl ⟨by simp[h1],by simp[h2]⟩)⟩
   simp[nmb];omega
  ·by_cases h3:z=40
   ·subst h3;simp[nmb]
   ·by_cases h4:z=41
    ·subst h4;simp[nmb]
    ·by_cases h5:z=61
     ·subst h5;simp[nmb]
     ·by_cases h6:z=44
      ·subst h6;simp[nmb]
      ·by_cases h7:z=35
       ·subst h7;simp[nmb]
       ·refine .inr ⟨?_,by simp[h1],by simp[h2],by simp[h3],by simp[h4],by simp[h5],by simp[h6],by simp[h7]⟩
        simp[nmb,h3,h4,h5,h6,h7];omega
def From(l:List ByteArray)(s:ByteArray)(k:Nat)(r:Int):Prop:=
 (r= -1∧∀j:Nat,k≤j→j<l.length→(s.toList==(l.getD j ByteArray.empty).toList)=false)∨∃m:Nat,k≤m∧m<l.length∧r=(m:Int)∧(s.toList==(l.getD m ByteArray.empty).toList)=true∧∀j:Nat,k≤j→j<m→(s.toList==(l.getD j ByteArray.empty).toList)=false
theorem From.first{l:List ByteArray}{s:ByteArray}{r:Int}(h:From l s 0 r):First l s r:=by
 rcases h with⟨h1,h2⟩| ⟨m,_,h1,h2,h3,h4⟩
 ·exact .inl ⟨h1,fun j hj=>h2 j (Nat.zero_le _) hj⟩
 ·exact .inr ⟨m,h1,h2,h3,fun j hj=>h4 j (Nat.zero_le _) hj⟩
theorem From.no{l:List ByteArray}{s:ByteArray}{r:Int}{k:Nat}(h:From l s (k+1) r)(hk:(s.toList==(l.getD k ByteArray.empty).toList)=false):From l s k r:=by
 rcases h with⟨h1,h2⟩| ⟨m,h0,h1,h2,h3,h4⟩
 ·refine .inl ⟨h1,fun j hj hl=>?_⟩
  by_cases e:j=k
  ·rw[e];exact hk
  ·exact h2 j (by omega) hl
 ·refine .inr ⟨m,by omega,h1,h2,h3,fun j hj hm=>?_⟩
  by_cases e:j=k
  ·rw[e];exact hk
  ·exact h4 j (by omega) hm
end Go.Proofs.YtjdjcaobkmpoeaaDoor
