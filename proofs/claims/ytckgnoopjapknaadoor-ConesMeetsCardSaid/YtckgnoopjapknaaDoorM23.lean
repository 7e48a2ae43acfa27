/- The texts Nms. -/
import Derived.Test.YtckgnoopjapknaaDoorM22
namespace Go.Proofs.YtckgnoopjapknaaDoor
open Go.RowKit
def First(l:List ByteArray)(s:ByteArray)(r:Int):Prop:=
 (r= -1∧∀j:Nat,j<l.length→(s.toList==(l.getD j ByteArray.empty).toList)=false)∨∃k:Nat,k<l.length∧r=(k:Int)∧(s.toList==(l.getD k ByteArray.empty).toList)=true∧∀j:Nat,j<k→(s.toList==(l.getD j ByteArray.empty).toList)=false
theorem First.uniq{l:List ByteArray}{s:ByteArray}{r r':Int}(h:First l s r)(h':First l s r'):r=r':=by
 rcases h with⟨rfl,h1⟩| ⟨k,hk,rfl,h1,h2⟩ <;>rcases h' with⟨rfl,h1'⟩| ⟨k',hk',rfl,h1',h2'⟩
 ·rfl
 ·rw[h1 k' hk']at h1';cases h1'
 ·rw[h1' k hk]at h1;cases h1
 ·rcases Nat.lt_trichotomy k k' with h|h|h
  ·rw[h2' k h]at h1;cases h1
  ·rw[h]
  ·rw[h2 k' h]at h1';cases h1'
theorem refComb_any(k:Int)(w:World):Calls Tryd.prog 63 #[.int .u8 k] w fun e w'=>e=.returned (.bool (cmb k))∧w=w':=by
 obtain⟨y,HY⟩:=named (cmb k)
 rw[←HY.out]
 by_cases h1:1≤k
 all_goals
  go_enter Tryd.func63,Tryd.ntmps63
  go_wp2
  go_ret
  exact⟨ret_bool (by rw[HY.out];first|(simp[cmb,h1];done)|(simp[cmb,h1];omega)),rfl⟩
def From(l:List ByteArray)(s:ByteArray)(k:Nat)(r:Int):Prop:=
 (r= -1∧∀j:Nat,k≤j→j<l.length→(s.toList==(l.getD j ByteArray.empty).toList)=false)∨∃m:Nat,k≤m∧m<l.length∧r=(m:Int)∧(s.toList==(l.getD m ByteArray.empty).toList)=true∧∀j:Nat,k≤j→j<m→(s.toList==(l.getD j ByteArray.empty).toList)=false
theorem From.first{l:List ByteArray}{s:ByteArray}{r:Int}(h:From l s 0 r):First l s r:=by
 rcases h with⟨h1,h2⟩| ⟨m,_,h1,h2,h3,h4⟩
 ·exact .inl ⟨h1,fun j hj=>h2 j (Nat.zero_le _) hj⟩
 ·exact .inr ⟨m,h1,h2,h3,fun j hj=>h4 j (Nat.zero_le _) hj⟩
theorem From.no{l:List ByteArray}{s:ByteArray}{r:Int}{k:Nat}(h:From l s (k+1) r)(hk:(s.toList==(l.getD k ByteArray.empty).toList)=false):From l s k r:=by
 rcases h with⟨h1,h2⟩| ⟨m,h0,h1,h2,h3,h4⟩
 ·refine .inl ⟨h1,fun j hj hl=>?_⟩
  by_cases e:j=k
  ·rw[e];exact hk
  ·exact h2 j (by omega) hl
 ·refine .inr ⟨m,by omega,h1,h2,h3,fun j hj hm=>?_⟩
  by_cases e:j=k
  ·rw[e];exact hk
  ·exact h4 j (by omega) hm
end Go.Proofs.YtckgnoopjapknaaDoor
