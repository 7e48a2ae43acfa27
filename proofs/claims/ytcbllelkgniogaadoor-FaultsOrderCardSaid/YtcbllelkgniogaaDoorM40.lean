/- The texts Gt2. -/
import Derived.Test.YtcbllelkgniogaaDoorM26
import Derived.Test.YtcbllelkgniogaaDoorM15
namespace Go.Proofs.YtcbllelkgniogaaDoor
open Go.RowKit
def g2N:List Nd:=[⟨0,[],0,0⟩,⟨0,[],0,0⟩,⟨5,[0,1],0,0⟩]
def g2S:List ByteArray:=[⟨#[97]⟩,⟨#[98]⟩,⟨#[121]⟩]
def G2:Ck:=⟨g2N,g2S,[],[2]⟩
theorem g2_lvl:Lvl g2N [0,0,1]:=by
 refine⟨rfl,fun i hi=>?_⟩
 have:i=0∨i=1∨i=2:=by simp[g2N]at hi;omega
 rcases this with rfl|rfl|rfl<;>decide
theorem g2_shape:shapeErr G2=0:=by decide
theorem g2_ok:chkErr G2=0:=by
 unfold chkErr
 rw[if_neg (by rw[g2_shape];simp),if_pos ⟨_,g2_lvl⟩]
theorem five12(w W:World)(o0 o1 o2 o3 o4:Obj)(h:W=((((w.alloc o0).alloc o1).alloc o2).alloc o3).alloc o4):
 W.heap.size=w.heap.size+5∧W.heap[w.heap.size]? =some o0∧W.heap[w.heap.size+1]? =some o1∧W.heap[w.heap.size+1+1]? =some o2∧W.heap[w.heap.size+1+1+1]? =some o3∧W.heap[w.heap.size+1+1+1+1]? =some o4∧Below w.heap.size w W:=by
 subst h
 refine⟨by simp,?_,?_,?_,?_,?_,?_⟩
 any_goals (simp only[World.alloc,Array.getElem?_push,Array.size_push,if_true]<;>(repeat' split)<;>first|rfl|omega)
 exact below_new (below_new (below_new (below_new (below_new (Below.refl _ _) _) _) _) _) _
set_option maxHeartbeats 4000000 in
theorem gate12_any(w:World):Calls Tryd.prog 20 #[] w fun e w'=>(∃A0 A1 A3 c0 c1 c3,e=.returned (.agg #[.slice A0 3 c0,.slice A1 3 c1,.slice none 0 0,.slice A3 1 c3])∧Cir w' w'.heap.size (.agg #[.slice A0 3 c0,.slice A1 3 c1,.slice none 0 0,.slice A3 1 c3]) G2)∧Below w.heap.size w w':=by
 go_enter Tryd.func20,Tryd.ntmps20
 go_wp2
 generalize hW:World.alloc _ _=W
 obtain⟨hz,h0,h1,h2,h3,h4,hb⟩:=five12 w W _ _ _ _ _ hW.symm
 clear hW
 (try simp only[Exit.inBlock,Exit.then])
 refine bodyPost_ret (results_cell_row rfl _ _ _ _ _ _ _ rfl h0 Tryd.underlying39 rfl (by kernel_rfl)) rfl ?_
 refine⟨⟨_,_,_,_,_,_,rfl,_,_,_,_,rfl,?_,?_,Arr.nil _ _ _ _ _,?_⟩,hb⟩
 ·refine⟨_,w.heap.size+1+1,0,3,rfl,fun _=>rfl,Nat.le_refl _,by simp[G2,g2N,maxLen],fun k hk=>⟨by omega,?_⟩⟩
  have hk6:k=0∨k=1∨k=2:=by simp[G2,g2N]at hk;omega
  unfold NdAt
  simp only[cell_of_row W _ _ _ _ _ h2]
  rcases hk6 with rfl|rfl|rfl
  ·exact⟨_,rfl,rfl,rfl,rfl,Arr.nil _ _ _ _ _,by decide,by decide⟩
  ·exact⟨_,rfl,rfl,rfl,rfl,Arr.nil _ _ _ _ _,by decide,by decide⟩
  ·exact⟨_,rfl,rfl,rfl,rfl,is_of (l:=[0,1]) _ h1 (by simp[maxLen]) (by omega),by decide,by decide⟩
 ·refine⟨_,w.heap.size+1+1+1,0,3,rfl,fun _=>rfl,Nat.le_refl _,by simp[G2,g2S,maxLen],fun k hk=>⟨by omega,?_⟩⟩
  have hk6:k=0∨k=1∨k=2:=by simp[G2,g2S]at hk;omega
  unfold StrAt
  simp only[cell_of_row W _ _ _ _ _ h3]
  rcases hk6 with rfl|rfl|rfl<;>exact⟨rfl,by decide⟩
 ·exact is_of (l:=[2]) _ h4 (by simp[maxLen]) (by omega)
end Go.Proofs.YtcbllelkgniogaaDoor
