/- The texts Frk Hef. -/
import Derived.Test.YtcbllelkgniogaaDoorM18
import Derived.Test.YtcbllelkgniogaaDoorM25
namespace Go.Proofs.YtcbllelkgniogaaDoor
section
variable {P:Program} {ops:Array Oper} {Q:Exit→Act→World→Prop} {md:Region.Mode} {S:World→Prop} {t:Nat}
theorem AnyX.fork{i j:Nat}{oi oj:Oper}{f:Nat}{listed:Array Bool}{a:Act}{w:World}(hr:Region.ready md ops listed=[i,j])(hoi:ops[i]? =some oi)(hoj:ops[j]? =some oj)
 (hi:∀K':Act→World→Prop,(∀a' w',(i≠t→S w')→AnyX P md ops Q S t f (listed.setIfInBounds i true) a' w'→K' a' w')→if Region.wanted oi (yielded ops a.tmps)=true then Oper.wp P oi a w K' Q else K' (a.put oi.dst undef) w)
 (hj:∀K':Act→World→Prop,(∀a' w',(j≠t→S w')→AnyX P md ops Q S t f (listed.setIfInBounds j true) a' w'→K' a' w')→if Region.wanted oj (yielded ops a.tmps)=true then Oper.wp P oj a w K' Q else K' (a.put oj.dst undef) w):
 AnyX P md ops Q S t (f+1) listed a w:=by
 refine⟨fun h0=>absurd (hr.symm.trans h0) (by simp),fun k hk=>?_⟩
 rw[hr]at hk
 rcases List.mem_cons.1 hk with rfl|hk
 ·exact wpOp_step hoi (fun K' hK=>hi K' fun a' w' h1 h2=>hK a' w' ⟨h1,h2⟩)
 ·obtain rfl:=List.mem_singleton.1 hk
  exact wpOp_step hoj (fun K' hK=>hj K' fun a' w' h1 h2=>hK a' w' ⟨h1,h2⟩)
end
open Go.RowKit
def MG(w:World)(T:Nat)(s:Value)(l:List Mm):Prop:=∀w',Kp T none w w'→Ms w' w'.heap.size s l
theorem MG.keep{w w':World}{T:Nat}{s:Value}{l:List Mm}(h:MG w T s l)(hk:Kp T none w w'):MG w' T s l:=fun w2 h2=>h w2 (hk.trans h2)
theorem MG.one{w:World}{T m a d:Nat}{x y z v:Int}(hm:T≤m)(ha:T≤a)(hd:T≤d)(c0:w.cell? ⟨m,0,none⟩=some (.slice (some ⟨a,0,none⟩) 1 1))(c1:w.cell? ⟨m,1,none⟩=some (.slice (some ⟨d,0,none⟩) 2 2))(c2:w.cell? ⟨m,2,none⟩=some (.int .i64 v))
 (a0:w.cell? ⟨a,0,none⟩=some (.int .i64 x)) (d0:w.cell? ⟨d,0,none⟩=some (.int .i64 y)) (d1:w.cell? ⟨d,1,none⟩=some (.int .i64 z)):MG w T (.slice (some ⟨m,0,none⟩) 1 1) [⟨[x],[y,z],v⟩]:=by
 intro w' hk
 have key:∀b o u,T≤b→w.cell? ⟨b,o,none⟩=some u→b<w'.heap.size∧w'.cell? ⟨b,o,none⟩=some u:=fun b o u hb hc=>by
  have hl:=cell_lt hc
  exact⟨Nat.lt_of_lt_of_le hl hk.1,(World.cell?_of_block (hk.2 b hb hl (by simp))).trans hc⟩
 obtain⟨m1,e0⟩:=key _ _ _ hm c0
 obtain⟨-,e1⟩:=key _ _ _ hm c1
 obtain⟨-,e2⟩:=key _ _ _ hm c2
 obtain⟨a1,f0⟩:=key _ _ _ ha a0
 obtain⟨d2,h0⟩:=key _ _ _ hd d0
 obtain⟨-,h1⟩:=key _ _ _ hd d1
 refine⟨some ⟨m,0,none⟩,m,0,1,rfl,fun _=>rfl,by simp,by simp[maxLen],fun k hk'=>?_⟩
 obtain rfl:k=0:=by simp at hk';omega
 refine⟨m1,_,_,e0,e1,e2,⟨some ⟨a,0,none⟩,a,0,1,rfl,fun _=>rfl,by simp,by simp[maxLen],fun j hj=>?_⟩,⟨some ⟨d,0,none⟩,d,0,2,rfl,fun _=>rfl,by simp,by simp[maxLen],fun j hj=>?_⟩⟩
 ·obtain rfl:j=0:=by simp at hj;omega
  exact⟨a1,f0⟩
 ·have h2:j=0∨j=1:=by simp at hj;omega
  rcases h2 with rfl|rfl
  ·exact⟨d2,h0⟩
  ·exact⟨d2,h1⟩
theorem cell_al{w:World}(o:Obj){b j:Nat}{u:Value}(h:w.cell? ⟨b,j,none⟩=some u):(w.alloc o).cell? ⟨b,j,none⟩=some u:=
 (((Below.refl _ _).alloc (Nat.le_refl _) o).cell (p:=⟨b,j,none⟩) (cell_lt h)).trans h
theorem cell_at(w:World)(cs:Array Value)(t:TypeId){b:Nat}(hb:b=w.heap.size)(j:Nat):(w.alloc (.cells cs t)).cell? ⟨b,j,none⟩=cs[j]? :=by
 subst hb;rw[World.cell?_alloc_at _ _ _ _ rfl]
theorem MG.made1{wr w':World}{T:Nat}{x y z v:Int}{t1 t2 t3:TypeId}(hT:T≤wr.heap.size)
 (hk:Kp T none (((wr.alloc (.cells #[.int .i64 x] t1)).alloc (.cells #[.int .i64 y,.int .i64 z] t2)).alloc (.cells #[.slice (some ⟨wr.heap.size,0,none⟩) 1 1,.slice (some ⟨wr.heap.size+1,0,none⟩) 2 2,.int .i64 v] t3)) w'):
 MG w' T (.slice (some ⟨wr.heap.size+1+1,0,none⟩) 1 1) [⟨[x],[y,z],v⟩]:=by
 have h1:(wr.alloc (.cells #[.int .i64 x] t1)).heap.size=wr.heap.size+1:=by simp
 have h2:((wr.alloc (.cells #[.int .i64 x] t1)).alloc (.cells #[.int .i64 y,.int .i64 z] t2)).heap.size=wr.heap.size+1+1:=by simp
 refine MG.keep (MG.one (a:=wr.heap.size) (d:=wr.heap.size+1) (by omega) (by omega) (by omega) ?_ ?_ ?_ ?_ ?_ ?_) hk
 ·rw[cell_at _ _ _ h2.symm];rfl
 ·rw[cell_at _ _ _ h2.symm];rfl
 ·rw[cell_at _ _ _ h2.symm];rfl
 ·refine cell_al _ (cell_al _ ?_);rw[cell_at _ _ _ rfl];rfl
 ·refine cell_al _ ?_;rw[cell_at _ _ _ h1.symm];rfl
 ·refine cell_al _ ?_;rw[cell_at _ _ _ h1.symm];rfl
theorem MG.made2{wr w':World}{T:Nat}{x y z v:Int}{t1 t2 t3:TypeId}(hT:T≤wr.heap.size)
 (hk:Kp T none (((wr.alloc (.cells #[.int .i64 y,.int .i64 z] t2)).alloc (.cells #[.int .i64 x] t1)).alloc (.cells #[.slice (some ⟨wr.heap.size+1,0,none⟩) 1 1,.slice (some ⟨wr.heap.size,0,none⟩) 2 2,.int .i64 v] t3)) w'):
 MG w' T (.slice (some ⟨wr.heap.size+1+1,0,none⟩) 1 1) [⟨[x],[y,z],v⟩]:=by
 have h1:(wr.alloc (.cells #[.int .i64 y,.int .i64 z] t2)).heap.size=wr.heap.size+1:=by simp
 have h2:((wr.alloc (.cells #[.int .i64 y,.int .i64 z] t2)).alloc (.cells #[.int .i64 x] t1)).heap.size=wr.heap.size+1+1:=by simp
 refine MG.keep (MG.one (a:=wr.heap.size+1) (d:=wr.heap.size) (by omega) (by omega) (by omega) ?_ ?_ ?_ ?_ ?_ ?_) hk
 ·rw[cell_at _ _ _ h2.symm];rfl
 ·rw[cell_at _ _ _ h2.symm];rfl
 ·rw[cell_at _ _ _ h2.symm];rfl
 ·refine cell_al _ ?_;rw[cell_at _ _ _ h1.symm];rfl
 ·refine cell_al _ (cell_al _ ?_);rw[cell_at _ _ _ rfl];rfl
 ·refine cell_al _ (cell_al _ ?_);rw[cell_at _ _ _ rfl];rfl
end Go.Proofs.YtcbllelkgniogaaDoor
