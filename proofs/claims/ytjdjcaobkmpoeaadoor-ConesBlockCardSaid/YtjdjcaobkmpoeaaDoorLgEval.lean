/- . -/
import Derived.Test.YtjdjcaobkmpoeaaDoorLgGate
namespace Go.Proofs.YtjdjcaobkmpoeaaDoor.Lg
open Go.RowKit
def Tabs (w : World) : Prop := 1 ≤ w.heap.size ∧ (∀ k, k < 32 → w.cell? ⟨0, k, none⟩ = some (.int .i64 (spansL.getD k 0))) ∧ True
theorem Tabs.below{w w':World}(h:Tabs w)(hb:Below w.heap.size w w'):Tabs w':=by
 obtain⟨h1,h2,h3⟩:=h
 refine⟨Nat.le_trans h1 hb.size,fun k hk=>?_,h3⟩
 rw [← h2 k hk]; exact hb.cell (p := ⟨0, k, none⟩) (Nat.lt_of_lt_of_le (show _ < 1 by simp) h1)
theorem Tabs.drewN{w:World}(h:Tabs w)(n:Nat):Tabs (w.drewN n):=h
theorem kinds{k:Int}(h0:0≤k)(h1:¬15<k):k=0∨k=1∨k=2∨k=3∨k=4∨k=5∨k=6∨k=7∨k=8∨k=9∨k=10∨k=11∨k=12∨k=13∨k=14∨k=15:=by omega
set_option maxHeartbeats 1000000 in
theorem fanin_any(k:Int)(h0:0≤k)(w:World)(ht:Tabs w):
 Calls Tryd.prog 64 #[.int .u8 k] w fun e w'=>e=.returned (.tuple #[.int .i64 (lo k),.int .i64 (hi k)])∧∃n,w'=w.drewN n:=by
 by_cases hk:15<k
 ·have e1:lo k=0:=by simp[lo,hk]
  have e2:hi k= -1:=by simp[hi,hk]
  rw[e1,e2]
  clear e1 e2 ht
  go_enter Tryd.func64,Tryd.ntmps64
  go_wp2
  go_ret2
  exact⟨rfl,0,rfl⟩
 ·obtain⟨-,ht,-⟩:=ht
  rcases kinds h0 hk with rfl|rfl|rfl|rfl|rfl|rfl|rfl|rfl|rfl|rfl|rfl|rfl|rfl|rfl|rfl|rfl
  ·have c0:=ht 0 (by decide)
   have c1:=ht 1 (by decide)
   simp only[spansL,List.getD_cons_zero,List.getD_cons_succ]at c0 c1
   clear ht
   go_enter Tryd.func64,Tryd.ntmps64
   go_wp2
   go_quiet (fail)
   go_wp2
   go_ret2
   exact⟨rfl,_,rfl⟩
  ·have c0:=ht 2 (by decide)
   have c1:=ht 3 (by decide)
   simp only[spansL,List.getD_cons_zero,List.getD_cons_succ]at c0 c1
   clear ht
   go_enter Tryd.func64,Tryd.ntmps64
   go_wp2
   go_quiet (fail)
   go_wp2
   go_ret2
   exact⟨rfl,_,rfl⟩
  ·have c0:=ht 4 (by decide)
   have c1:=ht 5 (by decide)
   simp only[spansL,List.getD_cons_zero,List.getD_cons_succ]at c0 c1
   clear ht
   go_enter Tryd.func64,Tryd.ntmps64
   go_wp2
   go_quiet (fail)
   go_wp2
   go_ret2
   exact⟨rfl,_,rfl⟩
  ·have c0:=ht 6 (by decide)
   have c1:=ht 7 (by decide)
   simp only[spansL,List.getD_cons_zero,List.getD_cons_succ]at c0 c1
   clear ht
   go_enter Tryd.func64,Tryd.ntmps64
   go_wp2
   go_quiet (fail)
   go_wp2
   go_ret2
   exact⟨rfl,_,rfl⟩
  ·have c0:=ht 8 (by decide)
   have c1:=ht 9 (by decide)
   simp only[spansL,List.getD_cons_zero,List.getD_cons_succ]at c0 c1
   clear ht
   go_enter Tryd.func64,Tryd.ntmps64
   go_wp2
   go_quiet (fail)
   go_wp2
   go_ret2
   exact⟨rfl,_,rfl⟩
  ·have c0:=ht 10 (by decide)
   have c1:=ht 11 (by decide)
   simp only[spansL,List.getD_cons_zero,List.getD_cons_succ]at c0 c1
   clear ht
   go_enter Tryd.func64,Tryd.ntmps64
   go_wp2
   go_quiet (fail)
   go_wp2
   go_ret2
   exact⟨rfl,_,rfl⟩
  ·have c0:=ht 12 (by decide)
   have c1:=ht 13 (by decide)
   simp only[spansL,List.getD_cons_zero,List.getD_cons_succ]at c0 c1
   clear ht
   go_enter Tryd.func64,Tryd.ntmps64
   go_wp2
   go_quiet (fail)
   go_wp2
   go_ret2
   exact⟨rfl,_,rfl⟩
  ·have c0:=ht 14 (by decide)
   have c1:=ht 15 (by decide)
   simp only[spansL,List.getD_cons_zero,List.getD_cons_succ]at c0 c1
   clear ht
   go_enter Tryd.func64,Tryd.ntmps64
   go_wp2
   go_quiet (fail)
   go_wp2
   go_ret2
   exact⟨rfl,_,rfl⟩
  ·have c0:=ht 16 (by decide)
   have c1:=ht 17 (by decide)
   simp only[spansL,List.getD_cons_zero,List.getD_cons_succ]at c0 c1
   clear ht
   go_enter Tryd.func64,Tryd.ntmps64
   go_wp2
   go_quiet (fail)
   go_wp2
   go_ret2
   exact⟨rfl,_,rfl⟩
  ·have c0:=ht 18 (by decide)
   have c1:=ht 19 (by decide)
   simp only[spansL,List.getD_cons_zero,List.getD_cons_succ]at c0 c1
   clear ht
   go_enter Tryd.func64,Tryd.ntmps64
   go_wp2
   go_quiet (fail)
   go_wp2
   go_ret2
   exact⟨rfl,_,rfl⟩
  ·have c0:=ht 20 (by decide)
   have c1:=ht 21 (by decide)
   simp only[spansL,List.getD_cons_zero,List.getD_cons_succ]at c0 c1
   clear ht
   go_enter Tryd.func64,Tryd.ntmps64
   go_wp2
   go_quiet (fail)
   go_wp2
   go_ret2
   exact⟨rfl,_,rfl⟩
  ·have c0:=ht 22 (by decide)
   have c1:=ht 23 (by decide)
   simp only[spansL,List.getD_cons_zero,List.getD_cons_succ]at c0 c1
   clear ht
   go_enter Tryd.func64,Tryd.ntmps64
   go_wp2
   go_quiet (fail)
   go_wp2
   go_ret2
   exact⟨rfl,_,rfl⟩
  ·have c0:=ht 24 (by decide)
   have c1:=ht 25 (by decide)
   simp only[spansL,List.getD_cons_zero,List.getD_cons_succ]at c0 c1
   clear ht
   go_enter Tryd.func64,Tryd.ntmps64
   go_wp2
   go_quiet (fail)
   go_wp2
   go_ret2
   exact⟨rfl,_,rfl⟩
  ·have c0:=ht 26 (by decide)
   have c1:=ht 27 (by decide)
   simp only[spansL,List.getD_cons_zero,List.getD_cons_succ]at c0 c1
   clear ht
   go_enter Tryd.func64,Tryd.ntmps64
   go_wp2
   go_quiet (fail)
   go_wp2
   go_ret2
   exact⟨rfl,_,rfl⟩
  ·have c0:=ht 28 (by decide)
   have c1:=ht 29 (by decide)
   simp only[spansL,List.getD_cons_zero,List.getD_cons_succ]at c0 c1
   clear ht
   go_enter Tryd.func64,Tryd.ntmps64
   go_wp2
   go_quiet (fail)
   go_wp2
   go_ret2
   exact⟨rfl,_,rfl⟩
  ·have c0:=ht 30 (by decide)
   have c1:=ht 31 (by decide)
   simp only[spansL,List.getD_cons_zero,List.getD_cons_succ]at c0 c1
   clear ht
   go_enter Tryd.func64,Tryd.ntmps64
   go_wp2
   go_quiet (fail)
   go_wp2
   go_ret2
   exact⟨rfl,_,rfl⟩
end Go.Proofs.YtjdjcaobkmpoeaaDoor.Lg
