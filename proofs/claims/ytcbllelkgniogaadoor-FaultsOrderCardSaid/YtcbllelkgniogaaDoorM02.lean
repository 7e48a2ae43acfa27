/- The texts Bas. -/
import Derived.Test.YtcbllelkgniogaaDoorRows
import Derived.Test.YtcbllelkgniogaaDoorM01
import Derived.WalkKit
import Derived.WalkSpells
import Derived.WalkLawsBesides
import Derived.Lib.Hide
import Derived.BigQuiet
import Derived.Deep.Draws
import Derived.WalkSmall
import Derived.StillTailTactics
import Derived.Laws.StructEq
import Derived.Deep.RegionWith
namespace Go.Proofs.YtcbllelkgniogaaDoor
open Go.RowKit
theorem ret_int{k:IntKind}{a b:Int}(h:a=b):Ending.returned (.int k a)=.returned (.int k b):=by rw[h]
theorem ret_bool{a b:Bool}(h:a=b):Ending.returned (.bool a)=.returned (.bool b):=by rw[h]
theorem named{α:Type}(x:α):∃y,Hid (y=x):=⟨x,Lib.hid rfl⟩
theorem rel{P:Program}{f:FuncId}{args:Array Value}{w0 w:World}{v:Value}(h:Calls P f args w fun e w'=>e=.returned v∧Below w.heap.size w w')(hb:Below w0.heap.size w0 w):
 Calls P f args w fun e w'=>e=.returned v∧Below w0.heap.size w0 w':=h.mono fun _ _ ⟨he,h'⟩=>⟨he,hb.trans (h'.mono hb.size)⟩
theorem joinB{w0 w1 w2:World}(hb:Below w0.heap.size w0 w1)(hp:Below w1.heap.size w1 w2):Below w0.heap.size w0 w2:=hb.trans (hp.mono hb.size)
theorem below_new{w0 w:World}(hb:Below w0.heap.size w0 w)(o:Obj):Below w0.heap.size w0 (w.alloc o):=hb.alloc hb.size o
theorem bcell{W w1:World}(hb:Below W.heap.size W w1):(∀b o,b<W.heap.size→w1.cell? ⟨b,o,none⟩=W.cell? ⟨b,o,none⟩)∧(∀b o,b<W.heap.size→w1.frozen? ⟨b,o,none⟩=W.frozen? ⟨b,o,none⟩):=
 ⟨fun b o h=>hb.cell (p:=⟨b,o,none⟩) h,fun b o h=>hb.frozen (p:=⟨b,o,none⟩) h⟩
structure Beh(w:World) where
 x:World
 below:Below w.heap.size w x
instance behNonempty (w:World):Nonempty (Beh w):=⟨⟨w,Below.refl _ _⟩⟩
theorem region_class{P:Program}{id:Nat}{Q:Exit→Act→World→Prop}{a:Act}{w0 w:World}{l:List Oper}(hb:Below w0.heap.size w0 w)(hm:P.follows .mixedOrders=true)(hB:Region.lexB .any l.toArray=true)
 (h:wpQuiet P l.toArray (fun w'=>∃x:Beh w0,w'=x.x) (fun a'=>∀w',(∃x:Beh w0,w'=x.x)→Q .normal a' w') l a):(Code.region id l.toArray true).wp P Q a w:=
 wp_region_quiet (C:=fun w'=>∃x:Beh w0,w'=x.x) hm hB ⟨⟨w.drew,hb.drew⟩,rfl⟩ (by simpa using h)
theorem beh_of{P:Program}{f:FuncId}{args:Array Value}{w0 w1:World}{v:Value}(h:Calls P f args w1 fun e w'=>e=.returned v∧Below w0.heap.size w0 w'):
 Calls P f args w1 fun e w'=>e=.returned v∧∃y:Beh w0,w'=y.x:=h.mono fun _ w' ⟨he,hb⟩=>⟨he,⟨w',hb⟩,rfl⟩
theorem cell_lt{W:World}{g i:Nat}{v:Value}(h:W.cell? ⟨g,i,none⟩=some v):g<W.heap.size:=by
 rcases Nat.lt_or_ge g W.heap.size with hl|hl
 ·exact hl
 ·simp[World.cell?,Array.getElem?_eq_none hl]at h
def Tabs (w : World) : Prop := 6 ≤ w.heap.size ∧ (∀ k, k < 32 → w.cell? ⟨3, k, none⟩ = some (.int .i64 (spansL.getD k 0)))
theorem Tabs.below{w w':World}(h:Tabs w)(hb:Below w.heap.size w w'):Tabs w':=by
 obtain⟨h1,h2⟩:=h
 refine⟨Nat.le_trans h1 hb.size,fun k hk=>?_⟩
 rw [← h2 k hk]; exact hb.cell (p := ⟨3, k, none⟩) (Nat.lt_of_lt_of_le (show _ < 6 by simp) h1)
theorem Tabs.drewN{w:World}(h:Tabs w)(n:Nat):Tabs (w.drewN n):=h
theorem kinds{k:Int}(h0:0≤k)(h1:¬15<k):k=0∨k=1∨k=2∨k=3∨k=4∨k=5∨k=6∨k=7∨k=8∨k=9∨k=10∨k=11∨k=12∨k=13∨k=14∨k=15:=by omega
set_option maxHeartbeats 1000000 in
theorem fanin_any(k:Int)(h0:0≤k)(w:World)(ht:Tabs w):
 Calls Tryd.prog 84 #[.int .u8 k] w fun e w'=>e=.returned (.tuple #[.int .i64 (lo k),.int .i64 (hi k)])∧∃n,w'=w.drewN n:=by
 by_cases hk:15<k
 ·have e1:lo k=0:=by simp[lo,hk]
  have e2:hi k= -1:=by simp[hi,hk]
  rw[e1,e2]
  clear e1 e2 ht
  go_enter Tryd.func84,Tryd.ntmps84
  go_wp2
  go_ret2
  exact⟨rfl,0,rfl⟩
 ·obtain⟨-,ht⟩:=ht
  rcases kinds h0 hk with rfl|rfl|rfl|rfl|rfl|rfl|rfl|rfl|rfl|rfl|rfl|rfl|rfl|rfl|rfl|rfl
  ·have c0:=ht 0 (by decide)
   have c1:=ht 1 (by decide)
   simp only[spansL,List.getD_cons_zero,List.getD_cons_succ]at c0 c1
   clear ht
   go_enter Tryd.func84,Tryd.ntmps84
   go_wp2
   go_quiet (fail)
   go_wp2
   go_ret2
   exact⟨rfl,_,rfl⟩
  ·have c0:=ht 2 (by decide)
   have c1:=ht 3 (by decide)
   simp only[spansL,List.getD_cons_zero,List.getD_cons_succ]at c0 c1
   clear ht
   go_enter Tryd.func84,Tryd.ntmps84
   go_wp2
   go_quiet (fail)
   go_wp2
   go_ret2
   exact⟨rfl,_,rfl⟩
  ·have c0:=ht 4 (by decide)
   have c1:=ht 5 (by decide)
   simp only[spansL,List.getD_cons_zero,List.getD_cons_succ]at c0 c1
   clear ht
   go_enter Tryd.func84,Tryd.ntmps84
   go_wp2
   go_quiet (fail)
   go_wp2
   go_ret2
   exact⟨rfl,_,rfl⟩
  ·have c0:=ht 6 (by decide)
   have c1:=ht 7 (by decide)
   simp only[spansL,List.getD_cons_zero,List.getD_cons_succ]at c0 c1
   clear ht
   go_enter Tryd.func84,Tryd.ntmps84
   go_wp2
   go_quiet (fail)
   go_wp2
   go_ret2
   exact⟨rfl,_,rfl⟩
  ·have c0:=ht 8 (by decide)
   have c1:=ht 9 (by decide)
   simp only[spansL,List.getD_cons_zero,List.getD_cons_succ]at c0 c1
   clear ht
   go_enter Tryd.func84,Tryd.ntmps84
   go_wp2
   go_quiet (fail)
   go_wp2
   go_ret2
   exact⟨rfl,_,rfl⟩
  ·have c0:=ht 10 (by decide)
   have c1:=ht 11 (by decide)
   simp only[spansL,List.getD_cons_zero,List.getD_cons_succ]at c0 c1
   clear ht
   go_enter Tryd.func84,Tryd.ntmps84
   go_wp2
   go_quiet (fail)
   go_wp2
   go_ret2
   exact⟨rfl,_,rfl⟩
  ·have c0:=ht 12 (by decide)
   have c1:=ht 13 (by decide)
   simp only[spansL,List.getD_cons_zero,List.getD_cons_succ]at c0 c1
   clear ht
   go_enter Tryd.func84,Tryd.ntmps84
   go_wp2
   go_quiet (fail)
   go_wp2
   go_ret2
   exact⟨rfl,_,rfl⟩
  ·have c0:=ht 14 (by decide)
   have c1:=ht 15 (by decide)
   simp only[spansL,List.getD_cons_zero,List.getD_cons_succ]at c0 c1
   clear ht
   go_enter Tryd.func84,Tryd.ntmps84
   go_wp2
   go_quiet (fail)
   go_wp2
   go_ret2
   exact⟨rfl,_,rfl⟩
  ·have c0:=ht 16 (by decide)
   have c1:=ht 17 (by decide)
   simp only[spansL,List.getD_cons_zero,List.getD_cons_succ]at c0 c1
   clear ht
   go_enter Tryd.func84,Tryd.ntmps84
   go_wp2
   go_quiet (fail)
   go_wp2
   go_ret2
   exact⟨rfl,_,rfl⟩
  ·have c0:=ht 18 (by decide)
   have c1:=ht 19 (by decide)
   simp only[spansL,List.getD_cons_zero,List.getD_cons_succ]at c0 c1
   clear ht
   go_enter Tryd.func84,Tryd.ntmps84
   go_wp2
   go_quiet (fail)
   go_wp2
   go_ret2
   exact⟨rfl,_,rfl⟩
  ·have c0:=ht 20 (by decide)
   have c1:=ht 21 (by decide)
   simp only[spansL,List.getD_cons_zero,List.getD_cons_succ]at c0 c1
   clear ht
   go_enter Tryd.func84,Tryd.ntmps84
   go_wp2
   go_quiet (fail)
   go_wp2
   go_ret2
   exact⟨rfl,_,rfl⟩
  ·have c0:=ht 22 (by decide)
   have c1:=ht 23 (by decide)
   simp only[spansL,List.getD_cons_zero,List.getD_cons_succ]at c0 c1
   clear ht
   go_enter Tryd.func84,Tryd.ntmps84
   go_wp2
   go_quiet (fail)
   go_wp2
   go_ret2
   exact⟨rfl,_,rfl⟩
  ·have c0:=ht 24 (by decide)
   have c1:=ht 25 (by decide)
   simp only[spansL,List.getD_cons_zero,List.getD_cons_succ]at c0 c1
   clear ht
   go_enter Tryd.func84,Tryd.ntmps84
   go_wp2
   go_quiet (fail)
   go_wp2
   go_ret2
   exact⟨rfl,_,rfl⟩
  ·have c0:=ht 26 (by decide)
   have c1:=ht 27 (by decide)
   simp only[spansL,List.getD_cons_zero,List.getD_cons_succ]at c0 c1
   clear ht
   go_enter Tryd.func84,Tryd.ntmps84
   go_wp2
   go_quiet (fail)
   go_wp2
   go_ret2
   exact⟨rfl,_,rfl⟩
  ·have c0:=ht 28 (by decide)
   have c1:=ht 29 (by decide)
   simp only[spansL,List.getD_cons_zero,List.getD_cons_succ]at c0 c1
   clear ht
   go_enter Tryd.func84,Tryd.ntmps84
   go_wp2
   go_quiet (fail)
   go_wp2
   go_ret2
   exact⟨rfl,_,rfl⟩
  ·have c0:=ht 30 (by decide)
   have c1:=ht 31 (by decide)
   simp only[spansL,List.getD_cons_zero,List.getD_cons_succ]at c0 c1
   clear ht
   go_enter Tryd.func84,Tryd.ntmps84
   go_wp2
   go_quiet (fail)
   go_wp2
   go_ret2
   exact⟨rfl,_,rfl⟩
end Go.Proofs.YtcbllelkgniogaaDoor
