/- The texts Ofn Ofs. -/
import Derived.Test.YtjdjcaobkmpoeaaDoorM22
import Derived.Laws.BytesArg
import Derived.Test.YtjdjcaobkmpoeaaDoorM23
namespace Go.Proofs.YtjdjcaobkmpoeaaDoor
open Go.RowKit
theorem conv_name(w:World)(x y:Int)(s:ByteArray)(h:strOfNums [110,x,y]=s):
 (convert 47 9 (.slice (some ⟨w.heap.size,0,none⟩) 3 3)).run Tryd.prog (w.alloc (.cells #[.int .u8 110,.int .u8 x,.int .u8 y] 5))=.ok (.string s) (w.alloc (.cells #[.int .u8 110,.int .u8 x,.int .u8 y] 5)):=by
 rw[←h]
 exact run_convert_bytes_arg (P:=Tryd.prog) (w.alloc (.cells #[.int .u8 110,.int .u8 x,.int .u8 y] 5)) 47 5 Tryd.underlying47 Tryd.underlying5 w.heap.size 0 3 3 [110,x,y] rfl (fun i hi=>by
  rw[World.cell?_alloc_at _ _ _ _ rfl]
  have h3:i=0∨i=1∨i=2:=by omega
  rcases h3 with rfl|rfl|rfl<;>rfl) 9 Tryd.underlying9
set_option maxRecDepth 100000 in
set_option maxHeartbeats 2000000 in
theorem name_any(i:Nat)(hi:i<16)(w:World):Calls Tryd.prog 39 #[.int .i64 (i:Int)] w fun e w'=>e=.returned (.string (nameB i))∧Below w.heap.size w w':=by
 have hc:i=0∨i=1∨i=2∨i=3∨i=4∨i=5∨i=6∨i=7∨i=8∨i=9∨i=10∨i=11∨i=12∨i=13∨i=14∨i=15:=by omega
 rcases hc with rfl|rfl|rfl|rfl|rfl|rfl|rfl|rfl|rfl|rfl|rfl|rfl|rfl|rfl|rfl|rfl
 ·show Calls Tryd.prog 39 #[.int .i64 0] w _
  have hcv:=conv_name w 48 48 (nameB 0) (by decide)
  go_enter Tryd.func39,Tryd.ntmps39
  go_wp2
  go_ret
  exact⟨rfl,below_new (Below.refl _ _) _⟩
 ·show Calls Tryd.prog 39 #[.int .i64 1] w _
  have hcv:=conv_name w 48 49 (nameB 1) (by decide)
  go_enter Tryd.func39,Tryd.ntmps39
  go_wp2
  go_ret
  exact⟨rfl,below_new (Below.refl _ _) _⟩
 ·show Calls Tryd.prog 39 #[.int .i64 2] w _
  have hcv:=conv_name w 48 50 (nameB 2) (by decide)
  go_enter Tryd.func39,Tryd.ntmps39
  go_wp2
  go_ret
  exact⟨rfl,below_new (Below.refl _ _) _⟩
 ·show Calls Tryd.prog 39 #[.int .i64 3] w _
  have hcv:=conv_name w 48 51 (nameB 3) (by decide)
  go_enter Tryd.func39,Tryd.ntmps39
  go_wp2
  go_ret
  exact⟨rfl,below_new (Below.refl _ _) _⟩
 ·show Calls Tryd.prog 39 #[.int .i64 4] w _
  have hcv:=conv_name w 48 52 (nameB 4) (by decide)
  go_enter Tryd.func39,Tryd.ntmps39
  go_wp2
  go_ret
  exact⟨rfl,below_new (Below.refl _ _) _⟩
 ·show Calls Tryd.prog 39 #[.int .i64 5] w _
  have hcv:=conv_name w 48 53 (nameB 5) (by decide)
  go_enter Tryd.func39,Tryd.ntmps39
  go_wp2
  go_ret
  exact⟨rfl,below_new (Below.refl _ _) _⟩
 ·show Calls Tryd.prog 39 #[.int .i64 6] w _
  have hcv:=conv_name w 48 54 (nameB 6) (by decide)
  go_enter Tryd.func39,Tryd.ntmps39
  go_wp2
  go_ret
  exact⟨rfl,below_new (Below.refl _ _) _⟩
 ·show Calls Tryd.prog 39 #[.int .i64 7] w _
  have hcv:=conv_name w 48 55 (nameB 7) (by decide)
  go_enter Tryd.func39,Tryd.ntmps39
  go_wp2
  go_ret
  exact⟨rfl,below_new (Below.refl _ _) _⟩
 ·show Calls Tryd.prog 39 #[.int .i64 8] w _
  have hcv:=conv_name w 48 56 (nameB 8) (by decide)
  go_enter Tryd.func39,Tryd.ntmps39
  go_wp2
  go_ret
  exact⟨rfl,below_new (Below.refl _ _) _⟩
 ·show Calls Tryd.prog 39 #[.int .i64 9] w _
  have hcv:=conv_name w 48 57 (nameB 9) (by decide)
  go_enter Tryd.func39,Tryd.ntmps39
  go_wp2
  go_ret
  exact⟨rfl,below_new (Below.refl _ _) _⟩
 ·show Calls Tryd.prog 39 #[.int .i64 10] w _
  have hcv:=conv_name w 49 48 (nameB 10) (by decide)
  go_enter Tryd.func39,Tryd.ntmps39
  go_wp2
  go_ret
  exact⟨rfl,below_new (Below.refl _ _) _⟩
 ·show Calls Tryd.prog 39 #[.int .i64 11] w _
  have hcv:=conv_name w 49 49 (nameB 11) (by decide)
  go_enter Tryd.func39,Tryd.ntmps39
  go_wp2
  go_ret
  exact⟨rfl,below_new (Below.refl _ _) _⟩
 ·show Calls Tryd.prog 39 #[.int .i64 12] w _
  have hcv:=conv_name w 49 50 (nameB 12) (by decide)
  go_enter Tryd.func39,Tryd.ntmps39
  go_wp2
  go_ret
  exact⟨rfl,below_new (Below.refl _ _) _⟩
 ·show Calls Tryd.prog 39 #[.int .i64 13] w _
  have hcv:=conv_name w 49 51 (nameB 13) (by decide)
  go_enter Tryd.func39,Tryd.ntmps39
  go_wp2
  go_ret
  exact⟨rfl,below_new (Below.refl _ _) _⟩
 ·show Calls Tryd.prog 39 #[.int .i64 14] w _
  have hcv:=conv_name w 49 52 (nameB 14) (by decide)
  go_enter Tryd.func39,Tryd.ntmps39
  go_wp2
  go_ret
  exact⟨rfl,below_new (Below.refl _ _) _⟩
 ·show Calls Tryd.prog 39 #[.int .i64 15] w _
  have hcv:=conv_name w 49 53 (nameB 15) (by decide)
  go_enter Tryd.func39,Tryd.ntmps39
  go_wp2
  go_ret
  exact⟨rfl,below_new (Below.refl _ _) _⟩
def GAt(w:World)(_B b p:Nat)(g:Gx):Prop:=w.cell? ⟨b,p,none⟩=some (.int .u8 g.kind)∧w.cell? ⟨b,p+1,none⟩=some (.int .u8 g.i0)∧w.cell? ⟨b,p+2,none⟩=some (.int .u8 g.i1)∧w.cell? ⟨b,p+3,none⟩=some (.int .u8 g.i2)
theorem stays_g:Stays GAt:=fun w w' B B' b p x hb hB ⟨h0,h1,h2,h3⟩ hk=>⟨(hk ⟨b,p,none⟩ hb).trans h0,(hk ⟨b,p+1,none⟩ hb).trans h1,(hk ⟨b,p+2,none⟩ hb).trans h2,(hk ⟨b,p+3,none⟩ hb).trans h3⟩
def Gs(w:World)(B:Nat)(v:Value)(l:List Gx):Prop:=Arr default 4 GAt w B v l
theorem Gs.below{w w':World}{B:Nat}{v:Value}{l:List Gx}(h:Gs w B v l)(hb:Below B w w'):Gs w' B v l:=Arr.keep stays_g h (Nat.le_refl _) fun _ hp=>hb.cell hp
def xCs(x:Cx)(sG sO:Value):List Value:=[.int .u8 x.inN,.int .u8 x.dffs,.int .u8 x.d0,.int .u8 x.d1,.bool x.bus,.bool x.mem,.int .u8 x.p0,.int .u8 x.p1,.int .u8 x.p2,.int .u8 x.p3,sG,sO]
def nil4:List Value:=[.slice none 0 0,.slice none 0 0,.slice none 0 0,.slice none 0 0]
structure OW(xs:List Value)(w:World)(q1 q2 q3 T:Nat)(sN sS sM sO:Value)(wr:World):Prop where
 bel:Below w.heap.size w wr
 low:T≤wr.heap.size
 e1:w.heap.size≤q1
 e2:q1<q2
 e3:q2<q3
 eT:q3<T
 fx:Fr wr q1 49 xs
 fr:Fr wr q2 27 nil4
 fc:Fr wr q3 27 [sN,sS,sM,sO]
section
variable {xs:List Value} {w wr w1 w2:World} {q1 q2 q3 T:Nat} {sN sS sM sO u:Value}
theorem OW.next(h:OW xs w q1 q2 q3 T sN sS sM sO wr)(hb:Below wr.heap.size wr w1):OW xs w q1 q2 q3 T sN sS sM sO w1:=
 ⟨joinB h.bel hb,Nat.le_trans h.low hb.size,h.e1,h.e2,h.e3,h.eT,h.fx.below hb,h.fr.below hb,h.fc.below hb⟩
theorem Fr.grown{g:Nat}{t:TypeId}{cs:List Value}{R:Option Nat}(h:Fr wr g t cs)(hg:wr.grownBy w1 R)(hR:R≠some g):Fr w1 g t cs:=
 (hg.block g h.lt (fun e=>hR e.symm)).trans h
theorem OW.grown{R:Option Nat}(h:OW xs w q1 q2 q3 T sN sS sM sO wr)(hg:wr.grownBy w1 R)(hR:∀q,R=some q→T≤q):OW xs w q1 q2 q3 T sN sS sM sO w1:=by
 have a1:=h.e1;have a2:=h.e2;have a3:=h.e3;have a4:=h.eT
 refine⟨Below.grown h.bel hg (Below.size h.bel) (fun q hq=>?_),Nat.le_trans h.low hg.size,a1,a2,a3,a4,h.fx.grown hg ?_,h.fr.grown hg ?_,h.fc.grown hg ?_⟩
 ·have:=hR q hq;omega
 ·intro e;have:=hR _ e;omega
 ·intro e;have:=hR _ e;omega
 ·intro e;have:=hR _ e;omega
theorem OW.set(h:OW xs w q1 q2 q3 T sN sS sM sO wr)(j:Nat)(v:Value){sN' sS' sM' sO':Value}(e:[sN,sS,sM,sO].set j v=[sN',sS',sM',sO']):OW xs w q1 q2 q3 T sN' sS' sM' sO' (wr.setCell ⟨q3,j,none⟩ v):=by
 have a1:=h.e1;have a2:=h.e2;have a3:=h.e3;have a4:=h.eT
 exact⟨Below.setCell h.bel (by show w.heap.size≤q3;omega) v,by simpa using h.low,a1,a2,a3,a4,h.fx.other (a:=⟨q3,j,none⟩) (by show q3≠q1;omega) v,h.fr.other (a:=⟨q3,j,none⟩) (by show q3≠q2;omega) v,by rw[←e];exact h.fc.set j v⟩
theorem OW.drewN(h:OW xs w q1 q2 q3 T sN sS sM sO wr)(n:Nat):OW xs w q1 q2 q3 T sN sS sM sO (wr.drewN n):=h.next (below_drewN (Below.refl _ _) n)
theorem OW.cells(h:OW xs w q1 q2 q3 T sN sS sM sO wr):wr.cell? ⟨q3,0,none⟩=some sN∧wr.cell? ⟨q3,1,none⟩=some sS∧wr.cell? ⟨q3,2,none⟩=some sM∧wr.cell? ⟨q3,3,none⟩=some sO∧
 wr.frozen? ⟨q3,0,none⟩=false∧wr.frozen? ⟨q3,1,none⟩=false∧wr.frozen? ⟨q3,2,none⟩=false∧wr.frozen? ⟨q3,3,none⟩=false∧q3<wr.heap.size∧¬q3=wr.heap.size:=
 ⟨h.fc.cell 0,h.fc.cell 1,h.fc.cell 2,h.fc.cell 3,h.fc.frozen 0,h.fc.frozen 1,h.fc.frozen 2,h.fc.frozen 3,h.fc.lt,by have:=h.fc.lt;omega⟩
theorem OW.args{x:Cx}{sG sA:Value}(h:OW (xCs x sG sA) w q1 q2 q3 T sN sS sM sO wr):wr.cell? ⟨q1,0,none⟩=some (.int .u8 x.inN)∧wr.cell? ⟨q1,1,none⟩=some (.int .u8 x.dffs)∧wr.cell? ⟨q1,5,none⟩=some (.bool x.mem)∧wr.cell? ⟨q1,10,none⟩=some sG∧wr.cell? ⟨q1,11,none⟩=some sA∧q1<wr.heap.size∧¬q1=wr.heap.size:=
 ⟨h.fx.cell 0,h.fx.cell 1,h.fx.cell 5,h.fx.cell 10,h.fx.cell 11,h.fx.lt,by have:=h.fx.lt;omega⟩
theorem push_nodes{o:Obj}{l:List Nd}{ss:List Value}{nd:Nd}{s v':Value}(h:OW xs w q1 q2 q3 T sN sS sM sO wr)(hr:NR wr T sN l ss)(hs:InG wr T sN.ownBlock s nd.ins)
 (hown:w2.ownsRow T 57 4 v' (l.length+1) (ndCs l ss++[.int .u8 nd.kind,s,.int .i64 nd.mem,.int .i64 nd.bit])) (hgr:(wr.alloc o).grownBy w2 sN.ownBlock) (hloc:v'.ownBlock=sN.ownBlock∨v'.ownBlock=some (wr.alloc o).heap.size):
 OW xs w q1 q2 q3 T sN sS sM sO w2∧NR w2 T v' (l++[nd]) (ss++[s]):=
 ⟨(h.next ((Below.refl _ _).alloc (Nat.le_refl _) o)).grown hgr (fun q hq=>(World.ownsRow.lt hr.row q hq).1),(hr.keep (Kp.alloc _ _ _ _)).push (hs.keep (Kp.alloc _ _ _ _) fun _ _ h=>h) hown hgr hloc⟩
end
theorem OW.drew{xs:List Value}{w wr:World}{q1 q2 q3 T:Nat}{sN sS sM sO:Value}(h:OW xs w q1 q2 q3 T sN sS sM sO wr):OW xs w q1 q2 q3 T sN sS sM sO wr.drew:=h.next (Below.refl _ _).drew
theorem OW.al{xs:List Value}{w wr:World}{q1 q2 q3 T:Nat}{sN sS sM sO:Value}(h:OW xs w q1 q2 q3 T sN sS sM sO wr)(o:Obj):OW xs w q1 q2 q3 T sN sS sM sO (wr.alloc o):=h.next ((Below.refl _ _).alloc (Nat.le_refl _) o)
theorem OW.srow{xs:List Value}{w wr:World}{q1 q2 q3 T g:Nat}{sN sS sM sO:Value}(h:OW xs w q1 q2 q3 T sN sS sM sO wr)(hg:T≤g)(j:Nat)(v:Value):OW xs w q1 q2 q3 T sN sS sM sO (wr.setCell ⟨g,j,none⟩ v):=
 h.grown (grown_set wr g j v) (fun q e=>by simp only[Option.some.injEq]at e;omega)
theorem gateN_kind(bus:Bool)(g:Gx)(nodes:List Nd)(hg:Gok g):0≤(gateN bus g nodes).kind∧(gateN bus g nodes).kind≤15:=by
 have h:=kindG_ge bus g.kind
 have h0:=hg.2.1
 unfold U8 at h0
 unfold gateN
 repeat' split
 all_goals (dsimp only;omega)
theorem baseN_kind(x:Cx):∀nd∈baseN x,0≤nd.kind∧nd.kind≤15:=by
 intro nd hnd
 unfold baseN at hnd
 rw[List.mem_append,List.mem_append]at hnd
 rcases hnd with (h|h)|h
 ·rw[(List.mem_replicate.1 h).2];decide
 ·rw[(List.mem_replicate.1 h).2];decide
 ·split at h
  ·simp at h;rcases h with rfl|rfl<;>decide
  ·simp at h
theorem gatesTo_kind(x:Cx)(hx:Cok x):∀k,k≤x.gates.length→∀nd∈gatesTo x k,0≤nd.kind∧nd.kind≤15
 |0,_=>baseN_kind x
 |k+1,hk=>by
  intro nd hnd
  rw[gatesTo,List.mem_append]at hnd
  rcases hnd with h|h
  ·exact gatesTo_kind x hx k (by omega) nd h
  ·rw[List.mem_singleton.1 h];exact gateN_kind _ _ _ (hx.gates k (by omega))
theorem getD_append_left'{α:Type}(d:α)(l l':List α)(k:Nat)(h:k<l.length):(l++l').getD k d=l.getD k d:=by simp[List.getD_eq_getElem?_getD,List.getElem?_append_left h]
theorem baseN_dff(x:Cx)(k:Nat)(hk:k<dffsN x):(baseN x).getD (firstN x+k) default=dffN 0:=by
 unfold baseN
 rw[getD_append_left' _ _ _ _ (by simp;omega),List.getD_eq_getElem?_getD,List.getElem?_append_right (by simp)]
 simp[hk]
theorem gatesTo_base(x:Cx)(j:Nat)(hj:j<(baseN x).length):∀k,(gatesTo x k).getD j default=(baseN x).getD j default
 |0=>rfl
 |k+1=>by
  rw[gatesTo,getD_append_left' _ _ _ _ (by rw[gatesTo_len];omega),gatesTo_base x j hj k]
theorem dffTo_at(x:Cx)(j:Nat)(hj:j<dffsN x):∀k,k≤j→(dffTo x k).getD (firstN x+j) default=dffN 0
 |0,_=>by
  have h:=baseN_len x
  show (gatesTo x (gatesN x)).getD _ _=_
  rw[gatesTo_base x _ (by rw[h];omega),baseN_dff x j hj]
 |k+1,hk=>by
  have h:=sizeN_le x
  rw[dffTo,getD_set' _ _ _ _ _ (by rw[dffTo_len];omega),if_neg (by omega),dffTo_at x j hj k (by omega)]
theorem dffTo_kind(x:Cx)(k:Nat)(hk:k<dffsN x)(i:Nat)(hi:i=firstN x+k):(14:Int)=((dffTo x k).getD i default).kind∧(0:Int)=((dffTo x k).getD i default).mem∧(0:Int)=((dffTo x k).getD i default).bit:=by
 subst hi
 rw[dffTo_at x k hk k (Nat.le_refl _)]
 exact⟨rfl,rfl,rfl⟩
theorem gate_c(x:Cx)(hx:Cok x)(k:Nat)(hk:k<x.gates.length)(hk8:k<8)(sG sA:Value){xs:List Value}{w wr W:World}{q1 q2 q3 T n c:Nat}{A:Option Addr}{sS sM sO:Value}{ss:List Value}{G:Nd}{g:Gx}(hgx:g=x.gates.getD k default)(hG:G=gateN x.bus g (gatesTo x k))(hn:(gatesTo x k).length=n)
 (how:OW xs w q1 q2 q3 T (.slice A n c) sS sM sO wr) (hnr:NR wr T (.slice A n c) (gatesTo x k) ss) (hb:Below wr.heap.size wr W):
 Calls Tryd.prog 38 #[.agg #[.int .u8 x.inN,.int .u8 x.dffs,.int .u8 x.d0,.int .u8 x.d1,.bool x.bus,.bool x.mem,.int .u8 x.p0,.int .u8 x.p1,.int .u8 x.p2,.int .u8 x.p3,sG,sA],.agg #[.int .u8 g.kind,.int .u8 g.i0,.int .u8 g.i1,.int .u8 g.i2],.slice A n c] W
  fun e w'=>(∃A' m cc,e=.returned (.agg #[.int .u8 G.kind,.slice A' m cc,.int .i64 G.mem,.int .i64 G.bit])∧InG w' T (Value.slice A n c).ownBlock (.slice A' m cc) G.ins)∧Below wr.heap.size wr w':=by
 subst hn hG hgx
 have hlen:=gatesTo_len x k
 have hbl:=baseN_len x
 have h1:=firstN_le x
 have h2:=dffsN_le x
 have hns:=hnr.reads (fun j hj=>by
  have:=gatesTo_kind x hx k (by omega) ((gatesTo x k).getD j default) (getD_mem_nd hj)
  omega)
 have hm2:(if x.mem=true then 2 else 0)≤2:=by split<;>omega
 refine (gate_any x.bus _ (hx.gates k hk) (gatesTo x k) _ _ _ _ _ _ _ _ _ _ _ A c W wr.heap.size hb.size (hns.below hb) (by omega) (by omega)).mono fun e w' ⟨⟨A',cc,h3,h4,h5⟩,h6⟩=>?_
 refine⟨⟨A',_,cc,h3,A',cc,rfl,h4,fun _ a ha=>?_⟩,joinB hb h6⟩
 have h7:=h5 a ha
 have h8:=hb.size
 have h9:=how.low
 refine⟨by omega,fun e=>?_⟩
 have:=(World.ownsRow.lt hnr.row _ e).2
 omega
theorem own_at{v:Value}{g9 H n c:Nat}(h:v.ownBlock=some g9∨g9=H):(Value.slice (some ⟨g9,0,none⟩) n c).ownBlock=v.ownBlock∨(Value.slice (some ⟨g9,0,none⟩) n c).ownBlock=some H:=by
 rcases h with h|h
 ·exact .inl h.symm
 ·exact .inr (by rw[←h];rfl)
theorem own_len{w:World}{T:Nat}{e:TypeId}{sz:Nat}{v:Value}{n m:Nat}{xs:List Value}(h:n=m)(hr:w.ownsRow T e sz v (m+1) xs):w.ownsRow T e sz v (n+1) xs:=by rw[h];exact hr
theorem outsTo_succ(x:Cx)(k:Nat):outsTo x (k+1)=outsTo x k++[ix (x.outs.getD k 0) (sizeN x)]:=by simp[outsTo,List.range_succ]
theorem outsTo_len(x:Cx)(k:Nat):(outsTo x k).length=k:=by simp[outsTo]
theorem stk_al'{w:World}{T k:Nat}{v:Value}{l:List Int}(h:Stk w T v l)(hk:l.length=k)(o:Obj):(w.alloc o).ownsRow T 3 1 v k (l.map (Value.int .i64)):=by
 subst hk;exact World.ownsRow.alloc h o
theorem stk_al{w:World}{T k:Nat}{v:Value}{l:List Int}(h:Stk w T v l)(hk:l.length=k)(o:Obj):(w.alloc o).drew.ownsRow T 3 1 v k (l.map (Value.int .i64)):=stk_al' h hk o
theorem stk_of{w:World}{T k:Nat}{v:Value}{l l':List Int}{y:Int}(e:l'=l++[y])(hk:l.length=k)(h:w.ownsRow T 3 1 v (k+1) (l.map (Value.int .i64)++[.int .i64 y])):Stk w T v l':=by
 subst e hk
 unfold Stk
 rw[List.length_append,List.map_append]
 exact h
def nameV(k:Nat):List Value:=(List.range k).map fun i=>Value.string (nameB i)
theorem nameV_succ(k:Nat):nameV (k+1)=nameV k++[.string (nameB k)]:=by simp[nameV,List.range_succ]
theorem dffTo_kinds(x:Cx)(hx:Cok x):∀k,∀nd∈dffTo x k,0≤nd.kind∧nd.kind≤15
 |0=>gatesTo_kind x hx _ (by unfold gatesN;omega)
 |k+1=>by
  intro nd hnd
  rw[dffTo]at hnd
  rcases List.mem_or_eq_of_mem_set hnd with h|rfl
  ·exact dffTo_kinds x hx k nd h
  ·exact⟨show (0:Int)≤14 by decide,show (14:Int)≤15 by decide⟩
theorem ss_of{w:World}{T k:Nat}{v:Value}(h:w.ownsRow T 9 1 v k (nameV k)):Ss w w.heap.size v ((List.range k).map nameB):=by
 rcases id h.2 with⟨rfl,hn⟩| ⟨g,cap,cur,rfl,hb,hg,hle,hm,-⟩
 ·subst hn;exact Arr.nil _ _ _ _ _
 ·refine⟨_,g,0,cap,by simp,fun _=>rfl,by simpa using hle,by simpa using Nat.le_trans hle hm,fun j hj=>⟨(Array.getElem?_eq_some_iff.1 hg).1,?_⟩⟩
  have hj':j<k:=by simpa using hj
  have e:((List.range k).map nameB).getD j ByteArray.empty=nameB j:=by simp[hj',List.getD_eq_getElem?_getD]
  rw[e]
  refine⟨?_,by show 3≤maxLen;unfold maxLen;omega⟩
  rw[Nat.zero_add,h.cellAt _ (by omega),Nat.mul_one]
  simp[nameV,hj']
theorem of_fin{x:Cx}(hx:Cok x){V1 wF:World}{T T2 H:Nat}{sN sS sM sO:Value}{ss:List Value}(hn:NR V1 T sN (nodesN x) ss)(hnm:V1.ownsRow T2 9 1 sS (sizeN x) (nameV (sizeN x)))(hT2:T≤T2)(hM:Ms wF wF.heap.size sM (memsN x))
 (ho:Stk wF H sO (outsTo x (outsN x)++[(sizeN x:Int)-1])) (hk:Kp T none V1 wF):Cir wF wF.heap.size (.agg #[sN,sS,sM,sO]) (ofC x):=by
 have hz:=sizeN_le x
 refine⟨_,_,_,_,rfl,(hn.keep hk).reads (fun k hk'=>?_),ss_of (own_kp hnm hT2 hk (Classical.em _)),hM,?_⟩
 ·have h:=dffTo_kinds x hx (dffsN x) ((nodesN x).getD k default) (getD_mem_nd hk')
  omega
 ·refine ho.all ?_
  rw[List.length_append,outsTo_len]
  have:outsN x≤3:=by unfold outsN;omega
  simp[maxLen];omega
theorem info_node:(Tryd.prog.info? 57).map (fun i=>(i.zero,i.size,i.bytes))=some (some (.agg #[.int .u8 0,.slice none 0 0,.int .i64 0,.int .i64 0]),4,48):=by kernel_rfl
theorem rep_succ(k:Nat)(x:Nd):List.replicate k x++[x]=List.replicate (k+1) x:=by rw[List.replicate_succ']
theorem four_new(w:World)(a b c d:Value)(t:TypeId){n:Nat}(hn:n=w.heap.size):∀(j:Nat) (x:Value),[a,b,c,d][j]? =some x→(w.alloc (.cells #[a,b,c,d] t)).cell? ((⟨n,0,none⟩:Addr).add j)=some x:=by
 subst hn
 intro j x hj
 have hadd:(⟨w.heap.size,0,none⟩:Addr).add j=⟨w.heap.size,j,none⟩:=by unfold Addr.add;split<;>simp_all
 rw[hadd,World.cell?_alloc_at _ _ _ _ rfl]
 simpa using hj
theorem eight_new(w:World)(a b c d e f g h:Value)(t:TypeId){n:Nat}(hn:n=w.heap.size):∀(j:Nat) (x:Value),[a,b,c,d,e,f,g,h][j]? =some x→(w.alloc (.cells #[a,b,c,d,e,f,g,h] t)).cell? ((⟨n,0,none⟩:Addr).add j)=some x:=by
 subst hn
 intro j x hj
 have hadd:(⟨w.heap.size,0,none⟩:Addr).add j=⟨w.heap.size,j,none⟩:=by unfold Addr.add;split<;>simp_all
 rw[hadd,World.cell?_alloc_at _ _ _ _ rfl]
 simpa using hj
theorem push_two{xs:List Value}{w wr w2:World}{q1 q2 q3 T n:Nat}{sN sS sM sO:Value}{o:Obj}{l:List Nd}{ss:List Value}{v':Value}(h:OW xs w q1 q2 q3 T sN sS sM sO wr)(hr:NR wr T sN l ss)(hn:l.length=n)
 (hown:w2.ownsRow T 57 4 v' (n+2) (ndCs l ss++[.int .u8 15,.slice none 0 0,.int .i64 0,.int .i64 0,.int .u8 15,.slice none 0 0,.int .i64 0,.int .i64 1])) (hgr:(wr.alloc o).grownBy w2 sN.ownBlock) (hloc:v'.ownBlock=sN.ownBlock∨v'.ownBlock=some (wr.alloc o).heap.size):
 OW xs w q1 q2 q3 T sN sS sM sO w2∧NR w2 T v' (l++[⟨15,[],0,0⟩,⟨15,[],0,1⟩]) (ss++[.slice none 0 0,.slice none 0 0]):=by
 subst hn
 refine⟨(h.next ((Below.refl _ _).alloc (Nat.le_refl _) o)).grown hgr (fun q hq=>(World.ownsRow.lt hr.row q hq).1),(hr.keep (Kp.alloc _ _ _ _)).app rfl (fun k hk=>?_) hown hgr hloc⟩
 have hk2:k=0∨k=1:=by simp at hk;omega
 rcases hk2 with rfl|rfl
 ·exact InG.nil _ _ _
 ·exact InG.nil _ _ _
end Go.Proofs.YtjdjcaobkmpoeaaDoor
