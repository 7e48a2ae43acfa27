/- The texts Rgf Pure Cka Bas. -/
import Derived.RangeFuncNested
import Derived.RangeFuncBound
import Derived.RangeFuncCalls
import Derived.RangeFuncLeaves
import Derived.WalkKit
import Derived.OwnWalkIn
import Derived.TacticsInMore
import Derived.LoopNIn
import Derived.LoopIn
import Derived.Below
import Derived.Test.YtcbllelkgniogaaDoorRows
import Derived.WalkSpells
import Derived.WalkLawsBesides
import Derived.Lib.Hide
import Derived.BigQuiet
import Derived.Deep.Draws
import Derived.WalkSmall
import Derived.StillTailTactics
import Derived.Laws.StructEq
import Derived.Deep.RegionWith
namespace Go.Proofs.YtcbllelkgniogaaDoor
open Go.RowKit
def Kx(B gx:Nat)(V V':World):Prop:=∀b,b<B→b≠gx→V'.heap[b]? =V.heap[b]?
theorem Kx.refl(B gx:Nat)(V:World):Kx B gx V V:=fun _ _ _=>rfl
theorem Kx.trans{B gx:Nat}{V V' V2:World}(h:Kx B gx V V')(k:Kx B gx V' V2):Kx B gx V V2:=fun b h1 h2=>(k b h1 h2).trans (h b h1 h2)
theorem Kx.cell{B gx:Nat}{V V':World}(h:Kx B gx V V'){p:Addr}(h1:p.block<B)(h2:p.block≠gx):V'.cell? p=V.cell? p:=World.cell?_of_block (h p.block h1 h2)
theorem Kx.putObj{B gx:Nat}{V:World}{l:Nat}(hl:B≤l)(o:Obj):Kx B gx V (V.putObj l o):=fun b h1 _=>World.putObj_heap_other (by omega)
theorem Kx.grown{B gx:Nat}{V V':World}{row:Option Nat}(h:V.grownBy V' row)(hB:B≤V.heap.size)(hr:row=none∨row=some gx):Kx B gx V V':=fun b h1 h2=>h.block b (by omega) (by rcases hr with rfl|rfl<;>simp[h2])
theorem Kx.of_below{B C gx:Nat}{V V':World}(h:Below C V V')(hB:B≤C):Kx B gx V V':=fun b h1 _=>h.block b (by omega)
section
variable {α:Type} {F:Fence} {n:Nat} {P:Program}
def SeqAll(F:Fence)(n:Nat)(P:Program)(gf:Nat)(lb:Array Value)(encs:α→Array Value)(B gx:Nat)(zs:List α)(w:World):Prop:=
 ∀(l:Nat) (J:Nat→World→Prop) (W:World),Below w.heap.size w W→
  (∀k x V,zs[k]? =some x→J k V→YieldAt F (n-1) P l (encs x) V fun e V'=>e=.returned (.bool true)∧J (k+1) V'∧Kx B gx V V')→
  J 0 W→CallsIn F n P gf (#[.func (.yield l) #[] #[]]++lb) W fun e V'=>(∃v,e=.returned v)∧J zs.length V'
theorem range_all{g:Operand}{ps:Array Tmp}{assign body:Code}{Q:Exit→Act→World→Prop}{a:Act}{w:World}{gf:Nat}{lb:Array Value}{encs:α→Array Value}{B gx:Nat}{zs:List α}
 (hro:F.round=none) (h1:1≤n) (hg:a.eval g=.func (.func gf) #[] lb) (hF:F.fn gf) (hen:∀args V,(callFunc gf args).run P V=.ok (.enter gf args) V)
 (hseq:SeqAll F (n-1) P gf lb encs B gx zs w) (hB:B≤w.heap.size) (hps:∀x,(encs x).size=ps.size)
 (I:Nat→World→Prop) (hI:OwnFrom w.heap.size I) (h0:I 0 w) (at1:α→Act)
 (hassign:∀l x V (K:Act→World→Prop),K (at1 x) V→assign.wpIn (F.inRound l) (n-1-1) P (Exit.then K (fun _ _ _=>False)) { tmps:=(ps.zip (encs x)).foldl (fun t (p,v)=>t.setIfInBounds p v) a.tmps,defers:=[] } V)
 (hbody:∀l k x V,w.heap.size≤l→zs[k]? =some x→I k V→body.wpIn (F.inRound l) (n-1-1) P (fun e _ V'=>e=.normal∧KeepsFrom w.heap.size V V'∧Kx B gx V V'∧I (k+1) V') (at1 x) V)
 (hdone:∀D V,w.heap.size≤D→I zs.length V→V.heap[D]? =some (.deferred (some []))→Q .normal { a with defers:= { target:=.collected D,args:=#[] } ::a.defers } V):
 (Code.rangeFunc g ps assign body).wpIn F n P Q a w:=by
 refine wpIn_rangeFunc fun fn hfn=>?_
 rw[hro]
 generalize hd:w.heap.size=d at*
 let r:LoopState→Loop:=fun s=> { state:=s,pending:=none,fn,tmps:=a.tmps,params:=ps,assign,body,defers:=d }
 let J:Nat→World→Prop:=fun k V=>I k V∧V.heap[d+1]? =some (.loop (r .ready))∧V.heap[d]? =some (.deferred (some []))
 obtain⟨V0,hV0⟩:∃V0,V0=(w.alloc (.deferred (some []))).alloc (.loop (r .ready)):=⟨_,rfl⟩
 have hJ0:J 0 V0:=by
  refine⟨by rw[hV0];exact hI.alloc _ (hI.alloc _ h0),?_,?_⟩
  ·have:=World.alloc_heap_new (w.alloc (.deferred (some []))) (.loop (r .ready))
   rw[World.size_alloc,hd]at this
   rw[hV0];exact this
  ·have e1:=World.alloc_heap_new w (.deferred (some []))
   rw[hd]at e1
   rw[hV0]
   exact (Below.heap_alloc (w.alloc (.deferred (some []))) (.loop (r .ready)) d (by rw[World.size_alloc,hd];exact Nat.lt_succ_self d)).trans e1
 have hb0:Below d w V0:=by
  rw[hV0]
  have:=((Below.refl w.heap.size w).alloc (Nat.le_refl _) (.deferred (some []))).alloc (by simp) (.loop (r .ready))
  rwa [hd]at this
 have hround:∀k x V,zs[k]? =some x→J k V→YieldAt F (n-1-1) P (d+1) (encs x) V fun e V'=>e=.returned (.bool true)∧J (k+1) V'∧Kx B gx V V':=by
  rintro k x V hx ⟨hi,hl,hk⟩
  have hlt:d+1<V.heap.size:=(Array.getElem?_eq_some_iff.1 hl).1
  refine⟨fn,_,assign,body,run_yield (P:=P) (args:=encs x) hl (hps x),roundIn_of_wpIn hfn (hassign _ x V _ ⟨_,run_beginRound hl rfl,?_⟩)⟩
  have hl2:(V.putObj (d+1) (.loop (r .busy))).heap[d+1]? =some (.loop (r .busy)):=World.putObj_heap_same hlt
  have hk2:(V.putObj (d+1) (.loop (r .busy))).heap[d]? =some (.deferred (some [])):=(World.putObj_heap_other (by omega)).trans hk
  have hb2:Kx B gx V (V.putObj (d+1) (.loop (r .busy))):=Kx.putObj (by omega) _
  refine wpIn_mono (hbody _ k x _ (by omega) hx (hI.putObj _ hi (by omega) hl rfl)) ?_
  rintro e a3 V3 ⟨rfl,hkf,hbb,hi3⟩
  have hl3:=hkf.same _ _ (by omega) hl2 rfl
  have hk3:=hkf.same _ _ (Nat.le_refl _) hk2 rfl
  refine⟨_,_,run_endRound (P:=P) none hl3,rfl,⟨hI.putObj _ hi3 (by omega) hl3 rfl,?_,?_⟩,?_⟩
  ·exact World.putObj_heap_same (Array.getElem?_eq_some_iff.1 hl3).1
  ·exact (World.putObj_heap_other (by omega)).trans hk3
  ·exact hb2.trans (hbb.trans (Kx.putObj (by omega) _))
 refine⟨d+1,[{ target:=.collected d,args:=#[] }],V0, { target:=.fn (.func gf) lb,args:=#[.func (.yield (d+1)) #[] #[]] },V0,gf,#[.func (.yield (d+1)) #[] #[]]++lb,V0,?_,?_,?_,?_,fun _=>h1,?_⟩
 ·have:=run_enterLoop_outer (P:=P) (w:=w) fn a.tmps ps assign body
  rw[hd]at this
  rw[hV0];exact this
 ·simp only[resolve,hg]
  simp[go_sem]
 ·intro f' hf'
  simp[Target.leads]at hf'
  subst hf';exact hF
 ·simp[invoke,go_sem,hen]
 ·refine (hseq (d+1) J V0 (by rw[hd];exact hb0) hround hJ0).mono ?_
  rintro e V2 ⟨⟨v,rfl⟩,hi,hl,hk⟩
  exact⟨none,_,run_endLoop (P:=P) hl (by simp[r]),hdone _ _ (Nat.le_refl _) (hI.putObj _ hi (by omega) hl rfl) ((World.putObj_heap_other (by omega)).trans hk)⟩
end
def knw(a:Int):Bool:=a==0||a==1
def rd(a:Int):Int:=if knw a=true then a else 2
def nt(a:Int):Int:=if rd a=0 then 1 else if rd a=1 then 0 else 2
def tr(e d:Int):Int:=if rd e=0 then 3 else if rd e=1 then rd d else 2
def spansL:List Int:=[0,0,0,0,0,0,1,1,1,1,2,16,2,16,2,16,2,16,2,16,2,16,3,3,2,2,1,16,1,1,0,0]
def lo(k:Int):Int:=if 15<k then 0 else spansL.getD (2*k.toNat) 0
def hi(k:Int):Int:=if 15<k then-1 else spansL.getD (2*k.toNat+1) 0
structure Nd where
 kind:Int
 ins:List Int
 mem:Int
 bit:Int
instance ndInh:Inhabited Nd:=⟨⟨0,[],0,0⟩⟩
structure Mm where
 addr:List Int
 data:List Int
 write:Int
instance mmInh:Inhabited Mm:=⟨⟨[],[],0⟩⟩
structure Ck where
 nodes:List Nd
 names:List ByteArray
 mems:List Mm
 outs:List Int
def isIdx(n:Nat)(i:Int):Bool:=decide (0≤i)&&decide (i<(n:Int))
def cmb(k:Int):Bool:=decide (1≤k)&&decide (k≤13)
def depsOf(x:Nd):List Int:=if cmb x.kind=true then x.ins else []
def lat(lv:List Int)(x:Int):Int:=lv.getD x.toNat 0
def levf(lv:List Int)(l:List Int):Int:=l.foldl (fun a x=>max a (lat lv x+1)) 0
def dep(nodes:List Nd)(x:Int):List Int:=depsOf (nodes.getD x.toNat default)
theorem levf_snoc(lv l:List Int)(x:Int):levf lv (l++[x])=max (levf lv l) (lat lv x+1):=by simp[levf]
theorem foldl_max_ge(lv:List Int):∀(l:List Int) (a:Int),a≤l.foldl (fun a x=>max a (lat lv x+1)) a
 |[],a=>Int.le_refl a
 |x::l,a=>Int.le_trans (Int.le_max_left a _) (foldl_max_ge lv l _)
theorem foldl_max_mem(lv:List Int):∀(l:List Int) (a:Int) (x:Int),x∈l→lat lv x+1≤l.foldl (fun a x=>max a (lat lv x+1)) a
 |[],_,_,h=>by cases h
 |y::l,a,x,h=>by
  rcases List.mem_cons.1 h with rfl|h
  ·exact Int.le_trans (Int.le_max_right a _) (foldl_max_ge lv l _)
  ·exact foldl_max_mem lv l _ x h
theorem foldl_max_is(lv:List Int):∀(l:List Int) (a:Int),l.foldl (fun a x=>max a (lat lv x+1)) a=a∨∃x∈l,l.foldl (fun a x=>max a (lat lv x+1)) a=lat lv x+1
 |[],a=>.inl rfl
 |y::l,a=>by
  rcases foldl_max_is lv l (max a (lat lv y+1)) with h| ⟨x,hx,h⟩
  ·rw[List.foldl_cons,h]
   rcases Int.le_total a (lat lv y+1) with h'|h'
   ·exact .inr ⟨y,List.mem_cons_self,Int.max_eq_right h'⟩
   ·exact .inl (Int.max_eq_left h')
  ·exact .inr ⟨x,List.mem_cons_of_mem _ hx,h⟩
theorem levf_nonneg(lv l:List Int):0≤levf lv l:=foldl_max_ge lv l 0
theorem levf_mem{lv l:List Int}{x:Int}(h:x∈l):lat lv x+1≤levf lv l:=foldl_max_mem lv l 0 x h
theorem levf_is(lv l:List Int):levf lv l=0∨∃x∈l,levf lv l=lat lv x+1:=foldl_max_is lv l 0
theorem levf_congr{lv lv' l:List Int}(h:∀x∈l,lat lv x=lat lv' x):levf lv l=levf lv' l:=by
 have key:∀(l:List Int) (a:Int),(∀x∈l,lat lv x=lat lv' x)→l.foldl (fun a x=>max a (lat lv x+1)) a=l.foldl (fun a x=>max a (lat lv' x+1)) a:=by
  intro l
  induction l with
  |nil=>intro a _;rfl
  |cons y l ih=>
   intro a h
   rw[List.foldl_cons,List.foldl_cons,h y List.mem_cons_self]
   exact ih _ fun x hx=>h x (List.mem_cons_of_mem _ hx)
 exact key l 0 h
def Wf(nodes:List Nd):Prop:=∀i,i<nodes.length→∀x∈(nodes.getD i default).ins,0≤x∧x<(nodes.length:Int)
theorem Wf.dep{nodes:List Nd}(h:Wf nodes){i:Int}(hi:i.toNat<nodes.length){x:Int}(hx:x∈dep nodes i):0≤x∧x<(nodes.length:Int):=by
 unfold Proofs.YtcbllelkgniogaaDoor.dep depsOf at hx
 split at hx
 ·exact h _ hi x hx
 ·cases hx
def Lvl(nodes:List Nd)(L:List Int):Prop:=L.length=nodes.length∧∀i:Nat,i<nodes.length→lat L i=levf L (dep nodes i)
theorem Lvl.lt{nodes:List Nd}{L:List Int}(h:Lvl nodes L){i x:Int}(h0:0≤i)(hi:i<nodes.length)(hx:x∈dep nodes i):lat L x<lat L i:=by
 have:=h.2 i.toNat (by omega)
 rw[Int.toNat_of_nonneg h0]at this
 have:=levf_mem (lv:=L) hx
 omega
theorem Lvl.nonneg{nodes:List Nd}{L:List Int}(h:Lvl nodes L){i:Nat}(hi:i<nodes.length):0≤lat L i:=by
 rw[h.2 i hi];exact levf_nonneg _ _
theorem ext_lat{L L':List Int}(hl:L.length=L'.length)(h:∀i:Nat,i<L.length→lat L i=lat L' i):L=L':=by
 apply List.ext_getElem hl
 intro i h1 h2
 have:=h i h1
 simpa [lat,List.getD_eq_getElem?_getD,List.getElem?_eq_getElem h1,List.getElem?_eq_getElem h2]using this
def neg(lv:List Int):Nat:=lv.countP fun x=>decide (x<0)
theorem lat_set{lv:List Int}{i:Nat}(v:Int){x:Int}(h0:0≤x):lat (lv.set i v) x=if x=i∧i<lv.length then v else lat lv x:=by
 unfold lat
 rw[List.getD_eq_getElem?_getD,List.getD_eq_getElem?_getD,List.getElem?_set]
 by_cases h:i=x.toNat
 ·subst h
  by_cases hl:x.toNat<lv.length
  ·rw[if_pos rfl,if_pos hl,if_pos ⟨by omega,hl⟩];rfl
  ·rw[if_pos rfl,if_neg hl,if_neg (fun h=>hl h.2),List.getElem?_eq_none (by omega)]
 ·rw[if_neg h,if_neg (fun h'=>h (by omega))]
theorem neg_set{lv:List Int}{i:Nat}(hi:i<lv.length)(v:Int):neg (lv.set i v)+(if lat lv i<0 then 1 else 0)=neg lv+(if v<0 then 1 else 0):=by
 induction lv generalizing i with
 |nil=>simp at hi
 |cons a l ih=>
  cases i with
  |zero=>
   simp only[neg,List.set_cons_zero,List.countP_cons,lat,Int.natCast_zero,Int.toNat_zero,List.getD_cons_zero,decide_eq_true_eq]
   split<;>split<;>simp_all
  |succ i=>
   have:=ih (i:=i) (by simpa using hi)
   simp only[neg,List.set_cons_succ,List.countP_cons,lat,Int.toNat_natCast,List.getD_cons_succ,decide_eq_true_eq]at this ⊢
   by_cases h1:l.getD i 0<0<;>by_cases h2:v<0<;>by_cases h3:a<0<;>simp only[h1,h2,h3,if_true,if_false]at this ⊢ <;>omega
theorem neg_le(lv:List Int):neg lv≤lv.length:=List.countP_le_length
def Pth(nodes:List Nd):List Int→Prop
 |[]=>True
 |[_]=>True
 |a::b::l=>b∈dep nodes a∧Pth nodes (b::l)
theorem Pth.snoc{nodes:List Nd}{t x:Int}(hx:x∈dep nodes t):∀ {r:List Int},Pth nodes (r++[t])→Pth nodes (r++[t]++[x])
 |[],_=>⟨hx,trivial⟩
 |[a],h=>⟨h.1,hx,trivial⟩
 |a::b::r,h=>⟨h.1,Pth.snoc hx (r:=b::r) h.2⟩
theorem Pth.init{nodes:List Nd}{t:Int} :∀ {r:List Int},Pth nodes (r++[t])→Pth nodes r
 |[],_=>trivial
 |[_],_=>trivial
 |_::b::r,h=>⟨h.1,Pth.init (r:=b::r) h.2⟩
theorem Pth.le{nodes:List Nd}{L:List Int}(hL:Lvl nodes L){t:Int} :∀ {r:List Int},(∀y∈r++[t],0≤y∧y<(nodes.length:Int))→Pth nodes (r++[t])→∀x∈r++[t],lat L t≤lat L x
 |[],_,_,x,hx=>by
  obtain rfl:x=t:=by simpa using hx
  exact Int.le_refl _
 |[a],hr,h,x,hx=>by
  have ha:=hr a (by simp)
  have:=hL.lt ha.1 ha.2 h.1
  rcases List.mem_cons.1 hx with rfl|hx
  ·omega
  ·obtain rfl:x=t:=by simpa using hx
   exact Int.le_refl _
 |a::b::r,hr,h,x,hx=>by
  have ih:=Pth.le hL (r:=b::r) (fun y hy=>hr y (List.mem_cons_of_mem _ hy)) h.2
  rcases List.mem_cons.1 hx with rfl|hx
  ·have ha:=hr x (by simp)
   have h1:=hL.lt ha.1 ha.2 h.1
   have h2:=ih b (by simp)
   omega
  ·exact ih x hx
structure Dfs(nodes:List Nd)(lv st:List Int):Prop where
 len:lv.length=nodes.length
 vals:∀i:Nat,i<nodes.length→ -2≤lat lv i
 done:∀i:Nat,i<nodes.length→0≤lat lv i→(∀x∈dep nodes i,0≤lat lv x)∧lat lv i=levf lv (dep nodes i)∧lat lv i+neg lv<(nodes.length:Int)
 nodup:st.Nodup
 mem:∀x∈st,0≤x∧x<(nodes.length:Int)∧lat lv x<0
 wait:∀i:Nat,i<nodes.length→lat lv i= -2→(i:Int)∈st
 path:Pth nodes st
 low:∀r t,st=r++[t]→∀x∈r,lat lv x= -2
theorem Dfs.start(nodes:List Nd):Dfs nodes (List.replicate nodes.length (-1)) []:=by
 have hl:∀i:Nat,i<nodes.length→lat (List.replicate nodes.length (-1)) i= -1:=fun i hi=>by simp[lat,List.getD_eq_getElem?_getD,hi]
 refine⟨by simp,fun i hi=>(by rw[hl i hi];decide),fun i hi h=>(by rw[hl i hi]at h;omega),List.nodup_nil,fun x hx=>(by cases hx),fun i hi h=>(by rw[hl i hi]at h;omega),trivial,fun r t h=>by simp at h⟩
theorem Dfs.one{nodes:List Nd}{lv:List Int}(h:Dfs nodes lv []){k:Nat}(hk:k<nodes.length)(hf:lat lv k= -1):Dfs nodes lv [(k:Int)]:=
 ⟨h.len,h.vals,h.done,by simp,fun x hx=>by obtain rfl:x=k:=by simpa using hx
                                           exact⟨by omega,by omega,by omega⟩,fun i hi hw=>absurd (h.wait i hi hw) (by simp),trivial,fun r t e x hx=>by
  have:r=[]:=by
   have:=congrArg List.length e
   simp at this
   exact this
  subst this;cases hx⟩
theorem Dfs.mark{nodes:List Nd}{lv r:List Int}{t:Int}(h:Dfs nodes lv (r++[t])):Dfs nodes (lv.set t.toNat (-2)) (r++[t])∧(∀x∈r++[t],lat (lv.set t.toNat (-2)) x= -2)∧neg (lv.set t.toNat (-2))=neg lv:=by
 obtain⟨t0,t1,t2⟩:=h.mem t (by simp)
 have hlt:t.toNat<lv.length:=by rw[h.len];omega
 have hset:∀x:Int,0≤x→lat (lv.set t.toNat (-2)) x=if x=t then-2 else lat lv x:=fun x hx=>by
  rw[lat_set _ hx]
  by_cases e:x=t
  ·rw[if_pos ⟨by omega,hlt⟩,if_pos e]
  ·rw[if_neg (fun h=>e (by omega)),if_neg e]
 have hneg:neg (lv.set t.toNat (-2))=neg lv:=by
  have:=neg_set hlt (-2)
  rw[Int.toNat_of_nonneg t0,if_pos t2,if_pos (by decide)]at this
  omega
 have hdone:∀x:Int,0≤x→0≤lat lv x→lat (lv.set t.toNat (-2)) x=lat lv x:=fun x hx hd=>by
  rw[hset x hx,if_neg (fun e=>by subst e;omega)]
 refine⟨⟨by simp[h.len],fun i hi=>?_,fun i hi hd=>?_,h.nodup,fun x hx=>?_,fun i hi hw=>?_,h.path,fun r' t' e x hx=>?_⟩,fun x hx=>?_,hneg⟩
 ·rw[hset _ (by omega)];split
  ·decide
  ·exact h.vals i hi
 ·rw[hset _ (by omega)]at hd
  split at hd
  ·omega
  rename_i hne
  obtain⟨d1,d2,d3⟩:=h.done i hi hd
  have hdep:∀x∈dep nodes i,lat (lv.set t.toNat (-2)) x=lat lv x:=fun x hx=>by
   have h0:=d1 x hx
   by_cases hx0:0≤x
   ·exact hdone x hx0 h0
   ·have e1:x.toNat=0:=by omega
    by_cases ht:t=0
    ·exfalso;unfold lat at h0 t2;rw[e1]at h0;rw[ht]at t2;change lv.getD 0 0<0 at t2;omega
    ·unfold lat;rw[e1,List.getD_eq_getElem?_getD,List.getD_eq_getElem?_getD,List.getElem?_set,if_neg (by omega)]
  refine⟨fun x hx=>by rw[hdep x hx];exact d1 x hx,?_,?_⟩
  ·rw[hset _ (by omega),if_neg hne,d2];exact (levf_congr hdep).symm
  ·rw[hset _ (by omega),if_neg hne,hneg];exact d3
 ·obtain⟨a,b,c⟩:=h.mem x hx
  refine⟨a,b,?_⟩
  rw[hset x a];split
  ·decide
  ·exact c
 ·rw[hset _ (by omega)]at hw
  split at hw
  ·rename_i e;rw[e];simp
  ·exact h.wait i hi hw
 ·have hm:=h.mem x (by rw[e];simp[hx])
  rw[hset x hm.1];split
  ·rfl
  ·exact h.low r' t' e x hx
 ·have hm:=h.mem x hx
  rw[hset x hm.1]
  split
  ·rfl
  ·rename_i hne
   rcases List.mem_append.1 hx with hx|hx
   ·exact h.low r t rfl x hx
   ·exact absurd (by simpa using hx) hne
theorem Dfs.push{nodes:List Nd}{lv r:List Int}{t x:Int}(hw:Wf nodes)(h:Dfs nodes lv (r++[t]))(hall:∀y∈r++[t],lat lv y= -2)(hx:x∈dep nodes t)(hf:lat lv x= -1):Dfs nodes lv (r++[t]++[x]):=by
 obtain⟨t0,t1,t2⟩:=h.mem t (by simp)
 have hb:=hw.dep (i:=t) (by omega) hx
 refine⟨h.len,h.vals,h.done,?_,fun y hy=>?_,fun i hi he=>List.mem_append_left _ (h.wait i hi he),h.path.snoc hx,fun r' t' e y hy=>?_⟩
 ·refine List.nodup_append.2 ⟨h.nodup,by simp,fun a ha b hb'=>?_⟩
  obtain rfl:b=x:=by simpa using hb'
  intro e;subst e
  have:=hall a ha
  omega
 ·rcases List.mem_append.1 hy with hy|hy
  ·exact h.mem y hy
  ·obtain rfl:y=x:=by simpa using hy
   exact⟨hb.1,hb.2,by omega⟩
 ·obtain⟨rfl,-⟩:=List.append_inj' e.symm rfl
  exact hall y hy
theorem Dfs.pop{nodes:List Nd}{lv r:List Int}{t:Int}(hw:Wf nodes)(h:Dfs nodes lv (r++[t]))(hall:∀y∈r++[t],lat lv y= -2)(hd:∀x∈dep nodes t,0≤lat lv x):
 Dfs nodes (lv.set t.toNat (levf lv (dep nodes t))) r∧neg (lv.set t.toNat (levf lv (dep nodes t)))+1=neg lv∧0≤lat (lv.set t.toNat (levf lv (dep nodes t))) t:=by
 obtain⟨t0,t1,t2⟩:=h.mem t (by simp)
 have hlt:t.toNat<lv.length:=by rw[h.len];omega
 have h0:=levf_nonneg lv (dep nodes t)
 have hset:∀x:Int,0≤x→lat (lv.set t.toNat (levf lv (dep nodes t))) x=if x=t then levf lv (dep nodes t) else lat lv x:=fun x hx=>by
  rw[lat_set _ hx]
  by_cases e:x=t
  ·rw[if_pos ⟨by omega,hlt⟩,if_pos e]
  ·rw[if_neg (fun h=>e (by omega)),if_neg e]
 have hneg:neg (lv.set t.toNat (levf lv (dep nodes t)))+1=neg lv:=by
  have:=neg_set hlt (levf lv (dep nodes t))
  rw[Int.toNat_of_nonneg t0,if_pos t2,if_neg (by omega)]at this
  omega
 have hnl:neg lv≤nodes.length:=h.len▸neg_le lv
 have hrt:t ∉ r:=fun hm=>(List.nodup_append.1 h.nodup).2.2 t hm t (by simp) rfl
 have hdep:∀i:Int,i.toNat<nodes.length→(∀x∈dep nodes i,0≤lat lv x)→∀x∈dep nodes i,lat (lv.set t.toNat (levf lv (dep nodes t))) x=lat lv x:=fun i hi hi' x hx=>by
  have hb:=hw.dep hi hx
  rw[hset x hb.1,if_neg (fun e=>by subst e;have:=hi' x hx;omega)]
 refine⟨⟨by simp[h.len],fun i hi=>?_,fun i hi hi'=>?_,(List.nodup_append.1 h.nodup).1,fun x hx=>?_,fun i hi hi'=>?_,h.path.init,fun r' t' e x hx=>?_⟩,hneg,by rw[hset t t0,if_pos rfl];exact h0⟩
 ·rw[hset _ (by omega)];split
  ·omega
  ·exact h.vals i hi
 ·rw[hset _ (by omega)]at hi' ⊢
  split at hi'
  ·rename_i e
   rw[if_pos e]
   have e':dep nodes (i:Int)=dep nodes t:=by rw[e]
   rw[e']
   refine⟨fun x hx=>?_,(levf_congr (hdep t (by omega) hd)).symm,?_⟩
   ·rw[hdep t (by omega) hd x hx];exact hd x hx
   ·rcases levf_is lv (dep nodes t) with e0| ⟨x,hx,e0⟩
    ·omega
    ·have hb:=hw.dep (i:=t) (by omega) hx
     have:=(h.done x.toNat (by omega) (by rw[Int.toNat_of_nonneg hb.1];exact hd x hx)).2.2
     rw[Int.toNat_of_nonneg hb.1]at this
     omega
  ·rename_i hne
   rw[if_neg hne]
   obtain⟨d1,d2,d3⟩:=h.done i hi hi'
   have hh:=hdep i (by simpa using hi) d1
   refine⟨fun x hx=>by rw[hh x hx];exact d1 x hx,by rw[d2];exact (levf_congr hh).symm,by omega⟩
 ·obtain⟨a,b,c⟩:=h.mem x (List.mem_append_left _ hx)
  refine⟨a,b,?_⟩
  rw[hset x a,if_neg (fun e:x=t=>hrt (e▸hx))];exact c
 ·rw[hset _ (by omega)]at hi'
  split at hi'
  ·omega
  ·rename_i hne
   rcases List.mem_append.1 (h.wait i hi hi') with hm|hm
   ·exact hm
   ·exact absurd (by simpa using hm) hne
 ·have hx':x∈r:=by rw[e];simp[hx]
  have hm:=h.mem x (List.mem_append_left _ hx')
  rw[hset x hm.1,if_neg (fun e:x=t=>hrt (e▸hx'))]
  exact h.low r t rfl x hx'
theorem Dfs.fail{nodes:List Nd}{lv r:List Int}{t x:Int}(hw:Wf nodes)(h:Dfs nodes lv (r++[t]))(hx:x∈dep nodes t)(hf:lat lv x= -2):¬∃L,Lvl nodes L:=by
 rintro⟨L,hL⟩
 obtain⟨t0,t1,t2⟩:=h.mem t (by simp)
 have hb:=hw.dep (i:=t) (by omega) hx
 have hm:=h.wait x.toNat (by omega) (by rw[Int.toNat_of_nonneg hb.1];exact hf)
 rw[Int.toNat_of_nonneg hb.1]at hm
 have h1:=Pth.le hL (fun y hy=>⟨(h.mem y hy).1,(h.mem y hy).2.1⟩) h.path x hm
 have h2:=hL.lt t0 t1 hx
 omega
theorem Dfs.finish{nodes:List Nd}{lv:List Int}(h:Dfs nodes lv [])(hd:∀i:Nat,i<nodes.length→0≤lat lv i):Lvl nodes lv∧∀i:Nat,i<nodes.length→lat lv i<(nodes.length:Int):=
 ⟨⟨h.len,fun i hi=>(h.done i hi (hd i hi)).2.1⟩,fun i hi=>by have:=(h.done i hi (hd i hi)).2.2;omega⟩
theorem Dfs.room{nodes:List Nd}{lv st:List Int}(h:Dfs nodes lv st):st.length≤neg lv:=by
 have key:∀(st:List Int) (lv:List Int),st.Nodup→(∀x∈st,0≤x∧x.toNat<lv.length∧lat lv x<0)→st.length≤neg lv:=by
  intro st
  induction st with
  |nil=>intro lv _ _;simp
  |cons a st ih=>
   intro lv hn hm
   obtain⟨a0,a1,a2⟩:=hm a List.mem_cons_self
   have:=neg_set a1 0
   rw[Int.toNat_of_nonneg a0,if_pos a2,if_neg (by decide)]at this
   have ih':=ih (lv.set a.toNat 0) (List.nodup_cons.1 hn).2 (fun x hx=>by
    obtain⟨x0,x1,x2⟩:=hm x (List.mem_cons_of_mem _ hx)
    refine⟨x0,by simpa using x1,?_⟩
    rw[lat_set _ x0,if_neg (fun e=>(List.nodup_cons.1 hn).1 ?_)]
    ·exact x2
    ·have:x=a:=by omega
     exact this▸hx)
   simp only[List.length_cons]
   omega
 exact key st lv h.nodup fun x hx=>by
  obtain⟨a,b,c⟩:=h.mem x hx
  exact⟨a,by rw[h.len];omega,c⟩
theorem ret_int{k:IntKind}{a b:Int}(h:a=b):Ending.returned (.int k a)=.returned (.int k b):=by rw[h]
theorem ret_bool{a b:Bool}(h:a=b):Ending.returned (.bool a)=.returned (.bool b):=by rw[h]
theorem named{α:Type}(x:α):∃y,Hid (y=x):=⟨x,Lib.hid rfl⟩
theorem rel{P:Program}{f:FuncId}{args:Array Value}{w0 w:World}{v:Value}(h:Calls P f args w fun e w'=>e=.returned v∧Below w.heap.size w w')(hb:Below w0.heap.size w0 w):
 Calls P f args w fun e w'=>e=.returned v∧Below w0.heap.size w0 w':=h.mono fun _ _ ⟨he,h'⟩=>⟨he,hb.trans (h'.mono hb.size)⟩
theorem joinB{w0 w1 w2:World}(hb:Below w0.heap.size w0 w1)(hp:Below w1.heap.size w1 w2):Below w0.heap.size w0 w2:=hb.trans (hp.mono hb.size)
theorem below_new{w0 w:World}(hb:Below w0.heap.size w0 w)(o:Obj):Below w0.heap.size w0 (w.alloc o):=hb.alloc hb.size o
theorem bcell{W w1:World}(hb:Below W.heap.size W w1):(∀b o,b<W.heap.size→w1.cell? ⟨b,o,none⟩=W.cell? ⟨b,o,none⟩)∧(∀b o,b<W.heap.size→w1.frozen? ⟨b,o,none⟩=W.frozen? ⟨b,o,none⟩):=
 ⟨fun b o h=>hb.cell (p:=⟨b,o,none⟩) h,fun b o h=>hb.frozen (p:=⟨b,o,none⟩) h⟩
structure Beh(w:World) where
 x:World
 below:Below w.heap.size w x
instance behNonempty (w:World):Nonempty (Beh w):=⟨⟨w,Below.refl _ _⟩⟩
theorem region_class{P:Program}{id:Nat}{Q:Exit→Act→World→Prop}{a:Act}{w0 w:World}{l:List Oper}(hb:Below w0.heap.size w0 w)(hm:P.follows .mixedOrders=true)(hB:Region.lexB .any l.toArray=true)
 (h:wpQuiet P l.toArray (fun w'=>∃x:Beh w0,w'=x.x) (fun a'=>∀w',(∃x:Beh w0,w'=x.x)→Q .normal a' w') l a):(Code.region id l.toArray true).wp P Q a w:=
 wp_region_quiet (C:=fun w'=>∃x:Beh w0,w'=x.x) hm hB ⟨⟨w.drew,hb.drew⟩,rfl⟩ (by simpa using h)
theorem beh_of{P:Program}{f:FuncId}{args:Array Value}{w0 w1:World}{v:Value}(h:Calls P f args w1 fun e w'=>e=.returned v∧Below w0.heap.size w0 w'):
 Calls P f args w1 fun e w'=>e=.returned v∧∃y:Beh w0,w'=y.x:=h.mono fun _ w' ⟨he,hb⟩=>⟨he,⟨w',hb⟩,rfl⟩
theorem cell_lt{W:World}{g i:Nat}{v:Value}(h:W.cell? ⟨g,i,none⟩=some v):g<W.heap.size:=by
 rcases Nat.lt_or_ge g W.heap.size with hl|hl
 ·exact hl
 ·simp[World.cell?,Array.getElem?_eq_none hl]at h
def Tabs (w : World) : Prop := 6 ≤ w.heap.size ∧ (∀ k, k < 32 → w.cell? ⟨3, k, none⟩ = some (.int .i64 (spansL.getD k 0)))
theorem Tabs.below{w w':World}(h:Tabs w)(hb:Below w.heap.size w w'):Tabs w':=by
 obtain⟨h1,h2⟩:=h
 refine⟨Nat.le_trans h1 hb.size,fun k hk=>?_⟩
 rw [← h2 k hk]; exact hb.cell (p := ⟨3, k, none⟩) (Nat.lt_of_lt_of_le (show _ < 6 by simp) h1)
theorem Tabs.drewN{w:World}(h:Tabs w)(n:Nat):Tabs (w.drewN n):=h
theorem kinds{k:Int}(h0:0≤k)(h1:¬15<k):k=0∨k=1∨k=2∨k=3∨k=4∨k=5∨k=6∨k=7∨k=8∨k=9∨k=10∨k=11∨k=12∨k=13∨k=14∨k=15:=by omega
set_option maxHeartbeats 1000000 in
theorem fanin_any(k:Int)(h0:0≤k)(w:World)(ht:Tabs w):
 Calls Tryd.prog 84 #[.int .u8 k] w fun e w'=>e=.returned (.tuple #[.int .i64 (lo k),.int .i64 (hi k)])∧∃n,w'=w.drewN n:=by
 by_cases hk:15<k
 ·have e1:lo k=0:=by simp[lo,hk]
  have e2:hi k= -1:=by simp[hi,hk]
  rw[e1,e2]
  clear e1 e2 ht
  go_enter Tryd.func84,Tryd.ntmps84
  go_wp2
  go_ret2
  exact⟨rfl,0,rfl⟩
 ·obtain⟨-,ht⟩:=ht
  rcases kinds h0 hk with rfl|rfl|rfl|rfl|rfl|rfl|rfl|rfl|rfl|rfl|rfl|rfl|rfl|rfl|rfl|rfl
  ·have c0:=ht 0 (by decide)
   have c1:=ht 1 (by decide)
   simp only[spansL,List.getD_cons_zero,List.getD_cons_succ]at c0 c1
   clear ht
   go_enter Tryd.func84,Tryd.ntmps84
   go_wp2
   go_quiet (fail)
   go_wp2
   go_ret2
   exact⟨rfl,_,rfl⟩
  ·have c0:=ht 2 (by decide)
   have c1:=ht 3 (by decide)
   simp only[spansL,List.getD_cons_zero,List.getD_cons_succ]at c0 c1
   clear ht
   go_enter Tryd.func84,Tryd.ntmps84
   go_wp2
   go_quiet (fail)
   go_wp2
   go_ret2
   exact⟨rfl,_,rfl⟩
  ·have c0:=ht 4 (by decide)
   have c1:=ht 5 (by decide)
   simp only[spansL,List.getD_cons_zero,List.getD_cons_succ]at c0 c1
   clear ht
   go_enter Tryd.func84,Tryd.ntmps84
   go_wp2
   go_quiet (fail)
   go_wp2
   go_ret2
   exact⟨rfl,_,rfl⟩
  ·have c0:=ht 6 (by decide)
   have c1:=ht 7 (by decide)
   simp only[spansL,List.getD_cons_zero,List.getD_cons_succ]at c0 c1
   clear ht
   go_enter Tryd.func84,Tryd.ntmps84
   go_wp2
   go_quiet (fail)
   go_wp2
   go_ret2
   exact⟨rfl,_,rfl⟩
  ·have c0:=ht 8 (by decide)
   have c1:=ht 9 (by decide)
   simp only[spansL,List.getD_cons_zero,List.getD_cons_succ]at c0 c1
   clear ht
   go_enter Tryd.func84,Tryd.ntmps84
   go_wp2
   go_quiet (fail)
   go_wp2
   go_ret2
   exact⟨rfl,_,rfl⟩
  ·have c0:=ht 10 (by decide)
   have c1:=ht 11 (by decide)
   simp only[spansL,List.getD_cons_zero,List.getD_cons_succ]at c0 c1
   clear ht
   go_enter Tryd.func84,Tryd.ntmps84
   go_wp2
   go_quiet (fail)
   go_wp2
   go_ret2
   exact⟨rfl,_,rfl⟩
  ·have c0:=ht 12 (by decide)
   have c1:=ht 13 (by decide)
   simp only[spansL,List.getD_cons_zero,List.getD_cons_succ]at c0 c1
   clear ht
   go_enter Tryd.func84,Tryd.ntmps84
   go_wp2
   go_quiet (fail)
   go_wp2
   go_ret2
   exact⟨rfl,_,rfl⟩
  ·have c0:=ht 14 (by decide)
   have c1:=ht 15 (by decide)
   simp only[spansL,List.getD_cons_zero,List.getD_cons_succ]at c0 c1
   clear ht
   go_enter Tryd.func84,Tryd.ntmps84
   go_wp2
   go_quiet (fail)
   go_wp2
   go_ret2
   exact⟨rfl,_,rfl⟩
  ·have c0:=ht 16 (by decide)
   have c1:=ht 17 (by decide)
   simp only[spansL,List.getD_cons_zero,List.getD_cons_succ]at c0 c1
   clear ht
   go_enter Tryd.func84,Tryd.ntmps84
   go_wp2
   go_quiet (fail)
   go_wp2
   go_ret2
   exact⟨rfl,_,rfl⟩
  ·have c0:=ht 18 (by decide)
   have c1:=ht 19 (by decide)
   simp only[spansL,List.getD_cons_zero,List.getD_cons_succ]at c0 c1
   clear ht
   go_enter Tryd.func84,Tryd.ntmps84
   go_wp2
   go_quiet (fail)
   go_wp2
   go_ret2
   exact⟨rfl,_,rfl⟩
  ·have c0:=ht 20 (by decide)
   have c1:=ht 21 (by decide)
   simp only[spansL,List.getD_cons_zero,List.getD_cons_succ]at c0 c1
   clear ht
   go_enter Tryd.func84,Tryd.ntmps84
   go_wp2
   go_quiet (fail)
   go_wp2
   go_ret2
   exact⟨rfl,_,rfl⟩
  ·have c0:=ht 22 (by decide)
   have c1:=ht 23 (by decide)
   simp only[spansL,List.getD_cons_zero,List.getD_cons_succ]at c0 c1
   clear ht
   go_enter Tryd.func84,Tryd.ntmps84
   go_wp2
   go_quiet (fail)
   go_wp2
   go_ret2
   exact⟨rfl,_,rfl⟩
  ·have c0:=ht 24 (by decide)
   have c1:=ht 25 (by decide)
   simp only[spansL,List.getD_cons_zero,List.getD_cons_succ]at c0 c1
   clear ht
   go_enter Tryd.func84,Tryd.ntmps84
   go_wp2
   go_quiet (fail)
   go_wp2
   go_ret2
   exact⟨rfl,_,rfl⟩
  ·have c0:=ht 26 (by decide)
   have c1:=ht 27 (by decide)
   simp only[spansL,List.getD_cons_zero,List.getD_cons_succ]at c0 c1
   clear ht
   go_enter Tryd.func84,Tryd.ntmps84
   go_wp2
   go_quiet (fail)
   go_wp2
   go_ret2
   exact⟨rfl,_,rfl⟩
  ·have c0:=ht 28 (by decide)
   have c1:=ht 29 (by decide)
   simp only[spansL,List.getD_cons_zero,List.getD_cons_succ]at c0 c1
   clear ht
   go_enter Tryd.func84,Tryd.ntmps84
   go_wp2
   go_quiet (fail)
   go_wp2
   go_ret2
   exact⟨rfl,_,rfl⟩
  ·have c0:=ht 30 (by decide)
   have c1:=ht 31 (by decide)
   simp only[spansL,List.getD_cons_zero,List.getD_cons_succ]at c0 c1
   clear ht
   go_enter Tryd.func84,Tryd.ntmps84
   go_wp2
   go_quiet (fail)
   go_wp2
   go_ret2
   exact⟨rfl,_,rfl⟩
end Go.Proofs.YtcbllelkgniogaaDoor
