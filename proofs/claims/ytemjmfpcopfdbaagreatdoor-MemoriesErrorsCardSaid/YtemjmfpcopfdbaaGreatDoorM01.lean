/- The texts Pure Cka Bas Sli Nam. -/
import Derived.Below
import Derived.Test.YtemjmfpcopfdbaaGreatDoorRows
import Derived.WalkKit
import Derived.WalkSpells
import Derived.WalkLawsBesides
import Derived.Lib.Hide
import Derived.BigQuiet
import Derived.Deep.Draws
import Derived.WalkSmall
import Derived.StillTailTactics
import Derived.Laws.StructEq
import Derived.Deep.RegionWith
namespace Go.Proofs.YtemjmfpcopfdbaaGreatDoor
def cln(a:Int):Int:=if 3<a then 2 else a
def knw(a:Int):Bool:=a==0||a==1
def rd(a:Int):Int:=if knw a=true then a else 2
def blw(a b:Int):Bool:=cln a==cln b||cln a==2
def nt(a:Int):Int:=if rd a=0 then 1 else if rd a=1 then 0 else 2
def mx(s a b:Int):Int:=if rd s=0 then rd a else if rd s=1 then rd b else if rd a=rd b then rd a else 2
def tr(e d:Int):Int:=if rd e=0 then 3 else if rd e=1 then rd d else 2
def anyIs(f:Int→Int)(x:Int)(l:List Int):Bool:=l.any fun v=>f v==x
def andL(l:List Int):Int:=if anyIs rd 0 l=true then 0 else if anyIs rd 2 l=true then 2 else 1
def orL(l:List Int):Int:=if anyIs rd 1 l=true then 1 else if anyIs rd 2 l=true then 2 else 0
def par:List Int→Int
 |[]=>0
 |v::l=>if v=1 then 1-par l else par l
def xorL(l:List Int):Int:=if anyIs rd 2 l=true then 2 else par l
def conL(l:List Int):Bool:=anyIs cln 0 l&&anyIs cln 1 l
def busL(l:List Int):Int:=if (anyIs cln 2 l||conL l)=true then 2 else if anyIs cln 0 l=true then 0 else if anyIs cln 1 l=true then 1 else 3
theorem knw_cases(a:Int):(a=0∧knw a=true∧rd a=0∧cln a=0)∨(a=1∧knw a=true∧rd a=1∧cln a=1)∨(a≠0∧a≠1∧knw a=false∧rd a=2):=by
 by_cases h0:a=0
 ·subst h0;exact .inl ⟨rfl,by decide,by decide,by decide⟩
 ·by_cases h1:a=1
  ·subst h1;exact .inr (.inl ⟨rfl,by decide,by decide,by decide⟩)
  ·refine .inr (.inr ⟨h0,h1,?_,?_⟩)
   ·simp[knw,h0,h1]
   ·simp[rd,knw,h0,h1]
theorem rd_cases(a:Int):rd a=0∨rd a=1∨rd a=2:=by
 rcases knw_cases a with⟨_,_,h,_⟩| ⟨_,_,h,_⟩| ⟨_,_,_,h⟩ <;>simp[h]
theorem cln_cases(a:Int)(h:0≤a):cln a=0∨cln a=1∨cln a=2∨cln a=3:=by
 unfold cln;split<;>omega
theorem anyIs_yes{g:Int→Int}{x:Int}{l:List Int}(k:Nat)(hk:k<l.length)(h:(g (l.getD k 0)==x)=true):anyIs g x l=true:=by
 refine List.any_eq_true.2 ⟨l[k],List.getElem_mem hk,?_⟩
 rw[List.getD_eq_getElem?_getD,List.getElem?_eq_getElem hk]at h
 exact h
theorem anyIs_no{g:Int→Int}{x:Int}{l:List Int}(h:∀j,j<l.length→(g (l.getD j 0)==x)=false):anyIs g x l=false:=by
 refine List.any_eq_false.2 fun v hv=>?_
 obtain⟨k,hk,rfl⟩:=List.mem_iff_getElem.1 hv
 have:=h k hk
 rw[List.getD_eq_getElem?_getD,List.getElem?_eq_getElem hk]at this
 simpa using this
theorem par_cases(l:List Int):par l=0∨par l=1:=by
 induction l with
 |nil=>exact .inl rfl
 |cons v l ih=>unfold par;split<;>omega
theorem par_snoc(l:List Int)(v:Int):par (l++[v])=if v=1 then 1-par l else par l:=by
 induction l with
 |nil=>simp[par]
 |cons a l ih=>simp only[List.cons_append,par,ih];split<;>split<;>omega
theorem take_succ_getD(l:List Int)(k:Nat)(h:k<l.length):l.take (k+1)=l.take k++[l.getD k 0]:=by
 rw[List.take_succ_eq_append_getElem h,List.getD_eq_getElem?_getD,List.getElem?_eq_getElem h];rfl
theorem par_take(l:List Int)(k:Nat)(h:k<l.length):par (l.take (k+1))=if l.getD k 0=1 then 1-par (l.take k) else par (l.take k):=by
 rw[take_succ_getD l k h,par_snoc]
theorem bit_of_any{l:List Int}(h:anyIs rd 2 l=false)(k:Nat)(hk:k<l.length):l.getD k 0=0∨l.getD k 0=1:=by
 have h1:=List.any_eq_false.1 h (l[k]) (List.getElem_mem hk)
 have e:l.getD k 0=l[k]:=by rw[List.getD_eq_getElem?_getD,List.getElem?_eq_getElem hk];rfl
 rw[e]
 rcases knw_cases l[k]with⟨h,_⟩| ⟨h,_⟩| ⟨_,_,_,h⟩
 ·exact .inl h
 ·exact .inr h
 ·rw[h]at h1;simp at h1
def spansL:List Int:=[0,0,0,0,0,0,1,1,1,1,2,16,2,16,2,16,2,16,2,16,2,16,3,3,2,2,1,16,1,1,0,0]
def charsL:List Int:=[48,49,88,90]
def lo(k:Int):Int:=if 15<k then 0 else spansL.getD (2*k.toNat) 0
def hi(k:Int):Int:=if 15<k then-1 else spansL.getD (2*k.toNat+1) 0
def funL(k:Int)(l:List Int):Int:=
 if k=1 then 0 else if k=2 then 1 else if k=3 then rd (l.getD 0 0) else if k=4 then nt (l.getD 0 0) else if k=5 then andL l else if k=6 then nt (andL l)
 else if k=7 then orL l else if k=8 then nt (orL l) else if k=9 then xorL l else if k=10 then nt (xorL l)
 else if k=11 then mx (l.getD 0 0) (l.getD 1 0) (l.getD 2 0) else if k=12 then tr (l.getD 0 0) (l.getD 1 0) else if k=13 then busL l else 2
def evalL(k:Int)(l:List Int):Int:=if (l.length:Int)<lo k∨hi k<l.length then 2 else funL k l
structure Nd where
 kind:Int
 ins:List Int
 mem:Int
 bit:Int
instance ndInh:Inhabited Nd:=⟨⟨0,[],0,0⟩⟩
structure Mm where
 addr:List Int
 data:List Int
 write:Int
instance mmInh:Inhabited Mm:=⟨⟨[],[],0⟩⟩
structure Ck where
 nodes:List Nd
 names:List ByteArray
 mems:List Mm
 outs:List Int
def isIdx(n:Nat)(i:Int):Bool:=decide (0≤i)&&decide (i<(n:Int))
def cmb(k:Int):Bool:=decide (1≤k)&&decide (k≤13)
def depsOf(x:Nd):List Int:=if cmb x.kind=true then x.ins else []
def lat(lv:List Int)(x:Int):Int:=lv.getD x.toNat 0
def levf(lv:List Int)(l:List Int):Int:=l.foldl (fun a x=>max a (lat lv x+1)) 0
def dep(nodes:List Nd)(x:Int):List Int:=depsOf (nodes.getD x.toNat default)
theorem levf_snoc(lv l:List Int)(x:Int):levf lv (l++[x])=max (levf lv l) (lat lv x+1):=by simp[levf]
theorem foldl_max_ge(lv:List Int):∀(l:List Int) (a:Int),a≤l.foldl (fun a x=>max a (lat lv x+1)) a
 |[],a=>Int.le_refl a
 |x::l,a=>Int.le_trans (Int.le_max_left a _) (foldl_max_ge lv l _)
theorem foldl_max_mem(lv:List Int):∀(l:List Int) (a:Int) (x:Int),x∈l→lat lv x+1≤l.foldl (fun a x=>max a (lat lv x+1)) a
 |[],_,_,h=>by cases h
 |y::l,a,x,h=>by
  rcases List.mem_cons.1 h with rfl|h
  ·exact Int.le_trans (Int.le_max_right a _) (foldl_max_ge lv l _)
  ·exact foldl_max_mem lv l _ x h
theorem foldl_max_is(lv:List Int):∀(l:List Int) (a:Int),l.foldl (fun a x=>max a (lat lv x+1)) a=a∨∃x∈l,l.foldl (fun a x=>max a (lat lv x+1)) a=lat lv x+1
 |[],a=>.inl rfl
 |y::l,a=>by
  rcases foldl_max_is lv l (max a (lat lv y+1)) with h| ⟨x,hx,h⟩
  ·rw[List.foldl_cons,h]
   rcases Int.le_total a (lat lv y+1) with h'|h'
   ·exact .inr ⟨y,List.mem_cons_self,Int.max_eq_right h'⟩
   ·exact .inl (Int.max_eq_left h')
  ·exact .inr ⟨x,List.mem_cons_of_mem _ hx,h⟩
theorem levf_nonneg(lv l:List Int):0≤levf lv l:=foldl_max_ge lv l 0
theorem levf_mem{lv l:List Int}{x:Int}(h:x∈l):lat lv x+1≤levf lv l:=foldl_max_mem lv l 0 x h
theorem levf_is(lv l:List Int):levf lv l=0∨∃x∈l,levf lv l=lat lv x+1:=foldl_max_is lv l 0
theorem levf_congr{lv lv' l:List Int}(h:∀x∈l,lat lv x=lat lv' x):levf lv l=levf lv' l:=by
 have key:∀(l:List Int) (a:Int),(∀x∈l,lat lv x=lat lv' x)→l.foldl (fun a x=>max a (lat lv x+1)) a=l.foldl (fun a x=>max a (lat lv' x+1)) a:=by
  intro l
  induction l with
  |nil=>intro a _;rfl
  |cons y l ih=>
   intro a h
   rw[List.foldl_cons,List.foldl_cons,h y List.mem_cons_self]
   exact ih _ fun x hx=>h x (List.mem_cons_of_mem _ hx)
 exact key l 0 h
def Wf(nodes:List Nd):Prop:=∀i,i<nodes.length→∀x∈(nodes.getD i default).ins,0≤x∧x<(nodes.length:Int)
theorem Wf.dep{nodes:List Nd}(h:Wf nodes){i:Int}(hi:i.toNat<nodes.length){x:Int}(hx:x∈dep nodes i):0≤x∧x<(nodes.length:Int):=by
 unfold Proofs.YtemjmfpcopfdbaaGreatDoor.dep depsOf at hx
 split at hx
 ·exact h _ hi x hx
 ·cases hx
def Lvl(nodes:List Nd)(L:List Int):Prop:=L.length=nodes.length∧∀i:Nat,i<nodes.length→lat L i=levf L (dep nodes i)
theorem Lvl.lt{nodes:List Nd}{L:List Int}(h:Lvl nodes L){i x:Int}(h0:0≤i)(hi:i<nodes.length)(hx:x∈dep nodes i):lat L x<lat L i:=by
 have:=h.2 i.toNat (by omega)
 rw[Int.toNat_of_nonneg h0]at this
 have:=levf_mem (lv:=L) hx
 omega
theorem Lvl.nonneg{nodes:List Nd}{L:List Int}(h:Lvl nodes L){i:Nat}(hi:i<nodes.length):0≤lat L i:=by
 rw[h.2 i hi];exact levf_nonneg _ _
theorem ext_lat{L L':List Int}(hl:L.length=L'.length)(h:∀i:Nat,i<L.length→lat L i=lat L' i):L=L':=by
 apply List.ext_getElem hl
 intro i h1 h2
 have:=h i h1
 simpa [lat,List.getD_eq_getElem?_getD,List.getElem?_eq_getElem h1,List.getElem?_eq_getElem h2]using this
def neg(lv:List Int):Nat:=lv.countP fun x=>decide (x<0)
theorem lat_set{lv:List Int}{i:Nat}(v:Int){x:Int}(h0:0≤x):lat (lv.set i v) x=if x=i∧i<lv.length then v else lat lv x:=by
 unfold lat
 rw[List.getD_eq_getElem?_getD,List.getD_eq_getElem?_getD,List.getElem?_set]
 by_cases h:i=x.toNat
 ·subst h
  by_cases hl:x.toNat<lv.length
  ·rw[if_pos rfl,if_pos hl,if_pos ⟨by omega,hl⟩];rfl
  ·rw[if_pos rfl,if_neg hl,if_neg (fun h=>hl h.2),List.getElem?_eq_none (by omega)]
 ·rw[if_neg h,if_neg (fun h'=>h (by omega))]
theorem neg_set{lv:List Int}{i:Nat}(hi:i<lv.length)(v:Int):neg (lv.set i v)+(if lat lv i<0 then 1 else 0)=neg lv+(if v<0 then 1 else 0):=by
 induction lv generalizing i with
 |nil=>simp at hi
 |cons a l ih=>
  cases i with
  |zero=>
   simp only[neg,List.set_cons_zero,List.countP_cons,lat,Int.natCast_zero,Int.toNat_zero,List.getD_cons_zero,decide_eq_true_eq]
   split<;>split<;>simp_all
  |succ i=>
   have:=ih (i:=i) (by simpa using hi)
   simp only[neg,List.set_cons_succ,List.countP_cons,lat,Int.toNat_natCast,List.getD_cons_succ,decide_eq_true_eq]at this ⊢
   by_cases h1:l.getD i 0<0<;>by_cases h2:v<0<;>by_cases h3:a<0<;>simp only[h1,h2,h3,if_true,if_false]at this ⊢ <;>omega
theorem neg_le(lv:List Int):neg lv≤lv.length:=List.countP_le_length
def Pth(nodes:List Nd):List Int→Prop
 |[]=>True
 |[_]=>True
 |a::b::l=>b∈dep nodes a∧Pth nodes (b::l)
theorem Pth.snoc{nodes:List Nd}{t x:Int}(hx:x∈dep nodes t):∀ {r:List Int},Pth nodes (r++[t])→Pth nodes (r++[t]++[x])
 |[],_=>⟨hx,trivial⟩
 |[a],h=>⟨h.1,hx,trivial⟩
 |a::b::r,h=>⟨h.1,Pth.snoc hx (r:=b::r) h.2⟩
theorem Pth.init{nodes:List Nd}{t:Int} :∀ {r:List Int},Pth nodes (r++[t])→Pth nodes r
 |[],_=>trivial
 |[_],_=>trivial
 |_::b::r,h=>⟨h.1,Pth.init (r:=b::r) h.2⟩
theorem Pth.le{nodes:List Nd}{L:List Int}(hL:Lvl nodes L){t:Int} :∀ {r:List Int},(∀y∈r++[t],0≤y∧y<(nodes.length:Int))→Pth nodes (r++[t])→∀x∈r++[t],lat L t≤lat L x
 |[],_,_,x,hx=>by
  obtain rfl:x=t:=by simpa using hx
  exact Int.le_refl _
 |[a],hr,h,x,hx=>by
  have ha:=hr a (by simp)
  have:=hL.lt ha.1 ha.2 h.1
  rcases List.mem_cons.1 hx with rfl|hx
  ·omega
  ·obtain rfl:x=t:=by simpa using hx
   exact Int.le_refl _
 |a::b::r,hr,h,x,hx=>by
  have ih:=Pth.le hL (r:=b::r) (fun y hy=>hr y (List.mem_cons_of_mem _ hy)) h.2
  rcases List.mem_cons.1 hx with rfl|hx
  ·have ha:=hr x (by simp)
   have h1:=hL.lt ha.1 ha.2 h.1
   have h2:=ih b (by simp)
   omega
  ·exact ih x hx
structure Dfs(nodes:List Nd)(lv st:List Int):Prop where
 len:lv.length=nodes.length
 vals:∀i:Nat,i<nodes.length→ -2≤lat lv i
 done:∀i:Nat,i<nodes.length→0≤lat lv i→(∀x∈dep nodes i,0≤lat lv x)∧lat lv i=levf lv (dep nodes i)∧lat lv i+neg lv<(nodes.length:Int)
 nodup:st.Nodup
 mem:∀x∈st,0≤x∧x<(nodes.length:Int)∧lat lv x<0
 wait:∀i:Nat,i<nodes.length→lat lv i= -2→(i:Int)∈st
 path:Pth nodes st
 low:∀r t,st=r++[t]→∀x∈r,lat lv x= -2
theorem Dfs.start(nodes:List Nd):Dfs nodes (List.replicate nodes.length (-1)) []:=by
 have hl:∀i:Nat,i<nodes.length→lat (List.replicate nodes.length (-1)) i= -1:=fun i hi=>by simp[lat,List.getD_eq_getElem?_getD,hi]
 refine⟨by simp,fun i hi=>(by rw[hl i hi];decide),fun i hi h=>(by rw[hl i hi]at h;omega),List.nodup_nil,fun x hx=>(by cases hx),fun i hi h=>(by rw[hl i hi]at h;omega),trivial,fun r t h=>by simp at h⟩
theorem Dfs.one{nodes:List Nd}{lv:List Int}(h:Dfs nodes lv []){k:Nat}(hk:k<nodes.length)(hf:lat lv k= -1):Dfs nodes lv [(k:Int)]:=
 ⟨h.len,h.vals,h.done,by simp,fun x hx=>by obtain rfl:x=k:=by simpa using hx
                                           exact⟨by omega,by omega,by omega⟩,fun i hi hw=>absurd (h.wait i hi hw) (by simp),trivial,fun r t e x hx=>by
  have:r=[]:=by
   have:=congrArg List.length e
   simp at this
   exact this
  subst this;cases hx⟩
theorem Dfs.mark{nodes:List Nd}{lv r:List Int}{t:Int}(h:Dfs nodes lv (r++[t])):Dfs nodes (lv.set t.toNat (-2)) (r++[t])∧(∀x∈r++[t],lat (lv.set t.toNat (-2)) x= -2)∧neg (lv.set t.toNat (-2))=neg lv:=by
 obtain⟨t0,t1,t2⟩:=h.mem t (by simp)
 have hlt:t.toNat<lv.length:=by rw[h.len];omega
 have hset:∀x:Int,0≤x→lat (lv.set t.toNat (-2)) x=if x=t then-2 else lat lv x:=fun x hx=>by
  rw[lat_set _ hx]
  by_cases e:x=t
  ·rw[if_pos ⟨by omega,hlt⟩,if_pos e]
  ·rw[if_neg (fun h=>e (by omega)),if_neg e]
 have hneg:neg (lv.set t.toNat (-2))=neg lv:=by
  have:=neg_set hlt (-2)
  rw[Int.toNat_of_nonneg t0,if_pos t2,if_pos (by decide)]at this
  omega
 have hdone:∀x:Int,0≤x→0≤lat lv x→lat (lv.set t.toNat (-2)) x=lat lv x:=fun x hx hd=>by
  rw[hset x hx,if_neg (fun e=>by subst e;omega)]
 refine⟨⟨by simp[h.len],fun i hi=>?_,fun i hi hd=>?_,h.nodup,fun x hx=>?_,fun i hi hw=>?_,h.path,fun r' t' e x hx=>?_⟩,fun x hx=>?_,hneg⟩
 ·rw[hset _ (by omega)];split
  ·decide
  ·exact h.vals i hi
 ·rw[hset _ (by omega)]at hd
  split at hd
  ·omega
  rename_i hne
  obtain⟨d1,d2,d3⟩:=h.done i hi hd
  have hdep:∀x∈dep nodes i,lat (lv.set t.toNat (-2)) x=lat lv x:=fun x hx=>by
   have h0:=d1 x hx
   by_cases hx0:0≤x
   ·exact hdone x hx0 h0
   ·have e1:x.toNat=0:=by omega
    by_cases ht:t=0
    ·exfalso;unfold lat at h0 t2;rw[e1]at h0;rw[ht]at t2;change lv.getD 0 0<0 at t2;omega
    ·unfold lat;rw[e1,List.getD_eq_getElem?_getD,List.getD_eq_getElem?_getD,List.getElem?_set,if_neg (by omega)]
  refine⟨fun x hx=>by rw[hdep x hx];exact d1 x hx,?_,?_⟩
  ·rw[hset _ (by omega),if_neg hne,d2];exact (levf_congr hdep).symm
  ·rw[hset _ (by omega),if_neg hne,hneg];exact d3
 ·obtain⟨a,b,c⟩:=h.mem x hx
  refine⟨a,b,?_⟩
  rw[hset x a];split
  ·decide
  ·exact c
 ·rw[hset _ (by omega)]at hw
  split at hw
  ·rename_i e;rw[e];simp
  ·exact h.wait i hi hw
 ·have hm:=h.mem x (by rw[e];simp[hx])
  rw[hset x hm.1];split
  ·rfl
  ·exact h.low r' t' e x hx
 ·have hm:=h.mem x hx
  rw[hset x hm.1]
  split
  ·rfl
  ·rename_i hne
   rcases List.mem_append.1 hx with hx|hx
   ·exact h.low r t rfl x hx
   ·exact absurd (by simpa using hx) hne
theorem Dfs.push{nodes:List Nd}{lv r:List Int}{t x:Int}(hw:Wf nodes)(h:Dfs nodes lv (r++[t]))(hall:∀y∈r++[t],lat lv y= -2)(hx:x∈dep nodes t)(hf:lat lv x= -1):Dfs nodes lv (r++[t]++[x]):=by
 obtain⟨t0,t1,t2⟩:=h.mem t (by simp)
 have hb:=hw.dep (i:=t) (by omega) hx
 refine⟨h.len,h.vals,h.done,?_,fun y hy=>?_,fun i hi he=>List.mem_append_left _ (h.wait i hi he),h.path.snoc hx,fun r' t' e y hy=>?_⟩
 ·refine List.nodup_append.2 ⟨h.nodup,by simp,fun a ha b hb'=>?_⟩
  obtain rfl:b=x:=by simpa using hb'
  intro e;subst e
  have:=hall a ha
  omega
 ·rcases List.mem_append.1 hy with hy|hy
  ·exact h.mem y hy
  ·obtain rfl:y=x:=by simpa using hy
   exact⟨hb.1,hb.2,by omega⟩
 ·obtain⟨rfl,-⟩:=List.append_inj' e.symm rfl
  exact hall y hy
theorem Dfs.pop{nodes:List Nd}{lv r:List Int}{t:Int}(hw:Wf nodes)(h:Dfs nodes lv (r++[t]))(hall:∀y∈r++[t],lat lv y= -2)(hd:∀x∈dep nodes t,0≤lat lv x):
 Dfs nodes (lv.set t.toNat (levf lv (dep nodes t))) r∧neg (lv.set t.toNat (levf lv (dep nodes t)))+1=neg lv∧0≤lat (lv.set t.toNat (levf lv (dep nodes t))) t:=by
 obtain⟨t0,t1,t2⟩:=h.mem t (by simp)
 have hlt:t.toNat<lv.length:=by rw[h.len];omega
 have h0:=levf_nonneg lv (dep nodes t)
 have hset:∀x:Int,0≤x→lat (lv.set t.toNat (levf lv (dep nodes t))) x=if x=t then levf lv (dep nodes t) else lat lv x:=fun x hx=>by
  rw[lat_set _ hx]
  by_cases e:x=t
  ·rw[if_pos ⟨by omega,hlt⟩,if_pos e]
  ·rw[if_neg (fun h=>e (by omega)),if_neg e]
 have hneg:neg (lv.set t.toNat (levf lv (dep nodes t)))+1=neg lv:=by
  have:=neg_set hlt (levf lv (dep nodes t))
  rw[Int.toNat_of_nonneg t0,if_pos t2,if_neg (by omega)]at this
  omega
 have hnl:neg lv≤nodes.length:=h.len▸neg_le lv
 have hrt:t ∉ r:=fun hm=>(List.nodup_append.1 h.nodup).2.2 t hm t (by simp) rfl
 have hdep:∀i:Int,i.toNat<nodes.length→(∀x∈dep nodes i,0≤lat lv x)→∀x∈dep nodes i,lat (lv.set t.toNat (levf lv (dep nodes t))) x=lat lv x:=fun i hi hi' x hx=>by
  have hb:=hw.dep hi hx
  rw[hset x hb.1,if_neg (fun e=>by subst e;have:=hi' x hx;omega)]
 refine⟨⟨by simp[h.len],fun i hi=>?_,fun i hi hi'=>?_,(List.nodup_append.1 h.nodup).1,fun x hx=>?_,fun i hi hi'=>?_,h.path.init,fun r' t' e x hx=>?_⟩,hneg,by rw[hset t t0,if_pos rfl];exact h0⟩
 ·rw[hset _ (by omega)];split
  ·omega
  ·exact h.vals i hi
 ·rw[hset _ (by omega)]at hi' ⊢
  split at hi'
  ·rename_i e
   rw[if_pos e]
   have e':dep nodes (i:Int)=dep nodes t:=by rw[e]
   rw[e']
   refine⟨fun x hx=>?_,(levf_congr (hdep t (by omega) hd)).symm,?_⟩
   ·rw[hdep t (by omega) hd x hx];exact hd x hx
   ·rcases levf_is lv (dep nodes t) with e0| ⟨x,hx,e0⟩
    ·omega
    ·have hb:=hw.dep (i:=t) (by omega) hx
     have:=(h.done x.toNat (by omega) (by rw[Int.toNat_of_nonneg hb.1];exact hd x hx)).2.2
     rw[Int.toNat_of_nonneg hb.1]at this
     omega
  ·rename_i hne
   rw[if_neg hne]
   obtain⟨d1,d2,d3⟩:=h.done i hi hi'
   have hh:=hdep i (by simpa using hi) d1
   refine⟨fun x hx=>by rw[hh x hx];exact d1 x hx,by rw[d2];exact (levf_congr hh).symm,by omega⟩
 ·obtain⟨a,b,c⟩:=h.mem x (List.mem_append_left _ hx)
  refine⟨a,b,?_⟩
  rw[hset x a,if_neg (fun e:x=t=>hrt (e▸hx))];exact c
 ·rw[hset _ (by omega)]at hi'
  split at hi'
  ·omega
  ·rename_i hne
   rcases List.mem_append.1 (h.wait i hi hi') with hm|hm
   ·exact hm
   ·exact absurd (by simpa using hm) hne
 ·have hx':x∈r:=by rw[e];simp[hx]
  have hm:=h.mem x (List.mem_append_left _ hx')
  rw[hset x hm.1,if_neg (fun e:x=t=>hrt (e▸hx'))]
  exact h.low r t rfl x hx'
theorem Dfs.fail{nodes:List Nd}{lv r:List Int}{t x:Int}(hw:Wf nodes)(h:Dfs nodes lv (r++[t]))(hx:x∈dep nodes t)(hf:lat lv x= -2):¬∃L,Lvl nodes L:=by
 rintro⟨L,hL⟩
 obtain⟨t0,t1,t2⟩:=h.mem t (by simp)
 have hb:=hw.dep (i:=t) (by omega) hx
 have hm:=h.wait x.toNat (by omega) (by rw[Int.toNat_of_nonneg hb.1];exact hf)
 rw[Int.toNat_of_nonneg hb.1]at hm
 have h1:=Pth.le hL (fun y hy=>⟨(h.mem y hy).1,(h.mem y hy).2.1⟩) h.path x hm
 have h2:=hL.lt t0 t1 hx
 omega
theorem Dfs.finish{nodes:List Nd}{lv:List Int}(h:Dfs nodes lv [])(hd:∀i:Nat,i<nodes.length→0≤lat lv i):Lvl nodes lv∧∀i:Nat,i<nodes.length→lat lv i<(nodes.length:Int):=
 ⟨⟨h.len,fun i hi=>(h.done i hi (hd i hi)).2.1⟩,fun i hi=>by have:=(h.done i hi (hd i hi)).2.2;omega⟩
theorem Dfs.room{nodes:List Nd}{lv st:List Int}(h:Dfs nodes lv st):st.length≤neg lv:=by
 have key:∀(st:List Int) (lv:List Int),st.Nodup→(∀x∈st,0≤x∧x.toNat<lv.length∧lat lv x<0)→st.length≤neg lv:=by
  intro st
  induction st with
  |nil=>intro lv _ _;simp
  |cons a st ih=>
   intro lv hn hm
   obtain⟨a0,a1,a2⟩:=hm a List.mem_cons_self
   have:=neg_set a1 0
   rw[Int.toNat_of_nonneg a0,if_pos a2,if_neg (by decide)]at this
   have ih':=ih (lv.set a.toNat 0) (List.nodup_cons.1 hn).2 (fun x hx=>by
    obtain⟨x0,x1,x2⟩:=hm x (List.mem_cons_of_mem _ hx)
    refine⟨x0,by simpa using x1,?_⟩
    rw[lat_set _ x0,if_neg (fun e=>(List.nodup_cons.1 hn).1 ?_)]
    ·exact x2
    ·have:x=a:=by omega
     exact this▸hx)
   simp only[List.length_cons]
   omega
 exact key st lv h.nodup fun x hx=>by
  obtain⟨a,b,c⟩:=h.mem x hx
  exact⟨a,by rw[h.len];omega,c⟩
open Go.RowKit
theorem ret_int{k:IntKind}{a b:Int}(h:a=b):Ending.returned (.int k a)=.returned (.int k b):=by rw[h]
theorem ret_bool{a b:Bool}(h:a=b):Ending.returned (.bool a)=.returned (.bool b):=by rw[h]
theorem named{α:Type}(x:α):∃y,Hid (y=x):=⟨x,Lib.hid rfl⟩
theorem rel{P:Program}{f:FuncId}{args:Array Value}{w0 w:World}{v:Value}(h:Calls P f args w fun e w'=>e=.returned v∧Below w.heap.size w w')(hb:Below w0.heap.size w0 w):
 Calls P f args w fun e w'=>e=.returned v∧Below w0.heap.size w0 w':=h.mono fun _ _ ⟨he,h'⟩=>⟨he,hb.trans (h'.mono hb.size)⟩
theorem joinB{w0 w1 w2:World}(hb:Below w0.heap.size w0 w1)(hp:Below w1.heap.size w1 w2):Below w0.heap.size w0 w2:=hb.trans (hp.mono hb.size)
theorem below_new{w0 w:World}(hb:Below w0.heap.size w0 w)(o:Obj):Below w0.heap.size w0 (w.alloc o):=hb.alloc hb.size o
theorem bcell{W w1:World}(hb:Below W.heap.size W w1):(∀b o,b<W.heap.size→w1.cell? ⟨b,o,none⟩=W.cell? ⟨b,o,none⟩)∧(∀b o,b<W.heap.size→w1.frozen? ⟨b,o,none⟩=W.frozen? ⟨b,o,none⟩):=
 ⟨fun b o h=>hb.cell (p:=⟨b,o,none⟩) h,fun b o h=>hb.frozen (p:=⟨b,o,none⟩) h⟩
structure Beh(w:World) where
 x:World
 below:Below w.heap.size w x
instance behNonempty (w:World):Nonempty (Beh w):=⟨⟨w,Below.refl _ _⟩⟩
theorem region_class{P:Program}{id:Nat}{Q:Exit→Act→World→Prop}{a:Act}{w0 w:World}{l:List Oper}(hb:Below w0.heap.size w0 w)(hm:P.follows .mixedOrders=true)(hB:Region.lexB .any l.toArray=true)
 (h:wpQuiet P l.toArray (fun w'=>∃x:Beh w0,w'=x.x) (fun a'=>∀w',(∃x:Beh w0,w'=x.x)→Q .normal a' w') l a):(Code.region id l.toArray true).wp P Q a w:=
 wp_region_quiet (C:=fun w'=>∃x:Beh w0,w'=x.x) hm hB ⟨⟨w.drew,hb.drew⟩,rfl⟩ (by simpa using h)
theorem beh_of{P:Program}{f:FuncId}{args:Array Value}{w0 w1:World}{v:Value}(h:Calls P f args w1 fun e w'=>e=.returned v∧Below w0.heap.size w0 w'):
 Calls P f args w1 fun e w'=>e=.returned v∧∃y:Beh w0,w'=y.x:=h.mono fun _ w' ⟨he,hb⟩=>⟨he,⟨w',hb⟩,rfl⟩
theorem beh_same{P:Program}{f:FuncId}{args:Array Value}{w0:World}{x:Beh w0}{v:Value}(h:Calls P f args x.x fun e w'=>e=.returned v∧x.x=w'):
 Calls P f args x.x fun e w'=>e=.returned v∧∃y:Beh w0,w'=y.x:=h.mono fun _ _ ⟨he,hw⟩=>⟨he,x,hw.symm⟩
theorem beh_cell{w:World}{p:Addr}{v:Value}(hp:p.block<w.heap.size)(h:w.cell? p=some v)(x:Beh w):x.x.cell? p=some v:=by rw[x.below.cell hp];exact h
theorem cell_lt{W:World}{g i:Nat}{v:Value}(h:W.cell? ⟨g,i,none⟩=some v):g<W.heap.size:=by
 rcases Nat.lt_or_ge g W.heap.size with hl|hl
 ·exact hl
 ·simp[World.cell?,Array.getElem?_eq_none hl]at h
def Tabs (w : World) : Prop := 2 ≤ w.heap.size ∧ (∀ k, k < 32 → w.cell? ⟨1, k, none⟩ = some (.int .i64 (spansL.getD k 0)))
theorem Tabs.below{w w':World}(h:Tabs w)(hb:Below w.heap.size w w'):Tabs w':=by
 obtain⟨h1,h2⟩:=h
 refine⟨Nat.le_trans h1 hb.size,fun k hk=>?_⟩
 rw [← h2 k hk]; exact hb.cell (p := ⟨1, k, none⟩) (Nat.lt_of_lt_of_le (show _ < 2 by simp) h1)
theorem kinds{k:Int}(h0:0≤k)(h1:¬15<k):k=0∨k=1∨k=2∨k=3∨k=4∨k=5∨k=6∨k=7∨k=8∨k=9∨k=10∨k=11∨k=12∨k=13∨k=14∨k=15:=by omega
set_option maxHeartbeats 1000000 in
theorem fanin_any(k:Int)(h0:0≤k)(w:World)(ht:Tabs w):
 Calls Tryz.prog 111 #[.int .u8 k] w fun e w'=>e=.returned (.tuple #[.int .i64 (lo k),.int .i64 (hi k)])∧∃n,w'=w.drewN n:=by
 by_cases hk:15<k
 ·have e1:lo k=0:=by simp[lo,hk]
  have e2:hi k= -1:=by simp[hi,hk]
  rw[e1,e2]
  clear e1 e2 ht
  go_enter Tryz.func111,Tryz.ntmps111
  go_wp2
  go_ret2
  exact⟨rfl,0,rfl⟩
 ·obtain⟨-,ht⟩:=ht
  rcases kinds h0 hk with rfl|rfl|rfl|rfl|rfl|rfl|rfl|rfl|rfl|rfl|rfl|rfl|rfl|rfl|rfl|rfl
  ·have c0:=ht 0 (by decide)
   have c1:=ht 1 (by decide)
   simp only[spansL,List.getD_cons_zero,List.getD_cons_succ]at c0 c1
   clear ht
   go_enter Tryz.func111,Tryz.ntmps111
   go_wp2
   go_quiet (fail)
   go_wp2
   go_ret2
   exact⟨rfl,_,rfl⟩
  ·have c0:=ht 2 (by decide)
   have c1:=ht 3 (by decide)
   simp only[spansL,List.getD_cons_zero,List.getD_cons_succ]at c0 c1
   clear ht
   go_enter Tryz.func111,Tryz.ntmps111
   go_wp2
   go_quiet (fail)
   go_wp2
   go_ret2
   exact⟨rfl,_,rfl⟩
  ·have c0:=ht 4 (by decide)
   have c1:=ht 5 (by decide)
   simp only[spansL,List.getD_cons_zero,List.getD_cons_succ]at c0 c1
   clear ht
   go_enter Tryz.func111,Tryz.ntmps111
   go_wp2
   go_quiet (fail)
   go_wp2
   go_ret2
   exact⟨rfl,_,rfl⟩
  ·have c0:=ht 6 (by decide)
   have c1:=ht 7 (by decide)
   simp only[spansL,List.getD_cons_zero,List.getD_cons_succ]at c0 c1
   clear ht
   go_enter Tryz.func111,Tryz.ntmps111
   go_wp2
   go_quiet (fail)
   go_wp2
   go_ret2
   exact⟨rfl,_,rfl⟩
  ·have c0:=ht 8 (by decide)
   have c1:=ht 9 (by decide)
   simp only[spansL,List.getD_cons_zero,List.getD_cons_succ]at c0 c1
   clear ht
   go_enter Tryz.func111,Tryz.ntmps111
   go_wp2
   go_quiet (fail)
   go_wp2
   go_ret2
   exact⟨rfl,_,rfl⟩
  ·have c0:=ht 10 (by decide)
   have c1:=ht 11 (by decide)
   simp only[spansL,List.getD_cons_zero,List.getD_cons_succ]at c0 c1
   clear ht
   go_enter Tryz.func111,Tryz.ntmps111
   go_wp2
   go_quiet (fail)
   go_wp2
   go_ret2
   exact⟨rfl,_,rfl⟩
  ·have c0:=ht 12 (by decide)
   have c1:=ht 13 (by decide)
   simp only[spansL,List.getD_cons_zero,List.getD_cons_succ]at c0 c1
   clear ht
   go_enter Tryz.func111,Tryz.ntmps111
   go_wp2
   go_quiet (fail)
   go_wp2
   go_ret2
   exact⟨rfl,_,rfl⟩
  ·have c0:=ht 14 (by decide)
   have c1:=ht 15 (by decide)
   simp only[spansL,List.getD_cons_zero,List.getD_cons_succ]at c0 c1
   clear ht
   go_enter Tryz.func111,Tryz.ntmps111
   go_wp2
   go_quiet (fail)
   go_wp2
   go_ret2
   exact⟨rfl,_,rfl⟩
  ·have c0:=ht 16 (by decide)
   have c1:=ht 17 (by decide)
   simp only[spansL,List.getD_cons_zero,List.getD_cons_succ]at c0 c1
   clear ht
   go_enter Tryz.func111,Tryz.ntmps111
   go_wp2
   go_quiet (fail)
   go_wp2
   go_ret2
   exact⟨rfl,_,rfl⟩
  ·have c0:=ht 18 (by decide)
   have c1:=ht 19 (by decide)
   simp only[spansL,List.getD_cons_zero,List.getD_cons_succ]at c0 c1
   clear ht
   go_enter Tryz.func111,Tryz.ntmps111
   go_wp2
   go_quiet (fail)
   go_wp2
   go_ret2
   exact⟨rfl,_,rfl⟩
  ·have c0:=ht 20 (by decide)
   have c1:=ht 21 (by decide)
   simp only[spansL,List.getD_cons_zero,List.getD_cons_succ]at c0 c1
   clear ht
   go_enter Tryz.func111,Tryz.ntmps111
   go_wp2
   go_quiet (fail)
   go_wp2
   go_ret2
   exact⟨rfl,_,rfl⟩
  ·have c0:=ht 22 (by decide)
   have c1:=ht 23 (by decide)
   simp only[spansL,List.getD_cons_zero,List.getD_cons_succ]at c0 c1
   clear ht
   go_enter Tryz.func111,Tryz.ntmps111
   go_wp2
   go_quiet (fail)
   go_wp2
   go_ret2
   exact⟨rfl,_,rfl⟩
  ·have c0:=ht 24 (by decide)
   have c1:=ht 25 (by decide)
   simp only[spansL,List.getD_cons_zero,List.getD_cons_succ]at c0 c1
   clear ht
   go_enter Tryz.func111,Tryz.ntmps111
   go_wp2
   go_quiet (fail)
   go_wp2
   go_ret2
   exact⟨rfl,_,rfl⟩
  ·have c0:=ht 26 (by decide)
   have c1:=ht 27 (by decide)
   simp only[spansL,List.getD_cons_zero,List.getD_cons_succ]at c0 c1
   clear ht
   go_enter Tryz.func111,Tryz.ntmps111
   go_wp2
   go_quiet (fail)
   go_wp2
   go_ret2
   exact⟨rfl,_,rfl⟩
  ·have c0:=ht 28 (by decide)
   have c1:=ht 29 (by decide)
   simp only[spansL,List.getD_cons_zero,List.getD_cons_succ]at c0 c1
   clear ht
   go_enter Tryz.func111,Tryz.ntmps111
   go_wp2
   go_quiet (fail)
   go_wp2
   go_ret2
   exact⟨rfl,_,rfl⟩
  ·have c0:=ht 30 (by decide)
   have c1:=ht 31 (by decide)
   simp only[spansL,List.getD_cons_zero,List.getD_cons_succ]at c0 c1
   clear ht
   go_enter Tryz.func111,Tryz.ntmps111
   go_wp2
   go_quiet (fail)
   go_wp2
   go_ret2
   exact⟨rfl,_,rfl⟩
def Arr{α:Type}(d:α)(sz:Nat)(R:World→Nat→Nat→Nat→α→Prop)(w:World)(B:Nat)(v:Value)(l:List α):Prop:=
 ∃A b o c,v=.slice A l.length c∧(0<l.length→A=some ⟨b,o,none⟩)∧l.length≤c∧l.length≤maxLen∧∀k,k<l.length→b<B∧R w B b (o+k*sz) (l.getD k d)
def Stays{α:Type}(R:World→Nat→Nat→Nat→α→Prop):Prop:=
 ∀w w' B B' b p x,b<B→B≤B'→R w B b p x→(∀q:Addr,q.block<B→w'.cell? q=w.cell? q)→R w' B' b p x
theorem Arr.keep{α:Type}{d:α}{sz:Nat}{R:World→Nat→Nat→Nat→α→Prop}(hR:Stays R){w w':World}{B B':Nat}{v:Value}{l:List α}(h:Arr d sz R w B v l)(hB:B≤B')(hk:∀q:Addr,q.block<B→w'.cell? q=w.cell? q):Arr d sz R w' B' v l:=by
 obtain⟨A,b,o,c,h1,h2,h3,h4,h5⟩:=h
 exact⟨A,b,o,c,h1,h2,h3,h4,fun k hk'=>⟨Nat.lt_of_lt_of_le (h5 k hk').1 hB,hR _ _ _ _ _ _ _ (h5 k hk').1 hB (h5 k hk').2 hk⟩⟩
theorem Arr.nil{α:Type}(d:α)(sz:Nat)(R:World→Nat→Nat→Nat→α→Prop)(w:World)(B:Nat):Arr d sz R w B (.slice none 0 0) []:=
 ⟨none,0,0,0,rfl,fun h=>absurd h (by simp),by simp,by simp,fun k hk=>absurd hk (by simp)⟩
def IntAt(w:World)(_B b p:Nat)(x:Int):Prop:=w.cell? ⟨b,p,none⟩=some (.int .i64 x)
def StrAt(w:World)(_B b p:Nat)(x:ByteArray):Prop:=w.cell? ⟨b,p,none⟩=some (.string x)∧x.size≤maxLen
def Is(w:World)(B:Nat)(v:Value)(l:List Int):Prop:=Arr 0 1 IntAt w B v l
def Ss(w:World)(B:Nat)(v:Value)(l:List ByteArray):Prop:=Arr ByteArray.empty 1 StrAt w B v l
def NdAt(w:World)(B b p:Nat)(x:Nd):Prop:=
 ∃s,w.cell? ⟨b,p,none⟩=some (.int .u8 x.kind)∧w.cell? ⟨b,p+1,none⟩=some s∧w.cell? ⟨b,p+2,none⟩=some (.int .i64 x.mem)∧w.cell? ⟨b,p+3,none⟩=some (.int .i64 x.bit)∧Is w B s x.ins∧0≤x.kind∧x.kind≤255
def MmAt(w:World)(B b p:Nat)(x:Mm):Prop:=
 ∃s t,w.cell? ⟨b,p,none⟩=some s∧w.cell? ⟨b,p+1,none⟩=some t∧w.cell? ⟨b,p+2,none⟩=some (.int .i64 x.write)∧Is w B s x.addr∧Is w B t x.data
def Ns(w:World)(B:Nat)(v:Value)(l:List Nd):Prop:=Arr default 4 NdAt w B v l
def Ms(w:World)(B:Nat)(v:Value)(l:List Mm):Prop:=Arr default 3 MmAt w B v l
theorem stays_int:Stays IntAt:=fun w w' B B' b p x hb hB h hk=>(hk ⟨b,p,none⟩ hb).trans h
theorem stays_str:Stays StrAt:=fun w w' B B' b p x hb hB h hk=>⟨(hk ⟨b,p,none⟩ hb).trans h.1,h.2⟩
theorem Is.keep{w w':World}{B B':Nat}{v:Value}{l:List Int}(h:Is w B v l)(hB:B≤B')(hk:∀q:Addr,q.block<B→w'.cell? q=w.cell? q):Is w' B' v l:=Arr.keep stays_int h hB hk
theorem stays_nd:Stays NdAt:=fun w w' B B' b p x hb hB ⟨s,h0,h1,h2,h3,h4,h5,h6⟩ hk=>
 ⟨s,(hk ⟨b,p,none⟩ hb).trans h0,(hk ⟨b,p+1,none⟩ hb).trans h1,(hk ⟨b,p+2,none⟩ hb).trans h2,(hk ⟨b,p+3,none⟩ hb).trans h3,h4.keep hB hk,h5,h6⟩
theorem stays_mm:Stays MmAt:=fun w w' B B' b p x hb hB ⟨s,t,h0,h1,h2,h4,h5⟩ hk=>
 ⟨s,t,(hk ⟨b,p,none⟩ hb).trans h0,(hk ⟨b,p+1,none⟩ hb).trans h1,(hk ⟨b,p+2,none⟩ hb).trans h2,h4.keep hB hk,h5.keep hB hk⟩
theorem Ss.keep{w w':World}{B B':Nat}{v:Value}{l:List ByteArray}(h:Ss w B v l)(hB:B≤B')(hk:∀q:Addr,q.block<B→w'.cell? q=w.cell? q):Ss w' B' v l:=Arr.keep stays_str h hB hk
theorem Ns.keep{w w':World}{B B':Nat}{v:Value}{l:List Nd}(h:Ns w B v l)(hB:B≤B')(hk:∀q:Addr,q.block<B→w'.cell? q=w.cell? q):Ns w' B' v l:=Arr.keep stays_nd h hB hk
theorem Ms.keep{w w':World}{B B':Nat}{v:Value}{l:List Mm}(h:Ms w B v l)(hB:B≤B')(hk:∀q:Addr,q.block<B→w'.cell? q=w.cell? q):Ms w' B' v l:=Arr.keep stays_mm h hB hk
def Cir(w:World)(B:Nat)(v:Value)(x:Ck):Prop:=
 ∃v0 v1 v2 v3,v=.agg #[v0,v1,v2,v3]∧Ns w B v0 x.nodes∧Ss w B v1 x.names∧Ms w B v2 x.mems∧Is w B v3 x.outs
theorem Cir.keep{w w':World}{B B':Nat}{v:Value}{x:Ck}(h:Cir w B v x)(hB:B≤B')(hk:∀q:Addr,q.block<B→w'.cell? q=w.cell? q):Cir w' B' v x:=by
 obtain⟨v0,v1,v2,v3,h0,h1,h2,h3,h4⟩:=h
 exact⟨v0,v1,v2,v3,h0,h1.keep hB hk,h2.keep hB hk,h3.keep hB hk,h4.keep hB hk⟩
section
variable {w w':World} {B B':Nat} {v:Value}
theorem Is.below{l:List Int}(h:Is w B v l)(hb:Below B w w'):Is w' B v l:=h.keep (Nat.le_refl _) fun _ hp=>hb.cell hp
theorem Ss.below{l:List ByteArray}(h:Ss w B v l)(hb:Below B w w'):Ss w' B v l:=h.keep (Nat.le_refl _) fun _ hp=>hb.cell hp
theorem Ns.below{l:List Nd}(h:Ns w B v l)(hb:Below B w w'):Ns w' B v l:=h.keep (Nat.le_refl _) fun _ hp=>hb.cell hp
theorem Ms.below{l:List Mm}(h:Ms w B v l)(hb:Below B w w'):Ms w' B v l:=h.keep (Nat.le_refl _) fun _ hp=>hb.cell hp
theorem Cir.below{x:Ck}(h:Cir w B v x)(hb:Below B w w'):Cir w' B v x:=h.keep (Nat.le_refl _) fun _ hp=>hb.cell hp
theorem Is.more{l:List Int}(h:Is w B v l)(hB:B≤B'):Is w B' v l:=h.keep hB fun _ _=>rfl
theorem Ms.more{l:List Mm}(h:Ms w B v l)(hB:B≤B'):Ms w B' v l:=h.keep hB fun _ _=>rfl
theorem Cir.more{x:Ck}(h:Cir w B v x)(hB:B≤B'):Cir w B' v x:=h.keep hB fun _ _=>rfl
theorem Is.opens{l:List Int}(h:Is w B v l):∃A b o c,v=.slice A l.length c∧(0<l.length→A=some ⟨b,o,none⟩)∧l.length≤c∧l.length≤maxLen∧∀k,k<l.length→b<B∧w.cell? ⟨b,o+k,none⟩=some (.int .i64 (l.getD k 0)):=by
 obtain⟨A,b,o,c,h1,h2,h3,h4,h5⟩:=h
 exact⟨A,b,o,c,h1,h2,h3,h4,fun k hk=>⟨(h5 k hk).1,by have:=(h5 k hk).2;rw[Nat.mul_one]at this;exact this⟩⟩
theorem Ss.opens{l:List ByteArray}(h:Ss w B v l):∃A b o c,v=.slice A l.length c∧(0<l.length→A=some ⟨b,o,none⟩)∧l.length≤c∧l.length≤maxLen∧∀k,k<l.length→b<B∧w.cell? ⟨b,o+k,none⟩=some (.string (l.getD k ByteArray.empty))∧(l.getD k ByteArray.empty).size≤maxLen:=by
 obtain⟨A,b,o,c,h1,h2,h3,h4,h5⟩:=h
 exact⟨A,b,o,c,h1,h2,h3,h4,fun k hk=>⟨(h5 k hk).1,by have:=(h5 k hk).2;rw[Nat.mul_one]at this;exact this⟩⟩
end
def nmb(b:Int):Bool:= !(b==40||b==41||b==61||b==44||b==35)&&(decide (33≤b)&&decide (b≤126))
def nameOk(s:List UInt8):Bool:=decide (0<s.length)&&decide (s.length≤32)&&s.all fun c=>nmb (c.toNat:Int)
set_option maxHeartbeats 400000 in
theorem comb_any(k:Int)(w:World):Calls Tryz.prog 70 #[.int .u8 k] w fun e w'=>e=.returned (.bool (cmb k))∧w=w':=by
 obtain⟨y,HY⟩:=named (cmb k)
 rw[←HY.out]
 by_cases h1:1≤k
 all_goals
  go_enter Tryz.func70,Tryz.ntmps70
  go_wp2
  go_ret
  exact⟨ret_bool (by rw[HY.out];first|(simp[cmb,h1];done)|(simp[cmb,h1];omega)),rfl⟩
set_option maxHeartbeats 400000 in
theorem idx_any(i:Int)(n:Nat)(w:World):Calls Tryz.prog 157 #[.int .i64 i,.int .i64 n] w fun e w'=>e=.returned (.bool (isIdx n i))∧w=w':=by
 obtain⟨y,HY⟩:=named (isIdx n i)
 rw[←HY.out]
 by_cases h1:0≤i
 all_goals
  go_enter Tryz.func157,Tryz.ntmps157
  go_wp2
  go_ret
  exact⟨ret_bool (by rw[HY.out];first|(simp[isIdx,h1];done)|(simp[isIdx,h1];omega)),rfl⟩
set_option maxHeartbeats 400000 in
theorem nmb_any(b:Int)(w:World):Calls Tryz.prog 162 #[.int .u8 b] w fun e w'=>e=.returned (.bool (nmb b))∧w=w':=by
 obtain⟨y,HY⟩:=named (nmb b)
 rw[←HY.out]
 by_cases h1:b=40
 ·subst h1;go_enter Tryz.func162,Tryz.ntmps162
  go_wp2
  go_ret
  exact⟨ret_bool (by rw[HY.out];rfl),rfl⟩
 by_cases h2:b=41
 ·subst h2;go_enter Tryz.func162,Tryz.ntmps162
  go_wp2
  go_ret
  exact⟨ret_bool (by rw[HY.out];rfl),rfl⟩
 by_cases h3:b=61
 ·subst h3;go_enter Tryz.func162,Tryz.ntmps162
  go_wp2
  go_ret
  exact⟨ret_bool (by rw[HY.out];rfl),rfl⟩
 by_cases h4:b=44
 ·subst h4;go_enter Tryz.func162,Tryz.ntmps162
  go_wp2
  go_ret
  exact⟨ret_bool (by rw[HY.out];rfl),rfl⟩
 by_cases h5:b=35
 ·subst h5;go_enter Tryz.func162,Tryz.ntmps162
  go_wp2
  go_ret
  exact⟨ret_bool (by rw[HY.out];rfl),rfl⟩
 by_cases h6:33≤b
 all_goals
  go_enter Tryz.func162,Tryz.ntmps162
  go_wp2
  go_ret
  exact⟨ret_bool (by rw[HY.out];first|(simp[nmb,h1,h2,h3,h4,h5,h6];done)|(simp[nmb,h1,h2,h3,h4,h5,h6];omega)),rfl⟩
theorem name_no{s:List UInt8}(k:Nat)(h:k<s.length)(hf:nmb ((s.getD k 0).toNat:Int)=false):nameOk s=false:=by
 unfold nameOk
 have:(s.all fun c=>nmb (c.toNat:Int))=false:=by
  rw[List.all_eq_false]
  refine⟨s[k],List.getElem_mem h,?_⟩
  rw[List.getD_eq_getElem?_getD,List.getElem?_eq_getElem h]at hf
  simpa using hf
 rw[this,Bool.and_false]
theorem name_yes{s:List UInt8}(h0:0<s.length)(h1:s.length≤32)(h:∀k,k<s.length→nmb ((s.getD k 0).toNat:Int)=true):nameOk s=true:=by
 unfold nameOk
 have:(s.all fun c=>nmb (c.toNat:Int))=true:=by
  rw[List.all_eq_true]
  intro c hc
  obtain⟨k,hk,rfl⟩:=List.mem_iff_getElem.1 hc
  have:=h k hk
  rwa [List.getD_eq_getElem?_getD,List.getElem?_eq_getElem hk]at this
 simp[this,h1,h0]
set_option maxHeartbeats 1000000 in
theorem isName_any(s:ByteArray)(w:World):Calls Tryz.prog 155 #[.string s] w fun e w'=>e=.returned (.bool (nameOk s.data.toList))∧w=w':=by
 obtain⟨y,HY⟩:=named (nameOk s.data.toList)
 rw[←HY.out]
 have hlen:s.data.toList.length=s.size:=by simp
 have HL:=Lib.hid hlen
 clear hlen
 by_cases he:s.data.toList=[]
 ·obtain rfl:s=⟨#[]⟩:=by
   obtain⟨⟨l⟩⟩:=s
   obtain rfl:l=[]:=he
   rfl
  go_enter Tryz.func155,Tryz.ntmps155
  go_wp2
  go_ret
  exact⟨ret_bool (by rw[HY.out];rfl),rfl⟩
 ·have hpos:0<s.size:=by rw[←HL.out];exact List.length_pos_iff.2 he
  have hemp:s.toList.isEmpty=false:=by rw[ByteArray.toList_eq];simpa using he
  have hne:¬s.toList=[]:=by rw[ByteArray.toList_eq];exact he
  have HE:=Lib.hid he
  clear he
  by_cases h32:s.size≤32
  ·have h32':decide (32<(s.size:Int))=false:=by simp;omega
   go_enter Tryz.func155,Tryz.ntmps155
   go_wp2_with fail
   go_loopw [13] (fun i wr=>wr=w∧∃k:Nat,k≤s.size∧i=.int .i64 k∧∀j,j<k→nmb ((s.data.toList.getD j 0).toNat:Int)=true) (fun i _=>s.size-(intOf i).toNat)
   case atStart=>exact⟨rfl,0,Nat.zero_le _,rfl,fun j hj=>absurd hj (by omega)⟩
   case round=>
    obtain⟨rfl,k,hk,rfl,hno⟩:=hrel
    have HNO:=Lib.hid hno
    clear hno
    by_cases hlt:k<s.size
    ·have hb:(((s[k]'hlt).toNat:Nat):Int)=((s.data.toList.getD k 0).toNat:Int):=by
      rw[List.getD_eq_getElem?_getD,List.getElem?_eq_getElem (by simpa using hlt)];rfl
     have HB:=Lib.hid hb
     clear hb
     cases hv:nmb ((s[k]'hlt).toNat:Int)
     ·have HV:=Lib.hid hv
      clear hv
      go_wp2_with (go_at_call 162;(with_reducible refine (nmb_any _ _).mono ?_);rintro e w' ⟨rfl,rfl⟩;rw[HV.out])
      go_ret
      exact⟨ret_bool (by rw[HY.out];exact (name_no k (by rw[HL.out];exact hlt) (by rw[←HB.out];exact HV.out)).symm),rfl⟩
     ·have HV:=Lib.hid hv
      clear hv
      go_wp2_with (go_at_call 162;(with_reducible refine (nmb_any _ _).mono ?_);rintro e w' ⟨rfl,rfl⟩;rw[HV.out])
      go_roundw
      case rel=>
       refine⟨by trivial,k+1,by omega,by go_num,fun j hj=>?_⟩
       by_cases hjk:j=k
       ·rw[hjk,←HB.out];exact HV.out
       ·exact HNO.out j (by omega)
      case measure=>simp[intOf];omega
    ·go_wp2
     go_ret
     exact⟨ret_bool (by rw[HY.out];exact (name_yes (by rw[HL.out];exact hpos) (by rw[HL.out];exact h32) (fun j hj=>HNO.out j (by rw[HL.out]at hj;omega))).symm),rfl⟩
  ·have h32':decide (32<(s.size:Int))=true:=by simp;omega
   have hy:nameOk s.data.toList=false:=by simp[nameOk,HL.out];omega
   have HYY:=Lib.hid hy
   clear hy
   go_enter Tryz.func155,Tryz.ntmps155
   go_wp2
   go_ret
   exact⟨ret_bool (by rw[HY.out,HYY.out]),rfl⟩
end Go.Proofs.YtemjmfpcopfdbaaGreatDoor
