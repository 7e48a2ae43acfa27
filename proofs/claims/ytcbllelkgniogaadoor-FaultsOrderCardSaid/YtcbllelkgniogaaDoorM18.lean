/- The texts Co1 Co2 Brw. -/
import Derived.Test.YtcbllelkgniogaaDoorM01
import Derived.Test.YtcbllelkgniogaaDoorM13
namespace Go.Proofs.YtcbllelkgniogaaDoor
def bat(R:List Bool)(j:Nat):Bool:=R.getD j false
inductive Rr (nx:Nat→List Int) (l:List Int):Int→Prop
 |base {x:Int} (h:x∈l):Rr nx l x
 |step {x y:Int} (h:Rr nx l x) (hy:y∈nx x.toNat):Rr nx l y
theorem Rr.trans{nx:Nat→List Int}{l k:List Int}{y:Int}(h:Rr nx k y)(hk:∀x∈k,Rr nx l x):Rr nx l y:=by
 induction h with
 |base h=>exact hk _ h
 |step _ hy ih=>exact .step ih hy
theorem Rr.mono{nx:Nat→List Int}{l k:List Int}{y:Int}(h:Rr nx l y)(hk:∀x∈l,x∈k):Rr nx k y:=h.trans fun x hx=>.base (hk x hx)
def Inr(n:Nat)(l:List Int):Prop:=∀x∈l,0≤x∧x<(n:Int)
theorem Rr.inr{n:Nat}{nx:Nat→List Int}{l:List Int}{y:Int}(h:Rr nx l y)(hl:Inr n l)(hn:∀j,Inr n (nx j)):0≤y∧y<(n:Int):=by
 cases h with
 |base h=>exact hl _ h
 |step _ hy=>exact hn _ _ hy
structure Vis(nx:Nat→List Int)(n:Nat)(R:List Bool)(l:List Int)(R':List Bool):Prop where
 len:R'.length=n
 mono:∀j,bat R j=true→bat R' j=true
 has:∀x∈l,bat R' x.toNat=true
 shut:∀j,bat R' j=true→bat R j=false→∀y∈nx j,bat R' y.toNat=true
 sound:∀j:Nat,bat R' j=true→bat R j=true∨Rr nx l (j:Int)
theorem Vis.nil{nx:Nat→List Int}{n:Nat}{R:List Bool}(h:R.length=n):Vis nx n R [] R:=
 ⟨h,fun _ h=>h,fun x hx=>(by cases hx),fun j h1 h2=>(by rw[h1]at h2;cases h2),fun j h=>.inl h⟩
theorem bat_set{R:List Bool}{i j:Nat}{b:Bool}(hi:i<R.length):bat (R.set i b) j=if j=i then b else bat R j:=by
 unfold bat
 rw[List.getD_eq_getElem?_getD,List.getD_eq_getElem?_getD,List.getElem?_set]
 by_cases h:i=j
 ·subst h;rw[if_pos rfl,if_pos hi,if_pos rfl];rfl
 ·rw[if_neg h,if_neg (fun e=>h e.symm)]
theorem bat_lt{R:List Bool}{j:Nat}(h:bat R j=true):j<R.length:=by
 rcases Nat.lt_or_ge j R.length with h1|h1
 ·exact h1
 ·unfold bat at h;rw[List.getD_eq_getElem?_getD,List.getElem?_eq_none h1]at h;cases h
theorem Vis.skip{nx:Nat→List Int}{n:Nat}{R R1:List Bool}{l:List Int}{x:Int}(h:Vis nx n R l R1)(hx:bat R1 x.toNat=true):Vis nx n R (l++[x]) R1:=
 ⟨h.len,h.mono,fun y hy=>by
  rcases List.mem_append.1 hy with hy|hy
  ·exact h.has y hy
  ·obtain rfl:y=x:=by simpa using hy
   exact hx,h.shut,fun j hj=>(h.sound j hj).imp id fun h=>h.mono fun y hy=>List.mem_append_left _ hy⟩
theorem Vis.go{nx:Nat→List Int}{n:Nat}{R R1 R2:List Bool}{l:List Int}{x:Int}(h:Vis nx n R l R1)(h0:0≤x)(hx1:x<(n:Int))(hx:bat R1 x.toNat=false)(h2:Vis nx n (R1.set x.toNat true) (nx x.toNat) R2):Vis nx n R (l++[x]) R2:=by
 have hlt:x.toNat<R1.length:=by rw[h.len];omega
 have hs:∀j,bat (R1.set x.toNat true) j=if j=x.toNat then true else bat R1 j:=fun j=>bat_set hlt
 have hm1:∀j,bat R1 j=true→bat R2 j=true:=fun j hj=>h2.mono j (by rw[hs];split<;>simp[hj])
 have hxx:bat R2 x.toNat=true:=h2.mono _ (by rw[hs,if_pos rfl])
 have e:((x.toNat:Nat):Int)=x:=Int.toNat_of_nonneg h0
 refine⟨h2.len,fun j hj=>hm1 j (h.mono j hj),fun y hy=>?_,fun j hj hn y hy=>?_,fun j hj=>?_⟩
 ·rcases List.mem_append.1 hy with hy|hy
  ·exact hm1 _ (h.has y hy)
  ·obtain rfl:y=x:=by simpa using hy
   exact hxx
 ·by_cases hj1:bat R1 j=true
  ·exact hm1 _ (h.shut j hj1 hn y hy)
  ·by_cases hjx:j=x.toNat
   ·subst hjx;exact h2.has y hy
   ·exact h2.shut j hj (by rw[hs,if_neg hjx];simpa using hj1) y hy
 ·rcases h2.sound j hj with hj|hj
  ·rw[hs]at hj
   split at hj
   ·rename_i hjx
    exact .inr (.base (by rw[hjx,e];simp))
   ·exact (h.sound j hj).imp id fun h=>h.mono fun y hy=>List.mem_append_left _ hy
  ·exact .inr (hj.trans fun y hy=>.step (.base (by simp)) hy)
theorem bat_rep(n j:Nat):bat (List.replicate n false) j=false:=by
 unfold bat
 rw[List.getD_eq_getElem?_getD,List.getElem?_replicate]
 split<;>rfl
theorem Vis.all{nx:Nat→List Int}{n:Nat}{l:List Int}{R':List Bool}(h:Vis nx n (List.replicate n false) l R')(j:Nat):bat R' j=true↔Rr nx l (j:Int):=by
 constructor
 ·intro hj
  rcases h.sound j hj with h1|h1
  ·rw[bat_rep]at h1;cases h1
  ·exact h1
 ·intro hj
  have key:∀y:Int,Rr nx l y→bat R' y.toNat=true:=fun y hy=>by
   induction hy with
   |base hx=>exact h.has _ hx
   |step _ hy ih=>exact h.shut _ ih (bat_rep _ _) _ hy
  simpa using key _ hj
theorem ext_bat{R R':List Bool}(hl:R.length=R'.length)(h:∀j,j<R.length→(bat R j=true↔bat R' j=true)):R=R':=by
 apply List.ext_getElem hl
 intro i h1 h2
 have:=h i h1
 unfold bat at this
 rw[List.getD_eq_getElem?_getD,List.getD_eq_getElem?_getD,List.getElem?_eq_getElem h1,List.getElem?_eq_getElem h2]at this
 exact Bool.eq_iff_iff.2 this
def cloS(nx:Nat→List Int)(n:Nat)(R:List Bool):List Bool:=(List.range n).map fun(j:Nat)=>bat R j||(List.range n).any fun k=>bat R k&&(nx k).contains (j:Int)
def cloN(nx:Nat→List Int)(n:Nat)(l:List Int):Nat→List Bool
 |0=>(List.range n).map fun(j:Nat)=>l.contains (j:Int)
 |r+1=>cloS nx n (cloN nx n l r)
theorem bat_range{n j:Nat}(f:Nat→Bool)(h:j<n):bat ((List.range n).map f) j=f j:=by
 unfold bat
 rw[List.getD_eq_getElem?_getD,List.getElem?_map,List.getElem?_range h]
 rfl
theorem cloN_len(nx:Nat→List Int)(n:Nat)(l:List Int):∀r,(cloN nx n l r).length=n
 |0=>by simp[cloN]
 |r+1=>by simp[cloN,cloS]
theorem cloN_sound(nx:Nat→List Int)(n:Nat)(l:List Int):∀(r j:Nat),bat (cloN nx n l r) j=true→Rr nx l (j:Int)
 |0,j,h=>by
  have hj:=bat_lt h
  rw[cloN_len]at hj
  unfold cloN at h
  rw[bat_range _ hj,List.contains_iff_mem]at h
  exact .base h
 |r+1,j,h=>by
  have hj:=bat_lt h
  rw[cloN_len]at hj
  unfold cloN cloS at h
  rw[bat_range _ hj,Bool.or_eq_true,List.any_eq_true]at h
  rcases h with h| ⟨k,hk,h⟩
  ·exact cloN_sound nx n l r j h
  ·rw[Bool.and_eq_true,List.contains_iff_mem]at h
   exact .step (x:=(k:Int)) (cloN_sound nx n l r k h.1) (by simpa using h.2)
theorem cloN_all{nx:Nat→List Int}{n:Nat}{l:List Int}{r:Nat}(hl:Inr n l)(hn:∀j,Inr n (nx j))(h:cloS nx n (cloN nx n l r)=cloN nx n l r)(h0:∀x∈l,bat (cloN nx n l r) x.toNat=true)(j:Nat)(hj:j<n):bat (cloN nx n l r) j=true↔Rr nx l (j:Int):=by
 refine⟨cloN_sound nx n l r j,fun hr=>?_⟩
 have key:∀y:Int,Rr nx l y→bat (cloN nx n l r) y.toNat=true:=fun y hy=>by
  induction hy with
  |base hx=>exact h0 _ hx
  | @step x y hx hy ih=>
    have h1:=hx.inr hl hn
    have h2:=hn _ _ hy
    rw[←h]
    unfold cloS
    rw[bat_range _ (by omega),Bool.or_eq_true,List.any_eq_true]
    refine .inr ⟨x.toNat,List.mem_range.2 (by omega),?_⟩
    rw[Bool.and_eq_true,List.contains_iff_mem,Int.toNat_of_nonneg h2.1]
    exact⟨ih,hy⟩
 simpa using key _ hr
theorem Vis.lit{nx:Nat→List Int}{n:Nat}{l:List Int}{R':List Bool}(h:Vis nx n (List.replicate n false) l R')(hl:Inr n l)(hn:∀j,Inr n (nx j)){r:Nat}{S:List Bool}(hS:cloN nx n l r=S)(h1:cloS nx n S=S)(h0:∀x∈l,bat S x.toNat=true):R'=S:=by
 subst hS
 refine ext_bat (h.len.trans (cloN_len _ _ _ _).symm) fun j hj=>?_
 rw[h.len]at hj
 rw[h.all,cloN_all hl hn h1 h0 j hj]
def memB(R:List Bool)(k:Nat):List Int:=((List.range k).filter (bat R)).map fun(j:Nat)=>(j:Int)
theorem mem_memB{R:List Bool}{k:Nat}{x:Int} :x∈memB R k↔∃j:Nat,j<k∧x=(j:Int)∧bat R j=true:=by
 unfold memB
 constructor
 ·intro h
  obtain⟨j,hj,rfl⟩:=List.mem_map.1 h
  obtain⟨h1,h2⟩:=List.mem_filter.1 hj
  exact⟨j,List.mem_range.1 h1,rfl,h2⟩
 ·rintro⟨j,h1,rfl,h2⟩
  exact List.mem_map.2 ⟨j,List.mem_filter.2 ⟨List.mem_range.2 h1,h2⟩,rfl⟩
def rdT(nodes:List Nd)(k j:Nat):List Int:=(List.range k).flatMap fun(i:Nat)=>List.replicate ((dep nodes (i:Int)).count (j:Int)) (i:Int)
def rdL(nodes:List Nd)(j:Nat):List Int:=rdT nodes nodes.length j
theorem mem_rdL{nodes:List Nd}{j:Nat}{y:Int} :y∈rdL nodes j↔0≤y∧y<(nodes.length:Int)∧(j:Int)∈dep nodes y:=by
 unfold rdL rdT
 constructor
 ·intro h
  obtain⟨i,hi,h⟩:=List.mem_flatMap.1 h
  obtain⟨h1,rfl⟩:=List.mem_replicate.1 h
  have:=List.mem_range.1 hi
  exact⟨by omega,by omega,List.count_pos_iff.1 (by omega)⟩
 ·rintro⟨h0,h1,h2⟩
  refine List.mem_flatMap.2 ⟨y.toNat,List.mem_range.2 (by omega),?_⟩
  rw[Int.toNat_of_nonneg h0]
  exact List.mem_replicate.2 ⟨by have:=List.count_pos_iff.2 h2;omega,rfl⟩
theorem rdL_inr(nodes:List Nd)(j:Nat):Inr nodes.length (rdL nodes j):=fun _ h=>⟨(mem_rdL.1 h).1,(mem_rdL.1 h).2.1⟩
open Go.RowKit
def BRow(w:World)(g:Nat)(l:List Bool):Prop:=w.ownsRow g 4 1 (.slice (some ⟨g,0,none⟩) l.length l.length) l.length (l.map Value.bool)
section
variable {w w':World} {g:Nat} {l:List Bool}
theorem BRow.cell(h:BRow w g l){j:Nat}{b:Bool}(hj:l[j]? =some b):w.cell? ⟨g,j,none⟩=some (.bool b):=by
 have hl:j<l.length:=(List.getElem?_eq_some_iff.1 hj).1
 rw[World.ownsRow.cellAt h j (by omega),List.getElem?_map,hj];rfl
theorem BRow.frozen(h:BRow w g l)(j:Nat):w.frozen? ⟨g,j,none⟩=false:=World.ownsRow.frozenAt h j
theorem BRow.set(h:BRow w g l)(j:Nat)(x:Bool):BRow (w.setCell ⟨g,j,none⟩ (.bool x)) g (l.set j x):=by
 have:=(World.ownsRow.stored h j (.bool x)).1
 unfold BRow
 rw[List.length_set,List.map_set]
 exact this
theorem BRow.lt(h:BRow w g l):g<w.heap.size:=(World.ownsRow.lt h g rfl).2
theorem BRow.kept{row:Option Nat}(h:BRow w g l)(hg:w.grownBy w' row)(hne:some g≠row):BRow w' g l:=World.ownsRow.kept h hg (.inr hne)
theorem BRow.below(h:BRow w g l)(hb:Below w.heap.size w w'):BRow w' g l:=
 h.kept (row:=none) ⟨hb.os,hb.tape,hb.output,hb.size,fun i hi _=>hb.block i hi⟩ (by simp)
end
end Go.Proofs.YtcbllelkgniogaaDoor
