import Derived.Test.YtjdjcaobkmpoeaaDoorM09
import Derived.Test.YtjdjcaobkmpoeaaDoorLgEvalw
import Derived.Deep.AppendLies
namespace Go.Proofs.YtjdjcaobkmpoeaaDoor
open Go.RowKit
def VRow(w:World)(g:Nat)(l:List Int):Prop:=w.ownsRow g 53 1 (.slice (some ⟨g,0,none⟩) l.length l.length) l.length (l.map (Value.int .u8))
section
variable {w w':World} {g:Nat} {l:List Int}
theorem VRow.cell(h:VRow w g l){j:Nat}(hj:j<l.length):w.cell? ⟨g,j,none⟩=some (.int .u8 (lat l j)):=by
 have:=World.ownsRow.cellAt h j (by omega)
 rw[this,List.getElem?_map,List.getElem?_eq_getElem hj]
 simp[lat,List.getD_eq_getElem?_getD,List.getElem?_eq_getElem hj]
theorem VRow.frozen(h:VRow w g l)(j:Nat):w.frozen? ⟨g,j,none⟩=false:=World.ownsRow.frozenAt h j
theorem VRow.set(h:VRow w g l)(j:Nat)(x:Int):VRow (w.setCell ⟨g,j,none⟩ (.int .u8 x)) g (l.set j x):=by
 have:=(World.ownsRow.stored h j (.int .u8 x)).1
 unfold VRow
 rw[List.length_set,List.map_set]
 exact this
theorem VRow.lt(h:VRow w g l):g<w.heap.size:=(World.ownsRow.lt h g rfl).2
theorem VRow.len(h:VRow w g l):l.length≤maxLen:=by
 rcases h.2 with⟨e,-⟩| ⟨g',cap,cur,e,hb',hg',hle,hmx,hs',ht'⟩
 ·cases e
 ·simp only[Value.slice.injEq]at e;omega
theorem VRow.kept{row:Option Nat}(h:VRow w g l)(hg:w.grownBy w' row)(hne:some g≠row):VRow w' g l:=World.ownsRow.kept h hg (.inr hne)
theorem VRow.below(h:VRow w g l)(hb:Below w.heap.size w w'):VRow w' g l:=
 h.kept (row:=none) ⟨hb.os,hb.tape,hb.output,hb.size,fun i hi _=>hb.block i hi⟩ (by simp)
theorem VRow.ks(h:VRow w g l):Ks w w.heap.size (.slice (some ⟨g,0,none⟩) l.length l.length) l:=
 ⟨_,g,0,_,rfl,fun _=>rfl,Nat.le_refl _,h.len,fun k hk=>⟨h.lt,by
  have:=h.cell hk
  unfold lat at this
  rw[Int.toNat_natCast]at this
  show w.cell? ⟨g,0+k*1,none⟩=_
  rw[Nat.zero_add,Nat.mul_one];exact this⟩⟩
theorem VRow.of{B n:Nat}(h:w.ownsRow B 53 1 (.slice (some ⟨g,0,none⟩) n n) n (l.map (Value.int .u8)))(hl:l.length=n):VRow w g l:=by
 subst hl
 unfold VRow
 refine⟨h.1,?_⟩
 rcases h.2 with⟨e,-⟩| ⟨g',cap,cur,e,hb',hg',hle,hmx,hs',ht'⟩
 ·cases e
 ·simp only[Value.slice.injEq,Option.some.injEq,Addr.mk.injEq]at e
  obtain⟨⟨rfl,-⟩,-,rfl⟩:=e
  exact .inr ⟨g,_,cur,rfl,Nat.le_refl _,hg',hle,hmx,hs',ht'⟩
end
theorem info_val:(Tryd.prog.info? 53).map (fun i=>(i.zero,i.size,i.bytes))=some (some (.int .u8 0),1,1):=by kernel_rfl
theorem Ks.vs{w:World}{B:Nat}{v:Value}{l:List Int}(h:Ks w B v l):Lg.Vs w B v l:=by
 obtain⟨A,b,o,c,rfl,hA,hle,hm,hc⟩:=h.opens
 by_cases h0:0<l.length
 ·obtain rfl:=hA h0
  exact⟨b,o,c,.inl rfl,hm,hc⟩
 ·obtain rfl:l=[]:=List.eq_nil_of_length_eq_zero (by omega)
  exact⟨b,o,c,.inr ⟨rfl,A,rfl⟩,hm,hc⟩
theorem made_vals(n:Nat):(madeCells #[Value.int .u8 0] n).toList=(List.replicate n (0:Int)).map (Value.int .u8):=by
 apply List.ext_getElem?
 intro j
 by_cases hj:j<n
 ·simp[madeCells,hj,Nat.mod_one]
 ·rw[List.getElem?_eq_none (by simp[madeCells];omega),List.getElem?_eq_none (by simp;omega)]
def VStk(w:World)(base:Nat)(v:Value)(l:List Int):Prop:=w.ownsRow base 53 1 v l.length (l.map (Value.int .u8))
section
variable {w w':World} {base:Nat} {v:Value} {l:List Int}
theorem VStk.nil(w:World)(base:Nat):VStk w base (.slice none 0 0) []:=World.ownsRow_nil w base _ _
theorem VStk.kept{row:Option Nat}(h:VStk w base v l)(hg:w.grownBy w' row)(hne:∀q,row=some q→q<base):VStk w' base v l:=by
 refine World.ownsRow.kept h hg ?_
 rcases ho:v.ownBlock with _|q
 ·exact .inl rfl
 ·refine .inr fun e=>?_
  have h1:=(World.ownsRow.lt h q ho).1
  have h2:=hne q e.symm
  omega
theorem VStk.below(h:VStk w base v l)(hb:Below w.heap.size w w'):VStk w' base v l:=
 h.kept (row:=none) ⟨hb.os,hb.tape,hb.output,hb.size,fun i hi _=>hb.block i hi⟩ (by simp)
theorem VStk.form(h:VStk w base v l):∃A c,v=.slice A l.length c∧l.length≤c∧c≤maxLen∧(0<l.length→∃q,A=some ⟨q,0,none⟩∧base≤q∧q<w.heap.size):=by
 have hlt:=World.ownsRow.lt h
 rcases h.2 with⟨rfl,hn⟩| ⟨g,cap,cur,rfl,hb,hg,hle,hm,-⟩
 ·exact⟨none,0,by rw[hn],by omega,by simp,fun h=>by omega⟩
 ·exact⟨_,cap,rfl,hle,hm,fun _=>⟨g,rfl,hb,(hlt g rfl).2⟩⟩
theorem VStk.cell{q c:Nat}(h:VStk w base (.slice (some ⟨q,0,none⟩) l.length c) l){j:Nat}(hj:j<l.length):w.cell? ⟨q,j,none⟩=some (.int .u8 (l.getD j 0)):=by
 rw[World.ownsRow.cellAt h j (by omega),List.getElem?_map,List.getElem?_eq_getElem hj]
 simp[List.getD_eq_getElem?_getD,List.getElem?_eq_getElem hj]
theorem VStk.ks(h:VStk w base v l):Ks w w.heap.size v l:=by
 obtain⟨A,c,rfl,hle,hm,hq⟩:=h.form
 by_cases h0:0<l.length
 ·obtain⟨q,rfl,-,hlt⟩:=hq h0
  refine⟨_,q,0,c,rfl,fun _=>rfl,hle,Nat.le_trans hle hm,fun j hj=>⟨hlt,?_⟩⟩
  show World.cell? _ _=_
  rw[Nat.zero_add,Nat.mul_one]
  exact h.cell hj
 ·exact⟨A,0,0,c,rfl,fun h=>absurd h h0,hle,Nat.le_trans hle hm,fun j hj=>absurd hj (by omega)⟩
theorem vpush{wo w1:World}{g:Nat}{sv v':Value}{st:List Int}{x:Int}{o:Obj}(hg:g≤wo.heap.size)(hb:Below g w wo)(hstk:VStk wo g sv st)
 (hown:w1.ownsRow g 53 1 v' (st.length+1) (st.map (Value.int .u8)++[.int .u8 x])) (hgr:(wo.alloc o).grownBy w1 sv.ownBlock):Below g w w1∧VStk w1 g v' (st++[x]):=by
 have hq:∀q,sv.ownBlock=some q→g≤q:=fun q h=>(World.ownsRow.lt hstk q h).1
 refine⟨(hb.alloc hg o).grown hgr (by simp;omega) hq,?_⟩
 unfold VStk
 rw[List.length_append,List.map_append]
 exact hown
end
end Go.Proofs.YtjdjcaobkmpoeaaDoor
