/- The texts Sor Srw Own Kre. -/
import Derived.Test.YtcbllelkgniogaaDoorM16
import Derived.LoopN
import Derived.Deep.LoopGhost
import Derived.Deep.CutBlock
import Derived.Deep.DeepCutAuto
import Derived.Test.YtcbllelkgniogaaDoorM09
import Derived.Test.YtcbllelkgniogaaDoorM15
import Derived.StillTailTactics
import Derived.Laws.EntriesVeiled
namespace Go.Proofs.YtcbllelkgniogaaDoor
open Go.RowKit
def SortPost(L:List Int)(w:World)(B d g q n:Nat)(e:Ending)(w':World):Prop:=e=.returned (.tuple #[])∧∃R,SortTo L n n R∧SW w B d g q n L R w'
set_option maxHeartbeats 1000000 in
theorem stable_any(L:List Int)(n d g q B:Nat)(w:World)(hd:B≤d)(hg:d≠g)(hq:d≠q)(hL:L.length=n)(hn:n<20)(hw:SW w B d g q n L (rng 0 n) w):
 Calls Tryd.prog 76 #[.slice (some ⟨d,0,none⟩) n n,.int .i64 n,.func (.func 60) #[] #[.pointer (some ⟨q,0,none⟩)]] w (SortPost L w B d g q n):=by
 have HI:=Lib.hid (insert_any L n d g q B w hd hg hq hL (by omega) hw)
 clear hw hL
 go_enter Tryd.func76,Tryd.ntmps76
 go_wp2
 refine wp_loop_rounds 1 ?_
 simp only[Code.rounds]
 go_wp2_with (go_at_call 94;(with_reducible refine HI.out.mono ?_);rintro e w' ⟨rfl,R,h1,h2⟩;have HR:=Lib.hid h1;have HS:=Lib.hid h2;clear h1 h2)
 refine wp_loop_rounds 1 ?_
 simp only[Code.rounds]
 go_wp2
 go_end0
 exact⟨rfl,R,HR.out,HS.out⟩
theorem fillL_rng(z:Value)(n:Nat):fillL (fun j=>.int .i64 (j:Int)) z n n=(rng 0 n).map (Value.int .i64):=by
 apply List.ext_getElem?
 intro j
 by_cases hj:j<n
 ·rw[fillL_get _ _ _ _ _ hj,if_pos hj];simp[rng,hj]
 ·rw[List.getElem?_eq_none (by simp[fillL_len];omega),List.getElem?_eq_none (by simp[rng];omega)]
def OrdPost(c:Ck)(w:World)(e:Ending)(w':World):Prop:=
 Below w.heap.size w w'∧((chkErr c=0∧shapeErr c=0∧∃L R d,Lvl c.nodes L∧(∀i:Nat,i<c.nodes.length→lat L i<(c.nodes.length:Int))∧SortTo L c.nodes.length c.nodes.length R∧w.heap.size≤d∧e=.returned (.tuple #[.slice (some ⟨d,0,none⟩) c.nodes.length c.nodes.length,.int .i64 0])∧Row w' d R)
  ∨(chkErr c≠0∧e=.returned (.tuple #[.slice none 0 0,.int .i64 (chkErr c)])))
def Rg(n:Nat)(R:List Int):Prop:=R.length=n∧∀x∈R,0≤x∧x<(n:Int)
theorem Rg.at{n:Nat}{R:List Int}(h:Rg n R){j:Nat}(hj:j<n):∃y:Nat,lat R (j:Int)=(y:Int)∧y<n:=by
 have hm:R.getD j 0∈R:=by
  rw[List.getD_eq_getElem?_getD,List.getElem?_eq_getElem (by rw[h.1];exact hj)]
  exact List.getElem_mem _
 have:=h.2 _ hm
 refine⟨(R.getD j 0).toNat,?_,by omega⟩
 show R.getD ((j:Int).toNat) 0=_
 rw[Int.toNat_natCast];omega
theorem Rg.set{n:Nat}{R:List Int}(h:Rg n R)(j y:Nat)(hy:y<n):Rg n (R.set j (y:Int)):=
 ⟨by rw[List.length_set];exact h.1,fun x hx=>by
  rcases List.mem_or_eq_of_mem_set hx with h'|h'
  ·exact h.2 x h'
  ·omega⟩
def SV(w:World)(B d g q n:Nat)(L:List Int)(wr:World):Prop:=∃R,Rg n R∧SW w B d g q n L R wr
section
variable {w wr:World} {B d g q n:Nat} {L:List Int}
theorem SV.drewN(h:SV w B d g q n L wr)(k:Nat):SV w B d g q n L (wr.drewN k):=by
 obtain⟨R,h1,h2⟩:=h;exact⟨R,h1,h2.drewN k⟩
theorem SV.drew(h:SV w B d g q n L wr):SV w B d g q n L wr.drew:=by
 obtain⟨R,h1,h2⟩:=h;exact⟨R,h1,h2.drew⟩
theorem SV.set(h:SV w B d g q n L wr)(hd:B≤d)(hg:d≠g)(hq:d≠q)(j y:Nat)(hy:y<n):SV w B d g q n L (wr.setCell ⟨d,j,none⟩ (.int .i64 (y:Int))):=by
 obtain⟨R,h1,h2⟩:=h;exact⟨_,h1.set j y hy,h2.set hd hg hq j y⟩
theorem SV.at(h:SV w B d g q n L wr){j:Nat}(hj:j<n):∃y:Nat,y<n∧wr.cell? ⟨d,j,none⟩=some (.int .i64 (y:Int))∧wr.frozen? ⟨d,j,none⟩=false:=by
 obtain⟨R,h1,h2⟩:=h
 obtain⟨y,hy,hyn⟩:=h1.at hj
 refine⟨y,hyn,?_,h2.row.frozen j⟩
 rw[h2.row.cell (by rw[h1.1];exact hj),hy]
theorem SV.cmp(h:SV w B d g q n L wr)(hL:L.length=n)(hn:n≤1000000){a b:Nat}(ha:a<n)(hb:b<n)(m:Nat):
 Calls Tryd.prog 60 #[.int .i64 a,.int .i64 b,.pointer (some ⟨q,0,none⟩)] (wr.drewN m) fun e w'=>e=.returned (.int .i64 (cmpI (lat L a) (lat L b)))∧∃n,w'=(wr.drewN m).drewN n:=by
 obtain⟨R,h1,h2⟩:=h
 exact order1_any L a b (by omega) (by omega) (by omega) g q _ (h2.lev) (by rw[hL];exact h2.cell)
end
structure Fit(x:Ck):Prop where
 n:x.nodes.length≤maxLen
 s:x.names.length≤maxLen
 m:x.mems.length≤maxLen
 o:x.outs.length≤maxLen
 k:∀i,i<x.nodes.length→0≤(x.nodes.getD i default).kind∧(x.nodes.getD i default).kind≤255∧(x.nodes.getD i default).ins.length≤maxLen
 t:∀i,i<x.names.length→(x.names.getD i ByteArray.empty).size≤maxLen
 a:∀i,i<x.mems.length→(x.mems.getD i default).addr.length≤maxLen∧(x.mems.getD i default).data.length≤maxLen
theorem Arr.len{α:Type}{d:α}{sz:Nat}{R:World→Nat→Nat→Nat→α→Prop}{w:World}{B:Nat}{v:Value}{l:List α}(h:Arr d sz R w B v l):l.length≤maxLen:=by
 obtain⟨_,_,_,_,-,-,-,h4,-⟩:=h
 exact h4
theorem Row.is{w:World}{g:Nat}{l:List Int}(h:Row w g l)(hm:l.length≤maxLen):Is w w.heap.size (.slice (some ⟨g,0,none⟩) l.length l.length) l:=
 ⟨_,g,0,_,rfl,fun _=>rfl,Nat.le_refl _,hm,fun k hk=>⟨h.lt,by
  show World.cell? _ _=_
  rw[Nat.zero_add,Nat.mul_one,h.cell hk]
  rfl⟩⟩
def ownV(x:Ck)(g0 g1 g2 g3:Nat):Value:=
 .agg #[.slice (some ⟨g0,0,none⟩) x.nodes.length x.nodes.length,.slice (some ⟨g1,0,none⟩) x.names.length x.names.length,.slice (some ⟨g2,0,none⟩) x.mems.length x.mems.length,.slice (some ⟨g3,0,none⟩) x.outs.length x.outs.length]
section
variable {x:Ck} {G g0 g1 g2 g3:Nat} {h ha hd:Nat→Nat} {w w':World}
theorem OwnC.cir(H:OwnC x G g0 g1 g2 g3 h ha hd w)(F:Fit x):Cir w w.heap.size (ownV x g0 g1 g2 g3) x:=by
 refine⟨_,_,_,_,rfl,?_,?_,?_,H.f3.is F.o⟩
 ·refine⟨_,g0,0,_,rfl,fun _=>rfl,Nat.le_refl _,F.n,fun k hk=>⟨H.f0.lt,?_⟩⟩
  obtain⟨k1,k2,k3⟩:=F.k k hk
  refine⟨_,?_,?_,?_,?_,(H.rn k hk).2.is k3,k1,k2⟩
  ·rw[Nat.zero_add,H.f0.cell,ndC_get (by omega),ndF_0]
  ·rw[Nat.zero_add,H.f0.cell,ndC_get (by omega),ndF_1,if_pos hk]
  ·rw[Nat.zero_add,H.f0.cell,ndC_get (by omega),ndF_2]
  ·rw[Nat.zero_add,H.f0.cell,ndC_get (by omega),ndF_3]
 ·refine⟨_,g1,0,_,rfl,fun _=>rfl,Nat.le_refl _,F.s,fun k hk=>⟨H.f1.lt,?_,F.t k hk⟩⟩
  rw[Nat.zero_add,Nat.mul_one,H.f1.cell]
  simp[hk,List.getD_eq_getElem?_getD]
 ·refine⟨_,g2,0,_,rfl,fun _=>rfl,Nat.le_refl _,F.m,fun k hk=>⟨H.f2.lt,?_⟩⟩
  obtain⟨k1,k2⟩:=F.a k hk
  obtain⟨-,r1,-,r2⟩:=H.rm k hk
  refine⟨_,_,?_,?_,?_,r1.is k1,r2.is k2⟩
  ·rw[Nat.zero_add,H.f2.cell,mmC_get (by omega),mmF_0,if_pos hk]
  ·rw[Nat.zero_add,H.f2.cell,mmC_get (by omega),mmF_1,if_pos hk]
  ·rw[Nat.zero_add,H.f2.cell,mmC_get (by omega),mmF_2]
theorem OwnC.below(H:OwnC x G g0 g1 g2 g3 h ha hd w)(hb:Below w.heap.size w w'):OwnC x G g0 g1 g2 g3 h ha hd w':=
 ⟨H.low,H.f0.below hb,H.f1.below hb,H.f2.below hb,H.f3.below hb,fun k hk=>⟨(H.rn k hk).1,(H.rn k hk).2.below hb⟩,
  fun k hk=>⟨(H.rm k hk).1,(H.rm k hk).2.1.below hb,(H.rm k hk).2.2.1,(H.rm k hk).2.2.2.below hb⟩,H.nn,H.nm,H.mm,H.ml⟩
theorem getD_set{α:Type}(l:List α)(k i:Nat)(a d:α)(hk:k<l.length):(l.set k a).getD i d=if i=k then a else l.getD i d:=by
 rw[List.getD_eq_getElem?_getD,List.getD_eq_getElem?_getD,List.getElem?_set]
 by_cases e:k=i
 ·subst e;simp[hk]
 ·rw[if_neg e,if_neg (fun q=>e q.symm)]
theorem ndC_ins(l:List Nd)(k:Nat)(hk:k<l.length)(li:List Int)(hl:li.length=(l.getD k default).ins.length)(o:Nat→Value):
 ndC (l.set k { l.getD k default with ins:=li }) h o (l.set k { l.getD k default with ins:=li }).length=ndC l h o l.length:=by
 apply List.ext_getElem?
 intro j
 by_cases hj:j<l.length*4
 ·rw[ndC_get (by rw[List.length_set];exact hj),ndC_get hj,List.length_set]
  unfold ndF
  rw[getD_set _ _ _ _ _ hk]
  by_cases e:j/4=k
  ·rw[if_pos e,e]
   simp only[hl]
  ·rw[if_neg e]
 ·rw[List.getElem?_eq_none (by simp[ndC_len];omega),List.getElem?_eq_none (by simp[ndC_len];omega)]
theorem ndC_kind(l:List Nd)(k:Nat)(hk:k<l.length)(v:Int)(o:Nat→Value):
 ndC (l.set k { l.getD k default with kind:=v }) h o (l.set k { l.getD k default with kind:=v }).length=(ndC l h o l.length).set (k*4) (.int .u8 v):=by
 apply List.ext_getElem?
 intro j
 rw[List.getElem?_set]
 by_cases hj:j<l.length*4
 ·rw[ndC_get (by rw[List.length_set];exact hj),ndC_get hj,List.length_set]
  by_cases e0:k*4=j
  ·subst e0
   rw[if_pos rfl,if_pos (by simp[ndC_len];omega),ndF_0,getD_set _ _ _ _ _ hk,if_pos rfl]
  ·rw[if_neg e0]
   unfold ndF
   rw[getD_set _ _ _ _ _ hk]
   by_cases e:j/4=k
   ·have h00:¬j%4=0:=by omega
    rw[if_pos e,e,if_neg h00,if_neg h00]
   ·rw[if_neg e]
 ·rw[List.getElem?_eq_none (by simp[ndC_len];omega),List.getElem?_eq_none (by simp[ndC_len];omega),if_neg (by omega)]
theorem OwnC.ins(H:OwnC x G g0 g1 g2 g3 h ha hd w){k:Nat}(hk:k<x.nodes.length)(j:Nat)(v:Int):
 OwnC { x with nodes:=x.nodes.set k { x.nodes.getD k default with ins:=(x.nodes.getD k default).ins.set j v } } G g0 g1 g2 g3 h ha hd (w.setCell ⟨h k,j,none⟩ (.int .i64 v)):=by
 have hg:=grown_set w (h k) j (.int .i64 v)
 have hgk:=(H.rn k hk).1
 have hl:=H.low
 refine⟨H.low,?_,H.f1.kept hg (by simp;omega),H.f2.kept hg (by simp;omega),H.f3.kept hg (by simp;omega),?_,?_,?_,?_,H.mm,H.ml⟩
 ·show Fr _ _ _ (ndC _ _ _ _)
  rw[ndC_ins _ _ hk _ (by simp)]
  exact H.f0.kept hg (by simp;omega)
 ·intro i hi
  have hi':i<x.nodes.length:=by simpa using hi
  refine⟨(H.rn i hi').1,?_⟩
  show Row _ _ ((x.nodes.set k _).getD i default).ins
  rw[getD_set _ _ _ _ _ hk]
  by_cases e:i=k
  ·subst e
   rw[if_pos rfl]
   exact (H.rn i hi').2.set j v
  ·rw[if_neg e]
   refine (H.rn i hi').2.kept hg ?_
   have:h i≠h k:=by
    rcases Nat.lt_or_gt_of_ne e with q|q
    ·have:=H.nn i k q hk;omega
    ·have:=H.nn k i q hi';omega
   simpa using this
 ·intro i hi
  obtain⟨r1,r2,r3,r4⟩:=H.rm i hi
  have n1:=H.nm k i hk hi
  have n2:=H.mm i hi
  exact⟨r1,r2.kept hg (by simp;omega),r3,r4.kept hg (by simp;omega)⟩
 ·intro i j' hij hj'
  exact H.nn i j' hij (by simpa using hj')
 ·intro i j' hi hj'
  exact H.nm i j' (by simpa using hi) hj'
theorem OwnC.kind(H:OwnC x G g0 g1 g2 g3 h ha hd w){k:Nat}(hk:k<x.nodes.length)(v:Int):
 OwnC { x with nodes:=x.nodes.set k { x.nodes.getD k default with kind:=v } } G g0 g1 g2 g3 h ha hd (w.setCell ⟨g0,k*4,none⟩ (.int .u8 v)):=by
 have hg:=grown_set w g0 (k*4) (.int .u8 v)
 have hl:=H.low
 refine⟨H.low,?_,H.f1.kept hg (by simp;omega),H.f2.kept hg (by simp;omega),H.f3.kept hg (by simp;omega),?_,?_,?_,?_,H.mm,H.ml⟩
 ·show Fr _ _ _ (ndC _ _ _ _)
  rw[ndC_kind _ _ hk]
  exact H.f0.set _ _
 ·intro i hi
  have hi':i<x.nodes.length:=by simpa using hi
  have hh:=(H.rn i hi').1
  refine⟨hh,?_⟩
  show Row _ _ ((x.nodes.set k _).getD i default).ins
  have e2:((x.nodes.set k { x.nodes.getD k default with kind:=v }).getD i default).ins=(x.nodes.getD i default).ins:=by
   rw[getD_set _ _ _ _ _ hk]
   by_cases e:i=k
   ·rw[if_pos e,e]
   ·rw[if_neg e]
  rw[e2]
  exact (H.rn i hi').2.kept hg (by simp;omega)
 ·intro i hi
  obtain⟨r1,r2,r3,r4⟩:=H.rm i hi
  exact⟨r1,r2.kept hg (by simp;omega),r3,r4.kept hg (by simp;omega)⟩
 ·intro i j' hij hj'
  exact H.nn i j' hij (by simpa using hj')
 ·intro i j' hi hj'
  exact H.nm i j' (by simpa using hi) hj'
theorem OwnC.name(H:OwnC x G g0 g1 g2 g3 h ha hd w)(k:Nat)(s:ByteArray):
 OwnC { x with names:=x.names.set k s } G g0 g1 g2 g3 h ha hd (w.setCell ⟨g1,k,none⟩ (.string s)):=by
 have hg:=grown_set w g1 k (.string s)
 have hl:=H.low
 refine⟨H.low,H.f0.kept hg (by simp;omega),?_,H.f2.kept hg (by simp;omega),H.f3.kept hg (by simp;omega),?_,?_,H.nn,H.nm,H.mm,H.ml⟩
 ·show Fr _ _ _ ((x.names.set k s).map Value.string)
  rw[List.map_set]
  exact H.f1.set _ _
 ·intro i hi
  have hh:=(H.rn i hi).1
  exact⟨hh,(H.rn i hi).2.kept hg (by simp;omega)⟩
 ·intro i hi
  obtain⟨r1,r2,r3,r4⟩:=H.rm i hi
  exact⟨r1,r2.kept hg (by simp;omega),r3,r4.kept hg (by simp;omega)⟩
end
def NxR(V:World)(g bn on n:Nat)(nx:Nat→List Int):Prop:=bn<g∧∀i,i<n→∃Ai ci,V.cell? ⟨bn,on+i,none⟩=some (.slice Ai (nx i).length ci)∧Is V g (.slice Ai (nx i).length ci) (nx i)
end Go.Proofs.YtcbllelkgniogaaDoor
