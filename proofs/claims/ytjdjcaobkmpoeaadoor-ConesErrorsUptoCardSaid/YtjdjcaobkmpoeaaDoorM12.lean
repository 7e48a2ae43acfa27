/- The texts Sor Srw Cln Cpp Cpy. -/
import Derived.Test.YtjdjcaobkmpoeaaDoorM11
import Derived.LoopN
import Derived.Deep.LoopGhost
import Derived.Deep.CutBlock
import Derived.Deep.DeepCutAuto
import Derived.Test.YtjdjcaobkmpoeaaDoorM09
import Derived.Laws.CopyRow
import Derived.Laws.CopyOwn
import Derived.Deep.OwnRows
import Derived.Deep.RegionHeld3
namespace Go.Proofs.YtjdjcaobkmpoeaaDoor
open Go.RowKit
def SortPost(L:List Int)(w:World)(B d g q n:Nat)(e:Ending)(w':World):Prop:=e=.returned (.tuple #[])∧∃R,SortTo L n n R∧SW w B d g q n L R w'
set_option maxHeartbeats 1000000 in
theorem stable_any(L:List Int)(n d g q B:Nat)(w:World)(hd:B≤d)(hg:d≠g)(hq:d≠q)(hL:L.length=n)(hn:n<20)(hw:SW w B d g q n L (rng 0 n) w):
 Calls Tryd.prog 62 #[.slice (some ⟨d,0,none⟩) n n,.int .i64 n,.func (.func 42) #[] #[.pointer (some ⟨q,0,none⟩)]] w (SortPost L w B d g q n):=by
 have HI:=Lib.hid (insert_any L n d g q B w hd hg hq hL (by omega) hw)
 clear hw hL
 go_enter Tryd.func62,Tryd.ntmps62
 go_wp2
 refine wp_loop_rounds 1 ?_
 simp only[Code.rounds]
 go_wp2_with (go_at_call 87;(with_reducible refine HI.out.mono ?_);rintro e w' ⟨rfl,R,h1,h2⟩;have HR:=Lib.hid h1;have HS:=Lib.hid h2;clear h1 h2)
 refine wp_loop_rounds 1 ?_
 simp only[Code.rounds]
 go_wp2
 go_end0
 exact⟨rfl,R,HR.out,HS.out⟩
set_option maxHeartbeats 400000 in
theorem sort_any(L:List Int)(n d g q B:Nat)(w:World)(hd:B≤d)(hg:d≠g)(hq:d≠q)(hL:L.length=n)(hn:n<20)(hw:SW w B d g q n L (rng 0 n) w):
 Calls Tryd.prog 41 #[.slice (some ⟨d,0,none⟩) n n,.func (.func 42) #[] #[.pointer (some ⟨q,0,none⟩)]] w (SortPost L w B d g q n):=by
 have HI:=Lib.hid (stable_any L n d g q B w hd hg hq hL hn hw)
 clear hw hL
 go_enter Tryd.func41,Tryd.ntmps41
 go_wp2_with (go_at_call 62;(with_reducible refine HI.out.mono ?_);rintro e w' ⟨rfl,R,h1,h2⟩;have HR:=Lib.hid h1;have HS:=Lib.hid h2;clear h1 h2)
 go_end0
 exact⟨rfl,R,HR.out,HS.out⟩
theorem fillL_rng(z:Value)(n:Nat):fillL (fun j=>.int .i64 (j:Int)) z n n=(rng 0 n).map (Value.int .i64):=by
 apply List.ext_getElem?
 intro j
 by_cases hj:j<n
 ·rw[fillL_get _ _ _ _ _ hj,if_pos hj];simp[rng,hj]
 ·rw[List.getElem?_eq_none (by simp[fillL_len];omega),List.getElem?_eq_none (by simp[rng];omega)]
def OrdPost(c:Ck)(w:World)(e:Ending)(w':World):Prop:=
 Below w.heap.size w w'∧((chkErr c=0∧shapeErr c=0∧∃L R d,Lvl c.nodes L∧(∀i:Nat,i<c.nodes.length→lat L i<(c.nodes.length:Int))∧SortTo L c.nodes.length c.nodes.length R∧w.heap.size≤d∧e=.returned (.tuple #[.slice (some ⟨d,0,none⟩) c.nodes.length c.nodes.length,.int .i64 0])∧Row w' d R)
  ∨(chkErr c≠0∧e=.returned (.tuple #[.slice none 0 0,.int .i64 (chkErr c)])))
set_option maxRecDepth 100000 in
set_option maxHeartbeats 4000000 in
theorem order_any(c:Ck)(v:Value)(w:World)(B:Nat)(hB:B≤w.heap.size)(hT:Tabs w)(hc:Cir w B v c)(hn20:c.nodes.length<20):
 Calls Tryd.prog 20 #[v] w (OrdPost c w):=by
 have hb0:=hc
 obtain⟨v0,v1,v2,v3,rfl,hns,hss,hms,hos⟩:=hc
 obtain⟨A0,b0,o0,c0,rfl,-⟩:=id hns
 obtain⟨A1,b1,o1,c1,rfl,-⟩:=id hss
 obtain⟨A2,b2,o2,c2,rfl,-⟩:=id hms
 obtain⟨A3,b3,o3,c3,rfl,-⟩:=id hos
 have hbW:Below w.heap.size w (w.alloc (.cells #[.slice A0 c.nodes.length c0,.slice A1 c.names.length c1,.slice A2 c.mems.length c2,.slice A3 c.outs.length c3] 27)):=(Below.refl _ _).alloc (Nat.le_refl _) _
 have hL:=levels_any c _ _ B (Nat.le_trans hB hbW.size) (hT.below hbW) (hb0.below (hbW.mono hB))
 clear hns hss hms hos hb0 hT
 by_cases hck:chkErr c=0
 ·have hL2:=hL.mono (R':=fun e w'=>∃L g,e=.returned (.tuple #[.slice (some ⟨g,0,none⟩) c.nodes.length c.nodes.length,.int .i64 0])∧Below (w.alloc (.cells #[.slice A0 c.nodes.length c0,.slice A1 c.names.length c1,.slice A2 c.mems.length c2,.slice A3 c.outs.length c3] 27)).heap.size (w.alloc (.cells #[.slice A0 c.nodes.length c0,.slice A1 c.names.length c1,.slice A2 c.mems.length c2,.slice A3 c.outs.length c3] 27)) w'∧w.heap.size≤g∧Row w' g L∧shapeErr c=0∧Lvl c.nodes L∧(∀i:Nat,i<c.nodes.length→lat L i<(c.nodes.length:Int))) fun e w' ⟨h1,h2⟩=>by
   rcases h2 with⟨-,h0,L,g,hl,hbd,hg,he,hr⟩| ⟨hne,-⟩
   ·exact⟨L,g,he,h1,Nat.le_trans hbW.size hg,hr,h0,hl,hbd⟩
   ·exact absurd hck hne
  have HCK:=Lib.hid hck
  clear hL hck
  generalize c.names.length=n1 at hL2 hbW ⊢
  generalize c.mems.length=n2 at hL2 hbW ⊢
  generalize c.outs.length=n3 at hL2 hbW ⊢
  obtain⟨n,HN⟩:=named c.nodes.length
  rw[←HN.out]at hL2 hbW hn20
  rw[←HN.out]
  have HL:=Lib.hid hL2
  have HBW:=Lib.hid hbW
  clear hL2 hbW
  obtain⟨i0,hi,hz0,hz1,hz2⟩:=info_parts info_int
  have HI:=Lib.hid (And.intro hi (And.intro hz0 (And.intro hz1 hz2)))
  clear hi hz0 hz1 hz2
  go_enter Tryd.func20,Tryd.ntmps20
  go_wp2_with (first
   |(go_at_call 40;(with_reducible refine HL.out.mono ?_);rintro e w1 ⟨L,g,rfl,hb,hwg,hr,hsh,hl,hbd⟩;have HB1:=Lib.hid hb;have HR:=Lib.hid hr;have HSH:=Lib.hid hsh;have HLV:=Lib.hid hl;have HBD:=Lib.hid hbd;clear hb hr hsh hl hbd)
   |(at_make;refine wpList_make_full _ rfl _ _ 25 rfl w.heap.size 3 i0 (.int .i64 0) 1 Tryd.underlying25 HI.out.1 HI.out.2.1 HI.out.2.2.1 .i64 .i64 _ _ n rfl rfl rfl rfl ?b2 ?b3 ?b4 ?_))
  case b2=>rw[HI.out.2.2.2];omega
  case b3=>unfold maxLen;omega
  case b4=>have:=(joinB HBW.out HB1.out).size;simp;omega
  intro w2 hown hgr
  rw[fillL_start (fun j=>.int .i64 (j:Int))]at hown
  obtain⟨w1v,HW1⟩:=named (w1.alloc (.cells #[.slice (some ⟨g,0,none⟩) n n] 25))
  have hz1:w1v.heap.size=w1.heap.size+1:=by rw[HW1.out];simp
  rw[←HW1.out]at hgr
  have hb1v:Below w.heap.size w w1v:=by rw[HW1.out];exact below_new (joinB HBW.out HB1.out) _
  have hrv:Row w1v g L:=by rw[HW1.out];exact HR.out.below ((Below.refl _ _).alloc (Nat.le_refl _) _)
  have hcv:w1v.cell? ⟨w1.heap.size,0,none⟩=some (.slice (some ⟨g,0,none⟩) n n):=by rw[HW1.out,World.cell?_alloc_at _ _ _ _ rfl];rfl
  have hb2:Below w.heap.size w w2:=hb1v.grown hgr hb1v.size (fun k h=>by cases h)
  have hr2:Row w2 g L:=hrv.kept hgr (by simp)
  have hc2:w2.cell? ⟨w1.heap.size,0,none⟩=some (.slice (some ⟨g,0,none⟩) n n):=hgr.cell hcv (by simp)
  have hgl:g<w1.heap.size:=HR.out.lt
  have hbz:w.heap.size≤w1.heap.size:=(joinB HBW.out HB1.out).size
  have hsz2:w1.heap.size+1<w2.heap.size:=(World.ownsRow.lt hown _ rfl).2
  have HO:=Lib.hid hown
  have HB2:=Lib.hid hb2
  have HR2:=Lib.hid hr2
  have HC2:=Lib.hid hc2
  obtain⟨d,HD⟩:=named (w1.heap.size+1)
  rw[←HD.out]
  rw[←HD.out]at HO
  obtain⟨q,HQ⟩:=named w1.heap.size
  rw[←HQ.out]at HC2
  rw[←HQ.out]
  have hdg:d≠g:=by rw[HD.out];omega
  have hdq:d≠q:=by rw[HD.out,HQ.out];omega
  have hdw:w.heap.size≤d:=by rw[HD.out];omega
  have hqc:w2.cell? ⟨q,0,none⟩=some (.slice (some ⟨g,0,none⟩) n n):=HC2.out
  have hdz:d<w2.heap.size:=by rw[HD.out];omega
  clear hown hgr hb2 hr2 hc2 hcv hrv hb1v hz1 hgl hbz hsz2 hwg
  go_wp2
  go_loopw [21] (fun i wr=>∃k:Nat,k≤n∧i=.int .i64 k∧Below w.heap.size w wr∧wr.heap.size=w2.heap.size∧Row wr g L∧wr.cell? ⟨q,0,none⟩=some (.slice (some ⟨g,0,none⟩) n n)∧
   wr.ownsRow w.heap.size 3 1 (.slice (some ⟨d,0,none⟩) n n) n (fillL (fun j=>.int .i64 (j:Int)) (.int .i64 0) n k)) (fun i _=>n-(intOf i).toNat)
  case atStart=>exact⟨0,Nat.zero_le _,rfl,HB2.out,rfl,HR2.out,HC2.out,HO.out⟩
  case round=>
   clear HO HB2 HR2 HC2 hqc
   obtain⟨k,hk,rfl,hb,hsz,hr,hqc,hown⟩:=hrel
   have HBL:=Lib.hid hb
   have HO:=Lib.hid hown
   have HR2:=Lib.hid hr
   have HSZ:=Lib.hid hsz
   clear hb hown hr hsz
   by_cases hlt:k<n
   ·have hfz:wr.frozen? ⟨d,k,none⟩=false:=HO.out.frozenAt k
    have hcl:wr.cell? ⟨d,k,none⟩=some (.int .i64 0):=by
     rw[HO.out.cellAt k (by omega),fillL_get _ _ _ _ _ hlt,if_neg (by omega)]
    have HS:=Lib.hid (HO.out.stored k (.int .i64 (k:Int))).1
    have HQC:=Lib.hid hqc
    clear hqc
    go_wp2
    go_roundw
    case rel=>
     refine⟨k+1,by omega,by go_num,HBL.out.setCell hdw _,by rw[World.size_setCell];exact HSZ.out,HR2.out.otherS hdg _,?_,?_⟩
     ·rw[World.cell?_setCell_other _ _ _ _ (by simp[hdq])];exact HQC.out
     ·rw[←fillL_set (fun j=>.int .i64 (j:Int)) (.int .i64 0) n k];exact HS.out
    case measure=>simp[intOf];omega
   ·obtain rfl:n=k:=by omega
    have hrow:Row wr d (rng 0 n):=by
     have:=HO.out
     rw[fillL_rng]at this
     unfold Row
     rw[rng_len,Nat.sub_zero]
     refine⟨this.1,?_⟩
     rcases this.2 with⟨e,-⟩| ⟨g',cap,cur,e,hb',hg',hle,hmx,hs',ht'⟩
     ·cases e
     ·simp only[Value.slice.injEq,Option.some.injEq,Addr.mk.injEq]at e
      obtain⟨⟨rfl,-⟩,-,rfl⟩:=e
      exact .inr ⟨d,n,cur,rfl,Nat.le_refl _,hg',hle,hmx,hs',ht'⟩
    have hsort:=sort_any L n d g q w.heap.size wr hdw hdg hdq (by rw[HLV.out.1,HN.out]) hn20 ⟨Below.refl _ _,rfl,hrow,HR2.out,hqc⟩
    have HSRT:=Lib.hid hsort
    clear hsort hrow hqc
    go_wp2_with (go_at_call 41;(with_reducible refine HSRT.out.mono ?_);rintro e w4 ⟨rfl,R,h1,h2⟩;have HRR:=Lib.hid h1;have HSS:=Lib.hid h2;clear h1 h2)
    go_ret2
    unfold OrdPost
    rw[←HN.out]
    exact⟨HBL.out.trans HSS.out.bel,.inl ⟨HCK.out,HSH.out,L,R,d,HLV.out,HBD.out,HRR.out,hdw,rfl,HSS.out.row⟩⟩
 ·have hL2:=hL.mono (R':=fun e w'=>e=.returned (.tuple #[.slice none 0 0,.int .i64 (chkErr c)])∧Below (w.alloc (.cells #[.slice A0 c.nodes.length c0,.slice A1 c.names.length c1,.slice A2 c.mems.length c2,.slice A3 c.outs.length c3] 27)).heap.size (w.alloc (.cells #[.slice A0 c.nodes.length c0,.slice A1 c.names.length c1,.slice A2 c.mems.length c2,.slice A3 c.outs.length c3] 27)) w') fun e w' ⟨h1,h2⟩=>by
   rcases h2 with⟨h0,-⟩| ⟨-,he⟩
   ·exact absurd h0 hck
   ·exact⟨he,h1⟩
  obtain⟨z,HZ⟩:=named (chkErr c)
  rw[←HZ.out]at hL2 hck
  have hz:(z==0)=false:=by simpa using hck
  have HCK:=Lib.hid hck
  clear hL hck
  generalize c.names.length=n1 at hL2 hbW ⊢
  generalize c.mems.length=n2 at hL2 hbW ⊢
  generalize c.outs.length=n3 at hL2 hbW ⊢
  obtain⟨n,HN⟩:=named c.nodes.length
  rw[←HN.out]at hL2 hbW
  rw[←HN.out]
  have HL:=Lib.hid hL2
  have HBW:=Lib.hid hbW
  clear hL2 hbW
  go_enter Tryd.func20,Tryd.ntmps20
  go_wp2_with (go_at_call 40;(with_reducible refine HL.out.mono ?_);rintro e w1 ⟨rfl,hb⟩;have HB1:=Lib.hid hb;clear hb)
  go_ret2
  exact⟨below_new (joinB HBW.out HB1.out) _,.inr ⟨by rw[←HZ.out];exact HCK.out,by rw[←HZ.out];rfl⟩⟩
def Rg(n:Nat)(R:List Int):Prop:=R.length=n∧∀x∈R,0≤x∧x<(n:Int)
theorem Rg.at{n:Nat}{R:List Int}(h:Rg n R){j:Nat}(hj:j<n):∃y:Nat,lat R (j:Int)=(y:Int)∧y<n:=by
 have hm:R.getD j 0∈R:=by
  rw[List.getD_eq_getElem?_getD,List.getElem?_eq_getElem (by rw[h.1];exact hj)]
  exact List.getElem_mem _
 have:=h.2 _ hm
 refine⟨(R.getD j 0).toNat,?_,by omega⟩
 show R.getD ((j:Int).toNat) 0=_
 rw[Int.toNat_natCast];omega
theorem Rg.set{n:Nat}{R:List Int}(h:Rg n R)(j y:Nat)(hy:y<n):Rg n (R.set j (y:Int)):=
 ⟨by rw[List.length_set];exact h.1,fun x hx=>by
  rcases List.mem_or_eq_of_mem_set hx with h'|h'
  ·exact h.2 x h'
  ·omega⟩
def SV(w:World)(B d g q n:Nat)(L:List Int)(wr:World):Prop:=∃R,Rg n R∧SW w B d g q n L R wr
section
variable {w wr:World} {B d g q n:Nat} {L:List Int}
theorem SV.drewN(h:SV w B d g q n L wr)(k:Nat):SV w B d g q n L (wr.drewN k):=by
 obtain⟨R,h1,h2⟩:=h;exact⟨R,h1,h2.drewN k⟩
theorem SV.drew(h:SV w B d g q n L wr):SV w B d g q n L wr.drew:=by
 obtain⟨R,h1,h2⟩:=h;exact⟨R,h1,h2.drew⟩
theorem SV.set(h:SV w B d g q n L wr)(hd:B≤d)(hg:d≠g)(hq:d≠q)(j y:Nat)(hy:y<n):SV w B d g q n L (wr.setCell ⟨d,j,none⟩ (.int .i64 (y:Int))):=by
 obtain⟨R,h1,h2⟩:=h;exact⟨_,h1.set j y hy,h2.set hd hg hq j y⟩
theorem SV.at(h:SV w B d g q n L wr){j:Nat}(hj:j<n):∃y:Nat,y<n∧wr.cell? ⟨d,j,none⟩=some (.int .i64 (y:Int))∧wr.frozen? ⟨d,j,none⟩=false:=by
 obtain⟨R,h1,h2⟩:=h
 obtain⟨y,hy,hyn⟩:=h1.at hj
 refine⟨y,hyn,?_,h2.row.frozen j⟩
 rw[h2.row.cell (by rw[h1.1];exact hj),hy]
theorem SV.cmp(h:SV w B d g q n L wr)(hL:L.length=n)(hn:n≤1000000){a b:Nat}(ha:a<n)(hb:b<n)(m:Nat):
 Calls Tryd.prog 42 #[.int .i64 a,.int .i64 b,.pointer (some ⟨q,0,none⟩)] (wr.drewN m) fun e w'=>e=.returned (.int .i64 (cmpI (lat L a) (lat L b)))∧∃n,w'=(wr.drewN m).drewN n:=by
 obtain⟨R,h1,h2⟩:=h
 exact order1_any L a b (by omega) (by omega) (by omega) g q _ (h2.lev) (by rw[hL];exact h2.cell)
end
def rdC(w:World)(b o m:Nat):List Value:=(List.range m).map fun j=>(w.cell? ⟨b,o+j,none⟩).getD undef
def Fr(w:World)(g:Nat)(t:TypeId)(cs:List Value):Prop:=w.heap[g]? =some (.cells cs.toArray t (0,0))
theorem Fr.lt{w:World}{g:Nat}{t:TypeId}{cs:List Value}(h:Fr w g t cs):g<w.heap.size:=(Array.getElem?_eq_some_iff.1 h).1
theorem Fr.cell{w:World}{g:Nat}{t:TypeId}{cs:List Value}(h:Fr w g t cs)(j:Nat):w.cell? ⟨g,j,none⟩=cs[j]? :=by
 unfold Fr at h;simp[World.cell?,h]
theorem Fr.frozen{w:World}{g:Nat}{t:TypeId}{cs:List Value}(h:Fr w g t cs)(j:Nat):w.frozen? ⟨g,j,none⟩=false:=by
 unfold Fr at h;simp[World.frozen?,h]
theorem Fr.set{w:World}{g:Nat}{t:TypeId}{cs:List Value}(h:Fr w g t cs)(j:Nat)(v:Value):Fr (w.setCell ⟨g,j,none⟩ v) g t (cs.set j v):=by
 unfold Fr at*
 rw[setCell_eq_setRow w g j cs.toArray t (0,0) v h]
 rw[setRow_heap w g cs.toArray _ t _ h]
 simp
theorem Fr.kept{w w':World}{g:Nat}{t:TypeId}{cs:List Value}{row:Option Nat}(h:Fr w g t cs)(hg:w.grownBy w' row)(hne:some g≠row):Fr w' g t cs:=(hg.block g h.lt hne).trans h
theorem Fr.below{w w':World}{g:Nat}{t:TypeId}{cs:List Value}(h:Fr w g t cs)(hb:Below w.heap.size w w'):Fr w' g t cs:=(hb.block g h.lt).trans h
theorem Fr.row{w:World}{g:Nat}{l:List Int}(h:Fr w g 3 (l.map (Value.int .i64)))(hm:l.length≤maxLen):Row w g l:=by
 refine⟨by simp,.inr ⟨g,l.length,_,rfl,Nat.le_refl _,h,Nat.le_refl _,hm,by simp,by rw[List.toList_toArray,Nat.mul_one,List.take_of_length_le (by simp)]⟩⟩
theorem info_str:(Tryd.prog.info? 9).map (fun i=>(i.zero,i.size,i.bytes))=some (some (.string ⟨#[]⟩),1,16):=by kernel_rfl
def ndF(l:List Nd)(h:Nat→Nat)(orig:Nat→Value)(m:Nat)(j:Nat):Value:=
 if j%4=0 then .int .u8 (l.getD (j/4) default).kind
 else if j%4=1 then (if j/4<m then .slice (some ⟨h (j/4),0,none⟩) (l.getD (j/4) default).ins.length (l.getD (j/4) default).ins.length else orig (j/4))
 else if j%4=2 then .int .i64 (l.getD (j/4) default).mem else .int .i64 (l.getD (j/4) default).bit
def ndC(l:List Nd)(h:Nat→Nat)(orig:Nat→Value)(m:Nat):List Value:=(List.range (l.length*4)).map (ndF l h orig m)
theorem ndC_len(l:List Nd)(h:Nat→Nat)(orig:Nat→Value)(m:Nat):(ndC l h orig m).length=l.length*4:=by simp[ndC]
theorem ndC_get{l:List Nd}{h:Nat→Nat}{orig:Nat→Value}{m j:Nat}(hj:j<l.length*4):(ndC l h orig m)[j]? =some (ndF l h orig m j):=by simp[ndC,hj]
theorem ndF_0(l:List Nd)(h:Nat→Nat)(orig:Nat→Value)(m k:Nat):ndF l h orig m (k*4)=.int .u8 (l.getD k default).kind:=by
 unfold ndF;rw[if_pos (by omega),show k*4/4=k by omega]
theorem ndF_1(l:List Nd)(h:Nat→Nat)(orig:Nat→Value)(m k:Nat):ndF l h orig m (k*4+1)=if k<m then .slice (some ⟨h k,0,none⟩) (l.getD k default).ins.length (l.getD k default).ins.length else orig k:=by
 unfold ndF;rw[if_neg (by omega),if_pos (by omega),show (k*4+1)/4=k by omega]
theorem ndF_2(l:List Nd)(h:Nat→Nat)(orig:Nat→Value)(m k:Nat):ndF l h orig m (k*4+2)=.int .i64 (l.getD k default).mem:=by
 unfold ndF;rw[if_neg (by omega),if_neg (by omega),if_pos (by omega),show (k*4+2)/4=k by omega]
theorem ndF_3(l:List Nd)(h:Nat→Nat)(orig:Nat→Value)(m k:Nat):ndF l h orig m (k*4+3)=.int .i64 (l.getD k default).bit:=by
 unfold ndF;rw[if_neg (by omega),if_neg (by omega),if_neg (by omega),show (k*4+3)/4=k by omega]
theorem ndC_set{l:List Nd}{h:Nat→Nat}{orig:Nat→Value}{k b:Nat}(hk:k<l.length):
 (ndC l h orig k).set (k*4+1) (.slice (some ⟨b,0,none⟩) (l.getD k default).ins.length (l.getD k default).ins.length)=ndC l (fun i=>if i=k then b else h i) orig (k+1):=by
 apply List.ext_getElem?
 intro j
 by_cases hj:j<l.length*4
 ·rw[List.getElem?_set,ndC_get hj,ndC_get hj,ndC_len]
  by_cases e:k*4+1=j
  ·subst e
   rw[if_pos rfl,if_pos (by omega),ndF_1,if_pos (by omega),if_pos rfl]
  ·rw[if_neg e]
   unfold ndF
   by_cases h1:j%4=1
   ·have hne:j/4≠k:=by omega
    have h00:¬j%4=0:=by omega
    rw[if_neg h00,if_pos h1,if_neg h00,if_pos h1]
    by_cases h2:j/4<k
    ·rw[if_pos h2,if_pos (show j/4<k+1 by omega)]
     show _=some (Value.slice (some ⟨if j/4=k then b else h (j/4),0,none⟩) _ _)
     rw[if_neg hne]
    ·rw[if_neg h2,if_neg (show ¬j/4<k+1 by omega)]
   ·rw[if_neg h1,if_neg h1]
 ·rw[List.getElem?_eq_none (by simp[ndC_len];omega),List.getElem?_eq_none (by simp[ndC_len];omega)]
def mmF(l:List Mm)(ha hd:Nat→Nat)(oa od:Nat→Value)(m:Nat)(j:Nat):Value:=
 if j%3=0 then (if j/3<m then .slice (some ⟨ha (j/3),0,none⟩) (l.getD (j/3) default).addr.length (l.getD (j/3) default).addr.length else oa (j/3))
 else if j%3=1 then (if j/3<m then .slice (some ⟨hd (j/3),0,none⟩) (l.getD (j/3) default).data.length (l.getD (j/3) default).data.length else od (j/3))
 else .int .i64 (l.getD (j/3) default).write
def mmC(l:List Mm)(ha hd:Nat→Nat)(oa od:Nat→Value)(m:Nat):List Value:=(List.range (l.length*3)).map (mmF l ha hd oa od m)
theorem mmC_len(l:List Mm)(ha hd:Nat→Nat)(oa od:Nat→Value)(m:Nat):(mmC l ha hd oa od m).length=l.length*3:=by simp[mmC]
theorem mmC_get{l:List Mm}{ha hd:Nat→Nat}{oa od:Nat→Value}{m j:Nat}(hj:j<l.length*3):(mmC l ha hd oa od m)[j]? =some (mmF l ha hd oa od m j):=by simp[mmC,hj]
theorem mmF_0(l:List Mm)(ha hd:Nat→Nat)(oa od:Nat→Value)(m k:Nat):mmF l ha hd oa od m (k*3)=if k<m then .slice (some ⟨ha k,0,none⟩) (l.getD k default).addr.length (l.getD k default).addr.length else oa k:=by
 unfold mmF;rw[if_pos (by omega),show k*3/3=k by omega]
theorem mmF_1(l:List Mm)(ha hd:Nat→Nat)(oa od:Nat→Value)(m k:Nat):mmF l ha hd oa od m (k*3+1)=if k<m then .slice (some ⟨hd k,0,none⟩) (l.getD k default).data.length (l.getD k default).data.length else od k:=by
 unfold mmF;rw[if_neg (by omega),if_pos (by omega),show (k*3+1)/3=k by omega]
theorem mmF_2(l:List Mm)(ha hd:Nat→Nat)(oa od:Nat→Value)(m k:Nat):mmF l ha hd oa od m (k*3+2)=.int .i64 (l.getD k default).write:=by
 unfold mmF;rw[if_neg (by omega),if_neg (by omega),show (k*3+2)/3=k by omega]
theorem mmC_set{l:List Mm}{ha hd:Nat→Nat}{oa od:Nat→Value}{k b d:Nat}(hk:k<l.length):
 ((mmC l ha hd oa od k).set (k*3) (.slice (some ⟨b,0,none⟩) (l.getD k default).addr.length (l.getD k default).addr.length)).set (k*3+1) (.slice (some ⟨d,0,none⟩) (l.getD k default).data.length (l.getD k default).data.length)=
   mmC l (fun i=>if i=k then b else ha i) (fun i=>if i=k then d else hd i) oa od (k+1):=by
 apply List.ext_getElem?
 intro j
 by_cases hj:j<l.length*3
 ·rw[List.getElem?_set,List.getElem?_set,mmC_get hj,mmC_get hj,List.length_set,mmC_len]
  by_cases e:k*3+1=j
  ·subst e
   rw[if_pos rfl,if_pos (by omega),mmF_1,if_pos (by omega),if_pos rfl]
  ·rw[if_neg e]
   by_cases e0:k*3=j
   ·subst e0
    rw[if_pos rfl,if_pos (by omega),mmF_0,if_pos (by omega),if_pos rfl]
   ·rw[if_neg e0]
    unfold mmF
    have hne:j%3≠2→j/3≠k:=by omega
    by_cases h0:j%3=0
    ·have hn:=hne (by omega)
     rw[if_pos h0,if_pos h0]
     by_cases h2:j/3<k
     ·rw[if_pos h2,if_pos (show j/3<k+1 by omega)]
      show _=some (Value.slice (some ⟨if j/3=k then b else ha (j/3),0,none⟩) _ _)
      rw[if_neg hn]
     ·rw[if_neg h2,if_neg (show ¬j/3<k+1 by omega)]
    ·rw[if_neg h0,if_neg h0]
     by_cases h1:j%3=1
     ·have hn:=hne (by omega)
      rw[if_pos h1,if_pos h1]
      by_cases h2:j/3<k
      ·rw[if_pos h2,if_pos (show j/3<k+1 by omega)]
       show _=some (Value.slice (some ⟨if j/3=k then d else hd (j/3),0,none⟩) _ _)
       rw[if_neg hn]
      ·rw[if_neg h2,if_neg (show ¬j/3<k+1 by omega)]
     ·rw[if_neg h1,if_neg h1]
 ·rw[List.getElem?_eq_none (by simp[mmC_len];omega),List.getElem?_eq_none (by simp[mmC_len];omega)]
structure OwnC(x:Ck)(G g0 g1 g2 g3:Nat)(h ha hd:Nat→Nat)(w:World):Prop where
 low:G≤g0∧g0<g1∧g1<g2∧g2<g3
 f0:Fr w g0 57 (ndC x.nodes h (fun _=>undef) x.nodes.length)
 f1:Fr w g1 9 (x.names.map Value.string)
 f2:Fr w g2 72 (mmC x.mems ha hd (fun _=>undef) (fun _=>undef) x.mems.length)
 f3:Row w g3 x.outs
 rn:∀k,k<x.nodes.length→g3<h k∧Row w (h k) (x.nodes.getD k default).ins
 rm:∀k,k<x.mems.length→g3<ha k∧Row w (ha k) (x.mems.getD k default).addr∧g3<hd k∧Row w (hd k) (x.mems.getD k default).data
 nn:∀i j,i<j→j<x.nodes.length→h i<h j
 nm:∀i j,i<x.nodes.length→j<x.mems.length→h i<ha j
 mm:∀i,i<x.mems.length→ha i<hd i
 ml:∀i j,i<j→j<x.mems.length→hd i<ha j
theorem Fr.alloc{w:World}{g:Nat}{t:TypeId}{cs:List Value}(h:Fr w g t cs)(o:Obj):Fr (w.alloc o) g t cs:=h.below ((Below.refl _ _).alloc (Nat.le_refl _) o)
theorem Fr.drew{w:World}{g:Nat}{t:TypeId}{cs:List Value}(h:Fr w g t cs):Fr w.drew g t cs:=h
theorem Fr.other{w:World}{g:Nat}{t:TypeId}{cs:List Value}(h:Fr w g t cs){a:Addr}(ha:a.block≠g)(v:Value):Fr (w.setCell a v) g t cs:=
 h.kept (row:=some a.block) ⟨rfl,rfl,rfl,by simp[World.setCell],fun i _ hne=>Below.heap_setCell _ _ _ _ (fun e=>hne (by rw[e]))⟩ (fun e=>ha (by injection e with e;exact e.symm))
def BelW(w w':World):Prop:=Below w.heap.size w w'
theorem BelW.next{w w1 w2:World}(h:BelW w w1)(hb:Below w1.heap.size w1 w2):BelW w w2:=joinB h hb
theorem BelW.trans{w w1 w2:World}(h:BelW w w1)(hb:BelW w1 w2):BelW w w2:=joinB h hb
theorem BelW.alloc{w w1:World}(h:BelW w w1)(o:Obj):BelW w (w1.alloc o):=below_new h o
theorem BelW.drew{w w1:World}(h:BelW w w1):BelW w w1.drew:=Below.drew h
theorem BelW.set{w w1:World}(h:BelW w w1){a:Addr}(ha:w.heap.size≤a.block)(v:Value):BelW w (w1.setCell a v):=Below.setCell h ha v
structure Cp1(n0 n1 n2 n3:Nat)(w:World)(b0 o0 b1 o1 b2 o2 b3 o3:Nat)(D g0 g1 g2 g3:Nat)(wx:World):Prop where
 bel:BelW w wx
 low:w.heap.size+1<g0∧g0<g1∧g1<g2∧g2<g3∧w.heap.size+1<D∧D≠g0∧D≠g1∧D≠g2∧D≠g3
 f0:Fr wx g0 57 (rdC w b0 o0 (n0*4))
 f1:Fr wx g1 9 (rdC w b1 o1 (n1*1))
 f2:Fr wx g2 72 (rdC w b2 o2 (n2*3))
 f3:Fr wx g3 3 (rdC w b3 o3 (n3*1))
 fd:Fr wx D 27 [.slice (some ⟨g0,0,none⟩) n0 n0,.slice (some ⟨g1,0,none⟩) n1 n1,.slice (some ⟨g2,0,none⟩) n2 n2,.slice (some ⟨g3,0,none⟩) n3 n3]
 fr:Fr wx (w.heap.size+1) 27 [.slice none 0 0,.slice none 0 0,.slice none 0 0,.slice none 0 0]
theorem BelW.set4{w w1:World}{D:Nat}(h:BelW w w1)(hD:w.heap.size≤D)(a b c d:Value):
 BelW w ((((w1.setCell ⟨D,0,none⟩ a).setCell ⟨D,1,none⟩ b).setCell ⟨D,2,none⟩ c).setCell ⟨D,3,none⟩ d):=(((h.set hD a).set hD b).set hD c).set hD d
theorem Fr.set4{w:World}{D:Nat}{t:TypeId}{x y z u:Value}(h:Fr w D t [x,y,z,u])(a b c d:Value):
 Fr ((((w.setCell ⟨D,0,none⟩ a).setCell ⟨D,1,none⟩ b).setCell ⟨D,2,none⟩ c).setCell ⟨D,3,none⟩ d) D t [a,b,c,d]:=(((h.set 0 a).set 1 b).set 2 c).set 3 d
theorem Fr.made(w:World)(cs:List Value)(t:TypeId){g:Nat}(hg:g=w.heap.size):Fr (w.alloc (.cells cs.toArray t)) g t cs:=by
 subst hg;unfold Fr;exact heap_alloc_new _ _
structure SzOk(c:Ck):Prop where
 n:c.nodes.length≤1000000
 s:c.names.length≤1000000
 m:c.mems.length≤1000000
 o:c.outs.length≤1000000
 i:∀k,k<c.nodes.length→(c.nodes.getD k default).ins.length≤17592186044416
 a:∀k,k<c.mems.length→(c.mems.getD k default).addr.length≤17592186044416
 d:∀k,k<c.mems.length→(c.mems.getD k default).data.length≤17592186044416
structure Nd1(c:Ck)(w:World)(D g0 g1 g2 g3 n0 n1 n2 n3 T:Nat)(sN sA sD:Nat→Value)(k:Nat)(h:Nat→Nat)(wr:World):Prop where
 bel:BelW w wr
 top:T≤wr.heap.size
 f0:Fr wr g0 57 (ndC c.nodes h sN k)
 f1:Fr wr g1 9 (c.names.map Value.string)
 f2:Fr wr g2 72 (mmC c.mems (fun _=>0) (fun _=>0) sA sD 0)
 f3:Fr wr g3 3 (c.outs.map (Value.int .i64))
 fd:Fr wr D 27 [.slice (some ⟨g0,0,none⟩) n0 n0,.slice (some ⟨g1,0,none⟩) n1 n1,.slice (some ⟨g2,0,none⟩) n2 n2,.slice (some ⟨g3,0,none⟩) n3 n3]
 fr:Fr wr (w.heap.size+1) 27 [.slice none 0 0,.slice none 0 0,.slice none 0 0,.slice none 0 0]
 rows:∀j,j<k→T≤h j∧Row wr (h j) (c.nodes.getD j default).ins
 inc:∀i j,i<j→j<k→h i<h j
theorem Row.other{w:World}{g:Nat}{l:List Int}(h:Row w g l){a:Addr}(ha:a.block≠g)(v:Value):Row (w.setCell a v) g l:=
 h.kept (row:=some a.block) ⟨rfl,rfl,rfl,by simp[World.setCell],fun i _ hne=>Below.heap_setCell _ _ _ _ (fun e=>hne (by rw[e]))⟩ (fun e=>ha (by injection e with e;exact e.symm))
theorem Nd1.step{c:Ck}{w:World}{D g0 g1 g2 g3 n0 n1 n2 n3 T:Nat}{sN sA sD:Nat→Value}{k:Nat}{h:Nat→Nat}{wr w1:World}(hnd:Nd1 c w D g0 g1 g2 g3 n0 n1 n2 n3 T sN sA sD k h wr)
 (hk:k<c.nodes.length) (hb:BelW wr w1) {y:Nat} (hy:wr.heap.size≤y) (hr:Row w1 y (c.nodes.getD k default).ins)
 (h0:w.heap.size+1<g0) (h1:g0<g1) (h2:g1<g2) (h3:g2<g3) (h4:g3<T) (hD:D≠g0):
 Nd1 c w D g0 g1 g2 g3 n0 n1 n2 n3 T sN sA sD (k+1) (fun i=>if i=k then y else h i) (w1.setCell ⟨g0,k*4+1,none⟩ (.slice (some ⟨y,0,none⟩) (c.nodes.getD k default).ins.length (c.nodes.getD k default).ins.length)):=by
 have ht:=hnd.top
 have hlt:∀j,j<k→h j<wr.heap.size:=fun j hj=>(hnd.rows j hj).2.lt
 refine⟨(hnd.bel.trans hb).set (by show w.heap.size≤g0;omega) _,?_,?_,Fr.other (Fr.below hnd.f1 hb) (by show g0≠g1;omega) _,Fr.other (Fr.below hnd.f2 hb) (by show g0≠g2;omega) _,Fr.other (Fr.below hnd.f3 hb) (by show g0≠g3;omega) _,Fr.other (Fr.below hnd.fd hb) (by show g0≠D;omega) _,Fr.other (Fr.below hnd.fr hb) (by show g0≠w.heap.size+1;omega) _,fun j hj=>?_,fun i j hij hj=>?_⟩
 ·have:=hb.size
  simp only[World.size_setCell];omega
 ·rw[←ndC_set hk]
  exact (Fr.below hnd.f0 hb).set _ _
 ·by_cases e:j=k
  ·subst e
   rw[if_pos rfl]
   exact⟨by omega,hr.other (by show g0≠y;omega) _⟩
  ·rw[if_neg e]
   have hj':=hnd.rows j (by omega)
   exact⟨hj'.1,(hj'.2.below hb).other (by show g0≠h j;omega) _⟩
 ·have hi:i≠k:=by omega
  rw[if_neg hi]
  by_cases e:j=k
  ·rw[if_pos e];have:=hlt i (by omega);omega
  ·rw[if_neg e];exact hnd.inc i j hij (by omega)
structure Nd2(c:Ck)(w:World)(D g0 g1 g2 g3 n0 n1 n2 n3 T:Nat)(sN sA sD:Nat→Value)(h:Nat→Nat)(k:Nat)(ha hd:Nat→Nat)(wr:World):Prop where
 bel:BelW w wr
 top:T≤wr.heap.size
 f0:Fr wr g0 57 (ndC c.nodes h sN c.nodes.length)
 f1:Fr wr g1 9 (c.names.map Value.string)
 f2:Fr wr g2 72 (mmC c.mems ha hd sA sD k)
 f3:Fr wr g3 3 (c.outs.map (Value.int .i64))
 fd:Fr wr D 27 [.slice (some ⟨g0,0,none⟩) n0 n0,.slice (some ⟨g1,0,none⟩) n1 n1,.slice (some ⟨g2,0,none⟩) n2 n2,.slice (some ⟨g3,0,none⟩) n3 n3]
 fr:Fr wr (w.heap.size+1) 27 [.slice none 0 0,.slice none 0 0,.slice none 0 0,.slice none 0 0]
 rows:∀j,j<c.nodes.length→T≤h j∧Row wr (h j) (c.nodes.getD j default).ins
 inc:∀i j,i<j→j<c.nodes.length→h i<h j
 mrows:∀j,j<k→T≤ha j∧Row wr (ha j) (c.mems.getD j default).addr∧ha j<hd j∧Row wr (hd j) (c.mems.getD j default).data
 nm:∀i j,i<c.nodes.length→j<k→h i<ha j
 ml:∀i j,i<j→j<k→hd i<ha j
theorem Nd2.step{c:Ck}{w:World}{D g0 g1 g2 g3 n0 n1 n2 n3 T:Nat}{sN sA sD:Nat→Value}{h:Nat→Nat}{k:Nat}{ha hd:Nat→Nat}{wr w2:World}(hnd:Nd2 c w D g0 g1 g2 g3 n0 n1 n2 n3 T sN sA sD h k ha hd wr)
 (hk:k<c.mems.length) (hb:BelW wr w2) {y z:Nat} (hy:wr.heap.size≤y) (hyz:y<z) (hr:Row w2 y (c.mems.getD k default).addr) (hs:Row w2 z (c.mems.getD k default).data)
 (h0:w.heap.size+1<g0) (h1:g0<g1) (h2:g1<g2) (h3:g2<g3) (h4:g3<T) (hD:D≠g2):
 Nd2 c w D g0 g1 g2 g3 n0 n1 n2 n3 T sN sA sD h (k+1) (fun i=>if i=k then y else ha i) (fun i=>if i=k then z else hd i) ((w2.setCell ⟨g2,k*3,none⟩ (.slice (some ⟨y,0,none⟩) (c.mems.getD k default).addr.length (c.mems.getD k default).addr.length)).setCell ⟨g2,k*3+1,none⟩ (.slice (some ⟨z,0,none⟩) (c.mems.getD k default).data.length (c.mems.getD k default).data.length)):=by
 have ht:=hnd.top
 have hlt:∀j,j<c.nodes.length→h j<wr.heap.size:=fun j hj=>(hnd.rows j hj).2.lt
 have hlm:∀j,j<k→hd j<wr.heap.size:=fun j hj=>(hnd.mrows j hj).2.2.2.lt
 have fo:∀ {g:Nat} {t:TypeId} {cs:List Value} {p q:Nat} {u v:Value},g≠g2→Fr wr g t cs→Fr ((w2.setCell ⟨g2,p,none⟩ u).setCell ⟨g2,q,none⟩ v) g t cs:=fun hne hf=>((Fr.below hf hb).other (fun e=>hne e.symm) _).other (fun e=>hne e.symm) _
 have ro:∀ {g:Nat} {l:List Int} {p q:Nat} {u v:Value},g≠g2→Row w2 g l→Row ((w2.setCell ⟨g2,p,none⟩ u).setCell ⟨g2,q,none⟩ v) g l:=fun hne hf=>(hf.other (fun e=>hne e.symm) _).other (fun e=>hne e.symm) _
 refine⟨((hnd.bel.trans hb).set (by show w.heap.size≤g2;omega) _).set (by show w.heap.size≤g2;omega) _,?_,fo (by omega) hnd.f0,fo (by omega) hnd.f1,?_,fo (by omega) hnd.f3,fo hD hnd.fd,fo (by omega) hnd.fr,fun j hj=>?_,hnd.inc,fun j hj=>?_,fun i j hi hj=>?_,fun i j hij hj=>?_⟩
 ·have:=hb.size
  simp only[World.size_setCell];omega
 ·rw[←mmC_set hk]
  exact ((Fr.below hnd.f2 hb).set _ _).set _ _
 ·have hj':=hnd.rows j hj
  exact⟨hj'.1,ro (by omega) (hj'.2.below hb)⟩
 ·by_cases e:j=k
  ·subst e
   rw[if_pos rfl,if_pos rfl]
   exact⟨by omega,ro (by omega) hr,hyz,ro (by omega) hs⟩
  ·rw[if_neg e,if_neg e]
   obtain⟨q1,q2,q3,q4⟩:=hnd.mrows j (by omega)
   exact⟨q1,ro (by omega) (q2.below hb),q3,ro (by omega) (q4.below hb)⟩
 ·by_cases e:j=k
  ·rw[if_pos e];have:=hlt i hi;omega
  ·rw[if_neg e];exact hnd.nm i j hi (by omega)
 ·have hi:i≠k:=by omega
  rw[if_neg hi]
  by_cases e:j=k
  ·rw[if_pos e];have:=hlm i (by omega);omega
  ·rw[if_neg e];exact hnd.ml i j hij (by omega)
end Go.Proofs.YtjdjcaobkmpoeaaDoor
