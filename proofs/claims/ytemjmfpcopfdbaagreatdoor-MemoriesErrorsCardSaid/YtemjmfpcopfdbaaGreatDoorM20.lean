/- The texts Srs Org Smb Blk Meu. -/
import Derived.Test.YtemjmfpcopfdbaaGreatDoorM19
import Derived.Test.YtemjmfpcopfdbaaGreatDoorM17
import Derived.Test.YtemjmfpcopfdbaaGreatDoorM13
import Derived.Test.YtemjmfpcopfdbaaGreatDoorM16
import Derived.Laws.CopyOwn
namespace Go.Proofs.YtemjmfpcopfdbaaGreatDoor
open Go.RowKit
set_option maxRecDepth 100000 in
set_option maxHeartbeats 8000000 in
theorem stable_w(L:List Int)(n d g q B:Nat)(w w0:World)(hd:B≤d)(hg:d≠g)(hq:d≠q)(hL:L.length=n)(hn:n≤1000000)(hw:SV w0 B d g q n L w):
 Calls Tryz.prog 123 #[.slice (some ⟨d,0,none⟩) n n,.int .i64 n,.func (.func 78) #[] #[.pointer (some ⟨q,0,none⟩)]] w (SVP w0 B d g q n L):=by
 have HI:Hid (∀(a b:Nat) (W:World),b≤n→a≤n→SV w0 B d g q n L W→Calls Tryz.prog 144 #[.slice (some ⟨d,0,none⟩) n n,.int .i64 (a:Int),.int .i64 (b:Int),.func (.func 78) #[] #[.pointer (some ⟨q,0,none⟩)]] W (SVP w0 B d g q n L)):=
  Lib.hid fun a b W hb ha hs=>insert_w L n d g q B a b W w0 hd hg hq hL hn hb ha hs
 have HM:Hid (∀(a m b:Nat) (W:World),a<m→m<b→b≤n→SV w0 B d g q n L W→Calls Tryz.prog 145 #[.slice (some ⟨d,0,none⟩) n n,.int .i64 (a:Int),.int .i64 (m:Int),.int .i64 (b:Int),.func (.func 78) #[] #[.pointer (some ⟨q,0,none⟩)]] W (SVP w0 B d g q n L)):=
  Lib.hid fun a m b W h1 h2 h3 hs=>sym_any L n d g q B w0 hd hg hq hL hn (b-a) a m b W (Nat.le_refl _) h1 h2 h3 hs
 have HW:=Lib.hid hw
 clear hw hL
 go_enter Tryz.func123,Tryz.ntmps123
 go_wp2
 go_loopw [7,8] (fun va vb wr=>∃a b:Nat,va=.int .i64 a∧vb=.int .i64 b∧b=a+20∧a≤n∧SV w0 B d g q n L wr) (fun _ vb _=>n+21-(intOf vb).toNat)
 case atStart=>exact⟨0,20,by first|rfl|go_num,by first|rfl|go_num,rfl,Nat.zero_le _,HW.out⟩
 case round=>
  clear HW
  obtain⟨a,b,rfl,rfl,hb,han,hs⟩:=hrel
  have HS:=Lib.hid hs
  have HBE:=Lib.hid hb
  have hab:a<b:=by omega
  have hbz:b≤a+20:=by omega
  clear hs hb
  by_cases hlt:b≤n
  ·go_wp2_with (go_at_call 144;(with_reducible refine (HI.out a b _ hlt han HS.out).mono ?_);rintro ee w2 ⟨rfl,h5⟩;have HS2:=Lib.hid h5;clear h5)
   go_roundw
   case rel=>exact⟨b,b+20,by first|rfl|go_num,by first|rfl|go_num,rfl,by omega,HS2.out⟩
   case measure=>simp[intOf];omega
  ·go_wp2_with (go_at_call 144;(with_reducible refine (HI.out a n _ (Nat.le_refl _) han HS.out).mono ?_);rintro ee w2 ⟨rfl,h5⟩;have HS2:=Lib.hid h5;clear h5)
   go_loopw [6] (fun vs wr=>∃s:Nat,vs=.int .i64 s∧20≤s∧s≤2*n+20∧SV w0 B d g q n L wr) (fun vs _=>n-(intOf vs).toNat)
   case atStart=>exact⟨20,by first|rfl|go_num,by omega,by omega,HS2.out⟩
   case round=>
    clear HS2 HS
    obtain⟨s,rfl,hs1,hs2,hs⟩:=hrel
    have HS:=Lib.hid hs
    clear hs hlt han hab hbz
    by_cases hlt:s<n
    ·go_wp2
     go_loopw [7,8] (fun va vb wr=>∃a2 b2:Nat,va=.int .i64 a2∧vb=.int .i64 b2∧b2=a2+2*s∧a2≤n∧SV w0 B d g q n L wr) (fun _ vb _=>n+2*s+1-(intOf vb).toNat)
     case atStart=>exact⟨0,2*s,by first|rfl|go_num,by first|rfl|go_num,by omega,Nat.zero_le _,HS.out⟩
     case round=>
      clear HS
      obtain⟨a2,b2,rfl,rfl,hb2,ha2,hs⟩:=hrel
      have HS:=Lib.hid hs
      have HB2E:=Lib.hid hb2
      clear hs
      obtain⟨m2,HM2⟩:=named (a2+s)
      have u1:IntKind.i64.wrap ((a2:Int)+(s:Int))=(m2:Int):=by rw[IntKind.wrap_i64];have:=HM2.out;omega
      have h1:a2<m2:=by have:=HM2.out;omega
      have h2:m2<b2:=by have:=HM2.out;omega
      have u2:IntKind.i64.wrap ((b2:Int)+(IntKind.i64.wrap (2*(s:Int))))=((b2+2*s:Nat):Int):=by rw[IntKind.wrap_i64,IntKind.wrap_i64];omega
      have h3:b2≤n→b2+2*s≤4000000:=by omega
      clear hb2
      by_cases hle:b2≤n
      ·go_wp2_with (go_at_call 145;(with_reducible refine (HM.out a2 m2 b2 _ h1 h2 hle HS.out).mono ?_);rintro ee w2 ⟨rfl,h5⟩;have HS2:=Lib.hid h5;clear h5)
       go_roundw
       case rel=>exact⟨b2,b2+2*s,by first|rfl|go_num,by first|rfl|go_num,by omega,by omega,HS2.out⟩
       case measure=>simp[intOf];omega
      ·by_cases hmn:m2<n
       ·go_wp2_with (go_at_call 145;(with_reducible refine (HM.out a2 m2 n _ h1 hmn (Nat.le_refl _) HS.out).mono ?_);rintro ee w2 ⟨rfl,h5⟩;have HS2:=Lib.hid h5;clear h5)
        go_roundw
        case rel=>exact⟨2*s,by first|rfl|go_num,by omega,by omega,HS2.out⟩
        case measure=>simp[intOf];omega
       ·go_wp2
        go_roundw
        case rel=>exact⟨2*s,by first|rfl|go_num,by omega,by omega,HS.out⟩
        case measure=>simp[intOf];omega
    ·go_wp2
     go_end0
     exact⟨rfl,HS.out⟩
set_option maxHeartbeats 400000 in
theorem sort_w(L:List Int)(n d g q B:Nat)(w w0:World)(hd:B≤d)(hg:d≠g)(hq:d≠q)(hL:L.length=n)(hn:n≤1000000)(hw:SV w0 B d g q n L w):
 Calls Tryz.prog 77 #[.slice (some ⟨d,0,none⟩) n n,.func (.func 78) #[] #[.pointer (some ⟨q,0,none⟩)]] w (SVP w0 B d g q n L):=by
 have HI:=Lib.hid (stable_w L n d g q B w w0 hd hg hq hL hn hw)
 clear hw hL
 go_enter Tryz.func77,Tryz.ntmps77
 go_wp2_with (go_at_call 123;(with_reducible refine HI.out.mono ?_);rintro e w' ⟨rfl,h1⟩;have HR:=Lib.hid h1;clear h1)
 go_end0
 exact⟨rfl,HR.out⟩
theorem rng_rg(n:Nat):Rg n (rng 0 n):=⟨by rw[rng_len,Nat.sub_zero],fun x hx=>by
 simp[rng]at hx
 obtain⟨j,hj,rfl⟩:=hx
 omega⟩
def OrdG(c:Ck)(w:World)(e:Ending)(w':World):Prop:=
 Below w.heap.size w w'∧((chkErr c=0∧∃d R,Rg c.nodes.length R∧w.heap.size≤d∧e=.returned (.tuple #[.slice (some ⟨d,0,none⟩) c.nodes.length c.nodes.length,.int .i64 0])∧Row w' d R)∨(chkErr c≠0∧e=.returned (.tuple #[.slice none 0 0,.int .i64 (chkErr c)])))
set_option maxRecDepth 100000 in
set_option maxHeartbeats 4000000 in
theorem order_rg(c:Ck)(v:Value)(w:World)(B:Nat)(hB:B≤w.heap.size)(hT:Tabs w)(hc:Cir w B v c)(hn20:c.nodes.length≤1000000):
 Calls Tryz.prog 33 #[v] w (OrdG c w):=by
 have hb0:=hc
 obtain⟨v0,v1,v2,v3,rfl,hns,hss,hms,hos⟩:=hc
 obtain⟨A0,b0,o0,c0,rfl,-⟩:=id hns
 obtain⟨A1,b1,o1,c1,rfl,-⟩:=id hss
 obtain⟨A2,b2,o2,c2,rfl,-⟩:=id hms
 obtain⟨A3,b3,o3,c3,rfl,-⟩:=id hos
 have hbW:Below w.heap.size w (w.alloc (.cells #[.slice A0 c.nodes.length c0,.slice A1 c.names.length c1,.slice A2 c.mems.length c2,.slice A3 c.outs.length c3] 39)):=(Below.refl _ _).alloc (Nat.le_refl _) _
 have hL:=levels_any c _ _ B (Nat.le_trans hB hbW.size) (hT.below hbW) (hb0.below (hbW.mono hB))
 clear hns hss hms hos hb0 hT
 by_cases hck:chkErr c=0
 ·have hL2:=hL.mono (R':=fun e w'=>∃L g,e=.returned (.tuple #[.slice (some ⟨g,0,none⟩) c.nodes.length c.nodes.length,.int .i64 0])∧Below (w.alloc (.cells #[.slice A0 c.nodes.length c0,.slice A1 c.names.length c1,.slice A2 c.mems.length c2,.slice A3 c.outs.length c3] 39)).heap.size (w.alloc (.cells #[.slice A0 c.nodes.length c0,.slice A1 c.names.length c1,.slice A2 c.mems.length c2,.slice A3 c.outs.length c3] 39)) w'∧w.heap.size≤g∧Row w' g L∧shapeErr c=0∧Lvl c.nodes L∧(∀i:Nat,i<c.nodes.length→lat L i<(c.nodes.length:Int))) fun e w' ⟨h1,h2⟩=>by
   rcases h2 with⟨-,h0,L,g,hl,hbd,hg,he,hr⟩| ⟨hne,-⟩
   ·exact⟨L,g,he,h1,Nat.le_trans hbW.size hg,hr,h0,hl,hbd⟩
   ·exact absurd hck hne
  have HCK:=Lib.hid hck
  clear hL hck
  generalize c.names.length=n1 at hL2 hbW ⊢
  generalize c.mems.length=n2 at hL2 hbW ⊢
  generalize c.outs.length=n3 at hL2 hbW ⊢
  obtain⟨n,HN⟩:=named c.nodes.length
  rw[←HN.out]at hL2 hbW hn20
  rw[←HN.out]
  have HL:=Lib.hid hL2
  have HBW:=Lib.hid hbW
  clear hL2 hbW
  obtain⟨i0,hi,hz0,hz1,hz2⟩:=info_parts info_int
  have HI:=Lib.hid (And.intro hi (And.intro hz0 (And.intro hz1 hz2)))
  clear hi hz0 hz1 hz2
  go_enter Tryz.func33,Tryz.ntmps33
  go_wp2_with (first
   |(go_at_call 76;(with_reducible refine HL.out.mono ?_);rintro e w1 ⟨L,g,rfl,hb,hwg,hr,hsh,hl,hbd⟩;have HB1:=Lib.hid hb;have HR:=Lib.hid hr;have HSH:=Lib.hid hsh;have HLV:=Lib.hid hl;have HBD:=Lib.hid hbd;clear hb hr hsh hl hbd)
   |(at_make;refine wpList_make_full _ rfl _ _ 37 rfl w.heap.size 3 i0 (.int .i64 0) 1 Tryz.underlying37 HI.out.1 HI.out.2.1 HI.out.2.2.1 .i64 .i64 _ _ n rfl rfl rfl rfl ?b2 ?b3 ?b4 ?_))
  case b2=>rw[HI.out.2.2.2];omega
  case b3=>unfold maxLen;omega
  case b4=>have:=(joinB HBW.out HB1.out).size;simp;omega
  intro w2 hown hgr
  rw[fillL_start (fun j=>.int .i64 (j:Int))]at hown
  obtain⟨w1v,HW1⟩:=named (w1.alloc (.cells #[.slice (some ⟨g,0,none⟩) n n] 37))
  have hz1:w1v.heap.size=w1.heap.size+1:=by rw[HW1.out];simp
  rw[←HW1.out]at hgr
  have hb1v:Below w.heap.size w w1v:=by rw[HW1.out];exact below_new (joinB HBW.out HB1.out) _
  have hrv:Row w1v g L:=by rw[HW1.out];exact HR.out.below ((Below.refl _ _).alloc (Nat.le_refl _) _)
  have hcv:w1v.cell? ⟨w1.heap.size,0,none⟩=some (.slice (some ⟨g,0,none⟩) n n):=by rw[HW1.out,World.cell?_alloc_at _ _ _ _ rfl];rfl
  have hb2:Below w.heap.size w w2:=hb1v.grown hgr hb1v.size (fun k h=>by cases h)
  have hr2:Row w2 g L:=hrv.kept hgr (by simp)
  have hc2:w2.cell? ⟨w1.heap.size,0,none⟩=some (.slice (some ⟨g,0,none⟩) n n):=hgr.cell hcv (by simp)
  have hgl:g<w1.heap.size:=HR.out.lt
  have hbz:w.heap.size≤w1.heap.size:=(joinB HBW.out HB1.out).size
  have hsz2:w1.heap.size+1<w2.heap.size:=(World.ownsRow.lt hown _ rfl).2
  have HO:=Lib.hid hown
  have HB2:=Lib.hid hb2
  have HR2:=Lib.hid hr2
  have HC2:=Lib.hid hc2
  obtain⟨d,HD⟩:=named (w1.heap.size+1)
  rw[←HD.out]
  rw[←HD.out]at HO
  obtain⟨q,HQ⟩:=named w1.heap.size
  rw[←HQ.out]at HC2
  rw[←HQ.out]
  have hdg:d≠g:=by rw[HD.out];omega
  have hdq:d≠q:=by rw[HD.out,HQ.out];omega
  have hdw:w.heap.size≤d:=by rw[HD.out];omega
  have hqc:w2.cell? ⟨q,0,none⟩=some (.slice (some ⟨g,0,none⟩) n n):=HC2.out
  have hdz:d<w2.heap.size:=by rw[HD.out];omega
  clear hown hgr hb2 hr2 hc2 hcv hrv hb1v hz1 hgl hbz hsz2 hwg
  go_wp2
  go_loopw [21] (fun i wr=>∃k:Nat,k≤n∧i=.int .i64 k∧Below w.heap.size w wr∧wr.heap.size=w2.heap.size∧Row wr g L∧wr.cell? ⟨q,0,none⟩=some (.slice (some ⟨g,0,none⟩) n n)∧
   wr.ownsRow w.heap.size 3 1 (.slice (some ⟨d,0,none⟩) n n) n (fillL (fun j=>.int .i64 (j:Int)) (.int .i64 0) n k)) (fun i _=>n-(intOf i).toNat)
  case atStart=>exact⟨0,Nat.zero_le _,rfl,HB2.out,rfl,HR2.out,HC2.out,HO.out⟩
  case round=>
   clear HO HB2 HR2 HC2 hqc
   obtain⟨k,hk,rfl,hb,hsz,hr,hqc,hown⟩:=hrel
   have HBL:=Lib.hid hb
   have HO:=Lib.hid hown
   have HR2:=Lib.hid hr
   have HSZ:=Lib.hid hsz
   clear hb hown hr hsz
   by_cases hlt:k<n
   ·have hfz:wr.frozen? ⟨d,k,none⟩=false:=HO.out.frozenAt k
    have hcl:wr.cell? ⟨d,k,none⟩=some (.int .i64 0):=by
     rw[HO.out.cellAt k (by omega),fillL_get _ _ _ _ _ hlt,if_neg (by omega)]
    have HS:=Lib.hid (HO.out.stored k (.int .i64 (k:Int))).1
    have HQC:=Lib.hid hqc
    clear hqc
    go_wp2
    go_roundw
    case rel=>
     refine⟨k+1,by omega,by go_num,HBL.out.setCell hdw _,by rw[World.size_setCell];exact HSZ.out,HR2.out.otherS hdg _,?_,?_⟩
     ·rw[World.cell?_setCell_other _ _ _ _ (by simp[hdq])];exact HQC.out
     ·rw[←fillL_set (fun j=>.int .i64 (j:Int)) (.int .i64 0) n k];exact HS.out
    case measure=>simp[intOf];omega
   ·obtain rfl:n=k:=by omega
    have hrow:Row wr d (rng 0 n):=by
     have:=HO.out
     rw[fillL_rng]at this
     unfold Row
     rw[rng_len,Nat.sub_zero]
     refine⟨this.1,?_⟩
     rcases this.2 with⟨e,-⟩| ⟨g',cap,cur,e,hb',hg',hle,hmx,hs',ht'⟩
     ·cases e
     ·simp only[Value.slice.injEq,Option.some.injEq,Addr.mk.injEq]at e
      obtain⟨⟨rfl,-⟩,-,rfl⟩:=e
      exact .inr ⟨d,n,cur,rfl,Nat.le_refl _,hg',hle,hmx,hs',ht'⟩
    have hsort:=sort_w L n d g q w.heap.size wr wr hdw hdg hdq (by rw[HLV.out.1,HN.out]) hn20 ⟨rng 0 n,rng_rg n,Below.refl _ _,rfl,hrow,HR2.out,hqc⟩
    have HSRT:=Lib.hid hsort
    clear hsort hrow hqc
    go_wp2_with (go_at_call 77;(with_reducible refine HSRT.out.mono ?_);rintro e w4 ⟨rfl,R,h1,h2⟩;have HRR:=Lib.hid h1;have HSS:=Lib.hid h2;clear h1 h2)
    go_ret2
    unfold OrdG
    rw[←HN.out]
    exact⟨HBL.out.trans HSS.out.bel,.inl ⟨HCK.out,d,R,HRR.out,hdw,rfl,HSS.out.row⟩⟩
 ·have hL2:=hL.mono (R':=fun e w'=>e=.returned (.tuple #[.slice none 0 0,.int .i64 (chkErr c)])∧Below (w.alloc (.cells #[.slice A0 c.nodes.length c0,.slice A1 c.names.length c1,.slice A2 c.mems.length c2,.slice A3 c.outs.length c3] 39)).heap.size (w.alloc (.cells #[.slice A0 c.nodes.length c0,.slice A1 c.names.length c1,.slice A2 c.mems.length c2,.slice A3 c.outs.length c3] 39)) w') fun e w' ⟨h1,h2⟩=>by
   rcases h2 with⟨h0,-⟩| ⟨-,he⟩
   ·exact absurd h0 hck
   ·exact⟨he,h1⟩
  obtain⟨z,HZ⟩:=named (chkErr c)
  rw[←HZ.out]at hL2 hck
  have hz:(z==0)=false:=by simpa using hck
  have HCK:=Lib.hid hck
  clear hL hck
  generalize c.names.length=n1 at hL2 hbW ⊢
  generalize c.mems.length=n2 at hL2 hbW ⊢
  generalize c.outs.length=n3 at hL2 hbW ⊢
  obtain⟨n,HN⟩:=named c.nodes.length
  rw[←HN.out]at hL2 hbW
  rw[←HN.out]
  have HL:=Lib.hid hL2
  have HBW:=Lib.hid hbW
  clear hL2 hbW
  go_enter Tryz.func33,Tryz.ntmps33
  go_wp2_with (go_at_call 76;(with_reducible refine HL.out.mono ?_);rintro e w1 ⟨rfl,hb⟩;have HB1:=Lib.hid hb;clear hb)
  go_ret2
  exact⟨below_new (joinB HBW.out HB1.out) _,.inr ⟨by rw[←HZ.out];exact HCK.out,by rw[←HZ.out];rfl⟩⟩
def RunPost(c:Ck)(pin pst:List Int)(w:World)(e:Ending)(w':World):Prop:=
 ∃nets g h k,Net c.nodes (baseV c.nodes.length (ofTo c.nodes [0] c.nodes.length) (ofTo c.nodes [14] c.nodes.length) pin pst) nets∧
  e=.returned (.tuple #[.agg #[.slice (some ⟨g,0,none⟩) (outV c nets).length (outV c nets).length,.slice (some ⟨h,0,none⟩) (nextV c nets).length (nextV c nets).length],.slice (some ⟨k,0,none⟩) nets.length nets.length,.int .i64 0])∧
  VRow w' g (outV c nets)∧VRow w' h (nextV c nets)∧VRow w' k nets∧w.heap.size≤g∧w.heap.size≤h∧w.heap.size≤k∧Below w.heap.size w w'
def UnkPost(n:Nat)(w:World)(e:Ending)(w':World):Prop:=∃g,e=.returned (.slice (some ⟨g,0,none⟩) n n)∧VRow w' g (List.replicate n 2)∧w.heap.size≤g∧Below w.heap.size w w'
def filled(l:List Int)(n k:Nat):Prop:=l.length=n∧∀j,j<k→l.getD j 0=2
theorem filled_all{l:List Int}{n:Nat}(h:filled l n n):l=List.replicate n 2:=by
 apply List.ext_getElem (by rw[h.1,List.length_replicate])
 intro i h1 h2
 have:=h.2 i (by rw[←h.1];exact h1)
 rw[List.getD_eq_getElem?_getD,List.getElem?_eq_getElem h1]at this
 simpa using this
theorem filled_succ{l:List Int}{n k:Nat}(h:filled l n k)(hk:k<n):filled (l.set k 2) n (k+1):=by
 refine⟨by rw[List.length_set];exact h.1,fun j hj=>?_⟩
 rw[getD_set _ _ _ _ _ (by rw[h.1];exact hk)]
 split
 ·rfl
 ·exact h.2 j (by omega)
set_option maxHeartbeats 4000000 in
theorem unknown_any(n:Nat)(hn:n≤1000000)(w:World):Calls Tryz.prog 63 #[.int .i64 (n:Int)] w (UnkPost n w):=by
 obtain⟨i0,hi,hz0,hz1',hz2⟩:=info_parts info_val
 have HI:=Lib.hid (And.intro hi (And.intro hz0 (And.intro hz1' hz2)))
 clear hi hz0 hz1' hz2
 go_enter Tryz.func63,Tryz.ntmps63
 go_wp2_with (at_make;refine wpList_make_full _ rfl _ _ 41 rfl w.heap.size 77 i0 (.int .u8 0) 1 Tryz.underlying41 HI.out.1 HI.out.2.1 HI.out.2.2.1 .i64 .i64 _ _ n rfl rfl rfl rfl ?b2 ?b3 ?b4 ?_)
 case b2=>rw[HI.out.2.2.2];omega
 case b3=>unfold maxLen;omega
 case b4=>exact Nat.le_refl _
 intro w1 hown hgr
 rw[made_vals]at hown
 have hv:VRow w1 w.heap.size (List.replicate n 0):=VRow.of hown (by simp)
 have hb:Below w.heap.size w w1:=(Below.refl _ _).grown hgr (Nat.le_refl _) (fun k h=>by cases h)
 have HV:=Lib.hid hv
 have HB:=Lib.hid hb
 obtain⟨g,HG⟩:=named w.heap.size
 rw[←HG.out]at HV
 rw[←HG.out]
 clear hown hgr hv hb
 go_wp2
 go_loopw [9] (fun i wr=>∃(k:Nat) (l:List Int),k≤n∧i=.int .i64 k∧filled l n k∧VRow wr g l∧Below w.heap.size w wr) (fun i _=>n-(intOf i).toNat)
 case atStart=>exact⟨0,_,Nat.zero_le _,rfl,⟨by simp,fun j h=>absurd h (Nat.not_lt_zero j)⟩,HV.out,HB.out⟩
 case round=>
  obtain⟨k,l,hk,rfl,hf,hv,hb⟩:=hrel
  have HF:=Lib.hid hf
  have HVR:=Lib.hid hv
  have HBR:=Lib.hid hb
  by_cases hlt:k<n
  ·have hkl:k<l.length:=by rw[hf.1];exact hlt
   have x1:=hv.cell hkl
   have x2:=hv.frozen k
   obtain⟨y,HY⟩:=named (lat l (k:Int))
   rw[←HY.out]at x1
   clear hf hv hb hkl
   go_wp2
   have HN:=Lib.hid (filled_succ HF.out hlt)
   have HVN:=Lib.hid (HVR.out.set k 2)
   have HBN:=Lib.hid (HBR.out.setCell (p:=⟨g,k,none⟩) (by show w.heap.size≤g;have:=HG.out;omega) (.int .u8 2))
   go_roundw
   case rel=>exact⟨k+1,l.set k 2,by omega,by go_num,HN.out,HVN.out,HBN.out⟩
   case measure=>simp[intOf];omega
  ·obtain rfl:n=k:=by omega
   obtain rfl:=filled_all HF.out
   clear hf hv hb
   go_wp2
   go_ret
   exact⟨g,rfl,HVR.out,by have:=HG.out;omega,HBR.out⟩
def BlkPost(m k:Nat)(w:World)(e:Ending)(w':World):Prop:=∃g h,e=.returned (.agg #[.slice (some ⟨g,0,none⟩) m m,.slice (some ⟨h,0,none⟩) k k])∧VRow w' g (List.replicate m 2)∧VRow w' h (List.replicate k 2)∧Below w.heap.size w w'
set_option maxRecDepth 100000 in
set_option maxHeartbeats 4000000 in
theorem blank_any(c:Ck)(A0 A1 A2 A3:Option Addr)(c0 c1 c2 c3:Nat)(w:World)(B:Nat)(hB:B≤w.heap.size)
 (hc:Cir w B (.agg #[.slice A0 c.nodes.length c0,.slice A1 c.names.length c1,.slice A2 c.mems.length c2,.slice A3 c.outs.length c3]) c) (hsz:c.nodes.length≤1000000):
 Calls Tryz.prog 22 #[.agg #[.slice A0 c.nodes.length c0,.slice A1 c.names.length c1,.slice A2 c.mems.length c2,.slice A3 c.outs.length c3]] w (BlkPost (ofTo c.nodes [0] c.nodes.length).length (ofTo c.nodes [14] c.nodes.length).length w):=by
 obtain⟨W1,HW1⟩:=named ((w.alloc (.cells #[.slice A0 c.nodes.length c0,.slice A1 c.names.length c1,.slice A2 c.mems.length c2,.slice A3 c.outs.length c3] 39)).alloc (.cells #[.slice none 0 0,.slice none 0 0] 73))
 have hb1:Below w.heap.size w W1:=by rw[HW1.out];exact below_new (below_new (Below.refl _ _) _) _
 have hfc:Fr W1 w.heap.size 39 [.slice A0 c.nodes.length c0,.slice A1 c.names.length c1,.slice A2 c.mems.length c2,.slice A3 c.outs.length c3]:=by rw[HW1.out];exact Fr.alloc (Fr.made _ _ _ rfl) _
 have hfr:Fr W1 (w.heap.size+1) 73 [.slice none 0 0,.slice none 0 0]:=by rw[HW1.out];exact Fr.made _ _ _ (by simp)
 have hz1:W1.heap.size=w.heap.size+1+1:=by rw[HW1.out];simp
 obtain⟨mi,HMI⟩:=named (ofTo c.nodes [0] c.nodes.length).length
 obtain⟨ms,HMS⟩:=named (ofTo c.nodes [14] c.nodes.length).length
 have hmi:mi≤1000000:=by have:=ofTo_len c.nodes [0] c.nodes.length;rw[HMI.out];omega
 have hms:ms≤1000000:=by have:=ofTo_len c.nodes [14] c.nodes.length;rw[HMS.out];omega
 have HIN:Hid (∀W,BelW W1 W→Calls Tryz.prog 36 #[.agg #[.slice A0 c.nodes.length c0,.slice A1 c.names.length c1,.slice A2 c.mems.length c2,.slice A3 c.outs.length c3]] W fun e w'=>∃A,e=.returned (.slice A mi mi)∧BelW W w'):=
  Lib.hid fun W hb=>(inputs_any c _ W B (Nat.le_trans hB (joinB hb1 hb).size) (hc.below ((joinB hb1 hb).mono hB)) hsz).mono fun e w' ⟨A,he,_,h⟩=>⟨A,by rw[HMI.out];exact he,h⟩
 have HST:Hid (∀W,BelW W1 W→Calls Tryz.prog 37 #[.agg #[.slice A0 c.nodes.length c0,.slice A1 c.names.length c1,.slice A2 c.mems.length c2,.slice A3 c.outs.length c3]] W fun e w'=>∃A,e=.returned (.slice A ms ms)∧BelW W w'):=
  Lib.hid fun W hb=>(states_any c _ W B (Nat.le_trans hB (joinB hb1 hb).size) (hc.below ((joinB hb1 hb).mono hB)) hsz).mono fun e w' ⟨A,he,_,h⟩=>⟨A,by rw[HMS.out];exact he,h⟩
 have HU1:Hid (∀W,Calls Tryz.prog 63 #[.int .i64 (mi:Int)] W (UnkPost mi W)):=Lib.hid fun W=>unknown_any mi hmi W
 have HU2:Hid (∀W,Calls Tryz.prog 63 #[.int .i64 (ms:Int)] W (UnkPost ms W)):=Lib.hid fun W=>unknown_any ms hms W
 rw[←HMI.out,←HMS.out]
 have HB1:=Lib.hid hb1
 clear hc hb1 hmi hms HMI HMS
 generalize c.nodes.length=n0 at HW1 hfc HIN HST ⊢
 generalize c.names.length=n1 at HW1 hfc HIN HST ⊢
 generalize c.mems.length=n2 at HW1 hfc HIN HST ⊢
 generalize c.outs.length=n3 at HW1 hfc HIN HST ⊢
 have HCE:Hid (∀w',BelW W1 w'→w'.cell? ⟨w.heap.size,0,none⟩=some (.slice A0 n0 c0)∧w'.cell? ⟨w.heap.size,1,none⟩=some (.slice A1 n1 c1)∧w'.cell? ⟨w.heap.size,2,none⟩=some (.slice A2 n2 c2)∧w'.cell? ⟨w.heap.size,3,none⟩=some (.slice A3 n3 c3)):=Lib.hid fun w' h=>
  ⟨(hfc.below h).cell 0,(hfc.below h).cell 1,(hfc.below h).cell 2,(hfc.below h).cell 3⟩
 have HFR:Hid (∀w',BelW W1 w'→Fr w' (w.heap.size+1) 73 [.slice none 0 0,.slice none 0 0]):=Lib.hid fun w' h=>hfr.below h
 have HFS:Hid (∀w',BelW W1 w'→∀u v,((w'.setCell ⟨w.heap.size+1,0,none⟩ u).setCell ⟨w.heap.size+1,1,none⟩ v).cell? ⟨w.heap.size,0,none⟩=some (.slice A0 n0 c0)∧((w'.setCell ⟨w.heap.size+1,0,none⟩ u).setCell ⟨w.heap.size+1,1,none⟩ v).cell? ⟨w.heap.size,1,none⟩=some (.slice A1 n1 c1)∧((w'.setCell ⟨w.heap.size+1,0,none⟩ u).setCell ⟨w.heap.size+1,1,none⟩ v).cell? ⟨w.heap.size,2,none⟩=some (.slice A2 n2 c2)∧((w'.setCell ⟨w.heap.size+1,0,none⟩ u).setCell ⟨w.heap.size+1,1,none⟩ v).cell? ⟨w.heap.size,3,none⟩=some (.slice A3 n3 c3)):=Lib.hid fun w' h u v=>
  have f:=((hfc.below h).other (a:=⟨w.heap.size+1,0,none⟩) (by simp) u).other (a:=⟨w.heap.size+1,1,none⟩) (by simp) v
  ⟨f.cell 0,f.cell 1,f.cell 2,f.cell 3⟩
 have HZ1:=Lib.hid hz1
 clear hfc hfr hz1
 have hs0:BelW W1 W1:=Below.refl _ _
 go_enter Tryz.func22,Tryz.ntmps22
 go_upto_region 1 with (fail)
 rw[←HW1.out]
 go_region_held3 (fun w'=>w'.cell? ⟨w.heap.size,0,none⟩=some (.slice A0 n0 c0)∧w'.cell? ⟨w.heap.size,1,none⟩=some (.slice A1 n1 c1)∧w'.cell? ⟨w.heap.size,2,none⟩=some (.slice A2 n2 c2)∧w'.cell? ⟨w.heap.size,3,none⟩=some (.slice A3 n3 c3))
  ((first
    |(refine HCE.out _ ?_;first|(with_reducible assumption)|(refine BelW.drew ?_;with_reducible assumption))
    |(refine HFS.out _ ?_ _ _;first|(with_reducible assumption)|(refine BelW.drew ?_;with_reducible assumption))))
  (first
    |(have hq9:=hsS
      go_at_call 63
      (with_reducible refine Calls.mono (HU2.out _) ?_)
      rintro e w8 ⟨gS,rfl,hvS,hzS,hb8⟩
      have hs8:BelW W1 w8:=(by refine BelW.next ?_ hb8;first|(with_reducible assumption)|(refine BelW.drew ?_;with_reducible assumption))
      have hv8:=VRow.below (VRow.below hvI hbS) hb8
      have r0:=(HFR.out _ hs8).cell 0
      have r1:=(HFR.out _ hs8).cell 1
      have f0:=(HFR.out _ hs8).frozen 0
      have f1:=(HFR.out _ hs8).frozen 1)
    |(go_at_call 37;(with_reducible refine Calls.mono (HST.out _ ?_) ?_); ·(first|(with_reducible assumption)|(refine BelW.drew ?_;with_reducible assumption))
      rintro e wS ⟨A,rfl,hbS⟩
      have hsS:BelW W1 wS:=(by refine BelW.next ?_ hbS;first|(with_reducible assumption)|(refine BelW.drew ?_;with_reducible assumption)))
    |(go_at_call 63
      (with_reducible refine Calls.mono (HU1.out _) ?_)
      rintro e wI ⟨gI,rfl,hvI,hzI,hbI⟩
      have hsI:BelW W1 wI:=(by refine BelW.next ?_ hbI;first|(with_reducible assumption)|(refine BelW.drew ?_;with_reducible assumption)))
    |(go_at_call 36;(with_reducible refine Calls.mono (HIN.out _ ?_) ?_); ·(first|(with_reducible assumption)|(refine BelW.drew ?_;with_reducible assumption))
      rintro e wA ⟨A,rfl,hbA⟩
      have hsA:BelW W1 wA:=(by refine BelW.next ?_ hbA;first|(with_reducible assumption)|(refine BelW.drew ?_;with_reducible assumption))))
 have hq:=((HFR.out _ hs8).set 0 (.slice (some ⟨gI,0,none⟩) mi mi)).set 1 (.slice (some ⟨gS,0,none⟩) ms ms)
 have k0:=HZ1.out
 have k1:=Below.size hsA
 have k2:=Below.size hsS
 have n1':w.heap.size+1≠gI:=by omega
 have n2':w.heap.size+1≠gS:=by omega
 have hbe:=(Below.setCell (p:=⟨w.heap.size+1,1,none⟩) (Below.setCell (p:=⟨w.heap.size+1,0,none⟩) (joinB HB1.out hs8) (by show w.heap.size≤w.heap.size+1;omega) (.slice (some ⟨gI,0,none⟩) mi mi)) (by show w.heap.size≤w.heap.size+1;omega) (.slice (some ⟨gS,0,none⟩) ms ms))
 have HEND:=Lib.hid (And.intro (((hv8.other (a:=⟨w.heap.size+1,0,none⟩) n1' (.slice (some ⟨gI,0,none⟩) mi mi)).other (a:=⟨w.heap.size+1,1,none⟩) n1' (.slice (some ⟨gS,0,none⟩) ms ms))) (And.intro ((hvS.other (a:=⟨w.heap.size+1,0,none⟩) n2' (.slice (some ⟨gI,0,none⟩) mi mi)).other (a:=⟨w.heap.size+1,1,none⟩) n2' (.slice (some ⟨gS,0,none⟩) ms ms)) hbe))
 have HQ:=Lib.hid hq
 clear k0 k1 k2 hbe hq
 go_wp2
 (try simp only[Exit.inBlock,Exit.then])
 refine bodyPost_ret (results_cell_row rfl _ _ _ _ _ _ _ rfl HQ.out Tryz.underlying73 rfl (by kernel_rfl)) rfl ?_
 exact⟨gI,gS,rfl,HEND.out.1,HEND.out.2.1,HEND.out.2.2⟩
set_option maxHeartbeats 4000000 in
theorem munk_any(n:Nat)(hn:n≤1000000)(w:World):Calls Tryz.prog 102 #[.int .i64 (n:Int)] w (UnkPost n w):=by
 obtain⟨i0,hi,hz0,hz1',hz2⟩:=info_parts info_val
 have HI:=Lib.hid (And.intro hi (And.intro hz0 (And.intro hz1' hz2)))
 clear hi hz0 hz1' hz2
 go_enter Tryz.func102,Tryz.ntmps102
 go_wp2_with (at_make;refine wpList_make_full _ rfl _ _ 41 rfl w.heap.size 77 i0 (.int .u8 0) 1 Tryz.underlying41 HI.out.1 HI.out.2.1 HI.out.2.2.1 .i64 .i64 _ _ n rfl rfl rfl rfl ?b2 ?b3 ?b4 ?_)
 case b2=>rw[HI.out.2.2.2];omega
 case b3=>unfold maxLen;omega
 case b4=>exact Nat.le_refl _
 intro w1 hown hgr
 rw[made_vals]at hown
 have hv:VRow w1 w.heap.size (List.replicate n 0):=VRow.of hown (by simp)
 have hb:Below w.heap.size w w1:=(Below.refl _ _).grown hgr (Nat.le_refl _) (fun k h=>by cases h)
 have HV:=Lib.hid hv
 have HB:=Lib.hid hb
 obtain⟨g,HG⟩:=named w.heap.size
 rw[←HG.out]at HV
 rw[←HG.out]
 clear hown hgr hv hb
 go_wp2
 go_loopw [9] (fun i wr=>∃(k:Nat) (l:List Int),k≤n∧i=.int .i64 k∧filled l n k∧VRow wr g l∧Below w.heap.size w wr) (fun i _=>n-(intOf i).toNat)
 case atStart=>exact⟨0,_,Nat.zero_le _,rfl,⟨by simp,fun j h=>absurd h (Nat.not_lt_zero j)⟩,HV.out,HB.out⟩
 case round=>
  obtain⟨k,l,hk,rfl,hf,hv,hb⟩:=hrel
  have HF:=Lib.hid hf
  have HVR:=Lib.hid hv
  have HBR:=Lib.hid hb
  by_cases hlt:k<n
  ·have hkl:k<l.length:=by rw[hf.1];exact hlt
   have x1:=hv.cell hkl
   have x2:=hv.frozen k
   obtain⟨y,HY⟩:=named (lat l (k:Int))
   rw[←HY.out]at x1
   clear hf hv hb hkl
   go_wp2
   have HN:=Lib.hid (filled_succ HF.out hlt)
   have HVN:=Lib.hid (HVR.out.set k 2)
   have HBN:=Lib.hid (HBR.out.setCell (p:=⟨g,k,none⟩) (by show w.heap.size≤g;have:=HG.out;omega) (.int .u8 2))
   go_roundw
   case rel=>exact⟨k+1,l.set k 2,by omega,by go_num,HN.out,HVN.out,HBN.out⟩
   case measure=>simp[intOf];omega
  ·obtain rfl:n=k:=by omega
   obtain rfl:=filled_all HF.out
   clear hf hv hb
   go_wp2
   go_ret
   exact⟨g,rfl,HVR.out,by have:=HG.out;omega,HBR.out⟩
def cpyL(l:List Int)(n:Nat):List Int:=l.take n++List.replicate (n-l.length) 2
theorem cpyL_len(l:List Int)(n:Nat):(cpyL l n).length=n:=by unfold cpyL;simp;omega
def bitsL(l:List Int)(n:Nat):List Int:=(cpyL l n).map rd
theorem bitsL_len(l:List Int)(n:Nat):(bitsL l n).length=n:=by unfold bitsL;rw[List.length_map,cpyL_len]
theorem vrow_of{w:World}{g:Nat}{l:List Value}{k:List Int}(h:w.heap[g]? =some (.cells l.toArray 77 (0,0)))(e:l=k.map (Value.int .u8))(hm:k.length≤maxLen):VRow w g k:=by
 subst e
 exact⟨by simp,.inr ⟨g,k.length,_,rfl,Nat.le_refl _,h,Nat.le_refl _,hm,by simp,by
  rw[Nat.mul_one]
  exact List.take_of_length_le (by rw[List.length_map];exact Nat.le_refl _)⟩⟩
theorem vrow_heap{w:World}{g:Nat}{l:List Int}(h:VRow w g l):w.heap[g]? =some (.cells (l.map (Value.int .u8)).toArray 77 (0,0)):=by
 rcases h.2 with⟨e,-⟩| ⟨g',cap,cur,e,-,hg,-,-,hs,ht⟩
 ·cases e
 ·simp only[Value.slice.injEq,Option.some.injEq,Addr.mk.injEq,and_true,true_and]at e
  obtain⟨rfl,rfl⟩:=e
  rw[hg]
  have:cur.toList=l.map (Value.int .u8):=by
   rw[←ht,List.take_of_length_le]
   rw[Array.length_toList,hs];exact Nat.le_refl _
  rw[←this,Array.toArray_toList]
theorem splice_cpy(l:List Int)(n:Nat):splice ((List.replicate n (2:Int)).map (Value.int .u8)) 0 ((l.take n).map (Value.int .u8))=(cpyL l n).map (Value.int .u8):=by
 unfold splice cpyL
 rw[List.take_zero,List.nil_append,List.map_append,←List.map_drop,List.drop_replicate,List.length_map,List.length_take]
 congr 3
 omega
def rdK(c:List Int)(k:Nat)(out:List Int):Prop:=out.length=c.length∧(∀j,j<k→out.getD j 0=rd (c.getD j 0))∧∀j,k≤j→out.getD j 0=c.getD j 0
theorem rdK_all{c out:List Int}(h:rdK c c.length out):out=c.map rd:=by
 apply List.ext_getElem (by rw[h.1,List.length_map])
 intro i h1 h2
 have h3:i<c.length:=by rw[←h.1];exact h1
 have:=h.2.1 i h3
 rw[List.getD_eq_getElem?_getD,List.getElem?_eq_getElem h1,List.getD_eq_getElem?_getD,List.getElem?_eq_getElem h3]at this
 simpa using this
theorem rdK_succ{c out:List Int}{k:Nat}(h:rdK c k out)(hk:k<c.length):rdK c (k+1) (out.set k (rd (c.getD k 0))):=by
 have hl:k<out.length:=by rw[h.1];exact hk
 refine⟨by rw[List.length_set];exact h.1,fun j hj=>?_,fun j hj=>?_⟩
 ·rw[getD_set _ _ _ _ _ hl]
  split
  ·subst_vars;rfl
  ·exact h.2.1 j (by omega)
 ·rw[getD_set _ _ _ _ _ hl,if_neg (by omega)]
  exact h.2.2 j (by omega)
set_option maxRecDepth 100000 in
set_option maxHeartbeats 4000000 in
theorem bits_any(l:List Int)(A:Option Addr)(m c n:Nat)(hn:n≤1000000)(w:World)(B:Nat)(hB:B≤w.heap.size)(hs:Ks w B (.slice A m c) l):
 Calls Tryz.prog 86 #[.slice A m c,.int .i64 (n:Int)] w fun e w'=>∃g,e=.returned (.slice (some ⟨g,0,none⟩) n n)∧VRow w' g (bitsL l n)∧w.heap.size≤g∧BelW w w':=by
 obtain⟨A',b,o,c',e,hA,-,hm,hc⟩:=hs.opens
 simp only[Value.slice.injEq]at e
 obtain⟨rfl,hml,rfl⟩:=e
 rw[←hml]at hA
 have HUN:=Lib.hid (munk_any n hn w)
 have hsz:(Tryz.prog.info? 77).map (·.size)=some 1:=by kernel_rfl
 have HSZ:=Lib.hid hsz
 obtain⟨cs,HCS⟩:=named ((l.take n).map (Value.int .u8))
 have HCL:Hid (cs.length=Nat.min m n):=Lib.hid (by rw[HCS.out,List.length_map,List.length_take,hml];exact Nat.min_comm _ _)
 have HC1:Hid (∀v∈cs,v.oneCell'=true):=Lib.hid fun v hv=>by
  rw[HCS.out]at hv
  obtain⟨y,-,rfl⟩:=List.mem_map.1 hv
  rfl
 have HCP:Hid (∀W,BelW w W→0<cs.length→∃ad,A=some ad∧∀j v,cs[j]? =some v→W.cell? (ad.add j)=some v):=Lib.hid fun W h h0=>by
  have hm0:0<m:=by have:=HCL.out;have:Nat.min m n≤m:=Nat.min_le_left _ _;omega
  refine⟨_,hA hm0,fun j v hv=>?_⟩
  rw[HCS.out,List.getElem?_map,List.getElem?_take]at hv
  split at hv
  ·have hj:j<l.length:=by
    rcases Nat.lt_or_ge j l.length with h|h
    ·exact h
    ·rw[List.getElem?_eq_none h]at hv;cases hv
   rw[List.getElem?_eq_getElem hj]at hv
   have:=(hc j hj)
   rw[WideShapes.add_plain]
   rw[Below.cell h (p:=⟨b,o+j,none⟩) (Nat.lt_of_lt_of_le this.1 hB),this.2,List.getD_eq_getElem?_getD,List.getElem?_eq_getElem hj]
   simpa using hv
  ·cases hv
 obtain⟨r,HR⟩:=named (cpyL l n)
 have HRL:Hid (r.length=n):=Lib.hid (by rw[HR.out,cpyL_len])
 have HSP:Hid (splice ((List.replicate n (2:Int)).map (Value.int .u8)) 0 cs=r.map (Value.int .u8)):=Lib.hid (by rw[HCS.out,HR.out];exact splice_cpy l n)
 have HRD:Hid (∀W y,Calls Tryz.prog 112 #[.int .u8 y] W fun e w'=>e=.returned (.int .u8 (rd y))∧w'=W):=Lib.hid fun W y=>(Lg.read_any y W).mono fun e w' h=>⟨h.1,by first|exact h.2|exact h.2.symm⟩
 have HML:=Lib.hid hml
 clear hA hc hsz hml hm hs
 go_enter Tryz.func86,Tryz.ntmps86
 go_upto_region 2 with (go_at_call 102;(with_reducible refine HUN.out.mono ?_);rintro e w1 ⟨g,rfl,hv,hg,hb⟩;have HV:=Lib.hid hv;have HG:=Lib.hid hg;have HB1:Hid (BelW w w1):=Lib.hid hb;clear hv hg hb)
 have hrow:w1.heap[g]? =some (.cells ((List.replicate n (2:Int)).map (Value.int .u8)).toArray 77 (0,0)):=vrow_heap HV.out
 have HROW:=Lib.hid hrow
 have HFT:Hid (0+cs.length≤((List.replicate n (2:Int)).map (Value.int .u8)).length):=Lib.hid (by rw[HCL.out,List.length_map,List.length_replicate,Nat.zero_add];exact Nat.min_le_right _ _)
 clear hrow
 go_wp2_with (refine wpList_copy_splice rfl (.tmp 10) (.tmp 11) 41 41 rfl 77 Tryz.underlying41 HSZ.out (some ⟨g,0,none⟩) A n n m c rfl rfl g 0 _ 77 HROW.out cs HCL.out (fun h=>⟨rfl,HCP.out w1 HB1.out h⟩) HFT.out HC1.out w.heap.size w HB1.out HG.out ?_)
 intro w2 hrow2 hb2
 have HV2:Hid (VRow w2 g r):=Lib.hid (vrow_of hrow2.out (by have:=HSP.out;rwa [List.map_replicate]at this) (by rw[HRL.out];unfold maxLen;omega))
 have HB2:Hid (BelW w w2):=Lib.hid hb2
 clear hrow2 hb2
 go_wp2
 go_loopw [15] (fun i wr=>∃(k:Nat) (out:List Int),k≤n∧i=.int .i64 k∧rdK r k out∧VRow wr g out∧BelW w wr) (fun i _=>n-(intOf i).toNat)
 case atStart=>exact⟨0,r,Nat.zero_le _,rfl,⟨rfl,fun j h=>absurd h (Nat.not_lt_zero j),fun j _=>rfl⟩,HV2.out,HB2.out⟩
 case round=>
  obtain⟨k,out,hk,rfl,hf,hv,hb⟩:=hrel
  have HF:=Lib.hid hf
  have HVR:=Lib.hid hv
  have HBR:=Lib.hid hb
  by_cases hlt:k<n
  ·have hkl:k<out.length:=by rw[hf.1,HRL.out];exact hlt
   have x1:=hv.cell hkl
   have x2:=hv.frozen k
   have hx:lat out (k:Int)=r.getD k 0:=hf.2.2 k (Nat.le_refl _)
   rw[hx]at x1
   obtain⟨y,HY⟩:=named (r.getD k 0)
   rw[←HY.out]at x1
   have HRY:=Lib.hid (fun W=>HRD.out W y)
   obtain⟨z,HZ⟩:=named (rd y)
   rw[←HZ.out]at HRY
   have hk2:(k:Int)<(n:Int):=by omega
   have HN:=Lib.hid (rdK_succ HF.out (by rw[HRL.out];exact hlt))
   rw[←HY.out,←HZ.out]at HN
   have HVN:=Lib.hid (HVR.out.set k z)
   have HBN:=Lib.hid (HBR.out.setCell (p:=⟨g,k,none⟩) HG.out (.int .u8 z))
   clear hf hv hb hkl hx
   go_wp2_with (go_at_call 112;(with_reducible refine (HRY.out _).mono ?_);rintro e w' ⟨rfl,rfl⟩)
   go_roundw
   case rel=>exact⟨k+1,out.set k z,by omega,by go_num,HN.out,HVN.out,HBN.out⟩
   case measure=>simp[intOf];omega
  ·obtain rfl:n=k:=by omega
   have e9:out=r.map rd:=rdK_all (by rw[HRL.out];exact HF.out)
   clear hf hv hb
   go_wp2
   go_ret
   exact⟨g,rfl,by unfold bitsL;rw[←HR.out,←e9];exact HVR.out,HG.out,HBR.out⟩
end Go.Proofs.YtemjmfpcopfdbaaGreatDoor
