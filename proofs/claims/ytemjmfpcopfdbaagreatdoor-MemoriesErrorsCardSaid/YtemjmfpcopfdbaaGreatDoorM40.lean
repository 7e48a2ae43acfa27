/- The texts LgRefp Rfp Cht L9p Tx9 Lv9. -/
import Derived.Test.YtemjmfpcopfdbaaGreatDoorM01
import Derived.Test.YtemjmfpcopfdbaaGreatDoorM22
import Derived.Test.YtemjmfpcopfdbaaGreatDoorM14
import Derived.Laws.BytesArg
import Derived.OwnWalk
namespace Go.Proofs.YtemjmfpcopfdbaaGreatDoor.Lg
def cnt(x:Int):List Int→Nat
 |[]=>0
 |v::l=>(if v=x then 1 else 0)+cnt x l
def bitI(b:Bool):Int:=if b=true then 1 else 0
def chc(v:Int)(bus:Bool):List Int:=
 if v=0 then [0] else if v=1 then [1] else if bus=true∧v=3 then [2] else if bus=true then [0,1,2] else [0,1]
def fnK(q:Int)(ones zeros:Nat)(l:List Int):Int:=
 if q=1 then 0 else if q=2 then 1
 else if q=3 then bitI (l.getD 0 0==1) else if q=4 then bitI (!(l.getD 0 0==1))
 else if q=5 then bitI (zeros==0) else if q=6 then bitI (!(zeros==0))
 else if q=7 then bitI (decide (0<ones)) else if q=8 then bitI (!decide (0<ones))
 else if q=9 then bitI (ones%2==1) else if q=10 then bitI (!(ones%2==1))
 else if q=11 then (if l.getD 0 0=0 then l.getD 1 0 else l.getD 2 0)
 else if q=12 then (if l.getD 0 0=0 then 2 else l.getD 1 0)
 else if q=13 then (if ones+zeros=0 then 2 else if 0<ones∧0<zeros then 3 else bitI (decide (0<ones)))
 else bitI (decide (0<ones))
def fn(q:Int)(l:List Int):Int:=fnK q (cnt 1 l) (cnt 0 l) l
end Go.Proofs.YtemjmfpcopfdbaaGreatDoor.Lg
namespace Go.Proofs.YtemjmfpcopfdbaaGreatDoor
open Go.RowKit
def bw(w:List Int)(b:Nat):List Int:=if w.length≤b then [0,1] else Lg.chc (w.getD b 0) false
end Go.Proofs.YtemjmfpcopfdbaaGreatDoor
namespace Go.Proofs.YtemjmfpcopfdbaaGreatDoor.Ch
open Go.RowKit
open Go.Proofs.YtemjmfpcopfdbaaGreatDoor.Lg
def Cht(w:World):Prop:=∀k,k<4→w.cell? ⟨0,k,none⟩=some (.int .u8 (charsL.getD k 0))
theorem Cht.below{w w':World}(h:Cht w)(hb:Below w.heap.size w w'):Cht w':=fun k hk=>by
 have h0:=h k hk
 have hl:0<w.heap.size:=by
  rcases Nat.lt_or_ge 0 w.heap.size with hl|hl
  ·exact hl
  ·simp[World.cell?,Array.getElem?_eq_none hl]at h0
 rw[←h0];exact hb.cell (p:=⟨0,k,none⟩) hl
def vof(c:Int):Int:=if c=49 then 1 else if c=88 then 2 else if c=90 then 3 else 0
def isv(c:Int):Bool:=decide (c=48∨c=49∨c=88∨c=90)
set_option maxHeartbeats 1000000 in
theorem valueOf_ch(c:Int)(w:World)(h:Cht w):
 Calls Tryz.prog 130 #[.int .u8 c] w fun e w'=>e=.returned (.tuple #[.int .u8 (vof c),.bool (isv c)])∧w=w':=by
 have c0:=h 0 (by decide)
 have c1:=h 1 (by decide)
 have c2:=h 2 (by decide)
 have c3:=h 3 (by decide)
 simp only[charsL,List.getD_cons_zero,List.getD_cons_succ]at c0 c1 c2 c3
 clear h
 have i0:∀w,(Instr.index 23 (.agg #[.int .u8 48,.int .u8 49,.int .u8 88,.int .u8 90]) (.int .i64 0)).run Tryz.prog w=.ok (.int .u8 48) w:=fun _=>by kernel_rfl
 have i1:∀w,(Instr.index 23 (.agg #[.int .u8 48,.int .u8 49,.int .u8 88,.int .u8 90]) (.int .i64 1)).run Tryz.prog w=.ok (.int .u8 49) w:=fun _=>by kernel_rfl
 have i2:∀w,(Instr.index 23 (.agg #[.int .u8 48,.int .u8 49,.int .u8 88,.int .u8 90]) (.int .i64 2)).run Tryz.prog w=.ok (.int .u8 88) w:=fun _=>by kernel_rfl
 have i3:∀w,(Instr.index 23 (.agg #[.int .u8 48,.int .u8 49,.int .u8 88,.int .u8 90]) (.int .i64 3)).run Tryz.prog w=.ok (.int .u8 90) w:=fun _=>by kernel_rfl
 obtain⟨x,HX⟩:=named (vof c)
 obtain⟨y,HY⟩:=named (isv c)
 rw[←HX.out,←HY.out]
 by_cases h0:c=48
 ·subst h0
  go_enter Tryz.func130,Tryz.ntmps130
  go_wp2
  refine wp_loop_rounds 5 ?_
  rw[rounds_succ];go_wp2
  go_ret2
  exact⟨by rw[HX.out,HY.out];rfl,rfl⟩
 by_cases h1:c=49
 ·subst h1
  go_enter Tryz.func130,Tryz.ntmps130
  go_wp2
  refine wp_loop_rounds 5 ?_
  rw[rounds_succ];go_wp2
  rw[rounds_succ];go_wp2
  go_ret2
  exact⟨by rw[HX.out,HY.out];rfl,rfl⟩
 by_cases h2:c=88
 ·subst h2
  go_enter Tryz.func130,Tryz.ntmps130
  go_wp2
  refine wp_loop_rounds 5 ?_
  rw[rounds_succ];go_wp2
  rw[rounds_succ];go_wp2
  rw[rounds_succ];go_wp2
  go_ret2
  exact⟨by rw[HX.out,HY.out];rfl,rfl⟩
 by_cases h3:c=90
 ·subst h3
  go_enter Tryz.func130,Tryz.ntmps130
  go_wp2
  refine wp_loop_rounds 5 ?_
  rw[rounds_succ];go_wp2
  rw[rounds_succ];go_wp2
  rw[rounds_succ];go_wp2
  rw[rounds_succ];go_wp2
  go_ret2
  exact⟨by rw[HX.out,HY.out];rfl,rfl⟩
 have g0:((48:Int)==c)=false:=by simp;omega
 have g1:((49:Int)==c)=false:=by simp;omega
 have g2:((88:Int)==c)=false:=by simp;omega
 have g3:((90:Int)==c)=false:=by simp;omega
 go_enter Tryz.func130,Tryz.ntmps130
 go_wp2
 refine wp_loop_rounds 5 ?_
 rw[rounds_succ];go_wp2
 rw[rounds_succ];go_wp2
 rw[rounds_succ];go_wp2
 rw[rounds_succ];go_wp2
 rw[rounds_succ];go_wp2
 go_ret2
 exact⟨by rw[HX.out,HY.out];simp[vof,isv,h0,h1,h2,h3],rfl⟩
def chr(s:ByteArray)(k:Nat):Int:=((s.data.toList.getD k 0).toNat:Int)
theorem chr_at(s:ByteArray)(k:Nat)(h:k<s.size):((s[k]'h).toNat:Int)=chr s k:=by
 unfold chr
 rw[List.getD_eq_getElem?_getD,List.getElem?_eq_getElem (by simpa using h)]
 rfl
def fillL(f:Nat→Value)(z:Value)(n k:Nat):List Value:=(List.range n).map fun j=>if j<k then f j else z
theorem fillL_len(f:Nat→Value)(z:Value)(n k:Nat):(fillL f z n k).length=n:=by simp[fillL]
theorem fillL_get(f:Nat→Value)(z:Value)(n k j:Nat)(h:j<n):(fillL f z n k)[j]? =some (if j<k then f j else z):=by
 simp[fillL,List.getElem?_map,List.getElem?_range h]
theorem fillL_set(f:Nat→Value)(z:Value)(n k:Nat):(fillL f z n k).set k (f k)=fillL f z n (k+1):=by
 apply List.ext_getElem?
 intro j
 by_cases hj:j<n
 ·rw[List.getElem?_set,fillL_get _ _ _ _ _ hj,fillL_get _ _ _ _ _ hj,fillL_len]
  by_cases hk:k=j
  ·subst hk;simp[hj]
  ·rw[if_neg hk]
   by_cases h1:j<k
   ·rw[if_pos h1,if_pos (by omega)]
   ·rw[if_neg h1,if_neg (by omega)]
 ·rw[List.getElem?_eq_none (by simp[fillL_len];omega),List.getElem?_eq_none (by simp[fillL_len];omega)]
theorem fillL_start(f:Nat→Value)(z:Value)(n:Nat):(madeCells #[z] n).toList=fillL f z n 0:=by
 apply List.ext_getElem?
 intro j
 by_cases hj:j<n
 ·rw[fillL_get _ _ _ _ _ hj];simp[madeCells,hj,Nat.mod_one]
 ·rw[List.getElem?_eq_none (by simp[madeCells];omega),List.getElem?_eq_none (by simp[fillL_len];omega)]
theorem info_value:(Tryz.prog.info? 77).map (fun i=>(i.zero,i.size,i.bytes))=some (some (.int .u8 0),1,1):=by kernel_rfl
theorem info_byte:(Tryz.prog.info? 5).map (fun i=>(i.zero,i.size,i.bytes))=some (some (.int .u8 0),1,1):=by kernel_rfl
def ParsePost(s:ByteArray)(w:World)(e:Ending)(w':World):Prop:=
 Below w.heap.size w w'∧
 (((∀k,k<s.size→isv (chr s k)=true)∧e=.returned (.tuple #[.slice (some ⟨w.heap.size,0,none⟩) s.size s.size,.int .i64 0])∧
   w'.ownsRow w.heap.size 77 1 (.slice (some ⟨w.heap.size,0,none⟩) s.size s.size) s.size (fillL (fun j=>.int .u8 (vof (chr s j))) (.int .u8 0) s.size s.size))∨
  ((∃k,k<s.size∧isv (chr s k)=false)∧e=.returned (.tuple #[.slice none 0 0,.int .i64 4])))
set_option maxHeartbeats 1000000 in
theorem parse_ch(s:ByteArray)(w:World)(hsz:s.size≤1000)(ht:Cht w):
 Calls Tryz.prog 100 #[.string s] w (ParsePost s w):=by
 obtain⟨i0,hi,hz0,hz1,hz2⟩:=info_parts info_value
 have HT:=Lib.hid ht
 clear ht
 go_enter Tryz.func100,Tryz.ntmps100
 go_wp2_with (at_make;refine wpList_make_full _ rfl _ _ 41 rfl w.heap.size 77 i0 (.int .u8 0) 1 Tryz.underlying41 hi hz0 hz1 .i64 .i64 _ _ s.size rfl rfl rfl rfl ?b2 ?b3 ?b4 ?_)
 case b2=>rw[hz2];omega
 case b3=>unfold maxLen;omega
 case b4=>exact Nat.le_refl _
 intro w1 hown hgr
 rw[fillL_start (fun j=>.int .u8 (vof (chr s j)))]at hown
 have hb1:Below w.heap.size w w1:=(Below.refl _ _).grown hgr (Nat.le_refl _) (fun k h=>by cases h)
 have HO:=Lib.hid hown
 have HBL:=Lib.hid hb1
 clear hown hgr hb1 hz0 hz1 hz2 hi
 obtain⟨g,hg⟩:∃g,g=w.heap.size:=⟨_,rfl⟩
 rw[←hg]
 rw[←hg]at HO HBL
 have HG:=Lib.hid hg
 clear hg
 go_wp2
 go_loopw [13] (fun i wr=>∃k:Nat,k≤s.size∧i=.int .i64 k∧(∀j,j<k→isv (chr s j)=true)∧Below g w wr∧
  wr.ownsRow g 77 1 (.slice (some ⟨g,0,none⟩) s.size s.size) s.size (fillL (fun j=>.int .u8 (vof (chr s j))) (.int .u8 0) s.size k)) (fun i _=>s.size-(intOf i).toNat)
 case atStart=>exact⟨0,Nat.zero_le _,rfl,fun j hj=>absurd hj (by omega),HBL.out,HO.out⟩
 case round=>
  clear HO HBL
  obtain⟨k,hk,rfl,hall,hb,hown⟩:=hrel
  have HA:=Lib.hid hall
  have HB:=Lib.hid hb
  have HO:=Lib.hid hown
  clear hall hb hown
  by_cases hlt:k<s.size
  ·have HC:=Lib.hid (chr_at s k hlt)
   have ht:Hid (Cht wr):=Lib.hid (HT.out.below (by rw[←HG.out];exact HB.out))
   have hfz:wr.frozen? ⟨g,k,none⟩=false:=HO.out.frozenAt k
   have hcl:wr.cell? ⟨g,k,none⟩=some (.int .u8 0):=by
    rw[HO.out.cellAt k (by omega),fillL_get _ _ _ _ _ hlt,if_neg (by omega)]
   cases hv:isv (chr s k)
   ·go_wp2_with (go_at_call 130;refine (valueOf_ch _ _ ht.out).mono ?_;rintro e w' ⟨rfl,rfl⟩;rw[HC.out])
    go_ret2
    exact⟨by rw[←HG.out];exact HB.out,.inr ⟨⟨k,hlt,hv⟩,rfl⟩⟩
   ·go_wp2_with (go_at_call 130;refine (valueOf_ch _ _ ht.out).mono ?_;rintro e w' ⟨rfl,rfl⟩;rw[HC.out])
    go_roundw
    case rel=>
     refine⟨k+1,by omega,by go_num,fun j hj=>?_,HB.out.setCell (Nat.le_refl g) _,?_⟩
     ·by_cases hjk:j=k
      ·rw[hjk];exact hv
      ·exact HA.out j (by omega)
     ·have:=(HO.out.stored k (.int .u8 (vof (chr s k)))).1
      rw[fillL_set (fun j=>.int .u8 (vof (chr s j)))]at this
      exact this
    case measure=>simp[intOf];omega
  ·have hkn:k=s.size:=by omega
   subst hkn
   go_wp2
   go_ret2
   exact⟨by rw[←HG.out];exact HB.out,.inl ⟨HA.out,by rw[←HG.out];rfl,by rw[←HG.out];exact HO.out⟩⟩
def tch(v:Int):Int:=charsL.getD (cln v).toNat 0
set_option maxHeartbeats 1000000 in
theorem text_ch{w:World}{B:Nat}{s:Value}{l:List Int}(hB:B≤w.heap.size)(hs:Vs w B s l)(hsz:l.length≤1000)(hpos:∀k,k<l.length→0≤l.getD k 0)(ht:Cht w):
 Calls Tryz.prog 47 #[s] w fun e w'=>e=.returned (.string (strOfNums (l.map tch)))∧Below w.heap.size w w':=by
 obtain⟨b,o,c,hv,hm,hc⟩:=hs
 clear hm
 obtain⟨n,hn⟩:∃n,n=l.length:=⟨_,rfl⟩
 have key:∀A,(0<n→A=some ⟨b,o,none⟩)→s=.slice A n c→Calls Tryz.prog 47 #[s] w fun e w'=>e=.returned (.string (strOfNums (l.map tch)))∧Below w.heap.size w w':=by
  intro A hA hsA
  subst hsA
  obtain⟨y,HY⟩:=named (strOfNums (l.map tch))
  rw[←HY.out]
  obtain⟨i0,hi,hz0,hz1,hz2⟩:=info_parts info_byte
  rw[←hn]at hsz hpos hc
  have HA:=Lib.hid hA
  have HT:=Lib.hid ht
  have HC:=Lib.hid hc
  have HN:=Lib.hid hn
  have HP:=Lib.hid hpos
  have HB:=Lib.hid hB
  clear ht hc hn hpos hB hA hv
  go_enter Tryz.func47,Tryz.ntmps47
  go_wp2_with (at_make;refine wpList_make_full _ rfl _ _ 25 rfl w.heap.size 5 i0 (.int .u8 0) 1 Tryz.underlying25 hi hz0 hz1 .i64 .i64 _ _ n rfl rfl rfl rfl ?b2 ?b3 ?b4 ?_)
  case b2=>rw[hz2];omega
  case b3=>unfold maxLen;omega
  case b4=>exact Nat.le_refl _
  intro w1 hown hgr
  rw[fillL_start (fun j=>.int .u8 (tch (l.getD j 0)))]at hown
  have hb1:Below w.heap.size w w1:=(Below.refl _ _).grown hgr (Nat.le_refl _) (fun k h=>by cases h)
  obtain⟨g,hg⟩:∃g,g=w.heap.size:=⟨_,rfl⟩
  rw[←hg]at hown hb1
  rw[←hg]
  have HO:=Lib.hid hown
  have HBL:=Lib.hid hb1
  have HG:=Lib.hid hg
  clear hown hgr hb1 hz0 hz1 hz2 hi hg
  go_wp2
  go_loopw [11] (fun i wr=>∃k:Nat,k≤n∧i=.int .i64 k∧Below g w wr∧
   wr.ownsRow g 5 1 (.slice (some ⟨g,0,none⟩) n n) n (fillL (fun j=>.int .u8 (tch (l.getD j 0))) (.int .u8 0) n k)) (fun i _=>n-(intOf i).toNat)
  case atStart=>exact⟨0,Nat.zero_le _,rfl,HBL.out,HO.out⟩
  case round=>
   clear HO HBL
   obtain⟨k,hk,rfl,hb,hown⟩:=hrel
   have HBL:=Lib.hid hb
   have HO:=Lib.hid hown
   clear hb hown
   by_cases hlt:k<n
   ·obtain rfl:=HA.out (by omega)
    have ht:Cht wr:=HT.out.below (by rw[←HG.out];exact HBL.out)
    have hfz:wr.frozen? ⟨g,k,none⟩=false:=HO.out.frozenAt k
    have hcl:wr.cell? ⟨g,k,none⟩=some (.int .u8 0):=by
     rw[HO.out.cellAt k (by omega),fillL_get _ _ _ _ _ hlt,if_neg (by omega)]
    have hcv:wr.cell? ⟨b,o+k,none⟩=some (.int .u8 (l.getD k 0)):=
     (HBL.out.cell (p:=⟨b,o+k,none⟩) (by rw[HG.out];exact Nat.lt_of_lt_of_le (HC.out k hlt).1 HB.out)).trans (HC.out k hlt).2
    have hp:=cln_cases _ (HP.out k hlt)
    have HS:=Lib.hid (HO.out.stored k (.int .u8 (tch (l.getD k 0)))).1
    obtain⟨v,hv⟩:∃v,v=l.getD k 0:=⟨_,rfl⟩
    rw[←hv]at hcv hp HS
    have HV:=Lib.hid hv
    clear hv
    rcases hp with h|h|h|h
    all_goals
     obtain⟨q,HQ⟩:=named (tch v)
     rw[←HQ.out]at HS
     obtain rfl:q=_:=HQ.out.trans (by unfold tch;rw[h];first|done|rfl)
     have hch:=ht (cln v).toNat (by rw[h];decide)
     rw[h]at hch
     simp only[charsL,Int.toNat_zero,Int.toNat_one,Int.reduceToNat,List.getD_cons_zero,List.getD_cons_succ]at hch
     have HT':=Lib.hid ht
     clear ht
     go_wp2_with (go_at_call 94;refine (clean_any _ _).mono ?_;rintro e w' ⟨rfl,rfl⟩;rw[h])
     go_roundw
     case rel=>
      refine⟨k+1,by omega,by go_num,HBL.out.setCell (Nat.le_refl g) _,?_⟩
      have e:=fillL_set (fun j=>.int .u8 (tch (l.getD j 0))) (.int .u8 0) n k
      rw[←HV.out,←HQ.out]at e
      rw[←e];exact HS.out
     case measure=>simp[intOf];omega
   ·have hkn:k=n:=by omega
    subst hkn
    have hcv:=run_convert_bytes_arg (P:=Tryz.prog) wr 25 5 Tryz.underlying25 Tryz.underlying5 g 0 k k (l.map tch) (by rw[List.length_map,HN.out]) (fun i hi=>by
     rw[Nat.zero_add,HO.out.cellAt i (by omega),fillL_get _ _ _ _ _ hi,if_pos hi]
     rw[List.getD_eq_getElem?_getD,List.getD_eq_getElem?_getD,List.getElem?_map,List.getElem?_eq_getElem (by rw[←HN.out];exact hi)]
     rfl) 9 Tryz.underlying9
    rw[←HY.out]at hcv
    go_wp2
    go_ret
    exact⟨rfl,by rw[←HG.out];exact HBL.out⟩
 rcases hv with rfl| ⟨rfl,A,rfl⟩
 ·exact key _ (fun _=>rfl) (by rw[hn])
 ·exact key _ (fun h=>absurd h (by simp[hn])) (by rw[hn];rfl)
end Go.Proofs.YtemjmfpcopfdbaaGreatDoor.Ch
namespace Go.Proofs.YtemjmfpcopfdbaaGreatDoor
open Go.RowKit
def matB(l:List Int)(i:Nat):Bool:=((List.range l.length).all fun k=> !knw (l.getD k 0)||l.getD k 0==ibit i k)&&i>>>l.length==0
theorem mat_eq(l:List Int)(i:Nat):mat l i=matB l i:=by
 refine Bool.eq_iff_iff.2 ?_
 rw[mat_iff]
 unfold matB okA
 simp only[Bool.and_eq_true,List.all_eq_true,List.mem_range,Bool.or_eq_true,Bool.not_eq_true',beq_iff_eq]
 refine and_congr (forall_congr' fun k=>forall_congr' fun _=>?_) Iff.rfl
 cases knw (l.getD k 0)<;>simp
def txtW(ws:List (List Int))(k:Nat):ByteArray:=(List.range k).foldl (fun s i=>(s++strOfNums ((ws.getD i []).map Ch.tch))++ ⟨#[44]⟩) ⟨#[]⟩
theorem txtW_succ(ws:List (List Int))(k:Nat):txtW ws (k+1)=(txtW ws k++strOfNums ((ws.getD k []).map Ch.tch))++ ⟨#[44]⟩:=by
 unfold txtW
 rw[List.range_succ,List.foldl_append];rfl
def W4:List (List Int):=[[0,0],[0,1],[1,0],[1,1]]
def lkSB(ws:List (List Int))(ad:List Int)(n k:Nat):Bool×List Int:=(List.range k).foldl (fun s i=>if matB ad i=true then (true,if s.1=true then agL s.2 (bitsL (ws.getD i []) n) else bitsL (ws.getD i []) n) else s) (false,List.replicate n 2)
theorem lkS_eq(ws:List (List Int))(ad:List Int)(n k:Nat):lkS ws ad n k=lkSB ws ad n k:=by
 have h:(fun l i=>mat l i)=matB:=funext fun l=>funext fun i=>mat_eq l i
 unfold lkS lkSB lkStep
 simp only[mat_eq]
def stWB(ws:List (List Int))(ad dt:List Int)(en:Int)(j:Nat):List Int:=
 if en=0∨matB ad j=false then bitsL (ws.getD j []) (ws.getD j []).length
 else if certB en ad=true then bitsL dt (ws.getD j []).length
 else agL (bitsL (ws.getD j []) (ws.getD j []).length) (bitsL dt (ws.getD j []).length)
theorem stW_eq(ws:List (List Int))(ad dt:List Int)(en:Int)(j:Nat):stW ws ad dt en j=stWB ws ad dt en j:=by
 unfold stW stWB
 simp only[mat_eq]
theorem l9_k1:(lkS W4 [1,0] 2 4).2=[0,1]:=by rw[lkS_eq];decide
theorem l9_k2:(lkS W4 [2,0] 2 4).2=[0,2]:=by rw[lkS_eq];decide
theorem l9_k3:(lkS W4 [2,2] 2 4).2=[2,2]:=by rw[lkS_eq];decide
theorem l9_s1:(List.range 4).map (stW W4 [1,2] [1,1] 1)=[[0,0],[2,1],[1,0],[1,1]]:=by rw[show stW W4 _ _ _=stWB W4 _ _ _ from funext fun j=>stW_eq _ _ _ _ j];decide
theorem l9_s2:(List.range 4).map (stW W4 [1,0] [1,1] 1)=[[0,0],[1,1],[1,0],[1,1]]:=by rw[show stW W4 _ _ _=stWB W4 _ _ _ from funext fun j=>stW_eq _ _ _ _ j];decide
theorem l9_s3:(List.range 4).map (stW W4 [1,0] [1,1] 2)=[[0,0],[2,1],[1,0],[1,1]]:=by rw[show stW W4 _ _ _=stWB W4 _ _ _ from funext fun j=>stW_eq _ _ _ _ j];decide
theorem Ks.lgvs{w:World}{B:Nat}{v:Value}{l:List Int}(h:Ks w B v l):Lg.Vs w B v l:=by
 obtain⟨A,b,o,c,rfl,hA,-,hm,hc⟩:=h.opens
 refine⟨b,o,c,?_,hm,hc⟩
 by_cases h0:0<l.length
 ·rw[hA h0];exact .inl rfl
 ·have:l=[]:=List.eq_nil_of_length_eq_zero (by omega)
  exact .inr ⟨this,A,by rw[this];rfl⟩
theorem txtW_size(ws:List (List Int))(k:Nat)(h:∀j,j<k→(ws.getD j []).length≤1000):(txtW ws k).size≤k*1001:=by
 induction k with
 |zero=>exact Nat.le_refl _
 |succ k ih=>
  rw[txtW_succ,ByteArray.size_append,ByteArray.size_append,strOfNums_size,List.length_map]
  have h1:=ih fun j hj=>h j (by omega)
  have h2:=h k (by omega)
  have h3:(⟨#[44]⟩:ByteArray).size=1:=rfl
  omega
set_option maxRecDepth 100000 in
set_option maxHeartbeats 4000000 in
theorem textw_any(ws:List (List Int))(A:Option Addr)(m c:Nat)(w:World)(B:Nat)(hB:B≤w.heap.size)(hw:Wrds w B (.slice A m c) ws)(hm:m≤1000)(hl:∀k,k<m→(ws.getD k []).length≤1000∧∀y∈ws.getD k [],0≤y)(hT:Ch.Cht w):
 Calls Tryz.prog 14 #[.slice A m c] w fun e w'=>e=.returned (.string (txtW ws m))∧BelW w w':=by
 obtain⟨A',b,o,c',e,hA,-,-,hc⟩:=hw
 simp only[Value.slice.injEq]at e
 obtain⟨rfl,hml,rfl⟩:=e
 rw[←hml]at hA hc
 have HA:=Lib.hid hA
 have HC:Hid (∀k,k<m→∃A c n,∀W,BelW w W→W.cell? ⟨b,o+k,none⟩=some (.slice A n c)∧Calls Tryz.prog 47 #[.slice A n c] W fun e w'=>e=.returned (.string (strOfNums ((ws.getD k []).map Ch.tch)))∧Below W.heap.size W w'):=Lib.hid fun k hk=>by
  obtain⟨hb,A,c,h1,h2⟩:=hc k hk
  rw[Nat.mul_one]at h1
  refine⟨A,c,_,fun W h=>⟨(Below.cell h (p:=⟨b,o+k,none⟩) (Nat.lt_of_lt_of_le hb hB)).trans h1,?_⟩⟩
  have h3:Ks W W.heap.size (.slice A (ws.getD k []).length c) (ws.getD k []):=Arr.keep stays_u8 h2 (Nat.le_trans hB (Below.size h)) fun _ hp=>Below.cell h (Nat.lt_of_lt_of_le hp hB)
  exact Ch.text_ch (Nat.le_refl _) h3.lgvs (hl k hk).1 (fun j hj=>by
   rw[List.getD_eq_getElem?_getD,List.getElem?_eq_getElem hj]
   exact (hl k hk).2 _ (List.getElem_mem hj)) (hT.below h)
 have HS:=Lib.hid (fun k=>txtW_succ ws k)
 have hz:txtW ws 0=⟨#[]⟩:=rfl
 have HZ:=Lib.hid hz
 have HSZ:Hid (∀k,k≤m→(txtW ws k).size≤k*1001):=Lib.hid fun k hk=>txtW_size ws k fun j hj=>(hl j (by omega)).1
 have HTZ:Hid (∀k,k<m→(strOfNums ((ws.getD k []).map Ch.tch)).size≤1000):=Lib.hid fun k hk=>by rw[strOfNums_size,List.length_map];exact (hl k hk).1
 clear hA hc hl hT hml hz
 go_enter Tryz.func14,Tryz.ntmps14
 go_wp2
 go_loopw [3,4] (fun sv i wr=>∃k:Nat,k≤m∧i=.int .i64 k∧sv=.string (txtW ws k)∧BelW w wr) (fun _ i _=>m-(intOf i).toNat)
 case atStart=>exact⟨0,Nat.zero_le _,rfl,by rw[HZ.out],Below.refl _ _⟩
 case round=>
  obtain⟨k,hk,rfl,rfl,hb⟩:=hrel
  have HBR:=Lib.hid hb
  by_cases hlt:k<m
  ·obtain rfl:=HA.out (by omega)
   obtain⟨A2,c2,n2,hc2⟩:=HC.out k hlt
   have hk2:(k:Int)<(m:Int):=by omega
   obtain⟨x1,hcl⟩:=hc2 wr hb
   have HCL:=Lib.hid hcl
   have HSK:=Lib.hid (HS.out k)
   have hz1:=HSZ.out k hk
   have hz2:=HTZ.out k hlt
   obtain⟨s,HSS⟩:=named (txtW ws k)
   rw[←HSS.out]at HSK hz1 ⊢
   obtain⟨t,HTT⟩:=named (strOfNums ((ws.getD k []).map Ch.tch))
   rw[←HTT.out]at HSK HCL hz2
   have hz3:¬9223372036854775807<s.size+t.size:=by omega
   have hz4:¬9223372036854775807<s.size+t.size+1:=by omega
   clear hcl hc2 hb
   go_wp2_with (go_at_call 47;(with_reducible refine HCL.out.mono ?_);rintro e w4 ⟨rfl,hb4⟩;have HB4:Hid (BelW wr w4):=Lib.hid hb4;clear hb4)
   go_roundw
   case rel=>exact⟨k+1,by omega,by go_num,by rw[HSK.out],joinB HBR.out HB4.out⟩
   case measure=>simp[intOf];omega
  ·obtain rfl:m=k:=by omega
   go_wp2
   go_ret
   exact⟨rfl,HBR.out⟩
def vlsB(s:ByteArray):List Int:=(List.range s.size).map fun k=>Ch.vof (Ch.chr s k)
theorem vlsB_len(s:ByteArray):(vlsB s).length=s.size:=by simp[vlsB]
theorem vls_of{s:ByteArray}{w w':World}{e:Ending}(hall:∀k,k<s.size→Ch.isv (Ch.chr s k)=true)
 (h:((∀k,k<s.size→Ch.isv (Ch.chr s k)=true)∧e=.returned (.tuple #[.slice (some ⟨w.heap.size,0,none⟩) s.size s.size,.int .i64 0])∧w'.ownsRow w.heap.size 77 1 (.slice (some ⟨w.heap.size,0,none⟩) s.size s.size) s.size (Ch.fillL (fun j=>.int .u8 (Ch.vof (Ch.chr s j))) (.int .u8 0) s.size s.size))∨((∃k,k<s.size∧Ch.isv (Ch.chr s k)=false)∧e=.returned (.tuple #[.slice none 0 0,.int .i64 4]))):
 e=.returned (.tuple #[.slice (some ⟨w.heap.size,0,none⟩) s.size s.size,.int .i64 0])∧Hid (VRow w' w.heap.size (vlsB s)):=by
 rcases h with⟨-,he,ho⟩| ⟨⟨k,hk,h⟩,-⟩
 ·refine⟨he,Lib.hid (VRow.of (B:=w.heap.size) ?_ (vlsB_len s))⟩
  have e2:Ch.fillL (fun j=>.int .u8 (Ch.vof (Ch.chr s j))) (.int .u8 0) s.size s.size=(vlsB s).map (Value.int .u8):=by
   apply List.ext_getElem?
   intro j
   by_cases hj:j<s.size
   ·rw[Ch.fillL_get _ _ _ _ _ hj,if_pos hj];simp[vlsB,hj]
   ·rw[List.getElem?_eq_none (by simp[Ch.fillL_len];omega),List.getElem?_eq_none (by simp[vlsB_len];omega)]
  rw[←e2];exact ho
 ·rw[hall k hk]at h;cases h
theorem vls_any(s:ByteArray)(w:World)(hsz:s.size≤1000)(hT:Ch.Cht w)(hall:∀k,k<s.size→Ch.isv (Ch.chr s k)=true):
 Calls Tryz.prog 56 #[.string s] w fun e w'=>∃g,e=.returned (.slice (some ⟨g,0,none⟩) s.size s.size)∧VRow w' g (vlsB s)∧w.heap.size≤g∧BelW w w':=by
 have HP:=Lib.hid (Ch.parse_ch s w hsz hT)
 have HA:=Lib.hid hall
 obtain⟨n,HN⟩:=named s.size
 clear hall
 go_enter Tryz.func56,Tryz.ntmps56
 go_wp2_with (go_at_call 100;(with_reducible refine HP.out.mono ?_);rintro e w4 ⟨hb4,h4⟩;have HB4:Hid (BelW w w4):=Lib.hid hb4;clear hb4;obtain⟨rfl,ho⟩:e=.returned (.tuple #[.slice (some ⟨w.heap.size,0,none⟩) s.size s.size,.int .i64 0])∧Hid (VRow w4 w.heap.size (vlsB s)):=vls_of HA.out h4)
 go_ret
 exact⟨_,rfl,ho.out,Nat.le_refl _,HB4.out⟩
theorem SRow.wrds{w:World}{D m T:Nat}{f:Nat→List Int}(h:SRow w D f m m T)(hm:m≤maxLen):Wrds w w.heap.size (.slice (some ⟨D,0,none⟩) m m) ((List.range m).map f):=by
 obtain⟨gf,h1,-⟩:=h.open
 refine⟨_,D,0,m,by rw[List.length_map,List.length_range],fun _=>rfl,by simp,by simpa using hm,fun k hk=>⟨h.lt,?_⟩⟩
 have hkm:k<m:=by simpa using hk
 have e:((List.range m).map f).getD k []=f k:=by simp[hkm,List.getD_eq_getElem?_getD]
 rw[e,Nat.mul_one,Nat.zero_add]
 obtain⟨c1,c2,-⟩:=h1 k hkm
 exact⟨_,_,c1,c2.ks⟩
theorem vls_at(s:ByteArray)(l:List Int)(n:Nat)(hn:s.size=n)(h:vlsB s=l)(hv:∀k,k<s.size→Ch.isv (Ch.chr s k)=true)(w W:World)(hT:Ch.Cht w)(hb:BelW w W)(h9:n≤1000):
 Calls Tryz.prog 56 #[.string s] W fun e w'=>∃g,e=.returned (.slice (some ⟨g,0,none⟩) n n)∧VRow w' g l∧BelW W w':=
 (vls_any s W (by omega) (hT.below hb) hv).mono fun e w' ⟨g,h1,h2,_,h3⟩=>⟨g,by rw[h1,hn],by rw[←h];exact h2,h3⟩
theorem txt_at(l:List Int)(s:ByteArray)(n:Nat)(hn:l.length=n)(h:strOfNums (l.map Ch.tch)=s)(hp:∀k,k<l.length→0≤l.getD k 0)(w W:World)(g:Nat)(hT:Ch.Cht w)(hb:BelW w W)(hv:VRow W g l)(h9:n≤1000):
 Calls Tryz.prog 47 #[.slice (some ⟨g,0,none⟩) n n] W fun e w'=>e=.returned (.string s)∧BelW W w':=by
 subst hn h
 exact Ch.text_ch (Nat.le_refl _) hv.ks.lgvs h9 hp (hT.below hb)
theorem look_at(ws:List (List Int))(ad r:List Int)(hr:(lkS ws ad 2 4).2=r)(g gw:Nat)(W:World)(hw:Wrds W W.heap.size (.slice (some ⟨gw,0,none⟩) 4 4) ws)(h0:(ws.getD 0 []).length=2)(hl:ad.length=2)(hv:VRow W g ad):
 Calls Tryz.prog 57 #[.slice (some ⟨gw,0,none⟩) 4 4,.slice (some ⟨g,0,none⟩) 2 2] W fun e w'=>∃g,e=.returned (.slice (some ⟨g,0,none⟩) 2 2)∧VRow w' g r∧BelW W w':=by
 have hk:=hv.ks
 rw[hl]at hk
 subst hr
 exact look_any ws ad _ _ 4 4 2 2 2 W W.heap.size (Nat.le_refl _) hw hk (by decide) (by decide) h0.symm (by decide)
theorem store_at(ws:List (List Int))(ad dt:List Int)(en:Int)(ga gd gw:Nat)(W:World)(hw:Wrds W W.heap.size (.slice (some ⟨gw,0,none⟩) 4 4) ws)(h0:∀k,k<4→(ws.getD k []).length≤1000)(hl:ad.length=2)(hd:dt.length=2)(hv:VRow W ga ad)(hvd:VRow W gd dt):
 Calls Tryz.prog 58 #[.slice (some ⟨gw,0,none⟩) 4 4,.slice (some ⟨ga,0,none⟩) 2 2,.slice (some ⟨gd,0,none⟩) 2 2,.int .u8 en] W fun e w'=>∃D T,e=.returned (.slice (some ⟨D,0,none⟩) 4 4)∧SRow w' D (stW ws ad dt en) 4 4 T∧BelW W w':=by
 have hk:=hv.ks
 rw[hl]at hk
 have hk2:=hvd.ks
 rw[hd]at hk2
 exact (store_any ws ad dt en _ _ _ 4 4 2 2 2 2 W W.heap.size (Nat.le_refl _) hw hk hk2 (by decide) (fun k hk=>Nat.le_trans (h0 k hk) (by decide))).mono fun e w' ⟨D,T,h1,h2,_,h3⟩=>⟨D,T,h1,h2,h3⟩
theorem wtxt_at(f:Nat→List Int)(L:List (List Int))(s:ByteArray)(hf:(List.range 4).map f=L)(hs:txtW L 4=s)(hl:∀k,k<4→(L.getD k []).length≤1000∧∀y∈L.getD k [],0≤y)(w W:World)(D T:Nat)(hT:Ch.Cht w)(hb:BelW w W)(hr:SRow W D f 4 4 T):
 Calls Tryz.prog 14 #[.slice (some ⟨D,0,none⟩) 4 4] W fun e w'=>e=.returned (.string s)∧BelW W w':=by
 have h:=hr.wrds (by decide)
 rw[hf]at h
 rw[←hs]
 exact textw_any L _ 4 4 W W.heap.size (Nat.le_refl _) h (by decide) hl (hT.below hb)
set_option maxRecDepth 100000 in
set_option maxHeartbeats 8000000 in
theorem lives9_any(w:World)(hT:Ch.Cht w):Calls Tryz.prog 17 #[] w fun e w'=>e=.returned (.bool true)∧BelW w w':=by
 have HV0:=Lib.hid (fun W (h:BelW w W)=>vls_at ⟨#[48,48]⟩ [0,0] 2 rfl (by decide) (by decide) w W hT h (by decide))
 have HV1:=Lib.hid (fun W (h:BelW w W)=>vls_at ⟨#[48,49]⟩ [0,1] 2 rfl (by decide) (by decide) w W hT h (by decide))
 have HV2:=Lib.hid (fun W (h:BelW w W)=>vls_at ⟨#[49,48]⟩ [1,0] 2 rfl (by decide) (by decide) w W hT h (by decide))
 have HV3:=Lib.hid (fun W (h:BelW w W)=>vls_at ⟨#[49,49]⟩ [1,1] 2 rfl (by decide) (by decide) w W hT h (by decide))
 have HV4:=Lib.hid (fun W (h:BelW w W)=>vls_at ⟨#[88,48]⟩ [2,0] 2 rfl (by decide) (by decide) w W hT h (by decide))
 have HV5:=Lib.hid (fun W (h:BelW w W)=>vls_at ⟨#[88,88]⟩ [2,2] 2 rfl (by decide) (by decide) w W hT h (by decide))
 have HV6:=Lib.hid (fun W (h:BelW w W)=>vls_at ⟨#[49,88]⟩ [1,2] 2 rfl (by decide) (by decide) w W hT h (by decide))
 have HT0:=Lib.hid (fun W g (h:BelW w W) (hv:VRow W g [0,1])=>txt_at [0,1] ⟨#[48,49]⟩ 2 rfl (by decide) (by decide) w W g hT h hv (by decide))
 have HT1:=Lib.hid (fun W g (h:BelW w W) (hv:VRow W g [0,2])=>txt_at [0,2] ⟨#[48,88]⟩ 2 rfl (by decide) (by decide) w W g hT h hv (by decide))
 have HT2:=Lib.hid (fun W g (h:BelW w W) (hv:VRow W g [2,2])=>txt_at [2,2] ⟨#[88,88]⟩ 2 rfl (by decide) (by decide) w W g hT h hv (by decide))
 have HW0:=Lib.hid (fun W D T (h:BelW w W) (hr:SRow W D (stW W4 [1,2] [1,1] 1) 4 4 T)=>wtxt_at (stW W4 [1,2] [1,1] 1) [[0,0],[2,1],[1,0],[1,1]] ⟨#[48,48,44,88,49,44,49,48,44,49,49,44]⟩ l9_s1 (by decide) (by decide) w W D T hT h hr)
 have HW1:=Lib.hid (fun W D T (h:BelW w W) (hr:SRow W D (stW W4 [1,0] [1,1] 1) 4 4 T)=>wtxt_at (stW W4 [1,0] [1,1] 1) [[0,0],[1,1],[1,0],[1,1]] ⟨#[48,48,44,49,49,44,49,48,44,49,49,44]⟩ l9_s2 (by decide) (by decide) w W D T hT h hr)
 have HW2:=Lib.hid (fun W D T (h:BelW w W) (hr:SRow W D (stW W4 [1,0] [1,1] 2) 4 4 T)=>wtxt_at (stW W4 [1,0] [1,1] 2) [[0,0],[2,1],[1,0],[1,1]] ⟨#[48,48,44,88,49,44,49,48,44,49,49,44]⟩ l9_s3 (by decide) (by decide) w W D T hT h hr)
 have hs:BelW w w:=Below.refl _ _
 clear hT
 go_enter Tryz.func17,Tryz.ntmps17
 go_upto_region 1 with (fail)
 go_upto_region 2 with (first
  |(go_at_call 56;(with_reducible refine (HV0.out _ hs).mono ?_);rintro e wv ⟨g0,rfl,hvg0,hb⟩;replace hs:BelW w wv:=hs.trans hb;clear hb)
  |(go_at_call 56;(with_reducible refine (HV1.out _ hs).mono ?_);rintro e wv ⟨g1,rfl,hvg1,hb⟩;replace hs:BelW w wv:=hs.trans hb;replace hvg0:VRow wv g0 [0,0]:=hvg0.below hb;clear hb)
  |(go_at_call 56;(with_reducible refine (HV2.out _ hs).mono ?_);rintro e wv ⟨g2,rfl,hvg2,hb⟩;replace hs:BelW w wv:=hs.trans hb;replace hvg0:VRow wv g0 [0,0]:=hvg0.below hb;replace hvg1:VRow wv g1 [0,1]:=hvg1.below hb;clear hb)
  |(go_at_call 56;(with_reducible refine (HV3.out _ hs).mono ?_);rintro e wv ⟨g3,rfl,hvg3,hb⟩;replace hs:BelW w wv:=hs.trans hb;replace hvg0:VRow wv g0 [0,0]:=hvg0.below hb;replace hvg1:VRow wv g1 [0,1]:=hvg1.below hb;replace hvg2:VRow wv g2 [1,0]:=hvg2.below hb;clear hb))
 obtain⟨w4,rfl⟩:∃z,z=wv:=⟨_,rfl⟩
 obtain⟨W5,HW5⟩:=named (w4.alloc (.cells #[.slice (some ⟨g0,0,none⟩) 2 2,.slice (some ⟨g1,0,none⟩) 2 2,.slice (some ⟨g2,0,none⟩) 2 2,.slice (some ⟨g3,0,none⟩) 2 2] 41))
 have hn5:BelW w4 W5:=by rw[HW5.out];exact below_new (Below.refl _ _) _
 have hf5:Fr W5 w4.heap.size 41 [.slice (some ⟨g0,0,none⟩) 2 2,.slice (some ⟨g1,0,none⟩) 2 2,.slice (some ⟨g2,0,none⟩) 2 2,.slice (some ⟨g3,0,none⟩) 2 2]:=by rw[HW5.out];exact Fr.made _ [.slice (some ⟨g0,0,none⟩) 2 2,.slice (some ⟨g1,0,none⟩) 2 2,.slice (some ⟨g2,0,none⟩) 2 2,.slice (some ⟨g3,0,none⟩) 2 2] _ rfl
 obtain⟨gw,HGW⟩:=named w4.heap.size
 rw[←HGW.out]at hf5
 rw[←HW5.out,←HGW.out]
 have hwr:Wrds W5 W5.heap.size (.slice (some ⟨gw,0,none⟩) 4 4) W4:=by
  refine⟨_,gw,0,4,rfl,fun _=>rfl,by decide,by decide,fun k hk=>⟨hf5.lt,?_⟩⟩
  have hk4:k=0∨k=1∨k=2∨k=3:=by simp[W4]at hk;omega
  rcases hk4 with rfl|rfl|rfl|rfl
  ·exact⟨_,_,hf5.cell 0,(hvg0.below hn5).ks⟩
  ·exact⟨_,_,hf5.cell 1,(hvg1.below hn5).ks⟩
  ·exact⟨_,_,hf5.cell 2,(hvg2.below hn5).ks⟩
  ·exact⟨_,_,hf5.cell 3,(hvg3.below hn5).ks⟩
 have hs5:BelW w W5:=hs.trans hn5
 have HWR:Hid (∀W,BelW W5 W→Wrds W W.heap.size (.slice (some ⟨gw,0,none⟩) 4 4) W4):=Lib.hid fun W h=>Arr.keep stays_wds hwr (Below.size h) fun _ hp=>Below.cell h hp
 have HL0:=Lib.hid (fun W g (h:BelW W5 W) (hv:VRow W g [1,0])=>look_at W4 [1,0] [0,1] l9_k1 g gw W (HWR.out W h) rfl rfl hv)
 have HL1:=Lib.hid (fun W g (h:BelW W5 W) (hv:VRow W g [2,0])=>look_at W4 [2,0] [0,2] l9_k2 g gw W (HWR.out W h) rfl rfl hv)
 have HL2:=Lib.hid (fun W g (h:BelW W5 W) (hv:VRow W g [2,2])=>look_at W4 [2,2] [2,2] l9_k3 g gw W (HWR.out W h) rfl rfl hv)
 have HS0:=Lib.hid (fun W ga gd (h:BelW W5 W) (hv:VRow W ga [1,2]) (hd:VRow W gd [1,1])=>store_at W4 [1,2] [1,1] 1 ga gd gw W (HWR.out W h) (by decide) rfl rfl hv hd)
 have HS1:=Lib.hid (fun W ga gd (h:BelW W5 W) (hv:VRow W ga [1,0]) (hd:VRow W gd [1,1])=>store_at W4 [1,0] [1,1] 1 ga gd gw W (HWR.out W h) (by decide) rfl rfl hv hd)
 have HS2:=Lib.hid (fun W ga gd (h:BelW W5 W) (hv:VRow W ga [1,0]) (hd:VRow W gd [1,1])=>store_at W4 [1,0] [1,1] 2 ga gd gw W (HWR.out W h) (by decide) rfl rfl hv hd)
 have HSS:=Lib.hid hs5
 have h5:BelW W5 W5:=Below.refl _ _
 clear hs hvg0 hvg1 hvg2 hvg3 hn5 hf5 hwr hs5
 go_upto_region 3 with (first
  |(go_at_call 56;(with_reducible refine (HV2.out _ (HSS.out.trans h5)).mono ?_);rintro e wv ⟨ga,rfl,hvga,hb⟩;replace h5:BelW W5 wv:=h5.trans hb;clear hb)
  |(go_at_call 56;(with_reducible refine (HV4.out _ (HSS.out.trans h5)).mono ?_);rintro e wv ⟨ga,rfl,hvga,hb⟩;replace h5:BelW W5 wv:=h5.trans hb;clear hb)
  |(go_at_call 56;(with_reducible refine (HV5.out _ (HSS.out.trans h5)).mono ?_);rintro e wv ⟨ga,rfl,hvga,hb⟩;replace h5:BelW W5 wv:=h5.trans hb;clear hb)
  |(go_at_call 57;(with_reducible refine (HL0.out _ _ h5 hvga).mono ?_);rintro e wl ⟨gl,rfl,hvgl,hb⟩;replace h5:BelW W5 wl:=h5.trans hb;clear hb hvga)
  |(go_at_call 57;(with_reducible refine (HL1.out _ _ h5 hvga).mono ?_);rintro e wl ⟨gl,rfl,hvgl,hb⟩;replace h5:BelW W5 wl:=h5.trans hb;clear hb hvga)
  |(go_at_call 57;(with_reducible refine (HL2.out _ _ h5 hvga).mono ?_);rintro e wl ⟨gl,rfl,hvgl,hb⟩;replace h5:BelW W5 wl:=h5.trans hb;clear hb hvga)
  |(go_at_call 47;(with_reducible refine (HT0.out _ _ (HSS.out.trans h5) hvgl).mono ?_);rintro e wt ⟨rfl,hb⟩;replace h5:BelW W5 wt:=h5.trans hb;clear hb hvgl)
  |(go_at_call 47;(with_reducible refine (HT1.out _ _ (HSS.out.trans h5) hvgl).mono ?_);rintro e wt ⟨rfl,hb⟩;replace h5:BelW W5 wt:=h5.trans hb;clear hb hvgl)
  |(go_at_call 47;(with_reducible refine (HT2.out _ _ (HSS.out.trans h5) hvgl).mono ?_);rintro e wt ⟨rfl,hb⟩;replace h5:BelW W5 wt:=h5.trans hb;clear hb hvgl))
 go_wp2_with (first
  |(go_at_call 56;(with_reducible refine (HV6.out _ (HSS.out.trans h5)).mono ?_);rintro e wv ⟨ga,rfl,hvga,hb⟩;replace h5:BelW W5 wv:=h5.trans hb;clear hb)
  |(go_at_call 56;(with_reducible refine (HV2.out _ (HSS.out.trans h5)).mono ?_);rintro e wv ⟨ga,rfl,hvga,hb⟩;replace h5:BelW W5 wv:=h5.trans hb;clear hb)
  |(go_at_call 56;(with_reducible refine (HV3.out _ (HSS.out.trans h5)).mono ?_);rintro e wv ⟨gd,rfl,hvgd,hb⟩;replace hvga:=hvga.below hb;replace h5:BelW W5 wv:=h5.trans hb;clear hb)
  |(go_at_call 58;(with_reducible refine (HS0.out _ _ _ h5 hvga hvgd).mono ?_);rintro e ws ⟨D,T,rfl,hr,hb⟩;replace h5:BelW W5 ws:=h5.trans hb;clear hb hvga hvgd)
  |(go_at_call 58;(with_reducible refine (HS1.out _ _ _ h5 hvga hvgd).mono ?_);rintro e ws ⟨D,T,rfl,hr,hb⟩;replace h5:BelW W5 ws:=h5.trans hb;clear hb hvga hvgd)
  |(go_at_call 58;(with_reducible refine (HS2.out _ _ _ h5 hvga hvgd).mono ?_);rintro e ws ⟨D,T,rfl,hr,hb⟩;replace h5:BelW W5 ws:=h5.trans hb;clear hb hvga hvgd)
  |(go_at_call 14;(with_reducible refine (HW0.out _ _ _ (HSS.out.trans h5) hr).mono ?_);rintro e wt ⟨rfl,hb⟩;replace h5:BelW W5 wt:=h5.trans hb;clear hb hr)
  |(go_at_call 14;(with_reducible refine (HW1.out _ _ _ (HSS.out.trans h5) hr).mono ?_);rintro e wt ⟨rfl,hb⟩;replace h5:BelW W5 wt:=h5.trans hb;clear hb hr)
  |(go_at_call 14;(with_reducible refine (HW2.out _ _ _ (HSS.out.trans h5) hr).mono ?_);rintro e wt ⟨rfl,hb⟩;replace h5:BelW W5 wt:=h5.trans hb;clear hb hr))
 go_ret
 exact⟨rfl,HSS.out.trans h5⟩
end Go.Proofs.YtemjmfpcopfdbaaGreatDoor
