/- The texts Ofw. -/
import Derived.Test.YtcbllelkgniogaaDoorM25
import Derived.Deep.DeepCutAuto
import Derived.Deep.CutBlock
import Derived.Deep.RegionHeld3
import Derived.Test.YtcbllelkgniogaaDoorM18
namespace Go.Proofs.YtcbllelkgniogaaDoor
open Go.RowKit
set_option maxRecDepth 100000 in
set_option maxHeartbeats 8000000 in
theorem ofc_false(x:Cx)(hmem:x.mem=false)(hx:Cok x)(sG sA:Value)(w:World)(B:Nat)(hB:B≤w.heap.size)(hG:Gs w B sG x.gates)(hA:Ks w B sA x.outs):
 Calls Tryd.prog 14 #[.agg #[.int .u8 x.inN,.int .u8 x.dffs,.int .u8 x.d0,.int .u8 x.d1,.bool x.bus,.bool x.mem,.int .u8 x.p0,.int .u8 x.p1,.int .u8 x.p2,.int .u8 x.p3,sG,sA]] w
  fun e w'=>(∃v,e=.returned v∧Cir w' w'.heap.size v (ofC x))∧Below w.heap.size w w':=by
 have HX:=Lib.hid hx
 have HMEM:=Lib.hid hmem
 clear hmem
 have HGG:=Lib.hid hG
 have HAA:=Lib.hid hA
 have hin:=hx.inN
 have hdf:=hx.dffs
 have hfl:=firstN_le x
 have hdl:=dffsN_le x
 have hfi:x.inN%4=((firstN x:Nat):Int)-1:=by unfold firstN;unfold U8 at hin;omega
 have hdi:x.dffs%3=((dffsN x:Nat):Int):=by unfold dffsN;unfold U8 at hdf;omega
 clear hx hG hA
 unfold U8 at hin hdf
 obtain⟨i1,hi1,hz0,hz1,hz2⟩:=info_parts info_node
 have HI:=Lib.hid (And.intro hi1 (And.intro hz0 (And.intro hz1 hz2)))
 clear hi1 hz0 hz1 hz2
 go_enter Tryd.func14,Tryd.ntmps14
 go_wp2
 have how:OW (xCs x sG sA) w w.heap.size (w.heap.size+1) (w.heap.size+1+1) (w.heap.size+1+1+1) (.slice none 0 0) (.slice none 0 0) (.slice none 0 0) (.slice none 0 0) (((w.alloc (.cells #[.int .u8 x.inN,.int .u8 x.dffs,.int .u8 x.d0,.int .u8 x.d1,.bool x.bus,.bool x.mem,.int .u8 x.p0,.int .u8 x.p1,.int .u8 x.p2,.int .u8 x.p3,sG,sA] 27)).alloc (.cells #[.slice none 0 0,.slice none 0 0,.slice none 0 0,.slice none 0 0] 39)).alloc (.cells #[.slice none 0 0,.slice none 0 0,.slice none 0 0,.slice none 0 0] 39)):=
  ⟨(((Below.refl _ _).alloc (Nat.le_refl _) _).alloc (by simp) _).alloc (by simp;omega) _,by simp,Nat.le_refl _,by omega,by omega,by omega,
    ((Fr.made _ _ _ rfl).alloc _).alloc _,(Fr.made _ _ _ (by simp)).alloc _,Fr.made _ _ _ (by simp)⟩
 generalize ((w.alloc (.cells #[.int .u8 x.inN,.int .u8 x.dffs,.int .u8 x.d0,.int .u8 x.d1,.bool x.bus,.bool x.mem,.int .u8 x.p0,.int .u8 x.p1,.int .u8 x.p2,.int .u8 x.p3,sG,sA] 27)).alloc (.cells #[.slice none 0 0,.slice none 0 0,.slice none 0 0,.slice none 0 0] 39)).alloc (.cells #[.slice none 0 0,.slice none 0 0,.slice none 0 0,.slice none 0 0] 39)=W at how ⊢
 obtain⟨T,HT⟩:=named (w.heap.size+1+1+1)
 rw[←HT.out]at how
 obtain⟨q3,H3⟩:=named (w.heap.size+1+1)
 rw[←H3.out]at how
 rw[←H3.out]
 obtain⟨q2,H2⟩:=named (w.heap.size+1)
 rw[←H2.out]at how
 rw[←H2.out]
 obtain⟨q1,H1⟩:=named w.heap.size
 rw[←H1.out]
 have how':OW (xCs x sG sA) w q1 q2 q3 T (.slice none 0 0) (.slice none 0 0) (.slice none 0 0) (.slice none 0 0) W:=by rw[H1.out];exact how
 have HOW:=Lib.hid how'
 clear how how'
 obtain⟨nf,HNF⟩:=named (firstN x)
 rw[←HNF.out]at hfi hfl
 obtain⟨nd,HND⟩:=named (dffsN x)
 rw[←HND.out]at hdi hdl
 go_loopw [4] (fun i wr=>∃k:Nat,k≤nf∧i=.int .i64 k∧∃sN ss,OW (xCs x sG sA) w q1 q2 q3 T sN (.slice none 0 0) (.slice none 0 0) (.slice none 0 0) wr∧NR wr T sN (List.replicate k inputN) ss) (fun i _=>nf-(intOf i).toNat)
 case atStart=>exact⟨0,Nat.zero_le _,rfl,_,_,HOW.out,NR.nil _ _⟩
 case round=>
  clear HOW
  obtain⟨k,hk,rfl,sN,ss,how,hnr⟩:=hrel
  obtain⟨g0,g1,-,-,-,g5,g6⟩:=how.args
  obtain⟨y0,y1,y2,y3,f0,f1,f2,f3,y4,y5⟩:=how.cells
  have hTl:=how.low
  by_cases hkn:k<nf
  ·obtain⟨A,c,hsN⟩:=hnr.form
   have hlen:(List.replicate k inputN).length=k:=by simp
   have hrow:=hnr.row
   rw[hlen]at hsN hrow
   subst hsN
   have HOW:=Lib.hid how
   have HNR:=Lib.hid hnr
   have HROW:=Lib.hid hrow
   have hle:(x.inN%4)≥(k:Int):=by omega
   clear how hnr hrow
   go_wp2_with (at_builtin;refine wpList_append_own_at _ rfl _ _ 34 rfl T 53 i1 (.agg #[.int .u8 0,.slice none 0 0,.int .i64 0,.int .i64 0]) 4 48 Tryd.underlying34 HI.out.1 HI.out.2.1 HI.out.2.2.1 HI.out.2.2.2 rfl (by decide) _ k _ rfl (World.ownsRow.alloc HROW.out _) ⟨wr.heap.size,0,none⟩ 1 1 [.int .u8 0,.slice none 0 0,.int .i64 0,.int .i64 0] rfl rfl (four_new _ _ _ _ _ _ rfl) (by decide) (by unfold maxLen;omega) (by omega) (by simp;omega) ?_;intro v' w2 hown' hgrow hnil hloc;obtain⟨A9,c9,hv9⟩:=own_form hown';subst hv9;have hp:=push_nodes (nd:=inputN) HOW.out HNR.out (InG.nil _ _ _) (by rw[hlen];exact hown') hgrow hloc;obtain⟨z0,z1,z2,z3,p0,p1,p2,p3,z4,z5⟩:=hp.1.cells;have HP:=Lib.hid hp;clear hp hown' hgrow hnil hloc)
   go_roundw
   case rel=>
    refine⟨k+1,by omega,by go_num,_,ss++[.slice none 0 0],HP.out.1.set 0 _ rfl,?_⟩
    rw[←rep_succ];exact HP.out.2.keep (Kp.set _ HP.out.1.eT _)
   case measure=>simp[intOf];omega
  ·obtain rfl:nf=k:=by omega
   obtain⟨A,c,hsN⟩:=hnr.form
   rw[show (List.replicate nf inputN).length=nf by simp]at hsN
   subst hsN
   have HOW:=Lib.hid how
   have HNR:=Lib.hid hnr
   clear how hnr
   go_wp2
   clear g0 g1 g5 g6 y0 y1 y2 y3 y4 y5 f0 f1 f2 f3 hTl
   (try rw[hfi])
   (try rw[hdi])
   clear hfi hdi
   go_loopw [7] (fun i wr=>∃k:Nat,k≤nd∧i=.int .i64 k∧∃sN ss,OW (xCs x sG sA) w q1 q2 q3 T sN (.slice none 0 0) (.slice none 0 0) (.slice none 0 0) wr∧NR wr T sN (List.replicate nf inputN++List.replicate k (dffN 0)) ss) (fun i _=>nd-(intOf i).toNat)
   case atStart=>exact⟨0,Nat.zero_le _,rfl,_,_,HOW.out,by simpa using HNR.out⟩
   case round=>
    clear HOW HNR
    obtain⟨k,hk,rfl,sN,ss,how,hnr⟩:=hrel
    obtain⟨g0,g1,gm,-,-,g5,g6⟩:=how.args
    obtain⟨y0,y1,y2,y3,f0,f1,f2,f3,y4,y5⟩:=how.cells
    have hTl:=how.low
    have hlen:(List.replicate nf inputN++List.replicate k (dffN 0)).length=nf+k:=by simp
    obtain⟨A,c,hsN⟩:=hnr.form
    rw[hlen]at hsN
    subst hsN
    have HOW:=Lib.hid how
    have HNR:=Lib.hid hnr
    by_cases hkn:k<nd
    ·have hrow:=hnr.row
     rw[hlen]at hrow
     have HROW:=Lib.hid hrow
     have hlit:InG (wr.alloc (.cells #[.int .i64 0] 3)) T (Value.slice A (nf+k) c).ownBlock (.slice (some ⟨wr.heap.size,0,none⟩) 1 1) [0]:=InG.lit how.low (fun q hq=>(World.ownsRow.lt hnr.row q hq).2) [0] rfl (by simp[maxLen])
     have HLIT:=Lib.hid hlit
     clear how hnr hrow hlit
     go_wp2_with (at_builtin;refine wpList_append_own_at _ rfl _ _ 34 rfl T 53 i1 (.agg #[.int .u8 0,.slice none 0 0,.int .i64 0,.int .i64 0]) 4 48 Tryd.underlying34 HI.out.1 HI.out.2.1 HI.out.2.2.1 HI.out.2.2.2 rfl (by decide) _ (nf+k) _ rfl (World.ownsRow.alloc (World.ownsRow.alloc HROW.out _) _) ⟨wr.heap.size+1,0,none⟩ 1 1 [.int .u8 14,.slice (some ⟨wr.heap.size,0,none⟩) 1 1,.int .i64 0,.int .i64 0] rfl rfl (four_new _ _ _ _ _ _ (by simp)) (by simp[Value.oneCell']) (by unfold maxLen;omega) (by omega) (by simp;omega) ?_;intro v' w2 hown' hgrow hnil hloc;obtain⟨A9,c9,hv9⟩:=own_form hown';subst hv9;have hp:=push_nodes (nd:=dffN 0) (HOW.out.next ((Below.refl _ _).alloc (Nat.le_refl _) _)) (HNR.out.keep (Kp.alloc _ _ _ _)) HLIT.out (by rw[hlen];exact hown') hgrow hloc;obtain⟨z0,z1,z2,z3,p0,p1,p2,p3,z4,z5⟩:=hp.1.cells;have HP:=Lib.hid hp;clear hp hown' hgrow hnil hloc)
     go_roundw
     case rel=>
      refine⟨k+1,by omega,by go_num,_,ss++[.slice (some ⟨wr.heap.size,0,none⟩) 1 1],HP.out.1.set 0 _ rfl,?_⟩
      rw[←rep_succ,←List.append_assoc];exact HP.out.2.keep (Kp.set _ HP.out.1.eT _)
     case measure=>simp[intOf];omega
    ·obtain rfl:nd=k:=by omega
     clear how hnr
     rw[HMEM.out]at gm
     have hbase:List.replicate nf inputN++List.replicate nd (dffN 0)=baseN x:=by unfold baseN;rw[HMEM.out,if_neg (by decide),List.append_nil,HNF.out,HND.out]
     have hnr0:=HNR.out
     rw[hbase]at hnr0
     have hnB:nf+nd=(baseN x).length:=by rw[←hbase];simp
     have HNB:=Lib.hid hnB
     have HN0:=Lib.hid hnr0
     clear hbase hnr0 hnB HNR
     obtain⟨AG,bG,oG,cG,hsG,hAG,hleG,hmG,hcG⟩:=HGG.out
     obtain⟨lg,HLG⟩:=named x.gates.length
     rw[←HLG.out]at hsG hAG hleG hmG
     unfold maxLen at hmG
     have HCG:=Lib.hid hcG
     have HAG:=Lib.hid hAG
     clear hcG hAG
     subst hsG
     obtain⟨ng,HNG⟩:=named (gatesN x)
     have hng:ng≤lg∧ng≤8∧(ng=lg∨ng=8):=by rw[HNG.out,HLG.out];unfold gatesN;omega
     obtain⟨nB,HB⟩:=named (nf+nd)
     rw[←HB.out]at HOW HN0 HNB
     have hnBb:1≤nB∧nB≤8:=by rw[HB.out];omega
     rw[←HB.out]at y0
     go_upto_block 4 with (fail)
     go_cut [8] (fun _ wx=>∃sN ss,OW (xCs x (.slice AG lg cG) sA) w q1 q2 q3 T sN (.slice none 0 0) (.slice none 0 0) (.slice none 0 0) wx∧NR wx T sN (gatesTo x ng) ss)
     case rest=>
      obtain⟨sN,ss,how,hnr⟩:=hcut
      have hkp:=gatesTo_kind x HX.out ng (by rw[←HLG.out];omega)
      have hlen:(gatesTo x ng).length=nB+ng:=by rw[gatesTo_len,HNB.out]
      have hszx:sizeN x=nB+ng:=by unfold sizeN;rw[←HNG.out];exact hlen
      obtain⟨sz,HSZ⟩:=named (nB+ng)
      rw[←HSZ.out]at hlen hszx
      have hszb:nf+nd≤sz∧sz≤16∧1≤sz:=by have h1:=HSZ.out;have h2:=HB.out;omega
      obtain⟨A,c,hsN⟩:=hnr.form
      rw[hlen]at hsN
      subst hsN
      have hA0:∃g,A=some ⟨g,0,none⟩∧T≤g∧g<w.heap.size+1000000000000+g+1:=by
       rcases hnr.row.2 with⟨h1,h2⟩| ⟨g,cap,cur,h1,h2,-⟩
       ·omega
       ·simp only[Value.slice.injEq]at h1
        exact⟨g,h1.1,h2,by omega⟩
      obtain⟨g,rfl,hgT,-⟩:=hA0
      have hg0:gatesTo x ng=dffTo x 0:=by show _=gatesTo x (gatesN x);rw[HNG.out]
      rw[hg0]at hnr
      have HOW:=Lib.hid how
      have HNR:=Lib.hid hnr
      obtain⟨g0,g1,gm,gg,ga,g5,g6⟩:=how.args
      obtain⟨y0,y1,y2,y3,f0,f1,f2,f3,y4,y5⟩:=how.cells
      have HKP:=Lib.hid hkp
      have HSX:=Lib.hid hszx
      clear how hnr hkp hg0 hszx hlen
      go_wp2
      clear g0 g1 gm gg ga g5 g6 y0 y1 y2 y3 y4 y5 f0 f1 f2 f3
      go_loopw [10] (fun i wr=>∃k:Nat,k≤nd∧i=.int .i64 k∧∃ss,OW (xCs x (.slice AG lg cG) sA) w q1 q2 q3 T (.slice (some ⟨g,0,none⟩) sz c) (.slice none 0 0) (.slice none 0 0) (.slice none 0 0) wr∧NR wr T (.slice (some ⟨g,0,none⟩) sz c) (dffTo x k) ss) (fun i _=>nd-(intOf i).toNat)
      case atStart=>exact⟨0,Nat.zero_le _,rfl,_,HOW.out,HNR.out⟩
      case round=>
       clear HOW HNR
       obtain⟨k,hk,rfl,ss,how,hnr⟩:=hrel
       obtain⟨y0,y1,y2,y3,f0,f1,f2,f3,y4,y5⟩:=how.cells
       have hTl:=how.low
       have hlen:(dffTo x k).length=sz:=by rw[dffTo_len,HSX.out]
       have HOW:=Lib.hid how
       have HNR:=Lib.hid hnr
       have hgl:g<wr.heap.size:=(World.ownsRow.lt hnr.row g rfl).2
       have hgn:¬g=wr.heap.size:=by omega
       have hgf:∀j,wr.frozen? ⟨g,j,none⟩=false:=fun j=>World.ownsRow.frozenAt (by have h:=hnr.row;rw[hlen]at h;exact h) j
       by_cases hkn:k<nd
       ·have hd:wr.cell? ⟨q1,2+k,none⟩=some (.int .u8 (dataN x k))∧U8 (dataN x k):=by
         have hk2:k=0∨k=1:=by omega
         rcases hk2 with rfl|rfl
         ·exact⟨how.fx.cell 2,HX.out.d0⟩
         ·exact⟨how.fx.cell 3,HX.out.d1⟩
        obtain⟨kd,hkd,hkdl⟩:=ix_lt (dataN x k) (n:=sz) (by omega)
        obtain⟨dk,HDK⟩:=named (dataN x k)
        rw[←HDK.out]at hd hkd
        obtain⟨hd,hu⟩:=hd
        unfold U8 at hu
        have htm:dk.tmod (sz:Int)=(kd:Int):=by rw[Int.tmod_eq_emod_of_nonneg (by omega)];exact hkd
        unfold ix at hkd
        have hsz0:¬sz=0:=by omega
        obtain⟨mk,HMK⟩:=named (nf+k)
        have hmk:mk<sz:=by rw[HMK.out];omega
        have hwn:IntKind.i64.wrap ((nf:Int)+(k:Int))=(mk:Int):=by rw[show (nf:Int)+(k:Int)=(mk:Int) by rw[HMK.out];omega];exact IntWalk.i64_in _ (by omega)
        have hwd:IntKind.i64.wrap dk=dk:=IntWalk.i64_in _ (by omega)
        have hfc:=hgf (mk*4+1)
        have hgc:∃u,wr.cell? ⟨g,mk*4+1,none⟩=some u:=by
         have h:=hnr.row
         rw[hlen]at h
         exact⟨_,(h.cellAt _ (by omega)).trans (ndCs_get _ _ hnr.len mk (by rw[hlen];omega)).2.1⟩
        obtain⟨u,hgc⟩:=hgc
        have hce0:∀w',OW (xCs x (.slice AG lg cG) sA) w q1 q2 q3 T (.slice (some ⟨g,0,none⟩) sz c) (.slice none 0 0) (.slice none 0 0) (.slice none 0 0) w'→OW (xCs x (.slice AG lg cG) sA) w q1 q2 q3 T (.slice (some ⟨g,0,none⟩) sz c) (.slice none 0 0) (.slice none 0 0) (.slice none 0 0) w'∧w'.cell? ⟨q3,0,none⟩=some (.slice (some ⟨g,0,none⟩) sz c)∧w'.cell? ⟨q1,2+k,none⟩=some (.int .u8 dk):=fun w' h=>
         ⟨h,h.fc.cell 0,by rw[h.fx.cell (2+k),←how.fx.cell (2+k)];exact hd⟩
        have HCE:=Lib.hid hce0
        have hs0:=HOW.out
        have hk2:k<2:=by omega
        clear how hnr hgf hce0
        go_wp2
        clear y0 y1 y2 y3
        have HS0:=Lib.hid (HCE.out _ (OW.drew hs0))
        refine AnyX.start (S:=fun w'=>OW (xCs x (.slice AG lg cG) sA) w q1 q2 q3 T (.slice (some ⟨g,0,none⟩) sz c) (.slice none 0 0) (.slice none 0 0) (.slice none 0 0) w'∧w'.cell? ⟨q3,0,none⟩=some (.slice (some ⟨g,0,none⟩) sz c)∧w'.cell? ⟨q1,2+k,none⟩=some (.int .u8 dk)) (t:=15) (by kernel_rfl) ?_
        refine AnyX.take (i:=0) (oi:=⟨some 88,_,_,_,_,_⟩) (v:=.pointer (some ⟨q3,0,none⟩)) rfl rfl (by kernel_rfl) (by kernel_rfl) (by kernel_rfl) (by kernel_rfl) (fun _ _ _ h=>h) (Or.inl ⟨by rfl,?_⟩) HS0.out ?_
        ·intro w' hSw
         obtain⟨-,c0',c1'⟩:=hSw
         first|(go_simp;done)|(go_simp;with_reducible rfl)|(go_simp;exact hwn)|(go_simp;exact hwd)|(go_simp;intro hh;exfalso;omega)
        simp only[Act.put,List.setIfInBounds_toArray,List.set_cons_zero,List.set_cons_succ]
        refine AnyX.take (i:=1) (oi:=⟨some 89,_,_,_,_,_⟩) (v:=.slice (some ⟨g,0,none⟩) sz c) rfl rfl (by kernel_rfl) (by kernel_rfl) (by kernel_rfl) (by kernel_rfl) (fun _ _ _ h=>h) (Or.inl ⟨by rfl,?_⟩) HS0.out ?_
        ·intro w' hSw
         obtain⟨-,c0',c1'⟩:=hSw
         first|(go_simp;done)|(go_simp;with_reducible rfl)|(go_simp;exact hwn)|(go_simp;exact hwd)|(go_simp;intro hh;exfalso;omega)
        simp only[Act.put,List.setIfInBounds_toArray,List.set_cons_zero,List.set_cons_succ]
        refine AnyX.take (i:=2) (oi:=⟨some 90,_,_,_,_,_⟩) (v:=.int .i64 (nf:Int)) rfl rfl (by kernel_rfl) (by kernel_rfl) (by kernel_rfl) (by kernel_rfl) (fun _ _ _ h=>h) (Or.inl ⟨by rfl,?_⟩) HS0.out ?_
        ·intro w' hSw
         obtain⟨-,c0',c1'⟩:=hSw
         first|(go_simp;done)|(go_simp;with_reducible rfl)|(go_simp;exact hwn)|(go_simp;exact hwd)|(go_simp;intro hh;exfalso;omega)
        simp only[Act.put,List.setIfInBounds_toArray,List.set_cons_zero,List.set_cons_succ]
        refine AnyX.take (i:=3) (oi:=⟨some 91,_,_,_,_,_⟩) (v:=.int .i64 (k:Int)) rfl rfl (by kernel_rfl) (by kernel_rfl) (by kernel_rfl) (by kernel_rfl) (fun _ _ _ h=>h) (Or.inl ⟨by rfl,?_⟩) HS0.out ?_
        ·intro w' hSw
         obtain⟨-,c0',c1'⟩:=hSw
         first|(go_simp;done)|(go_simp;with_reducible rfl)|(go_simp;exact hwn)|(go_simp;exact hwd)|(go_simp;intro hh;exfalso;omega)
        simp only[Act.put,List.setIfInBounds_toArray,List.set_cons_zero,List.set_cons_succ]
        refine AnyX.take (i:=4) (oi:=⟨some 92,_,_,_,_,_⟩) (v:=.int .i64 (mk:Int)) rfl rfl (by kernel_rfl) (by kernel_rfl) (by kernel_rfl) (by kernel_rfl) (fun _ _ _ h=>h) (Or.inl ⟨by rfl,?_⟩) HS0.out ?_
        ·intro w' hSw
         obtain⟨-,c0',c1'⟩:=hSw
         first|(go_simp;done)|(go_simp;with_reducible rfl)|(go_simp;exact hwn)|(go_simp;exact hwd)|(go_simp;intro hh;exfalso;omega)
        simp only[Act.put,List.setIfInBounds_toArray,List.set_cons_zero,List.set_cons_succ]
        refine AnyX.take (i:=5) (oi:=⟨some 93,_,_,_,_,_⟩) (v:=.int .i64 (k:Int)) rfl rfl (by kernel_rfl) (by kernel_rfl) (by kernel_rfl) (by kernel_rfl) (fun _ _ _ h=>h) (Or.inl ⟨by rfl,?_⟩) HS0.out ?_
        ·intro w' hSw
         obtain⟨-,c0',c1'⟩:=hSw
         first|(go_simp;done)|(go_simp;with_reducible rfl)|(go_simp;exact hwn)|(go_simp;exact hwd)|(go_simp;intro hh;exfalso;omega)
        simp only[Act.put,List.setIfInBounds_toArray,List.set_cons_zero,List.set_cons_succ]
        refine AnyX.take (i:=6) (oi:=⟨some 94,_,_,_,_,_⟩) (v:=.pointer (some ⟨q1,2,none⟩)) rfl rfl (by kernel_rfl) (by kernel_rfl) (by kernel_rfl) (by kernel_rfl) (fun _ _ _ h=>h) (Or.inl ⟨by rfl,?_⟩) HS0.out ?_
        ·intro w' hSw
         obtain⟨-,c0',c1'⟩:=hSw
         first|(go_simp;done)|(go_simp;with_reducible rfl)|(go_simp;exact hwn)|(go_simp;exact hwd)|(go_simp;intro hh;exfalso;omega)
        simp only[Act.put,List.setIfInBounds_toArray,List.set_cons_zero,List.set_cons_succ]
        refine AnyX.take (i:=7) (oi:=⟨some 95,_,_,_,_,_⟩) (v:=.pointer (some ⟨q1,2+k,none⟩)) rfl rfl (by kernel_rfl) (by kernel_rfl) (by kernel_rfl) (by kernel_rfl) (fun _ _ _ h=>h) (Or.inl ⟨by rfl,?_⟩) HS0.out ?_
        ·intro w' hSw
         obtain⟨-,c0',c1'⟩:=hSw
         first|(go_simp;done)|(go_simp;with_reducible rfl)|(go_simp;exact hwn)|(go_simp;exact hwd)|(go_simp;intro hh;exfalso;omega)
        simp only[Act.put,List.setIfInBounds_toArray,List.set_cons_zero,List.set_cons_succ]
        refine AnyX.take (i:=8) (oi:=⟨some 96,_,_,_,_,_⟩) (v:=.int .u8 dk) rfl rfl (by kernel_rfl) (by kernel_rfl) (by kernel_rfl) (by kernel_rfl) (fun _ _ _ h=>h) (Or.inl ⟨by rfl,?_⟩) HS0.out ?_
        ·intro w' hSw
         obtain⟨-,c0',c1'⟩:=hSw
         first|(go_simp;done)|(go_simp;with_reducible rfl)|(go_simp;exact hwn)|(go_simp;exact hwd)|(go_simp;intro hh;exfalso;omega)
        simp only[Act.put,List.setIfInBounds_toArray,List.set_cons_zero,List.set_cons_succ]
        refine AnyX.take (i:=9) (oi:=⟨some 97,_,_,_,_,_⟩) (v:=.int .i64 dk) rfl rfl (by kernel_rfl) (by kernel_rfl) (by kernel_rfl) (by kernel_rfl) (fun _ _ _ h=>h) (Or.inl ⟨by rfl,?_⟩) HS0.out ?_
        ·intro w' hSw
         obtain⟨-,c0',c1'⟩:=hSw
         first|(go_simp;done)|(go_simp;with_reducible rfl)|(go_simp;exact hwn)|(go_simp;exact hwd)|(go_simp;intro hh;exfalso;omega)
        simp only[Act.put,List.setIfInBounds_toArray,List.set_cons_zero,List.set_cons_succ]
        refine AnyX.take (i:=10) (oi:=⟨some 98,_,_,_,_,_⟩) (v:=.int .i64 (sz:Int)) rfl rfl (by kernel_rfl) (by kernel_rfl) (by kernel_rfl) (by kernel_rfl) (fun _ _ _ h=>h) (Or.inl ⟨by rfl,?_⟩) HS0.out ?_
        ·intro w' hSw
         obtain⟨-,c0',c1'⟩:=hSw
         first|(go_simp;done)|(go_simp;with_reducible rfl)|(go_simp;exact hwn)|(go_simp;exact hwd)|(go_simp;intro hh;exfalso;omega)
        simp only[Act.put,List.setIfInBounds_toArray,List.set_cons_zero,List.set_cons_succ]
        refine AnyX.take (i:=11) (oi:=⟨some 99,_,_,_,_,_⟩) (v:=.int .i64 (kd:Int)) rfl rfl (by kernel_rfl) (by kernel_rfl) (by kernel_rfl) (by kernel_rfl) (fun _ _ _ h=>h) (Or.inl ⟨by rfl,?_⟩) HS0.out ?_
        ·intro w' hSw
         obtain⟨-,c0',c1'⟩:=hSw
         first|(go_simp;done)|(go_simp;with_reducible rfl)|(go_simp;exact hwn)|(go_simp;exact hwd)|(go_simp;intro hh;exfalso;omega)
        simp only[Act.put,List.setIfInBounds_toArray,List.set_cons_zero,List.set_cons_succ]
        clear HS0 hd
        refine AnyX.one (i:=12) (o:=⟨some 100,_,_,_,_,_⟩) (by kernel_rfl) rfl (fun K' hK=>?_)
        have HK:=Lib.hid hK
        clear hK
        go_simp
        refine HK.out _ _ (fun _=>HCE.out _ (by repeat (first|exact hs0|refine OW.drew ?_|refine OW.al ?_ _))) ?_
        clear HK
        (try simp only[Act.put,List.setIfInBounds_toArray,List.set_cons_zero,List.set_cons_succ])
        refine AnyX.one (i:=13) (o:=⟨some 101,_,_,_,_,_⟩) (by kernel_rfl) rfl (fun K' hK=>?_)
        have HK:=Lib.hid hK
        clear hK
        go_simp
        refine HK.out _ _ (fun _=>HCE.out _ (by repeat (first|exact hs0|refine OW.drew ?_|refine OW.al ?_ _))) ?_
        clear HK
        (try simp only[Act.put,List.setIfInBounds_toArray,List.set_cons_zero,List.set_cons_succ])
        refine AnyX.one (i:=14) (o:=⟨some 102,_,_,_,_,_⟩) (by kernel_rfl) rfl (fun K' hK=>?_)
        have HK:=Lib.hid hK
        clear hK
        go_simp
        refine HK.out _ _ (fun _=>HCE.out _ (by repeat (first|exact hs0|refine OW.drew ?_|refine OW.al ?_ _))) ?_
        clear HK
        (try simp only[Act.put,List.setIfInBounds_toArray,List.set_cons_zero,List.set_cons_succ])
        refine AnyX.one (i:=15) (o:=⟨none,_,_,_,_,_⟩) (by kernel_rfl) rfl (fun K' hK=>?_)
        have HK:=Lib.hid hK
        clear hK
        go_simp
        refine HK.out _ _ (fun h=>absurd rfl h) ?_
        clear HK
        (try simp only[Act.put,List.setIfInBounds_toArray,List.set_cons_zero,List.set_cons_succ])
        refine AnyX.done (by kernel_rfl) ?_ _
        go_wp2
        go_roundw
        case rel=>
         refine⟨k+1,by omega,by go_num,ss.set mk (.slice (some ⟨wr.heap.size,0,none⟩) 1 1),OW.drew (OW.al (OW.srow hs0 hgT _ _) _),?_⟩
         have h:=HNR.out.store2 (i:=mk) (x:=dffN (kd:Int)) (y:=(kd:Int)) hTl hlen.symm (by rw[hlen];exact hmk) rfl (dffTo_kind x k (by rw[←HND.out];exact hkn) _ (by rw[HMK.out,HNF.out])).1 (dffTo_kind x k (by rw[←HND.out];exact hkn) _ (by rw[HMK.out,HNF.out])).2.1 (dffTo_kind x k (by rw[←HND.out];exact hkn) _ (by rw[HMK.out,HNF.out])).2.2
         have e:dffTo x (k+1)=(dffTo x k).set mk (dffN (kd:Int)):=by
          show (dffTo x k).set (firstN x+k) (dffN (ix (dataN x k) (gatesTo x (gatesN x)).length))=_
          rw[←HNF.out,←HMK.out,←HDK.out,show (gatesTo x (gatesN x)).length=sz from HSX.out]
          unfold ix
          rw[hkd]
         rw[e]
         exact h
        case measure=>simp[intOf];omega
       ·obtain rfl:nd=k:=by omega
        obtain⟨g0,g1,gm,gg,ga,g5,g6⟩:=how.args
        rw[HMEM.out]at gm
        have hw0:dffTo x nd=nodesN x:=by unfold nodesN;rw[←HND.out]
        have hnr0:=hnr
        rw[hw0]at hnr0
        have HN0:=Lib.hid hnr0
        clear how hnr hgf hnr0 hw0
        obtain⟨V0,rfl⟩:∃V0:World,V0=wr:=⟨_,rfl⟩
        obtain⟨i2,hi2,hz0,hz1,hz2⟩:=info_parts info_str
        have HI2:=Lib.hid (And.intro hi2 (And.intro hz0 (And.intro hz1 hz2)))
        clear hi2 hz0 hz1 hz2
        go_wp2
        clear g0 g1 gm gg ga g5 g6 y0 y1 y2 y3 y4 y5 f0 f1 f2 f3
        go_loopw [11] (fun i wx=>∃k:Nat,k≤sz∧i=.int .i64 k∧∃sS,OW (xCs x (.slice AG lg cG) sA) w q1 q2 q3 T (.slice (some ⟨g,0,none⟩) sz c) sS (.slice none 0 0) (.slice none 0 0) wx∧Kp T none V0 wx∧wx.ownsRow V0.heap.size 9 1 sS k (nameV k)) (fun i _=>sz-(intOf i).toNat)
        case atStart=>exact⟨0,Nat.zero_le _,rfl,_,HOW.out,Kp.refl _ _ _,World.ownsRow_nil _ _ _ _⟩
        case round=>
         clear HOW
         obtain⟨k,hk,rfl,sS,how,hkp,hrow⟩:=hrel
         obtain⟨y0,y1,y2,y3,f0,f1,f2,f3,y4,y5⟩:=how.cells
         have hTl:=how.low
         obtain⟨A2,c2,hsS⟩:=own_form hrow
         subst hsS
         by_cases hkn:k<sz
         ·have hce0:∀w',OW (xCs x (.slice AG lg cG) sA) w q1 q2 q3 T (.slice (some ⟨g,0,none⟩) sz c) (.slice A2 k c2) (.slice none 0 0) (.slice none 0 0) w'→OW (xCs x (.slice AG lg cG) sA) w q1 q2 q3 T (.slice (some ⟨g,0,none⟩) sz c) (.slice A2 k c2) (.slice none 0 0) (.slice none 0 0) w'∧w'.cell? ⟨q3,1,none⟩=some (.slice A2 k c2):=fun w' h=>⟨h,h.fc.cell 1⟩
          have HCE:=Lib.hid hce0
          have HOW:=Lib.hid how
          have HKP:=Lib.hid hkp
          have HROW:=Lib.hid hrow
          have hVl:=hkp.1
          have hTV:T≤V0.heap.size:=HN0.low
          clear hce0 hkp hrow
          go_wp2
          clear y0 y1 y2 y3
          have HS0:=Lib.hid (HCE.out _ (OW.drew how))
          refine AnyX.start (S:=fun w'=>OW (xCs x (.slice AG lg cG) sA) w q1 q2 q3 T (.slice (some ⟨g,0,none⟩) sz c) (.slice A2 k c2) (.slice none 0 0) (.slice none 0 0) w'∧w'.cell? ⟨q3,1,none⟩=some (.slice A2 k c2)) (t:=7) (by kernel_rfl) ?_
          refine AnyX.take (i:=0) (oi:=⟨some 139,_,_,_,_,_⟩) (v:=.pointer (some ⟨q3,1,none⟩)) rfl rfl (by kernel_rfl) (by kernel_rfl) (by kernel_rfl) (by kernel_rfl) (fun _ _ _ h=>h) (Or.inl ⟨by rfl,?_⟩) HS0.out ?_
          ·intro w' hSw
           obtain⟨-,c0'⟩:=hSw
           first|(go_simp;done)|(go_simp;with_reducible rfl)
          simp only[Act.put,List.setIfInBounds_toArray,List.set_cons_zero,List.set_cons_succ]
          refine AnyX.take (i:=1) (oi:=⟨some 140,_,_,_,_,_⟩) (v:=.slice A2 k c2) rfl rfl (by kernel_rfl) (by kernel_rfl) (by kernel_rfl) (by kernel_rfl) (fun _ _ _ h=>h) (Or.inl ⟨by rfl,?_⟩) HS0.out ?_
          ·intro w' hSw
           obtain⟨-,c0'⟩:=hSw
           first|(go_simp;done)|(go_simp;with_reducible rfl)
          simp only[Act.put,List.setIfInBounds_toArray,List.set_cons_zero,List.set_cons_succ]
          refine AnyX.take (i:=2) (oi:=⟨some 141,_,_,_,_,_⟩) (v:=.int .i64 (k:Int)) rfl rfl (by kernel_rfl) (by kernel_rfl) (by kernel_rfl) (by kernel_rfl) (fun _ _ _ h=>h) (Or.inl ⟨by rfl,?_⟩) HS0.out ?_
          ·intro w' hSw
           obtain⟨-,c0'⟩:=hSw
           first|(go_simp;done)|(go_simp;with_reducible rfl)
          simp only[Act.put,List.setIfInBounds_toArray,List.set_cons_zero,List.set_cons_succ]
          clear HS0 how
          refine AnyX.one (i:=3) (o:=⟨some 142,_,_,_,_,_⟩) (by kernel_rfl) rfl (fun K' hK=>?_)
          have HK:=Lib.hid hK
          clear hK
          go_simp
          go_at_call 32
          (with_reducible refine (name_any k (by omega) _).mono ?_)
          rintro e w1 ⟨rfl,hb⟩
          have hb1:Below wr.heap.size wr w1:=joinB (Below.refl _ _).drew hb
          have hs1:=HOW.out.next hb1
          have HKP1:=Lib.hid (HKP.out.trans (Kp.below hb1))
          have HR1:=Lib.hid (own_kp HROW.out (T':=0) (R:=none) (Nat.zero_le _) (Kp.below hb1) (Classical.em _))
          have hV1:V0.heap.size≤w1.heap.size:=Nat.le_trans hVl hb1.size
          clear hb hb1
          refine HK.out _ _ (fun _=>HCE.out _ hs1) ?_
          clear HK
          (try simp only[Act.put,List.setIfInBounds_toArray,List.set_cons_zero,List.set_cons_succ])
          refine AnyX.one (i:=4) (o:=⟨some 143,_,_,_,_,_⟩) (by kernel_rfl) rfl (fun K' hK=>?_)
          have HK:=Lib.hid hK
          clear hK
          go_simp
          refine HK.out _ _ (fun _=>HCE.out _ (OW.al hs1 _)) ?_
          clear HK
          (try simp only[Act.put,List.setIfInBounds_toArray,List.set_cons_zero,List.set_cons_succ])
          refine AnyX.one (i:=5) (o:=⟨some 144,_,_,_,_,_⟩) (by kernel_rfl) rfl (fun K' hK=>?_)
          have HK:=Lib.hid hK
          clear hK
          refine step_append_lies _ (by rfl) (.tmp 140) (.tmp 143) 35 (by rfl) V0.heap.size 9 i2 (.string ⟨#[]⟩) 1 16 Tryd.underlying35 HI2.out.1 HI2.out.2.1 HI2.out.2.2.1 HI2.out.2.2.2 rfl (by decide) (.slice A2 k c2) k (nameV k) (by simp[Act.eval,Act.put]) (World.ownsRow.alloc HR1.out _) ⟨w1.heap.size,0,none⟩ 1 1 [.string (nameB k)] (by simp[Act.eval,Act.put]) rfl (one_new w1 _ _) (by simp[Value.oneCell']) (by decide) (by unfold maxLen;omega) (by omega) (by simp;omega) _ rfl ?_
          intro g9 c9 w2 hown' hgrow hat hlt
          have hRq:∀q,(Value.slice A2 k c2).ownBlock=some q→V0.heap.size≤q:=fun q h=>(World.ownsRow.lt HR1.out q h).1
          have hs2:=(OW.al hs1 (.cells #[.string (nameB k)] 9)).grown hgrow (fun q h=>Nat.le_trans hTV (hRq q h))
          have HKP2:=Lib.hid (Kp.grow (Kp.trans HKP1.out (Kp.alloc T none w1 _)) hgrow hRq)
          obtain⟨z0,z1,z2,z3,p0,p1,p2,p3,z4,z5⟩:=hs2.cells
          have HR2:=Lib.hid hown'
          clear hown' hgrow hat hlt hRq
          refine HK.out _ _ (fun _=>HCE.out _ hs2) ?_
          clear HK
          (try simp only[Act.put,List.setIfInBounds_toArray,List.set_cons_zero,List.set_cons_succ])
          refine AnyX.one (i:=6) (o:=⟨some 145,_,_,_,_,_⟩) (by kernel_rfl) rfl (fun K' hK=>?_)
          have HK:=Lib.hid hK
          clear hK
          go_simp
          refine HK.out _ _ (fun _=>HCE.out _ hs2) ?_
          clear HK
          (try simp only[Act.put,List.setIfInBounds_toArray,List.set_cons_zero,List.set_cons_succ])
          refine AnyX.one (i:=7) (o:=⟨none,_,_,_,_,_⟩) (by kernel_rfl) rfl (fun K' hK=>?_)
          have HK:=Lib.hid hK
          clear hK
          go_simp
          refine HK.out _ _ (fun h=>absurd rfl h) ?_
          clear HK
          (try simp only[Act.put,List.setIfInBounds_toArray,List.set_cons_zero,List.set_cons_succ])
          refine AnyX.done (by kernel_rfl) ?_ _
          go_wp2
          go_roundw
          case rel=>
           refine⟨k+1,by omega,by go_num,_,hs2.set 1 _ rfl,HKP2.out.trans (Kp.set _ (by exact hs2.eT) _),?_⟩
           rw[nameV_succ]
           exact own_kp HR2.out (T':=q3+1) (R:=none) (by have:=hs2.eT;omega) (Kp.set _ (by show q3<q3+1;omega) _) (Classical.em _)
          case measure=>simp[intOf];omega
         ·obtain rfl:sz=k:=by omega
          obtain⟨V1,rfl⟩:∃V1:World,V1=wr:=⟨_,rfl⟩
          have HN1:=Lib.hid (HN0.out.keep hkp)
          have HNM:=Lib.hid hrow
          have hTV:T≤V1.heap.size:=how.low
          obtain⟨g0,g1,gm,gg,ga,g5,g6⟩:=how.args
          rw[HMEM.out]at gm
          have HOW:=Lib.hid how
          obtain⟨AO,bO,oO,cO,hsO,hAO,hleO,hmO,hcO⟩:=HAA.out.opens
          obtain⟨lo_,HLO⟩:=named x.outs.length
          rw[←HLO.out]at hsO hAO hleO hmO
          unfold maxLen at hmO
          have HCO:=Lib.hid hcO
          have HAO:=Lib.hid hAO
          clear hcO hAO hkp hrow how
          subst hsO
          obtain⟨no,HNO⟩:=named (outsN x)
          have hno:no≤lo_∧no≤3∧(no=lo_∨no=3):=by rw[HNO.out,HLO.out];unfold outsN;omega
          obtain⟨i3,hi3,hz0,hz1,hz2⟩:=info_parts info_int
          have HI3:=Lib.hid (And.intro hi3 (And.intro hz0 (And.intro hz1 hz2)))
          clear hi3 hz0 hz1 hz2
          go_upto_block 10 with (fail)
          go_cut [12] (fun _ wx=>∃sO,OW (xCs x (.slice AG lg cG) (.slice AO lo_ cO)) w q1 q2 q3 T (.slice (some ⟨g,0,none⟩) sz c) (.slice A2 sz c2) (.slice none 0 0) sO wx∧Kp T none V1 wx∧Stk wx V1.heap.size sO (outsTo x no))
          case rest=>
           clear HOW g0 g1 gm gg ga g5 g6
           obtain⟨sO,how,hkp,hst⟩:=hcut
           obtain⟨y0,y1,y2,y3,f0,f1,f2,f3,y4,y5⟩:=how.cells
           have hlen:=outsTo_len x no
           obtain⟨A3,c3,hsO⟩:=own_form hst
           rw[hlen]at hsO
           subst hsO
           have HOW:=Lib.hid how
           have HKP:=Lib.hid hkp
           have HST:=Lib.hid hst
           have hVl:=hkp.1
           clear how hkp hst
           go_wp2_with (at_builtin;refine wpList_append_own_at _ rfl _ _ 37 rfl V1.heap.size 3 i3 (.int .i64 0) 1 8 Tryd.underlying37 HI3.out.1 HI3.out.2.1 HI3.out.2.2.1 HI3.out.2.2.2 rfl (by decide) _ no _ rfl (stk_al' HST.out hlen _) ⟨_,0,none⟩ 1 1 [.int .i64 ((sz:Int)-1)] rfl rfl (by exact one_new _ _ _) (by simp[Value.oneCell']) (by unfold maxLen;omega) (by omega) (by simp;omega) ?_;intro v' w2 hown' hgrow hnil hloc;obtain⟨A9,c9,hv9⟩:=own_form hown';subst hv9;have hRq:∀q,(Value.slice A3 no c3).ownBlock=some q→V1.heap.size≤q:=(fun q h=>(World.ownsRow.lt HST.out q h).1);have hs2:=(OW.al HOW.out (.cells #[.int .i64 ((sz:Int)-1)] 3)).grown hgrow (fun q h=>Nat.le_trans hTV (hRq q h));have HKP2:=Lib.hid (Kp.grow (Kp.trans HKP.out (Kp.alloc _ _ _ _)) hgrow hRq);obtain⟨z0,z1,z2,z3,p0,p1,p2,p3,z4,z5⟩:=hs2.cells;have r0:=hs2.fr.cell 0;have r1:=hs2.fr.cell 1;have r2:=hs2.fr.cell 2;have r3:=hs2.fr.cell 3;have h0:=hs2.fr.frozen 0;have h1:=hs2.fr.frozen 1;have h2:=hs2.fr.frozen 2;have h3:=hs2.fr.frozen 3;have hq23:¬q3=q2:=(by have:=hs2.e3;omega);have hq32:¬q2=q3:=(by have:=hs2.e3;omega);simp only[nil4,List.getElem?_cons_zero,List.getElem?_cons_succ]at r0 r1 r2 r3;have HS2:=Lib.hid hs2;have HR2:=Lib.hid hown';clear hown' hgrow hnil hloc hRq hs2)
           have hs3:=HS2.out.set 3 (.slice A9 (no+1) c9) rfl
           have a1:=hs3.e1
           have a2:=hs3.e2
           have a3:=hs3.e3
           have a4:=hs3.eT
           have hq:=Fr.set4 hs3.fr (.slice (some ⟨g,0,none⟩) sz c) (.slice A2 sz c2) (.slice none 0 0) (.slice A9 (no+1) c9)
           have hkp0:∀B,q3<B→Kp B none w2 (((((w2.setCell ⟨q3,3,none⟩ (.slice A9 (no+1) c9)).setCell ⟨q2,0,none⟩ (.slice (some ⟨g,0,none⟩) sz c)).setCell ⟨q2,1,none⟩ (.slice A2 sz c2)).setCell ⟨q2,2,none⟩ (.slice none 0 0)).setCell ⟨q2,3,none⟩ (.slice A9 (no+1) c9)):=fun B hB=>
            Kp.trans (Kp.trans (Kp.trans (Kp.trans (Kp.set _ (by exact hB) _) (Kp.set _ (by show q2<B;omega) _)) (Kp.set _ (by show q2<B;omega) _)) (Kp.set _ (by show q2<B;omega) _)) (Kp.set _ (by show q2<B;omega) _)
           have hw:=BelW.set4 (D:=q2) hs3.bel (by omega) (.slice (some ⟨g,0,none⟩) sz c) (.slice A2 sz c2) (.slice none 0 0) (.slice A9 (no+1) c9)
           have hst:=own_kp (stk_of (l':=outsTo x no++[(sz:Int)-1]) rfl hlen HR2.out) (T':=q3+1) (R:=none) (by omega) (hkp0 _ (by omega)) (Classical.em _)
           have hMs:memsN x=[]:=by unfold memsN;rw[HMEM.out];rfl
           have hci:=of_fin HX.out HN1.out (sS:=.slice A2 sz c2) (T2:=V0.heap.size) (sM:=.slice none 0 0) (sO:=.slice A9 (no+1) c9) (H:=V1.heap.size) (by rw[HSX.out];exact HNM.out) HN0.out.low (by rw[hMs];exact Arr.nil _ _ _ _ _) (by rw[HSX.out,←HNO.out];exact hst) (Kp.trans HKP2.out (hkp0 T a4))
           (try simp only[Exit.inBlock,Exit.then])
           refine bodyPost_ret (results_cell_row rfl _ _ _ _ _ _ _ rfl hq Tryd.underlying39 rfl (by kernel_rfl)) rfl ?_
           exact⟨⟨_,rfl,hci⟩,hw⟩
          case first=>
           go_wp2
           clear g0 g1 gm gg ga g5 g6
           go_loopw [12] (fun i wx=>∃k:Nat,k≤no∧i=.int .i64 k∧∃sO,OW (xCs x (.slice AG lg cG) (.slice AO lo_ cO)) w q1 q2 q3 T (.slice (some ⟨g,0,none⟩) sz c) (.slice A2 sz c2) (.slice none 0 0) sO wx∧Kp T none V1 wx∧Stk wx V1.heap.size sO (outsTo x k)) (fun i _=>no-(intOf i).toNat)
           case atStart=>exact⟨0,Nat.zero_le _,rfl,_,HOW.out,Kp.refl _ _ _,Stk.nil _ _⟩
           case round=>
            clear HOW
            obtain⟨k,hk,rfl,sO,how,hkp,hst⟩:=hrel
            obtain⟨g0,g1,gm,gg,ga,g5,g6⟩:=how.args
            have hlen:=outsTo_len x k
            obtain⟨A3,c3,hsO⟩:=own_form hst
            rw[hlen]at hsO
            subst hsO
            by_cases hkn:k<no
            ·obtain rfl:=HAO.out (by omega)
             obtain⟨hbO,ho0⟩:=HCO.out k (by rw[←HLO.out];omega)
             have hbO':bO<w.heap.size:=by omega
             obtain⟨kd,hkd,hkdl⟩:=ix_lt (x.outs.getD k 0) (n:=sz) (by omega)
             have hu:=HX.out.outs k (by rw[←HLO.out];omega)
             have hsu:=outsTo_succ x k
             rw[HSX.out,hkd]at hsu
             have HSU:=Lib.hid hsu
             obtain⟨ok,HOK⟩:=named (x.outs.getD k 0)
             rw[←HOK.out]at ho0 hkd hu
             unfold U8 at hu
             have htm:ok.tmod (sz:Int)=(kd:Int):=by rw[Int.tmod_eq_emod_of_nonneg (by omega)];exact hkd
             unfold ix at hkd
             have hwo:IntKind.i64.wrap ok=ok:=IntWalk.i64_in _ (by omega)
             have hsz0:¬sz=0:=by omega
             have hkl:k<lo_:=by omega
             have hce0:∀w',OW (xCs x (.slice AG lg cG) (.slice (some ⟨bO,oO,none⟩) lo_ cO)) w q1 q2 q3 T (.slice (some ⟨g,0,none⟩) sz c) (.slice A2 sz c2) (.slice none 0 0) (.slice A3 k c3) w'→OW (xCs x (.slice AG lg cG) (.slice (some ⟨bO,oO,none⟩) lo_ cO)) w q1 q2 q3 T (.slice (some ⟨g,0,none⟩) sz c) (.slice A2 sz c2) (.slice none 0 0) (.slice A3 k c3) w'∧w'.cell? ⟨q3,3,none⟩=some (.slice A3 k c3)∧w'.cell? ⟨q1,11,none⟩=some (.slice (some ⟨bO,oO,none⟩) lo_ cO)∧w'.cell? ⟨bO,oO+k,none⟩=some (.int .u8 ok):=fun w' h=>⟨h,h.fc.cell 3,h.fx.cell 11,(h.bel.cell (p:=⟨bO,oO+k,none⟩) hbO').trans ho0⟩
             have HCE:=Lib.hid hce0
             have HOW:=Lib.hid how
             have HKP:=Lib.hid hkp
             have HST:=Lib.hid hst
             have hVl:=hkp.1
             clear hce0 hkp hst hsu
             go_wp2
             clear g0 g1 gm gg ga
             have HS0:=Lib.hid (HCE.out _ (OW.drew how))
             refine AnyX.start (S:=fun w'=>OW (xCs x (.slice AG lg cG) (.slice (some ⟨bO,oO,none⟩) lo_ cO)) w q1 q2 q3 T (.slice (some ⟨g,0,none⟩) sz c) (.slice A2 sz c2) (.slice none 0 0) (.slice A3 k c3) w'∧w'.cell? ⟨q3,3,none⟩=some (.slice A3 k c3)∧w'.cell? ⟨q1,11,none⟩=some (.slice (some ⟨bO,oO,none⟩) lo_ cO)∧w'.cell? ⟨bO,oO+k,none⟩=some (.int .u8 ok)) (t:=13) (by kernel_rfl) ?_
             refine AnyX.take (i:=0) (oi:=⟨some 157,_,_,_,_,_⟩) (v:=.pointer (some ⟨q3,3,none⟩)) rfl rfl (by kernel_rfl) (by kernel_rfl) (by kernel_rfl) (by kernel_rfl) (fun _ _ _ h=>h) (Or.inl ⟨by rfl,?_⟩) HS0.out ?_
             ·intro w' hSw
              obtain⟨-,c0',c1',c2'⟩:=hSw
              first|(go_simp;done)|(go_simp;with_reducible rfl)|(go_simp;exact hwo)
             simp only[Act.put,List.setIfInBounds_toArray,List.set_cons_zero,List.set_cons_succ]
             refine AnyX.take (i:=1) (oi:=⟨some 158,_,_,_,_,_⟩) (v:=.slice A3 k c3) rfl rfl (by kernel_rfl) (by kernel_rfl) (by kernel_rfl) (by kernel_rfl) (fun _ _ _ h=>h) (Or.inl ⟨by rfl,?_⟩) HS0.out ?_
             ·intro w' hSw
              obtain⟨-,c0',c1',c2'⟩:=hSw
              first|(go_simp;done)|(go_simp;with_reducible rfl)|(go_simp;exact hwo)
             simp only[Act.put,List.setIfInBounds_toArray,List.set_cons_zero,List.set_cons_succ]
             refine AnyX.take (i:=2) (oi:=⟨some 159,_,_,_,_,_⟩) (v:=.pointer (some ⟨q1,11,none⟩)) rfl rfl (by kernel_rfl) (by kernel_rfl) (by kernel_rfl) (by kernel_rfl) (fun _ _ _ h=>h) (Or.inl ⟨by rfl,?_⟩) HS0.out ?_
             ·intro w' hSw
              obtain⟨-,c0',c1',c2'⟩:=hSw
              first|(go_simp;done)|(go_simp;with_reducible rfl)|(go_simp;exact hwo)
             simp only[Act.put,List.setIfInBounds_toArray,List.set_cons_zero,List.set_cons_succ]
             refine AnyX.take (i:=3) (oi:=⟨some 160,_,_,_,_,_⟩) (v:=.slice (some ⟨bO,oO,none⟩) lo_ cO) rfl rfl (by kernel_rfl) (by kernel_rfl) (by kernel_rfl) (by kernel_rfl) (fun _ _ _ h=>h) (Or.inl ⟨by rfl,?_⟩) HS0.out ?_
             ·intro w' hSw
              obtain⟨-,c0',c1',c2'⟩:=hSw
              first|(go_simp;done)|(go_simp;with_reducible rfl)|(go_simp;exact hwo)
             simp only[Act.put,List.setIfInBounds_toArray,List.set_cons_zero,List.set_cons_succ]
             refine AnyX.take (i:=4) (oi:=⟨some 161,_,_,_,_,_⟩) (v:=.int .i64 (k:Int)) rfl rfl (by kernel_rfl) (by kernel_rfl) (by kernel_rfl) (by kernel_rfl) (fun _ _ _ h=>h) (Or.inl ⟨by rfl,?_⟩) HS0.out ?_
             ·intro w' hSw
              obtain⟨-,c0',c1',c2'⟩:=hSw
              first|(go_simp;done)|(go_simp;with_reducible rfl)|(go_simp;exact hwo)
             simp only[Act.put,List.setIfInBounds_toArray,List.set_cons_zero,List.set_cons_succ]
             refine AnyX.take (i:=5) (oi:=⟨some 162,_,_,_,_,_⟩) (v:=.pointer (some ⟨bO,oO+k,none⟩)) rfl rfl (by kernel_rfl) (by kernel_rfl) (by kernel_rfl) (by kernel_rfl) (fun _ _ _ h=>h) (Or.inl ⟨by rfl,?_⟩) HS0.out ?_
             ·intro w' hSw
              obtain⟨-,c0',c1',c2'⟩:=hSw
              first|(go_simp;done)|(go_simp;with_reducible rfl)|(go_simp;exact hwo)
             simp only[Act.put,List.setIfInBounds_toArray,List.set_cons_zero,List.set_cons_succ]
             refine AnyX.take (i:=6) (oi:=⟨some 163,_,_,_,_,_⟩) (v:=.int .u8 ok) rfl rfl (by kernel_rfl) (by kernel_rfl) (by kernel_rfl) (by kernel_rfl) (fun _ _ _ h=>h) (Or.inl ⟨by rfl,?_⟩) HS0.out ?_
             ·intro w' hSw
              obtain⟨-,c0',c1',c2'⟩:=hSw
              first|(go_simp;done)|(go_simp;with_reducible rfl)|(go_simp;exact hwo)
             simp only[Act.put,List.setIfInBounds_toArray,List.set_cons_zero,List.set_cons_succ]
             refine AnyX.take (i:=7) (oi:=⟨some 164,_,_,_,_,_⟩) (v:=.int .i64 ok) rfl rfl (by kernel_rfl) (by kernel_rfl) (by kernel_rfl) (by kernel_rfl) (fun _ _ _ h=>h) (Or.inl ⟨by rfl,?_⟩) HS0.out ?_
             ·intro w' hSw
              obtain⟨-,c0',c1',c2'⟩:=hSw
              first|(go_simp;done)|(go_simp;with_reducible rfl)|(go_simp;exact hwo)
             simp only[Act.put,List.setIfInBounds_toArray,List.set_cons_zero,List.set_cons_succ]
             refine AnyX.take (i:=8) (oi:=⟨some 165,_,_,_,_,_⟩) (v:=.int .i64 (sz:Int)) rfl rfl (by kernel_rfl) (by kernel_rfl) (by kernel_rfl) (by kernel_rfl) (fun _ _ _ h=>h) (Or.inl ⟨by rfl,?_⟩) HS0.out ?_
             ·intro w' hSw
              obtain⟨-,c0',c1',c2'⟩:=hSw
              first|(go_simp;done)|(go_simp;with_reducible rfl)|(go_simp;exact hwo)
             simp only[Act.put,List.setIfInBounds_toArray,List.set_cons_zero,List.set_cons_succ]
             refine AnyX.take (i:=9) (oi:=⟨some 166,_,_,_,_,_⟩) (v:=.int .i64 (kd:Int)) rfl rfl (by kernel_rfl) (by kernel_rfl) (by kernel_rfl) (by kernel_rfl) (fun _ _ _ h=>h) (Or.inl ⟨by rfl,?_⟩) HS0.out ?_
             ·intro w' hSw
              obtain⟨-,c0',c1',c2'⟩:=hSw
              first|(go_simp;done)|(go_simp;with_reducible rfl)|(go_simp;exact hwo)
             simp only[Act.put,List.setIfInBounds_toArray,List.set_cons_zero,List.set_cons_succ]
             clear HS0
             refine AnyX.one (i:=10) (o:=⟨some 167,_,_,_,_,_⟩) (by kernel_rfl) rfl (fun K' hK=>?_)
             have HK:=Lib.hid hK
             clear hK
             go_simp
             refine HK.out _ _ (fun _=>HCE.out _ (OW.drew (OW.al how _))) ?_
             clear HK
             (try simp only[Act.put,List.setIfInBounds_toArray,List.set_cons_zero,List.set_cons_succ])
             refine AnyX.one (i:=11) (o:=⟨some 168,_,_,_,_,_⟩) (by kernel_rfl) rfl (fun K' hK=>?_)
             have HK:=Lib.hid hK
             clear hK
             refine step_append_lies _ (by rfl) (.tmp 158) (.tmp 167) 37 (by rfl) V1.heap.size 3 i3 (.int .i64 0) 1 8 Tryd.underlying37 HI3.out.1 HI3.out.2.1 HI3.out.2.2.1 HI3.out.2.2.2 rfl (by decide) (.slice A3 k c3) k ((outsTo x k).map (Value.int .i64)) (by simp[Act.eval,Act.put]) (stk_al HST.out hlen _) ⟨wr.heap.size,0,none⟩ 1 1 [.int .i64 (kd:Int)] (by simp[Act.eval,Act.put]) rfl (by exact one_new wr _ _) (by simp[Value.oneCell']) (by decide) (by unfold maxLen;omega) (by omega) (by simp;omega) _ rfl ?_
             intro g9 c9 w2 hown' hgrow hat hlt
             have hRq:∀q,(Value.slice A3 k c3).ownBlock=some q→V1.heap.size≤q:=fun q h=>(World.ownsRow.lt HST.out q h).1
             have hs2:=(OW.drew (OW.al how (.cells #[.int .i64 (kd:Int)] 3))).grown hgrow (fun q h=>Nat.le_trans hTV (hRq q h))
             have HKP2:=Lib.hid (Kp.grow (Kp.trans (Kp.trans HKP.out (Kp.alloc T none wr _)) (Kp.below (Below.refl _ _).drew)) hgrow hRq)
             obtain⟨z0,z1,z2,z3,p0,p1,p2,p3,z4,z5⟩:=hs2.cells
             have HR2:=Lib.hid hown'
             clear hown' hgrow hat hlt hRq
             refine HK.out _ _ (fun _=>HCE.out _ hs2) ?_
             clear HK
             (try simp only[Act.put,List.setIfInBounds_toArray,List.set_cons_zero,List.set_cons_succ])
             refine AnyX.one (i:=12) (o:=⟨some 169,_,_,_,_,_⟩) (by kernel_rfl) rfl (fun K' hK=>?_)
             have HK:=Lib.hid hK
             clear hK
             go_simp
             refine HK.out _ _ (fun _=>HCE.out _ hs2) ?_
             clear HK
             (try simp only[Act.put,List.setIfInBounds_toArray,List.set_cons_zero,List.set_cons_succ])
             refine AnyX.one (i:=13) (o:=⟨none,_,_,_,_,_⟩) (by kernel_rfl) rfl (fun K' hK=>?_)
             have HK:=Lib.hid hK
             clear hK
             go_simp
             refine HK.out _ _ (fun h=>absurd rfl h) ?_
             clear HK
             (try simp only[Act.put,List.setIfInBounds_toArray,List.set_cons_zero,List.set_cons_succ])
             refine AnyX.done (by kernel_rfl) ?_ _
             go_wp2
             go_roundw
             case rel=>
              refine⟨k+1,by omega,by go_num,_,hs2.set 3 _ rfl,Kp.trans HKP2.out (Kp.set _ (by exact hs2.eT) _),?_⟩
              refine own_kp (stk_of HSU.out hlen HR2.out) (T':=q3+1) (R:=none) (by have:=hs2.eT;omega) (Kp.set _ (by show q3<q3+1;omega) _) (Classical.em _)
             case measure=>simp[intOf];omega
            ·obtain rfl:no=k:=by omega
             by_cases hll:no<lo_
             ·have h3:no=3:=by omega
              go_wp2
              go_meet
              exact⟨_,how,hkp,hst⟩
             ·go_wp2
              go_meet
              exact⟨_,how,hkp,hst⟩
     case first=>
      go_wp2
      clear g0 g1 gm g5 g6 y0 y1 y2 y3 y4 y5 f0 f1 f2 f3 hTl
      go_loopw [8] (fun i wr=>∃k:Nat,k≤ng∧i=.int .i64 k∧∃sN ss,OW (xCs x (.slice AG lg cG) sA) w q1 q2 q3 T sN (.slice none 0 0) (.slice none 0 0) (.slice none 0 0) wr∧NR wr T sN (gatesTo x k) ss) (fun i _=>ng-(intOf i).toNat)
      case atStart=>exact⟨0,Nat.zero_le _,rfl,_,_,HOW.out,HN0.out⟩
      case round=>
       clear HOW HN0
       obtain⟨k,hk,rfl,sN,ss,how,hnr⟩:=hrel
       obtain⟨g0,g1,gm,gg,ga,g5,g6⟩:=how.args
       rw[HMEM.out]at gm
       obtain⟨y0,y1,y2,y3,f0,f1,f2,f3,y4,y5⟩:=how.cells
       have hTl:=how.low
       have hlen:(gatesTo x k).length=nB+k:=by rw[gatesTo_len,HNB.out]
       obtain⟨A,c,hsN⟩:=hnr.form
       rw[hlen]at hsN
       subst hsN
       have HOW:=Lib.hid how
       have HNR:=Lib.hid hnr
       by_cases hkn:k<ng
       ·have hrow:=hnr.row
        rw[hlen]at hrow
        have HROW:=Lib.hid hrow
        clear how hnr hrow
        obtain rfl:=HAG.out (by omega)
        obtain⟨hbG,a0,a1,a2,a3⟩:=HCG.out k (by rw[←HLG.out];omega)
        have hbG':bG<w.heap.size:=by omega
        obtain⟨g,HGX⟩:=named (x.gates.getD k default)
        rw[←HGX.out]at a0 a1 a2 a3
        have hce0:∀w',OW (xCs x (.slice (some ⟨bG,oG,none⟩) lg cG) sA) w q1 q2 q3 T (.slice A (nB+k) c) (.slice none 0 0) (.slice none 0 0) (.slice none 0 0) w'→OW (xCs x (.slice (some ⟨bG,oG,none⟩) lg cG) sA) w q1 q2 q3 T (.slice A (nB+k) c) (.slice none 0 0) (.slice none 0 0) (.slice none 0 0) w'∧w'.cell? ⟨q1,0,none⟩=some (.int .u8 x.inN)∧w'.cell? ⟨q1,1,none⟩=some (.int .u8 x.dffs)∧w'.cell? ⟨q1,2,none⟩=some (.int .u8 x.d0)∧w'.cell? ⟨q1,3,none⟩=some (.int .u8 x.d1)∧w'.cell? ⟨q1,4,none⟩=some (.bool x.bus)∧w'.cell? ⟨q1,5,none⟩=some (.bool x.mem)∧w'.cell? ⟨q1,6,none⟩=some (.int .u8 x.p0)∧w'.cell? ⟨q1,7,none⟩=some (.int .u8 x.p1)∧w'.cell? ⟨q1,8,none⟩=some (.int .u8 x.p2)∧w'.cell? ⟨q1,9,none⟩=some (.int .u8 x.p3)∧w'.cell? ⟨q1,10,none⟩=some (.slice (some ⟨bG,oG,none⟩) lg cG)∧w'.cell? ⟨q1,11,none⟩=some (sA)∧w'.cell? ⟨q3,0,none⟩=some (.slice A (nB+k) c)∧w'.cell? ⟨bG,oG+k*4,none⟩=some (.int .u8 g.kind)∧w'.cell? ⟨bG,oG+k*4+1,none⟩=some (.int .u8 g.i0)∧w'.cell? ⟨bG,oG+k*4+2,none⟩=some (.int .u8 g.i1)∧w'.cell? ⟨bG,oG+k*4+3,none⟩=some (.int .u8 g.i2):=fun w' h=>
         ⟨h,h.fx.cell 0,h.fx.cell 1,h.fx.cell 2,h.fx.cell 3,h.fx.cell 4,h.fx.cell 5,h.fx.cell 6,h.fx.cell 7,h.fx.cell 8,h.fx.cell 9,h.fx.cell 10,h.fx.cell 11,h.fc.cell 0,(h.bel.cell (p:=⟨bG,oG+k*4,none⟩) hbG').trans a0,(h.bel.cell (p:=⟨bG,oG+k*4+1,none⟩) hbG').trans a1,(h.bel.cell (p:=⟨bG,oG+k*4+2,none⟩) hbG').trans a2,(h.bel.cell (p:=⟨bG,oG+k*4+3,none⟩) hbG').trans a3⟩
        have HCE:=Lib.hid hce0
        clear hce0
        have b0:=(HOW.out.bel.cell (p:=⟨bG,oG+k*4,none⟩) hbG').trans a0
        have b1:=(HOW.out.bel.cell (p:=⟨bG,oG+k*4+1,none⟩) hbG').trans a1
        have b2:=(HOW.out.bel.cell (p:=⟨bG,oG+k*4+2,none⟩) hbG').trans a2
        have b3:=(HOW.out.bel.cell (p:=⟨bG,oG+k*4+3,none⟩) hbG').trans a3
        clear a0 a1 a2 a3
        obtain⟨G,HGN⟩:=named (gateN x.bus g (gatesTo x k))
        have hs0:=HOW.out
        go_wp2
        clear b0 b1 b2 b3 g0 g1 gm gg ga y0 y1 y2 y3
        have HS0:=Lib.hid (HCE.out _ (OW.drew hs0))
        have hkl:k<lg:=by omega
        refine AnyX.start (S:=fun w'=>OW (xCs x (.slice (some ⟨bG,oG,none⟩) lg cG) sA) w q1 q2 q3 T (.slice A (nB+k) c) (.slice none 0 0) (.slice none 0 0) (.slice none 0 0) w'∧w'.cell? ⟨q1,0,none⟩=some (.int .u8 x.inN)∧w'.cell? ⟨q1,1,none⟩=some (.int .u8 x.dffs)∧w'.cell? ⟨q1,2,none⟩=some (.int .u8 x.d0)∧w'.cell? ⟨q1,3,none⟩=some (.int .u8 x.d1)∧w'.cell? ⟨q1,4,none⟩=some (.bool x.bus)∧w'.cell? ⟨q1,5,none⟩=some (.bool x.mem)∧w'.cell? ⟨q1,6,none⟩=some (.int .u8 x.p0)∧w'.cell? ⟨q1,7,none⟩=some (.int .u8 x.p1)∧w'.cell? ⟨q1,8,none⟩=some (.int .u8 x.p2)∧w'.cell? ⟨q1,9,none⟩=some (.int .u8 x.p3)∧w'.cell? ⟨q1,10,none⟩=some (.slice (some ⟨bG,oG,none⟩) lg cG)∧w'.cell? ⟨q1,11,none⟩=some (sA)∧w'.cell? ⟨q3,0,none⟩=some (.slice A (nB+k) c)∧w'.cell? ⟨bG,oG+k*4,none⟩=some (.int .u8 g.kind)∧w'.cell? ⟨bG,oG+k*4+1,none⟩=some (.int .u8 g.i0)∧w'.cell? ⟨bG,oG+k*4+2,none⟩=some (.int .u8 g.i1)∧w'.cell? ⟨bG,oG+k*4+3,none⟩=some (.int .u8 g.i2)) (t:=14) (by kernel_rfl) ?_
        refine AnyX.take (i:=0) (oi:=⟨some 66,_,_,_,_,_⟩) (v:=.pointer (some ⟨q3,0,none⟩)) rfl rfl (by kernel_rfl) (by kernel_rfl) (by kernel_rfl) (by kernel_rfl) (fun _ _ _ h=>h) (Or.inl ⟨by rfl,?_⟩) HS0.out ?_
        ·intro w' hSw
         obtain⟨-,c0',c1',c2',c3',c4',c5',c6',c7',c8',c9',c10',c11',d0',b0',b1',b2',b3'⟩:=hSw
         first|(go_simp;done)|(go_simp;with_reducible rfl)
        simp only[Act.put,List.setIfInBounds_toArray,List.set_cons_zero,List.set_cons_succ]
        refine AnyX.take (i:=1) (oi:=⟨some 67,_,_,_,_,_⟩) (v:=.slice A (nB+k) c) rfl rfl (by kernel_rfl) (by kernel_rfl) (by kernel_rfl) (by kernel_rfl) (fun _ _ _ h=>h) (Or.inl ⟨by rfl,?_⟩) HS0.out ?_
        ·intro w' hSw
         obtain⟨-,c0',c1',c2',c3',c4',c5',c6',c7',c8',c9',c10',c11',d0',b0',b1',b2',b3'⟩:=hSw
         first|(go_simp;done)|(go_simp;with_reducible rfl)
        simp only[Act.put,List.setIfInBounds_toArray,List.set_cons_zero,List.set_cons_succ]
        refine AnyX.take (i:=2) (oi:=⟨some 68,_,_,_,_,_⟩) (v:=.agg #[.int .u8 x.inN,.int .u8 x.dffs,.int .u8 x.d0,.int .u8 x.d1,.bool x.bus,.bool x.mem,.int .u8 x.p0,.int .u8 x.p1,.int .u8 x.p2,.int .u8 x.p3,.slice (some ⟨bG,oG,none⟩) lg cG,sA]) rfl rfl (by kernel_rfl) (by kernel_rfl) (by kernel_rfl) (by kernel_rfl) (fun _ _ _ h=>h) (Or.inl ⟨by rfl,?_⟩) HS0.out ?_
        ·intro w' hSw
         obtain⟨-,c0',c1',c2',c3',c4',c5',c6',c7',c8',c9',c10',c11',d0',b0',b1',b2',b3'⟩:=hSw
         first|(go_simp;done)|(go_simp;with_reducible rfl)
        simp only[Act.put,List.setIfInBounds_toArray,List.set_cons_zero,List.set_cons_succ]
        refine AnyX.take (i:=3) (oi:=⟨some 69,_,_,_,_,_⟩) (v:=.pointer (some ⟨q1,10,none⟩)) rfl rfl (by kernel_rfl) (by kernel_rfl) (by kernel_rfl) (by kernel_rfl) (fun _ _ _ h=>h) (Or.inl ⟨by rfl,?_⟩) HS0.out ?_
        ·intro w' hSw
         obtain⟨-,c0',c1',c2',c3',c4',c5',c6',c7',c8',c9',c10',c11',d0',b0',b1',b2',b3'⟩:=hSw
         first|(go_simp;done)|(go_simp;with_reducible rfl)
        simp only[Act.put,List.setIfInBounds_toArray,List.set_cons_zero,List.set_cons_succ]
        refine AnyX.take (i:=4) (oi:=⟨some 70,_,_,_,_,_⟩) (v:=.slice (some ⟨bG,oG,none⟩) lg cG) rfl rfl (by kernel_rfl) (by kernel_rfl) (by kernel_rfl) (by kernel_rfl) (fun _ _ _ h=>h) (Or.inl ⟨by rfl,?_⟩) HS0.out ?_
        ·intro w' hSw
         obtain⟨-,c0',c1',c2',c3',c4',c5',c6',c7',c8',c9',c10',c11',d0',b0',b1',b2',b3'⟩:=hSw
         first|(go_simp;done)|(go_simp;with_reducible rfl)
        simp only[Act.put,List.setIfInBounds_toArray,List.set_cons_zero,List.set_cons_succ]
        refine AnyX.take (i:=5) (oi:=⟨some 71,_,_,_,_,_⟩) (v:=.int .i64 (k:Int)) rfl rfl (by kernel_rfl) (by kernel_rfl) (by kernel_rfl) (by kernel_rfl) (fun _ _ _ h=>h) (Or.inl ⟨by rfl,?_⟩) HS0.out ?_
        ·intro w' hSw
         obtain⟨-,c0',c1',c2',c3',c4',c5',c6',c7',c8',c9',c10',c11',d0',b0',b1',b2',b3'⟩:=hSw
         first|(go_simp;done)|(go_simp;with_reducible rfl)
        simp only[Act.put,List.setIfInBounds_toArray,List.set_cons_zero,List.set_cons_succ]
        refine AnyX.take (i:=6) (oi:=⟨some 72,_,_,_,_,_⟩) (v:=.pointer (some ⟨bG,oG+k*4,none⟩)) rfl rfl (by kernel_rfl) (by kernel_rfl) (by kernel_rfl) (by kernel_rfl) (fun _ _ _ h=>h) (Or.inl ⟨by rfl,?_⟩) HS0.out ?_
        ·intro w' hSw
         obtain⟨-,c0',c1',c2',c3',c4',c5',c6',c7',c8',c9',c10',c11',d0',b0',b1',b2',b3'⟩:=hSw
         first|(go_simp;done)|(go_simp;with_reducible rfl)
        simp only[Act.put,List.setIfInBounds_toArray,List.set_cons_zero,List.set_cons_succ]
        refine AnyX.take (i:=7) (oi:=⟨some 73,_,_,_,_,_⟩) (v:=.agg #[.int .u8 g.kind,.int .u8 g.i0,.int .u8 g.i1,.int .u8 g.i2]) rfl rfl (by kernel_rfl) (by kernel_rfl) (by kernel_rfl) (by kernel_rfl) (fun _ _ _ h=>h) (Or.inl ⟨by rfl,?_⟩) HS0.out ?_
        ·intro w' hSw
         obtain⟨-,c0',c1',c2',c3',c4',c5',c6',c7',c8',c9',c10',c11',d0',b0',b1',b2',b3'⟩:=hSw
         first|(go_simp;done)|(go_simp;with_reducible rfl)
        simp only[Act.put,List.setIfInBounds_toArray,List.set_cons_zero,List.set_cons_succ]
        refine AnyX.take (i:=8) (oi:=⟨some 74,_,_,_,_,_⟩) (v:=.pointer (some ⟨q3,0,none⟩)) rfl rfl (by kernel_rfl) (by kernel_rfl) (by kernel_rfl) (by kernel_rfl) (fun _ _ _ h=>h) (Or.inl ⟨by rfl,?_⟩) HS0.out ?_
        ·intro w' hSw
         obtain⟨-,c0',c1',c2',c3',c4',c5',c6',c7',c8',c9',c10',c11',d0',b0',b1',b2',b3'⟩:=hSw
         first|(go_simp;done)|(go_simp;with_reducible rfl)
        simp only[Act.put,List.setIfInBounds_toArray,List.set_cons_zero,List.set_cons_succ]
        refine AnyX.take (i:=9) (oi:=⟨some 75,_,_,_,_,_⟩) (v:=.slice A (nB+k) c) rfl rfl (by kernel_rfl) (by kernel_rfl) (by kernel_rfl) (by kernel_rfl) (fun _ _ _ h=>h) (Or.inl ⟨by rfl,?_⟩) HS0.out ?_
        ·intro w' hSw
         obtain⟨-,c0',c1',c2',c3',c4',c5',c6',c7',c8',c9',c10',c11',d0',b0',b1',b2',b3'⟩:=hSw
         first|(go_simp;done)|(go_simp;with_reducible rfl)
        simp only[Act.put,List.setIfInBounds_toArray,List.set_cons_zero,List.set_cons_succ]
        clear HS0
        refine AnyX.one (i:=10) (o:=⟨some 76,_,_,_,_,_⟩) (by kernel_rfl) rfl (fun K' hK=>?_)
        have HK:=Lib.hid hK
        clear hK
        go_simp
        go_at_call 31
        (with_reducible refine (gate_c x HX.out k (by rw[←HLG.out];omega) (by omega) _ _ HGX.out HGN.out hlen HOW.out HNR.out (by first|exact Below.refl _ _|exact (Below.refl _ _).drew)).mono ?_)
        rintro e w1 ⟨⟨Aq,mq,cq,rfl,hin⟩,hb⟩
        have hs1:=HOW.out.next hb
        have HN1:=Lib.hid (HNR.out.keep (Kp.below hb))
        have HI1:=Lib.hid hin
        have hrow1:=HN1.out.row
        rw[hlen]at hrow1
        have HR1:=Lib.hid hrow1
        have hT1:=hs1.low
        clear hin hb hrow1
        refine HK.out _ _ (fun _=>HCE.out _ hs1) ?_
        clear HK
        (try simp only[Act.put,List.setIfInBounds_toArray,List.set_cons_zero,List.set_cons_succ])
        refine AnyX.one (i:=11) (o:=⟨some 77,_,_,_,_,_⟩) (by kernel_rfl) rfl (fun K' hK=>?_)
        have HK:=Lib.hid hK
        clear hK
        go_simp
        refine HK.out _ _ (fun _=>HCE.out _ (OW.al hs1 _)) ?_
        clear HK
        (try simp only[Act.put,List.setIfInBounds_toArray,List.set_cons_zero,List.set_cons_succ])
        refine AnyX.one (i:=12) (o:=⟨some 78,_,_,_,_,_⟩) (by kernel_rfl) rfl (fun K' hK=>?_)
        have HK:=Lib.hid hK
        clear hK
        refine step_append_lies _ (by rfl) (.tmp 67) (.tmp 77) 34 (by rfl) T 53 i1 (.agg #[.int .u8 0,.slice none 0 0,.int .i64 0,.int .i64 0]) 4 48 Tryd.underlying34 HI.out.1 HI.out.2.1 HI.out.2.2.1 HI.out.2.2.2 rfl (by decide) (.slice A (nB+k) c) (nB+k) (ndCs (gatesTo x k) ss) (by simp[Act.eval,Act.put]) (World.ownsRow.alloc HR1.out _) ⟨w1.heap.size,0,none⟩ 1 1 [.int .u8 G.kind,.slice Aq mq cq,.int .i64 G.mem,.int .i64 G.bit] (by simp[Act.eval,Act.put]) rfl (four_new w1 _ _ _ _ _ rfl) (by simp[Value.oneCell']) (by decide) (by unfold maxLen;omega) (by omega) (by simp;omega) _ rfl ?_
        intro g9 c9 w2 hown' hgrow hat hlt
        have hloc:(Value.slice (some ⟨g9,0,none⟩) (nB+k+1) c9).ownBlock=(Value.slice A (nB+k) c).ownBlock∨(Value.slice (some ⟨g9,0,none⟩) (nB+k+1) c9).ownBlock=some (w1.alloc (.cells #[.int .u8 G.kind,.slice Aq mq cq,.int .i64 G.mem,.int .i64 G.bit] 53)).heap.size:=own_at hat
        have hown2:w2.ownsRow T 53 4 (.slice (some ⟨g9,0,none⟩) (nB+k+1) c9) ((gatesTo x k).length+1) (ndCs (gatesTo x k) ss++[.int .u8 G.kind,.slice Aq mq cq,.int .i64 G.mem,.int .i64 G.bit]):=own_len hlen hown'
        have hp:=push_nodes (nd:=G) hs1 HN1.out HI1.out hown2 hgrow hloc
        obtain⟨z0,z1,z2,z3,p0,p1,p2,p3,z4,z5⟩:=hp.1.cells
        have hs2:=hp.1
        have HP:=Lib.hid hp
        clear hp hown' hgrow hat hlt hloc hown2
        refine HK.out _ _ (fun _=>HCE.out _ hs2) ?_
        clear HK
        (try simp only[Act.put,List.setIfInBounds_toArray,List.set_cons_zero,List.set_cons_succ])
        refine AnyX.one (i:=13) (o:=⟨some 79,_,_,_,_,_⟩) (by kernel_rfl) rfl (fun K' hK=>?_)
        have HK:=Lib.hid hK
        clear hK
        go_simp
        refine HK.out _ _ (fun _=>HCE.out _ hs2) ?_
        clear HK
        (try simp only[Act.put,List.setIfInBounds_toArray,List.set_cons_zero,List.set_cons_succ])
        refine AnyX.one (i:=14) (o:=⟨none,_,_,_,_,_⟩) (by kernel_rfl) rfl (fun K' hK=>?_)
        have HK:=Lib.hid hK
        clear hK
        go_simp
        refine HK.out _ _ (fun h=>absurd rfl h) ?_
        clear HK
        (try simp only[Act.put,List.setIfInBounds_toArray,List.set_cons_zero,List.set_cons_succ])
        refine AnyX.done (by kernel_rfl) ?_ _
        go_wp2
        go_roundw
        case rel=>
         refine⟨k+1,by omega,by go_num,_,ss++[.slice Aq mq cq],HP.out.1.set 0 _ rfl,?_⟩
         have h:=HP.out.2.keep (Kp.set (T:=T) (R:=none) w2 (a:=⟨q3,0,none⟩) HP.out.1.eT (.slice (some ⟨g9,0,none⟩) (nB+k+1) c9))
         rw[HGN.out,HGX.out]at h
         exact h
        case measure=>simp[intOf];omega
       ·obtain rfl:ng=k:=by omega
        clear how hnr
        by_cases hll:ng<lg
        ·have h8:ng=8:=by omega
         go_wp2
         go_meet
         exact⟨_,_,HOW.out,HNR.out⟩
        ·go_wp2
         go_meet
         exact⟨_,_,HOW.out,HNR.out⟩
end Go.Proofs.YtcbllelkgniogaaDoor
