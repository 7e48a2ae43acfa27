/- The texts Fan Brw. -/
import Derived.Test.YtckgnoopjapknaaDoorM09
import Derived.Deep.LoopGhost
namespace Go.Proofs.YtckgnoopjapknaaDoor
open Go.RowKit
set_option maxHeartbeats 400000 in
theorem clipL_any(A:Option Addr)(n c:Nat)(w:World)(hA:(A=none∧n=0∧c=0)∨∃a:Addr,A=some a)(hn:n≤c)(hc:c≤maxLen):
 Calls Tryd.prog 97 #[.slice A n c] w fun e w'=>e=.returned (.slice A n n)∧w=w':=by
 unfold maxLen at hc
 rcases hA with⟨rfl,rfl,rfl⟩| ⟨a,rfl⟩
 ·go_enter Tryd.func97,Tryd.ntmps97
  go_wp2
  go_ret
  exact⟨rfl,rfl⟩
 ·go_enter Tryd.func97,Tryd.ntmps97
  go_wp2
  go_ret
  exact⟨rfl,rfl⟩
theorem info_lines:(Tryd.prog.info? 98).map (fun i=>(i.zero,i.size,i.bytes))=some (some (.slice none 0 0),1,24):=by kernel_rfl
theorem info_line:(Tryd.prog.info? 100).map (fun i=>(i.zero,i.size,i.bytes))=some (some (.agg #[.int .i64 0,.int .i64 0]),2,16):=by kernel_rfl
theorem two_new(w:World)(u v:Value)(t:TypeId):∀(j:Nat) (x:Value),[u,v][j]? =some x→(w.alloc (.cells #[u,v] t)).cell? ((⟨w.heap.size,0,none⟩:Addr).add j)=some x:=by
 intro j x hj
 match j,hj with
 |0,hj=>
  rw[show (⟨w.heap.size,0,none⟩:Addr).add 0=⟨w.heap.size,0,none⟩ from rfl,World.cell?_alloc_at _ _ _ _ rfl]
  simpa using hj
 |1,hj=>
  rw[show (⟨w.heap.size,0,none⟩:Addr).add 1=⟨w.heap.size,1,none⟩ from rfl,World.cell?_alloc_at _ _ _ _ rfl]
  simpa using hj
 |j+2,hj=>simp at hj
theorem FS.start{w:World}{g n:Nat}(h:w.ownsRow g 98 1 (.slice (some ⟨g,0,none⟩) n n) n (fillL (fun _=>.slice none 0 0) (.slice none 0 0) n 0)):
 FS n g (fillL (fun _=>.slice none 0 0) (.slice none 0 0) n 0) (fan []) w:=by
 have e:∀j,vat (fillL (fun _=>.slice none 0 0) (.slice none 0 0) n 0) j=.slice none 0 0:=fun j=>by
  unfold vat
  rw[List.getD_eq_getElem?_getD]
  by_cases hj:j<n
  ·rw[fillL_get _ _ _ _ _ hj];simp
  ·rw[List.getElem?_eq_none (by rw[fillL_len];omega)];rfl
 refine⟨h,fun j hj=>?_,fun i j _ _ _=>.inl (by rw[e];rfl)⟩
 rw[e]
 exact World.ownsRow_nil w _ _ _
theorem own_form{w:World}{base:Nat}{e:TypeId}{size:Nat}{v:Value}{n:Nat}{xs:List Value}(h:w.ownsRow base e size v n xs):∃A c,v=.slice A n c:=by
 rcases h.2 with⟨rfl,hn⟩| ⟨g,cap,cur,rfl,-⟩
 ·exact⟨none,0,by rw[hn]⟩
 ·exact⟨_,cap,rfl⟩
def FanPost(nodes:List Nd)(w:World)(e:Ending)(w':World):Prop:=
 ∃g,e=.returned (.slice (some ⟨g,0,none⟩) nodes.length nodes.length)∧w.heap.size≤g∧Fos w' w'.heap.size (.slice (some ⟨g,0,none⟩) nodes.length nodes.length) (fanL nodes)∧Below w.heap.size w w'
def FanI(nodes:List Nd)(w:World)(n g i p:Nat)(wr:World):Prop:=
 ∃Vs,Below w.heap.size w wr∧FS n g Vs (fan (pinsAt nodes i p)) wr
set_option maxRecDepth 100000 in
set_option maxHeartbeats 4000000 in
theorem fanout_any(c:Ck)(v:Value)(w:World)(B:Nat)(hB:B≤w.heap.size)(hc:Cir w B v c)(hsz:c.nodes.length≤1000000000000)(hpz:(nodP c.nodes c.nodes.length).length≤1000000000000):
 Calls Tryd.prog 69 #[v] w (FanPost c.nodes w):=by
 obtain⟨v0,v1,v2,v3,rfl,hns,hss,hms,hos⟩:=hc
 obtain⟨A0,b,o,c0,rfl,hA,-,-,hcell⟩:=id hns
 obtain⟨A1,b1,o1,c1,rfl,-⟩:=id hss
 obtain⟨A2,b2,o2,c2,rfl,-⟩:=id hms
 obtain⟨A3,b3,o3,c3,rfl,-⟩:=id hos
 have hbW:Below w.heap.size w (w.alloc (.cells #[.slice A0 c.nodes.length c0,.slice A1 c.names.length c1,.slice A2 c.mems.length c2,.slice A3 c.outs.length c3] 27)):=(Below.refl _ _).alloc (Nat.le_refl _) _
 have HCE:=Lib.hid hcell
 have HAA:=Lib.hid hA
 clear hns hss hms hos hcell hA
 generalize c.names.length=n1 at hbW ⊢
 generalize c.mems.length=n2 at hbW ⊢
 generalize c.outs.length=n3 at hbW ⊢
 obtain⟨n,HN⟩:=named c.nodes.length
 rw[←HN.out]at hbW hsz hpz
 unfold FanPost
 rw[←HN.out]
 obtain⟨W,HW⟩:=named (w.alloc (.cells #[.slice A0 n c0,.slice A1 n1 c1,.slice A2 n2 c2,.slice A3 n3 c3] 27))
 have hzW:W.heap.size=w.heap.size+1:=by rw[HW.out];simp
 rw[←HW.out]at hbW
 have HBW:=Lib.hid hbW
 have HZW:=Lib.hid hzW
 have HPZ:=Lib.hid hpz
 obtain⟨i0,hi,hz0,hz1,hz2⟩:=info_parts info_lines
 have HI:=Lib.hid (And.intro hi (And.intro hz0 (And.intro hz1 hz2)))
 clear hi hz0 hz1 hz2 hbW hzW hpz
 go_enter Tryd.func69,Tryd.ntmps69
 go_wp2_with (at_make;refine wpList_make_full _ rfl _ _ 96 rfl (w.heap.size+1) 98 i0 (.slice none 0 0) 1 Tryd.underlying96 HI.out.1 HI.out.2.1 HI.out.2.2.1 .i64 .i64 _ _ n rfl rfl rfl rfl ?b2 ?b3 ?b4 ?_)
 case b2=>rw[HI.out.2.2.2];omega
 case b3=>unfold maxLen;omega
 case b4=>simp
 intro w2 hown hgr
 rw[fillL_start (fun _=>.slice none 0 0)]at hown
 rw[←HW.out]at hgr
 have hb2:Below w.heap.size w w2:=HBW.out.grown hgr HBW.out.size (fun k h=>by cases h)
 have hcb:w2.cell? ⟨w.heap.size,0,none⟩=some (.slice A0 n c0):=hgr.cell (by rw[HW.out,World.cell?_alloc_at _ _ _ _ rfl];rfl) (by simp)
 obtain⟨g,HG⟩:=named (w.heap.size+1)
 rw[←HG.out]at hown
 rw[←HG.out]
 have hst:FanI c.nodes w n g 0 0 w2:=⟨_,hb2,(FS.start hown).congr fun j _=>by rw[pinsAt_zero];rfl⟩
 have HST:=Lib.hid hst
 clear hst hown hgr hb2
 go_wp2
 go_loopw [17] (fun i wr=>∃k:Nat,k≤n∧i=.int .i64 k∧FanI c.nodes w n g k 0 wr) (fun i _=>n-(intOf i).toNat)
 case atStart=>exact⟨0,Nat.zero_le _,rfl,HST.out⟩
 case round=>
  clear HST
  obtain⟨k,hk,rfl,Vs,hb,hfs⟩:=hrel
  by_cases hlt:k<n
  ·obtain rfl:=HAA.out (by rw[←HN.out];omega)
   obtain⟨hlb,s,h0,h1,h2,h3,h4,-⟩:=HCE.out k (by rw[←HN.out];exact hlt)
   obtain⟨A4,b4,o4,c4,rfl,hA4,-,hm4,hc4⟩:=id h4
   have hlb':b<w.heap.size:=by omega
   have e0:=(hb.cell (p:=⟨b,o+k*4,none⟩) hlb').trans h0
   have e1:=(hb.cell (p:=⟨b,o+k*4+1,none⟩) hlb').trans h1
   have e2:=(hb.cell (p:=⟨b,o+k*4+2,none⟩) hlb').trans h2
   have e3:=(hb.cell (p:=⟨b,o+k*4+3,none⟩) hlb').trans h3
   have HA4:=Lib.hid hA4
   have HC4:=Lib.hid hc4
   clear h0 h1 h2 h3 h4 hA4 hc4
   generalize (c.nodes.getD k default).kind=kd at e0
   generalize (c.nodes.getD k default).mem=mm at e2
   generalize (c.nodes.getD k default).bit=bt at e3
   obtain⟨m,HM⟩:=named (c.nodes.getD k default).ins.length
   rw[←HM.out]at e1 hm4
   unfold maxLen at hm4
   have hal:Below wr.heap.size wr (wr.alloc (.cells #[.int .u8 kd,.slice A4 m c4,.int .i64 mm,.int .i64 bt] 64)):=(Below.refl _ _).alloc (Nat.le_refl _) _
   have hst:FanI c.nodes w n g k 0 (wr.alloc (.cells #[.int .u8 kd,.slice A4 m c4,.int .i64 mm,.int .i64 bt] 64)):=⟨Vs,joinB hb hal,hfs.below hal⟩
   have HST:=Lib.hid hst
   clear hst hb hfs hal
   go_wp2
   go_loopw [25] (fun i wr=>∃p:Nat,p≤m∧i=.int .i64 p∧FanI c.nodes w n g k p wr) (fun i _=>m-(intOf i).toNat)
   case atStart=>exact⟨0,Nat.zero_le _,rfl,HST.out⟩
   case round=>
    clear HST
    obtain⟨p,hp,rfl,Vs,hb,hfs⟩:=hrel
    by_cases hpm:p<m
    ·obtain rfl:=HA4.out (by rw[←HM.out];omega)
     obtain⟨hb4,hx0⟩:=HC4.out p (by rw[←HM.out];exact hpm)
     have hx:wr.cell? ⟨b4,o4+p,none⟩=some (.int .i64 ((c.nodes.getD k default).ins.getD p 0)):=by
      have:=(hb.cell (p:=⟨b4,o4+p*1,none⟩) (Nat.lt_of_lt_of_le hb4 hB)).trans hx0
      rw[Nat.mul_one]at this;exact this
     have hps:=pinsAt_succ c.nodes k p
     have hpl:=pinsAt_len c.nodes (i:=k) (p:=p) (n:=n) hlt (by rw[←HM.out];exact hpm)
     obtain⟨x,HX⟩:=named ((c.nodes.getD k default).ins.getD p 0)
     rw[←HX.out]at hx hps
     have HPS:=Lib.hid hps
     have hid:=idx_any x n wr
     clear hx0 hps
     cases hv:isIdx n x
     ·have hnx:FanI c.nodes w n g k (p+1) wr:=⟨Vs,hb,hfs.congr fun j hj=>by
       rw[HPS.out,fan_snoc,if_neg]
       intro e
       subst e
       simp[isIdx]at hv
       omega⟩
      rw[hv]at hid
      have HNX:=Lib.hid hnx
      have HID:=Lib.hid hid
      clear hnx hb hfs hid hv hpl
      go_wp2_with (go_at_call 96;(with_reducible refine HID.out.mono ?_);rintro e w1 ⟨rfl,rfl⟩)
      go_roundw
      case rel=>exact⟨p+1,by omega,by go_num,HNX.out⟩
      case measure=>simp[intOf];omega
     ·rw[hv]at hid
      obtain⟨j,rfl,hjn⟩:∃j:Nat,x=(j:Int)∧j<n:=by
       simp[isIdx]at hv
       exact⟨x.toNat,by omega,by omega⟩
      obtain⟨A6,c6,hva,hle6,hc6,hsh⟩:=hfs.shape hjn
      have hcl:=hfs.cell hjn
      rw[hva]at hcl
      have hfl:=fan_len (pinsAt c.nodes k p) j
      have hrow:=hfs.row j hjn
      rw[hva]at hrow
      have hal:Below wr.heap.size wr (wr.alloc (.cells #[.int .i64 (k:Int),.int .i64 (p:Int)] 100)):=(Below.refl _ _).alloc (Nat.le_refl _) _
      have HF0:=Lib.hid (hfs.below hal)
      have HB0:=Lib.hid (joinB hb hal)
      have HVA:=Lib.hid hva
      have HRW:=Lib.hid hrow
      have HID:=Lib.hid hid
      have HPL:=Lib.hid hpl
      obtain⟨L,HL⟩:=named (fan (pinsAt c.nodes k p) j).length
      rw[←HL.out]at hle6 hcl HRW hsh hfl
      have HFL:=Lib.hid hfl
      obtain⟨i1,hi1,hz0,hz1,hz2⟩:=info_parts info_line
      have HI1:=Lib.hid (And.intro hi1 (And.intro hz0 (And.intro hz1 hz2)))
      clear hi1 hz0 hz1 hz2 hb hfs hid hv hpl hva hrow hal hfl
      go_wp2_with (first
       |(go_at_call 96;(with_reducible refine HID.out.mono ?_);rintro e w1 ⟨rfl,rfl⟩)
       |(at_builtin;refine wpList_append_own_at _ rfl _ _ 98 rfl (g+1) 100 i1 (.agg #[.int .i64 0,.int .i64 0]) 2 16 Tryd.underlying98 HI1.out.1 HI1.out.2.1 HI1.out.2.2.1 HI1.out.2.2.2 rfl (by decide) _ _ _ rfl (World.ownsRow.alloc HRW.out _) ⟨wr.heap.size,0,none⟩ 1 1 [.int .i64 (k:Int),.int .i64 (p:Int)] rfl rfl (two_new _ _ _ _) ?c1 ?c2 ?c3 ?c4 ?_))
      case c1=>exact (ints_oneCell .i64 [(k:Int),(p:Int)])
      case c2=>unfold maxLen;have:=HFL.out;have:=HPL.out;have:=HPZ.out;omega
      case c3=>have:=HFL.out;have:=HPL.out;have:=HPZ.out;omega
      case c4=>have:=HF0.out.lt;omega
      intro v' w3 hown' hgrow hnil hat
      obtain⟨Av,cv,rfl⟩:=own_form hown'
      have hgrow':(wr.alloc (.cells #[.int .i64 (k:Int),.int .i64 (p:Int)] 100)).grownBy w3 (vat Vs j).ownBlock:=by rw[HVA.out,←HL.out];exact hgrow
      have HPU:=Lib.hid (HF0.out.push (x:=(k:Int)) (y:=(p:Int)) hjn (by rw[←HL.out];exact hown') hgrow' (by rw[HVA.out,←HL.out];simpa using hat))
      have HGW:=Lib.hid (HF0.out.grown hjn HB0.out (by rw[HG.out];omega) hgrow' (.slice Av (L+1) cv))
      obtain⟨hcl3,hfz3⟩:=HF0.out.mid hjn hgrow'
      clear hown' hgrow hnil hat hgrow'
      go_wp2
      go_roundw
      case rel=>
       refine⟨p+1,by omega,by go_num,_,HGW.out,HPU.out.congr fun i hi=>?_⟩
       rw[HPS.out,fan_snoc]
       by_cases hij:i=j
       ·rw[if_pos hij,if_pos (by rw[hij])]
       ·rw[if_neg hij,if_neg (by omega)]
      case measure=>simp[intOf];omega
    ·obtain rfl:m=p:=by omega
     have hnx:FanI c.nodes w n g (k+1) 0 wr:=⟨Vs,hb,hfs.congr fun j _=>by rw[pinsAt_zero,nodP_succ,HM.out]⟩
     have HNX:=Lib.hid hnx
     clear hnx hb hfs
     go_wp2
     go_roundw
     case rel=>exact⟨k+1,by omega,by go_num,HNX.out⟩
     case measure=>simp[intOf];omega
  ·obtain rfl:n=k:=by omega
   have hfs2:=hfs.congr (F':=fan (nodP c.nodes n)) fun j _=>by rw[pinsAt_zero]
   obtain⟨ht,hrow,hdis⟩:=hfs2
   rw[←clipTo_zero Vs n hfs.len]at ht
   have HTP:=Lib.hid ht
   have HRW:=Lib.hid hrow
   have HB0:=Lib.hid hb
   have HSH:=Lib.hid (fun j (hj:j<n)=>FS.shape (hfs.congr (F':=fan (nodP c.nodes n)) fun j _=>by rw[pinsAt_zero]) hj)
   clear ht hrow hb hfs hdis
   go_wp2
   go_loopw [50] (fun i wr=>∃k:Nat,k≤n∧i=.int .i64 k∧Below w.heap.size w wr∧(∀j,j<n→wr.ownsRow (g+1) 100 2 (vat Vs j) (fan (nodP c.nodes n) j).length (lnC (fan (nodP c.nodes n) j)))∧wr.ownsRow g 98 1 (.slice (some ⟨g,0,none⟩) n n) n (clipTo Vs n k)) (fun i _=>n-(intOf i).toNat)
   case atStart=>exact⟨0,Nat.zero_le _,rfl,HB0.out,HRW.out,HTP.out⟩
   case round=>
    clear HTP HRW HB0
    obtain⟨k,hk,rfl,hb,hrow,ht⟩:=hrel
    by_cases hlt:k<n
    ·obtain⟨A6,c6,hva,hle6,hc6,hsh⟩:=HSH.out k hlt
     have hcl:wr.cell? ⟨g,k,none⟩=some (vat Vs k):=by
      rw[ht.cellAt k (by omega),clipTo_get _ _ _ _ hlt,if_neg (by omega)]
     have hfz:wr.frozen? ⟨g,k,none⟩=false:=ht.frozenAt k
     have hss:=(ht.stored k (clipV (vat Vs k)))
     rw[clipTo_set]at hss
     have hrw2:∀j,j<n→(wr.setCell ⟨g,k,none⟩ (clipV (vat Vs k))).ownsRow (g+1) 100 2 (vat Vs j) (fan (nodP c.nodes n) j).length (lnC (fan (nodP c.nodes n) j)):=fun j hj=>by
      refine (hrow j hj).kept hss.2 ?_
      rcases ho:(vat Vs j).ownBlock with _|q
      ·exact .inl rfl
      ·refine .inr fun e=>?_
       have:=(World.ownsRow.lt (hrow j hj) q ho).1
       simp only[Option.some.injEq]at e
       omega
     have hbs:Below w.heap.size w (wr.setCell ⟨g,k,none⟩ (clipV (vat Vs k))):=hb.setCell (show w.heap.size≤g by rw[HG.out];omega) _
     rw[hva]at hcl hss hrw2 hbs
     obtain⟨L,HL⟩:=named (fan (nodP c.nodes n) k).length
     rw[←HL.out]at hle6 hcl hss hrw2 hbs hsh
     have hclip:=clipL_any A6 L c6 wr (hsh.imp id fun⟨b,h,_⟩=>⟨_,h⟩) hle6 hc6
     have HCL:=Lib.hid hclip
     have HSS:=Lib.hid hss.1
     have HRW2:=Lib.hid hrw2
     have HBS:=Lib.hid hbs
     clear hclip hss hrw2 hbs hb hrow ht hva hsh
     go_wp2_with (go_at_call 97;(with_reducible refine HCL.out.mono ?_);rintro e w1 ⟨rfl,rfl⟩)
     go_roundw
     case rel=>exact⟨k+1,by omega,by go_num,HBS.out,HRW2.out,HSS.out⟩
     case measure=>simp[intOf];omega
    ·obtain rfl:n=k:=by omega
     have hrd:=FS.reads (by unfold maxLen;omega) hrow ht
     have HRD:=Lib.hid hrd
     have HB:=Lib.hid hb
     clear hrd hb hrow ht
     go_wp2
     go_ret
     refine⟨g,rfl,by rw[HG.out];omega,?_,HB.out⟩
     have:=HRD.out
     unfold fanL
     rw[←HN.out]
     exact this
def BRow(w:World)(g:Nat)(l:List Bool):Prop:=w.ownsRow g 4 1 (.slice (some ⟨g,0,none⟩) l.length l.length) l.length (l.map Value.bool)
section
variable {w w':World} {g:Nat} {l:List Bool}
theorem BRow.cell(h:BRow w g l){j:Nat}{b:Bool}(hj:l[j]? =some b):w.cell? ⟨g,j,none⟩=some (.bool b):=by
 have hl:j<l.length:=(List.getElem?_eq_some_iff.1 hj).1
 rw[World.ownsRow.cellAt h j (by omega),List.getElem?_map,hj];rfl
theorem BRow.frozen(h:BRow w g l)(j:Nat):w.frozen? ⟨g,j,none⟩=false:=World.ownsRow.frozenAt h j
theorem BRow.set(h:BRow w g l)(j:Nat)(x:Bool):BRow (w.setCell ⟨g,j,none⟩ (.bool x)) g (l.set j x):=by
 have:=(World.ownsRow.stored h j (.bool x)).1
 unfold BRow
 rw[List.length_set,List.map_set]
 exact this
theorem BRow.lt(h:BRow w g l):g<w.heap.size:=(World.ownsRow.lt h g rfl).2
theorem BRow.kept{row:Option Nat}(h:BRow w g l)(hg:w.grownBy w' row)(hne:some g≠row):BRow w' g l:=World.ownsRow.kept h hg (.inr hne)
theorem BRow.below(h:BRow w g l)(hb:Below w.heap.size w w'):BRow w' g l:=
 h.kept (row:=none) ⟨hb.os,hb.tape,hb.output,hb.size,fun i hi _=>hb.block i hi⟩ (by simp)
end
theorem info_bool:(Tryd.prog.info? 4).map (fun i=>(i.zero,i.size,i.bytes))=some (some (.bool false),1,1):=by kernel_rfl
theorem made_false(n:Nat):(madeCells #[Value.bool false] n).toList=(List.replicate n false).map Value.bool:=by
 apply List.ext_getElem?
 intro j
 by_cases hj:j<n
 ·simp[madeCells,hj,Nat.mod_one]
 ·rw[List.getElem?_eq_none (by simp[madeCells];omega),List.getElem?_eq_none (by simp;omega)]
end Go.Proofs.YtckgnoopjapknaaDoor
