/- The texts Lp5 Krm Co6 Coa Pan. -/
import Derived.Test.YtckgnoopjapknaaDoorM40
import Derived.Test.YtckgnoopjapknaaDoorM32
import Derived.Test.YtckgnoopjapknaaDoorM35
import Derived.Test.YtckgnoopjapknaaDoorM21
import Derived.Test.YtckgnoopjapknaaDoorM02
import Derived.Deep.Slices
import Derived.Deep.Fields
import Derived.SliceStrings
import Derived.ChangeSame
import Derived.Test.YtckgnoopjapknaaDoorCards
import Derived.Test.YtckgnoopjapknaaDoorTie
import Derived.Test.YtckgnoopjapknaaDoorM01
import Derived.ProofKit
import Derived.OpenShut
import Derived.Deep.DeepHandedRow
import Derived.Lib.LaidTab
import Derived.Lib.SmallJoins
import Derived.MakeChecks
namespace Go.Proofs.YtckgnoopjapknaaDoor
open Go.RowKit
theorem flat_len{f:Nat→List Int}{B:Nat} :∀k,(∀i,i<k→(f i).length≤B)→((List.range k).flatMap f).length≤k*B
 |0,_=>by simp
 |k+1,h=>by
  have ih:=flat_len (f:=f) (B:=B) k fun i hi=>h i (by omega)
  rw[List.range_succ,List.flatMap_append,List.length_append,List.flatMap_cons,List.flatMap_nil,List.append_nil,Nat.succ_mul]
  have:=h k (by omega)
  omega
theorem G5.obl{c:Ck}{n:Nat}{L:List Int}(G:G5 c n L):(obsN c).length≤1000000000:=by
 obtain⟨h1,h2,h3,-,-,-,h7,-⟩:=shape_zero (chk_shape G.ok)
 have hd:(dffL c.nodes c.nodes.length).length≤c.nodes.length*16:=flat_len _ fun i hi=>by
  split
  ·exact G.pins i (by rw[←G.len];exact hi)
  ·simp
 have hm:(mmsL c.mems c.mems.length).length≤c.mems.length*41:=flat_len _ fun i hi=>by
  have h:=h7 (c.mems.getD i default) (by rw[List.getD_eq_getElem?_getD,List.getElem?_eq_getElem hi];exact List.getElem_mem hi)
  unfold memErr at h
  split at h
  ·cases h
  ·rename_i hh
   unfold mmL
   simp only[List.length_append,List.length_cons,List.length_nil]
   omega
 unfold obsN
 simp only[List.length_append]
 have:=G.len
 have:=G.few
 omega
theorem netB_le(R:List Bool)(l:List Int)(P:Nat)(h:l.length≤P):∀k,netB R l k≤k*P
 |0=>by simp[netB]
 |k+1=>by
  have ih:=netB_le R l P h k
  rw[netB_succ,Nat.succ_mul]
  have h1:l.count (k:Int)≤l.length:=List.count_le_length
  split<;>omega
set_option maxRecDepth 100000 in
set_option maxHeartbeats 8000000 in
theorem meets5_any(c:Ck)(L:List Int)(A0 A1 A2 A3:Option Addr)(n n1 n2 n3 c0 c1 c2 c3:Nat)(w:World)(hc:Cir w w.heap.size (.agg #[.slice A0 n c0,.slice A1 n1 c1,.slice A2 n2 c2,.slice A3 n3 c3]) c)(f:Nat)(hf:f<n)(hpl:∀i:Nat,i<n→(depsOf (c.nodes.getD i default)).length≤1000000)(hsz:n≤1000000)
 (hl0:∀j:Nat,j<n→0≤lat L j) (hl1:∀j:Nat,j<n→lat L j<(n:Int)) (hl2:∀x y:Nat,x<n→(y:Int)∈rdL c.nodes x→lat L x<lat L y):
 Calls Tryd.prog 34 #[.agg #[.slice A0 n c0,.slice A1 n1 c1,.slice A2 n2 c2,.slice A3 n3 c3],.int .i64 (f:Int)] w fun e w'=>∃g R0 R,e=.returned (.slice (some ⟨g,0,none⟩) n n)∧BRow w' g R∧R.length=n∧(∀j:Nat,bat R0 j=true↔Rv (fun x:Int=>rdL c.nodes x.toNat) (-1) (f:Int) (j:Int))∧R0.length=n∧(∀i:Nat,i<n→(bat R i=true↔1<netB R0 (depsOf (c.nodes.getD i default)) n))∧BelW w w':=by
 obtain⟨W1,HW1⟩:=named (w.alloc (.cells #[.slice A0 n c0,.slice A1 n1 c1,.slice A2 n2 c2,.slice A3 n3 c3] 27))
 have hb1:BelW w W1:=by rw[HW1.out];exact below_new (Below.refl _ _) _
 have hfr:Fr W1 w.heap.size 27 [.slice A0 n c0,.slice A1 n1 c1,.slice A2 n2 c2,.slice A3 n3 c3]:=by rw[HW1.out];exact Fr.made _ _ _ rfl
 obtain⟨q,HQ⟩:=named w.heap.size
 rw[←HQ.out]at hfr
 have HQ2:=Lib.hid HQ.out
 have HCE:Hid (∀W,BelW W1 W→W.cell? ⟨q,0,none⟩=some (.slice A0 n c0)∧W.cell? ⟨q,1,none⟩=some (.slice A1 n1 c1)∧W.cell? ⟨q,2,none⟩=some (.slice A2 n2 c2)∧W.cell? ⟨q,3,none⟩=some (.slice A3 n3 c3)):=Lib.hid fun W h=>⟨(hfr.below h).cell 0,(hfr.below h).cell 1,(hfr.below h).cell 2,(hfr.below h).cell 3⟩
 have HRE:=Lib.hid (reach5_any c L A0 A1 A2 A3 n n1 n2 n3 c0 c1 c2 c3 W1 ((hc.below hb1).more (Below.size hb1)) f (-1) hf hsz hl0 hl1 hl2)
 have HRDS:Hid (∀W,BelW W1 W→∀i k:Nat,i<n→Calls Tryd.prog 53 #[.agg #[.slice A0 n c0,.slice A1 n1 c1,.slice A2 n2 c2,.slice A3 n3 c3],.int .i64 (i:Int),.int .i64 (k:Int)] W fun e w'=>e=.returned (.int .i64 (rds c.nodes i (k:Int):Nat))∧BelW W w'):=Lib.hid fun W h i k hi=>reads5_any c A0 A1 A2 A3 n n1 n2 n3 c0 c1 c2 c3 W ((hc.below (joinB hb1 h)).more (Below.size (joinB hb1 h))) i (k:Int) hi
 obtain⟨dl,HDL⟩:=named (fun i:Nat=>depsOf (c.nodes.getD i default))
 have HDR:Hid (∀i k:Nat,rds c.nodes i (k:Int)=(dl i).count (k:Int)):=Lib.hid fun i k=>by rw[HDL.out];rfl
 have HPL:Hid (∀i:Nat,i<n→(dl i).length≤1000000):=Lib.hid fun i hi=>by rw[HDL.out];exact hpl i hi
 have HGL:Hid (∀R0 R:List Bool,(∀i:Nat,i<n→(bat R i=true↔1<netB R0 (dl i) n))→∀i:Nat,i<n→(bat R i=true↔1<netB R0 (depsOf (c.nodes.getD i default)) n)):=Lib.hid fun R0 R h=>by rw[HDL.out]at h;exact h
 have HB1:=Lib.hid hb1
 obtain⟨i0,hi,hz0,hz1',hz2⟩:=info_parts info_bool
 have HI:=Lib.hid (And.intro hi (And.intro hz0 (And.intro hz1' hz2)))
 obtain⟨x0,x1,x2,x3⟩:=HCE.out W1 (Below.refl _ _)
 have hf2:(f:Int)<(n:Int):=by omega
 clear hi hz0 hz1' hz2 hc hl0 hl1 hl2 hb1 hfr hpl HDL
 go_enter Tryd.func34,Tryd.ntmps34
 go_upto_region 1 with (fail)
 rw[←HW1.out,←HQ2.out]
 go_upto_region 2 with (go_at_call 25;(with_reducible refine HRE.out.mono ?_);rintro e w2 ⟨g1,R0,rfl,h1,h2,h3,h4⟩;have HR1:=Lib.hid h1;have HRL:=Lib.hid h2;have HRV:=Lib.hid h3;have HB2:=Lib.hid h4;clear h1 h2 h3 h4 x0 x1 x2 x3)
 obtain⟨x0,-⟩:=HCE.out w2 HB2.out
 obtain⟨g,HG⟩:=named w2.heap.size
 have HG2:=Lib.hid HG.out
 have hne:g1≠g:=by have:=HR1.out.lt;have:=HG2.out;omega
 have HNE:=Lib.hid hne
 clear hne
 go_upto_region 3 with (at_make;refine wpList_make_full _ rfl _ _ 41 rfl w2.heap.size 4 i0 (.bool false) 1 Tryd.underlying41 HI.out.1 HI.out.2.1 HI.out.2.2.1 .i64 .i64 _ _ n rfl rfl rfl rfl ?b2 ?b3 ?b4 ?_)
 case b2=>rw[HI.out.2.2.2];omega
 case b3=>unfold maxLen;omega
 case b4=>exact Nat.le_refl _
 intro w3 hown hgr
 rw[made_false]at hown
 rw[←HG2.out]at hown
 have HR3:Hid (BRow w3 g (List.replicate n false)):=Lib.hid (by unfold BRow;rw[List.length_replicate];exact hown)
 have hb3:BelW w2 w3:=(Below.refl _ _).grown hgr (Nat.le_refl _) (fun k h=>by cases h)
 have HO3:Hid (BRow w3 g1 R0):=Lib.hid (HR1.out.below hb3)
 have HB3:=Lib.hid hb3
 rw[←HG2.out]
 clear hown hgr hb3 x0
 go_wp2
 go_loopw [7] (fun i wr=>∃(k:Nat) (R:List Bool),k≤n∧i=.int .i64 k∧R.length=n∧Hid (∀j:Nat,j<k→(bat R j=true↔1<netB R0 (dl j) n))∧Hid (BRow wr g R)∧Hid (BRow wr g1 R0)∧Hid (BelW w2 wr)) (fun i _=>n-(intOf i).toNat)
 case atStart=>exact⟨0,_,Nat.zero_le _,rfl,List.length_replicate,Lib.hid (fun j hj=>absurd hj (Nat.not_lt_zero j)),HR3,HO3,HB3⟩
 case round=>
  clear HR3 HB3 HO3
  obtain⟨k,R,hk,rfl,hRl,HK,HR,HO,HB⟩:=hrel
  obtain⟨x0,-⟩:=HCE.out wr (joinB HB2.out HB.out)
  by_cases hlt:k<n
  ·have hk2:(k:Int)<(n:Int):=by omega
   obtain⟨ll,HLL⟩:=named (dl k)
   have HPB:Hid (∀j,netB R0 ll j≤j*1000000):=Lib.hid (netB_le R0 ll _ (by rw[HLL.out];exact HPL.out k hlt))
   have HNX:Hid (∀t:Bool,(t=true↔1<netB R0 ll n)→∀j:Nat,j<k+1→(bat (R.set k t) j=true↔1<netB R0 (dl j) n)):=Lib.hid fun t ht j hj=>by
    rw[bat_set (by omega)]
    by_cases e:j=k
    ·subst e;rw[if_pos rfl,←HLL.out];exact ht
    ·rw[if_neg e];exact HK.out j (by omega)
   have HLN:Hid (∀t:Bool,(R.set k t).length=n):=Lib.hid fun t=>by rw[List.length_set];exact hRl
   have HRR:Hid (R.length=n):=Lib.hid hRl
   have HDK:Hid (∀j:Nat,rds c.nodes k (j:Int)=ll.count (j:Int)):=Lib.hid fun j=>by rw[HLL.out];exact HDR.out k j
   have HN0:Hid (netB R0 ll 0=0):=Lib.hid (by simp[netB])
   clear HK HLL hRl
   go_wp2
   go_loopw [8,9] (fun a i wr=>∃j:Nat,j≤n∧i=.int .i64 j∧a=.int .i64 (netB R0 ll j:Nat)∧Hid (BRow wr g R)∧Hid (BRow wr g1 R0)∧Hid (BelW w2 wr)) (fun _ i _=>n-(intOf i).toNat)
   case atStart=>exact⟨0,Nat.zero_le _,rfl,by rw[HN0.out];rfl,HR,HO,HB⟩
   case round=>
    clear HR HO HB x0
    obtain⟨j,hj,rfl,rfl,HR,HO,HB⟩:=hrel
    obtain⟨x0,x1,x2,x3⟩:=HCE.out wr (joinB HB2.out HB.out)
    have hpb:=HPB.out j
    by_cases hjl:j<n
    ·have hj2:(j:Int)<(n:Int):=by omega
     have hlr:=HRL.out
     have hsu:=netB_succ R0 ll j
     have hpb2:=HPB.out (j+1)
     obtain⟨y,HY⟩:=named (bat R0 j)
     have e1:wr.cell? ⟨g1,j,none⟩=some (.bool y):=HO.out.cell (by rw[HY.out,List.getElem?_eq_getElem (by omega)];unfold bat;rw[List.getD_eq_getElem?_getD,List.getElem?_eq_getElem (by omega)];rfl)
     rw[←HY.out]at hsu
     clear HY hlr
     obtain⟨m',HM'⟩:=named (netB R0 ll (j+1))
     rw[←HM'.out]at hsu hpb2
     obtain⟨m,HM⟩:=named (netB R0 ll j)
     rw[←HM.out]at hsu hpb
     rw[←HM.out]
     cases y
     ·obtain rfl:m'=m:=by rw[hsu,if_neg (by decide),Nat.add_zero]
      clear hsu HM
      go_wp2
      go_roundw
      case rel=>exact⟨j+1,by omega,by go_num,by rw[←HM'.out],HR,HO,HB⟩
      case measure=>simp[intOf];omega
     ·rw[if_pos rfl]at hsu
      have HRD:=Lib.hid (HRDS.out wr (joinB HB2.out HB.out) k j hlt)
      rw[HDK.out j]at HRD
      obtain⟨d,HD⟩:=named (ll.count (j:Int))
      rw[←HD.out]at HRD hsu
      clear HD HM
      go_wp2_with (go_at_call 53;(with_reducible refine HRD.out.mono ?_);rintro e w5 ⟨rfl,hb⟩;have HR5:Hid (BRow w5 g R):=Lib.hid (HR.out.below hb);have HO5:Hid (BRow w5 g1 R0):=Lib.hid (HO.out.below hb);have HB5:Hid (BelW w2 w5):=Lib.hid (joinB HB.out hb);clear hb x0 x1 x2 x3 e1)
      go_roundw
      case rel=>exact⟨j+1,by omega,by go_num,by rw[←HM'.out];go_num,HR5,HO5,HB5⟩
      case measure=>simp[intOf];omega
    ·obtain rfl:n=j:=by omega
     clear x1 x2 x3
     obtain⟨t0,e4⟩:∃t:Bool,wr.cell? ⟨g,k,none⟩=some (.bool t):=⟨_,HR.out.cell (List.getElem?_eq_getElem (by rw[HRR.out];exact hlt))⟩
     have e3:=HR.out.frozen k
     have HST:Hid (∀t:Bool,BRow (wr.setCell ⟨g,k,none⟩ (.bool t)) g (R.set k t)):=Lib.hid fun t=>HR.out.set k t
     have HSB:Hid (∀t:Bool,BelW w2 (wr.setCell ⟨g,k,none⟩ (.bool t))):=Lib.hid fun t=>HB.out.setCell (p:=⟨g,k,none⟩) (by rw[HG2.out];exact Nat.le_refl _) _
     have HSO:Hid (∀t:Bool,BRow (wr.setCell ⟨g,k,none⟩ (.bool t)) g1 R0):=Lib.hid fun t=>HO.out.kept (grown_set wr g k (.bool t)) (by have:=HNE.out;simpa using this)
     obtain⟨m,HM⟩:=named (netB R0 ll n)
     rw[←HM.out]at HNX
     rw[←HM.out]
     clear HM hpb
     by_cases hm:1<m
     ·have hm2:(1:Int)<(m:Int):=by omega
      have HN1:=Lib.hid (HNX.out true ⟨fun _=>hm,fun _=>rfl⟩)
      go_wp2
      go_roundw
      case rel=>exact⟨k+1,_,by omega,by go_num,HLN.out true,HN1,Lib.hid (HST.out true),Lib.hid (HSO.out true),Lib.hid (HSB.out true)⟩
      case measure=>simp[intOf];omega
     ·have hm2:¬(1:Int)<(m:Int):=by omega
      have HN1:=Lib.hid (HNX.out false (iff_of_false (by decide) hm))
      go_wp2
      go_roundw
      case rel=>exact⟨k+1,_,by omega,by go_num,HLN.out false,HN1,Lib.hid (HST.out false),Lib.hid (HSO.out false),Lib.hid (HSB.out false)⟩
      case measure=>simp[intOf];omega
  ·obtain rfl:n=k:=by omega
   have HE:=Lib.hid (HGL.out R0 R HK.out)
   go_wp2
   go_ret
   exact⟨g,R0,R,rfl,HR.out,hRl,HRV.out,HRL.out,HE.out,joinB HB1.out (joinB HB2.out HB.out)⟩
section
variable {n:Nat} {nx:Int→List Int} {P:Int→Prop} {pl a b:Int→Int} {f d x:Int}
theorem diff_path(hd:∀x,Nod n x→a x≠b x→x≠f→∃y,Nod n y∧x∈nx y∧pl y<pl x∧a y≠b y)(h0:∀x,Nod n x→0≤pl x)(hk:a d=b d):∀(k:Nat) (x:Int),Nod n x→pl x<(k:Int)→a x≠b x→Rv nx d f x
 |0,x,hx,h,_=>by have:=h0 x hx;omega
 |k+1,x,hx,h,hne=>by
  have hxd:x≠d:=fun e=>hne (by rw[e];exact hk)
  by_cases e:x=f
  ·subst e;exact .base hxd
  ·obtain⟨y,h1,h2,h3,h4⟩:=hd x hx hne e
   exact .step (diff_path hd h0 hk k y h1 (by omega) h4) h2 hxd
theorem blocked(hd:∀x,Nod n x→a x≠b x→x≠f→∃y,Nod n y∧x∈nx y∧pl y<pl x∧a y≠b y)(h0:∀x,Nod n x→0≤pl x)(hk:a d=b d)(hs:¬Sn nx P d f){p:Int}(hp:Nod n p)(hP:P p):a p=b p:=by
 apply Classical.byContradiction
 intro h
 exact hs (sn_iff.2 ⟨p,diff_path hd h0 hk ((pl p).toNat+1) p hp (by have:=h0 p hp;omega) h,hP⟩)
end
section
variable {nodes:List Nd}
theorem rd_dep{x y:Int}(hx:0≤x):y∈rdL nodes x.toNat↔0≤y∧y<(nodes.length:Int)∧x∈dep nodes y:=by
 rw[mem_rdL,show ((x.toNat:Nat):Int)=x by omega]
theorem rr_one{nx:Nat→List Int}{l:List Int}{y:Int}(h:Rr nx l y):∃x∈l,Rr nx [x] y:=by
 induction h with
 |base h=>exact⟨_,h,.base (by simp)⟩
 |step _ hy ih=>
  obtain⟨x,hx,h⟩:=ih
  exact⟨x,hx,.step h hy⟩
theorem rr_many{nx:Nat→List Int}{l:List Int}{x y:Int}(hx:x∈l)(h:Rr nx [x] y):Rr nx l y:=h.mono fun z hz=>by
 obtain rfl:z=x:=by simpa using hz
 exact hx
theorem rr_flip1(hw:Wf nodes){a b:Int}(hb:Nod nodes.length b)(h:Rr (fun j:Nat=>dep nodes (j:Int)) [b] a):Nod nodes.length a∧Rr (rdL nodes) [a] b:=by
 induction h with
 |base h=>
  obtain rfl:=List.mem_singleton.1 h
  exact⟨hb,.base (by simp)⟩
 | @step x y _ hy ih=>
   obtain⟨hx,h2⟩:=ih
   have hxe:((x.toNat:Nat):Int)=x:=by have:=hx.1;omega
   rw[hxe]at hy
   have hyn:=hw.dep (i:=x) (by have:=hx.1;have:=hx.2;omega) hy
   refine⟨hyn,h2.trans fun z hz=>?_⟩
   obtain rfl:=List.mem_singleton.1 hz
   exact .step (.base (List.mem_singleton.2 rfl)) ((rd_dep hyn.1).2 ⟨hx.1,hx.2,hy⟩)
theorem rr_flip2{a b:Int}(ha:Nod nodes.length a)(h:Rr (rdL nodes) [a] b):Nod nodes.length b∧Rr (fun j:Nat=>dep nodes (j:Int)) [b] a:=by
 induction h with
 |base h=>
  obtain rfl:=List.mem_singleton.1 h
  exact⟨ha,.base (by simp)⟩
 | @step x y _ hy ih=>
   obtain⟨hx,h2⟩:=ih
   obtain⟨h3,h4,h5⟩:=(rd_dep hx.1).1 hy
   refine⟨⟨h3,h4⟩,h2.trans fun z hz=>?_⟩
   obtain rfl:=List.mem_singleton.1 hz
   exact .step (.base (List.mem_singleton.2 rfl)) (by show _∈dep nodes ((y.toNat:Nat):Int);rw[show ((y.toNat:Nat):Int)=y by omega];exact h5)
theorem rr_flip(hw:Wf nodes){a b:Int}(ha:Nod nodes.length a)(hb:Nod nodes.length b):Rr (fun j:Nat=>dep nodes (j:Int)) [b] a↔Rr (rdL nodes) [a] b:=
 ⟨fun h=>(rr_flip1 hw hb h).2,fun h=>(rr_flip2 ha h).2⟩
end
theorem seen_cone{c:Ck}{n:Nat}{L:List Int}(G:G5 c n L){a:Int}(ha:Nod n a):Sn (fun x:Int=>rdL c.nodes x.toNat) (fun x:Int=>bat (ptB c) x.toNat=true) (-1) a↔Rr (fun j:Nat=>dep c.nodes (j:Int)) (memB (ptB c) n) a:=by
 have hl:=G.len
 have ha':Nod c.nodes.length a:=by rw[hl];exact ha
 rw[sn_iff]
 constructor
 ·rintro⟨p,h1,h2⟩
  have h3:=(rv_rr ha G.inr').1 h1
  obtain⟨hp,h4⟩:=rr_flip2 ha' h3
  rw[hl]at hp
  refine rr_many (mem_memB.2 ⟨p.toNat,by have:=hp.1;have:=hp.2;omega,by have:=hp.1;omega,h2⟩) h4
 ·intro h
  obtain⟨p,hp,h1⟩:=rr_one h
  obtain⟨j,hj,rfl,hb⟩:=mem_memB.1 hp
  refine⟨(j:Int),(rv_rr ha G.inr').2 ((rr_flip G.wf ha' (by rw[hl];exact⟨by omega,by omega⟩)).1 h1),?_⟩
  show bat (ptB c) (j:Int).toNat=true
  rw[Int.toNat_natCast]
  exact hb
theorem cone_cone{nx:Nat→List Int}{n:Nat}{l:List Int}{R R2:List Bool}(h:Vis nx n (List.replicate n false) l R)(h2:Vis nx n (List.replicate n false) (memB R n) R2):R2=R:=by
 refine ext_bat (h2.len.trans h.len.symm) fun j hj=>?_
 rw[h2.all,h.all]
 constructor
 ·intro g
  refine g.trans fun x hx=>?_
  obtain⟨i,hi,rfl,hb⟩:=mem_memB.1 hx
  exact (h.all i).1 hb
 ·intro g
  exact .base (mem_memB.2 ⟨j,by rw[h2.len]at hj;exact hj,rfl,(h.all j).2 g⟩)
open Go.ChangeShapes Go.WideShapes Go.ChangeAt Go.RowKit
theorem rw_own:ownKnob Tryd.prog.godebug=none:=by kernel_rfl
theorem rw_laidOut:laidOutB Tryd.prog=true:=by kernel_rfl
theorem g_spans: Tryd.prog.globalNamed "probecard/logic.spans" =some 0:=by kernel_rfl
theorem t_spans:(Tryd.prog.globals[0]?).map (·.type)=some 131:=by kernel_rfl
theorem c_span: Tryd.prog.cellsOf 130=2:=by kernel_rfl
theorem c_int: Tryd.prog.cellsOf 3=1:=by kernel_rfl
section
variable {H:Type} {enc:TypeId×Value→H}
def spanD(i:Nat):DataW H:=.agg [.lit (.int .i64 (spansL.getD (2*i) 0)),.lit (.int .i64 (spansL.getD (2*i+1) 0))]
theorem spans_cells{W:World}{base fuel:Nat}{sp:Nat→Bool}{held:Bool}{cs:List Value}{p:List MemPlace}
 (h:DataW.trod enc Tryd.prog W base sp held fuel 131 cs=some (Rows.laid_probecard_logic_spans,p)) (k:Nat) (hk:k<32):cs[k]? =some (.int .i64 (spansL.getD k 0)):=by
 obtain⟨xs,m,-,hx,hlen,hn,hel⟩:=DataW.trod_array Tryd.underlying131 h
 simp only[Prod.mk.injEq]at hx
 have hxs:xs.map (·.1)=(List.range 16).map (spanD (H:=H)):=by
  have e:(Rows.laid_probecard_logic_spans:DataW H)=.agg ((List.range 16).map spanD):=rfl
  have:=hx.1.symm.trans e
  injection this
 have hi:k/2<16:=by omega
 have hxi:=congrArg (·[k/2]?) hxs
 simp only[List.getElem?_map,List.getElem?_range hi,Option.map_some]at hxi
 obtain⟨y,hy,hyd⟩:=Option.map_eq_some_iff.1 hxi
 have ht:=(hel (k/2) hi).trans hy
 rw[c_span]at ht
 obtain⟨y0,y1,n,hyx,-,h0,h1⟩:=trod_struct2 Tryd.underlying130 ht
 obtain⟨a,ea,ha,-⟩:=DataW.trod_int Tryd.underlying3 h0
 obtain⟨b,eb,hb,-⟩:=DataW.trod_int Tryd.underlying3 h1
 rw[hyx]at hyd
 simp only[spanD,DataW.agg.injEq,List.cons.injEq,and_true]at hyd
 rw[ha,hb]at hyd
 simp only[DataW.lit.injEq,Lit.int.injEq,true_and]at hyd
 obtain⟨rfl,rfl⟩:=hyd
 rw[c_int]at ea eb
 have e0:cs[k/2*2]? =some (.int .i64 (spansL.getD (2*(k/2)) 0)):=by
  have:=congrArg (·[0]?) ea
  simpa [List.getElem?_take,List.getElem?_drop]using this
 have e1:cs[k/2*2+1]? =some (.int .i64 (spansL.getD (2*(k/2)+1) 0)):=by
  have:=congrArg (·[0]?) eb
  simpa [List.getElem?_take,List.getElem?_drop]using this
 rcases Nat.mod_two_eq_zero_or_one k with h2|h2
 ·have e:k/2*2=k:=by omega
  have e':2*(k/2)=k:=by omega
  rw[e,e']at e0;exact e0
 ·have e:k/2*2+1=k:=by omega
  have e':2*(k/2)+1=k:=by omega
  rw[e,e']at e1;exact e1
end
theorem tabs_of{W:World}(h:laidMetH Tryd.prog [("probecard/logic.spans",Rows.laid_probecard_logic_spans)] W):Tabs W:=by
 rw[MakeChecks.laidMetH_plain _ _ _ (by kernel_rfl)]at h
 obtain⟨ps,⟨g0,t0,cs0,f0,p0,q0,hg0,ht0,hv0,hd0,-,-⟩,-,-⟩:=h
 obtain rfl:=Option.some.inj (g_spans.symm.trans hg0)
 obtain rfl:=Option.some.inj (t_spans.symm.trans ht0)
 have hs:∀k,k<32→W.cell? ⟨0,k,none⟩=some (.int .i64 (spansL.getD k 0)):=fun k hk=>by
  rw[World.var?_cell g_spans hv0 k]
  simpa using spans_cells hd0 k hk
 refine⟨?_,hs⟩
 have h0:=hs 0 (by decide)
 have lt:∀ {g:Nat} {v:Value},W.cell? ⟨g,0,none⟩=some v→g<W.heap.size:=fun {g v} h=>by
  rcases Nat.lt_or_ge g W.heap.size with hl|hl
  ·exact hl
  ·simp[World.cell?,Array.getElem?_eq_none hl]at h
 have l0:=lt h0
 omega
section
variable {H:Type} {enc:TypeId×Value→H} {P:Program}
theorem all_below(hl:laidOutB P=true){W W':World}(hb:Below W.heap.size W W'):∀ {ts:List TypeId} {vs:List Value} {ds:List (DataW H)} {p:List MemPlace},
 (∀t∈ts,P.readableRec t=true∧t<P.types.size)→DataW.TrodAll enc P W 0 (fun _=>true) true ts vs ds p→(∀x∈p,x.block<W.heap.size)→
 DataW.TrodAll enc P W' 0 (fun b=>decide (b<W.heap.size)) true ts vs ds p
 |[],vs,ds,p,_,h,_=>by
  obtain⟨rfl,rfl,rfl⟩:=trodAll_nil h
  exact trodAll_mk0
 |t::ts,vs,ds,p,hr,h,hp=>by
  obtain⟨v,vs',d,ds',p1,p2,rfl,rfl,rfl,h1,h2⟩:=trodAll_cons h
  have hr1:=hr t List.mem_cons_self
  exact trodAll_cons_mk (Below.trod hl hr1.1 hr1.2 h1 hb fun x hx=>hp x (List.mem_append_left _ hx))
   (all_below hl hb (fun u hu=>hr u (List.mem_cons_of_mem _ hu)) h2 fun x hx=>hp x (List.mem_append_right _ hx))
theorem law_post(hl:laidOutB P=true){f:Func}{s:ChangeSpec}{W W':World}{args:Array Value}{ds:List (DataW H)}{before:List MemPlace}{tb:TypeId}
 (hv:s.vars=[]) (hW:DataW.Whole enc P f.params.toList s.vars false W args.toList ds [] before) (hr:∀t∈f.params.toList,P.readableRec t=true∧t<P.types.size)
 (hres:f.resultTypes= #[tb]) (htb:P.underlying tb=some .bool) (hfn:s.fn H (ds++[])= { results:=[.lit (.bool true)],args:=ds }) (hb:Below W.heap.size W W'):
 s.post enc P f false true false false W args (.bool true) W':=by
 have hlt:=hW.lt
 obtain⟨p,q,hA,hV,he,hz,hn⟩:=id hW
 rw[hv]at hV
 obtain⟨-,rfl⟩:=trodVars_none hV
 rw[List.append_nil]at he
 subst he
 refine⟨ds,[],before,[],before,[],hW,?_,?_,?_,hb.frame _,fun h=>by cases h⟩
 ·rw[hfn,hres]
  exact trodAll_cons_mk (shut_bool htb true) trodAll_mk0
 ·rw[hfn]
  exact all_below hl hb hr hA fun x hx=>hlt x hx
 ·rw[hfn,hv]
  rfl
end
def relay(cs:Array Value):Obj→Obj
 | .cells _ t fr=>.cells cs t fr
 |o=>o
noncomputable def tabWorld (os:Os):World:=
 { World.holding Tryd.prog os ⟨#[],#[],[]⟩ with heap:=(World.holding Tryd.prog os ⟨#[],#[],[]⟩).heap.modify 0 (relay (spansL.map (Value.int .i64)).toArray) }
end Go.Proofs.YtckgnoopjapknaaDoor
