/- The texts Sma Srw Srx. -/
import Derived.Test.YtemjmfpcopfdbaaGreatDoorM16
import Derived.Test.YtemjmfpcopfdbaaGreatDoorM11
import Derived.Deep.LoopGhost
import Derived.Deep.CutBlock
import Derived.Deep.DeepCutAuto
namespace Go.Proofs.YtemjmfpcopfdbaaGreatDoor
open Go.RowKit
theorem tabs_lg{w:World}(h:Lg.Tabs w):Tabs w:=⟨h.1,h.2.1⟩
theorem made_vals(n:Nat):(madeCells #[Value.int .u8 0] n).toList=(List.replicate n (0:Int)).map (Value.int .u8):=by
 apply List.ext_getElem?
 intro j
 by_cases hj:j<n
 ·simp[madeCells,hj,Nat.mod_one]
 ·rw[List.getElem?_eq_none (by simp[madeCells];omega),List.getElem?_eq_none (by simp;omega)]
theorem gnext{w wr w':World}{g:Nat}(h:w.grownBy wr (some g))(hb:Below wr.heap.size wr w'):w.grownBy w' (some g):=by
 obtain⟨h1,h2,h3,h4,h5⟩:=h
 exact⟨hb.os.trans h1,hb.tape.trans h2,hb.output.trans h3,Nat.le_trans h4 hb.size,fun i hi hne=>(hb.block i (Nat.lt_of_lt_of_le hi h4)).trans (h5 i hi hne)⟩
theorem gdrew{w wr:World}{g:Nat}(h:w.grownBy wr (some g)):w.grownBy wr.drew (some g):=gnext h (Below.drew (Below.refl _ _))
theorem bgrown{w0 w wr:World}{g:Nat}(h:BelW w0 w)(hg:w.grownBy wr (some g))(h0:w0.heap.size≤g):BelW w0 wr:=
 Below.grown h hg (Below.size h) (fun k e=>by cases e;exact h0)
structure RL(W1:World)(g s q d n:Nat)(R:List Int)(cs:List Value)(out:List Int)(wr:World):Prop where
 bel:BelW W1 wr
 row:VRow wr g out
 st:Fr wr s 121 cs
 qc:wr.cell? ⟨q,0,none⟩=some (.slice (some ⟨g,0,none⟩) n n)
 ord:Row wr d R
 ne:s≠g∧q≠g∧d≠g
 low:W1.heap.size≤g
 len:out.length=n
section
variable {W1 wr w':World} {g s q d n:Nat} {R out:List Int} {cs:List Value}
end
def Rg(n:Nat)(R:List Int):Prop:=R.length=n∧∀x∈R,0≤x∧x<(n:Int)
theorem Rg.at{n:Nat}{R:List Int}(h:Rg n R){j:Nat}(hj:j<n):∃y:Nat,lat R (j:Int)=(y:Int)∧y<n:=by
 have hm:R.getD j 0∈R:=by
  rw[List.getD_eq_getElem?_getD,List.getElem?_eq_getElem (by rw[h.1];exact hj)]
  exact List.getElem_mem _
 have:=h.2 _ hm
 refine⟨(R.getD j 0).toNat,?_,by omega⟩
 show R.getD ((j:Int).toNat) 0=_
 rw[Int.toNat_natCast];omega
theorem Rg.set{n:Nat}{R:List Int}(h:Rg n R)(j y:Nat)(hy:y<n):Rg n (R.set j (y:Int)):=
 ⟨by rw[List.length_set];exact h.1,fun x hx=>by
  rcases List.mem_or_eq_of_mem_set hx with h'|h'
  ·exact h.2 x h'
  ·omega⟩
def SV(w:World)(B d g q n:Nat)(L:List Int)(wr:World):Prop:=∃R,Rg n R∧SW w B d g q n L R wr
section
variable {w wr:World} {B d g q n:Nat} {L:List Int}
theorem SV.drewN(h:SV w B d g q n L wr)(k:Nat):SV w B d g q n L (wr.drewN k):=by
 obtain⟨R,h1,h2⟩:=h;exact⟨R,h1,h2.drewN k⟩
theorem SV.drew(h:SV w B d g q n L wr):SV w B d g q n L wr.drew:=by
 obtain⟨R,h1,h2⟩:=h;exact⟨R,h1,h2.drew⟩
theorem SV.set(h:SV w B d g q n L wr)(hd:B≤d)(hg:d≠g)(hq:d≠q)(j y:Nat)(hy:y<n):SV w B d g q n L (wr.setCell ⟨d,j,none⟩ (.int .i64 (y:Int))):=by
 obtain⟨R,h1,h2⟩:=h;exact⟨_,h1.set j y hy,h2.set hd hg hq j y⟩
theorem SV.at(h:SV w B d g q n L wr){j:Nat}(hj:j<n):∃y:Nat,y<n∧wr.cell? ⟨d,j,none⟩=some (.int .i64 (y:Int))∧wr.frozen? ⟨d,j,none⟩=false:=by
 obtain⟨R,h1,h2⟩:=h
 obtain⟨y,hy,hyn⟩:=h1.at hj
 refine⟨y,hyn,?_,h2.row.frozen j⟩
 rw[h2.row.cell (by rw[h1.1];exact hj),hy]
theorem SV.cmp(h:SV w B d g q n L wr)(hL:L.length=n)(hn:n≤1000000){a b:Nat}(ha:a<n)(hb:b<n)(m:Nat):
 Calls Tryz.prog 78 #[.int .i64 a,.int .i64 b,.pointer (some ⟨q,0,none⟩)] (wr.drewN m) fun e w'=>e=.returned (.int .i64 (cmpI (lat L a) (lat L b)))∧∃n,w'=(wr.drewN m).drewN n:=by
 obtain⟨R,h1,h2⟩:=h
 exact order1_any L a b (by omega) (by omega) (by omega) g q _ (h2.lev) (by rw[hL];exact h2.cell)
end
def SVP(w:World)(B d g q n:Nat)(L:List Int)(e:Ending)(w':World):Prop:=e=.returned (.tuple #[])∧SV w B d g q n L w'
set_option maxRecDepth 100000 in
set_option maxHeartbeats 4000000 in
theorem swap_w(L:List Int)(n d g q B a b k:Nat)(w w0:World)(hd:B≤d)(hg:d≠g)(hq:d≠q)(hn:n≤1000000)(ha:a+k≤n)(hb:b+k≤n)(hab:a≠b)(hw:SV w0 B d g q n L w)(cv:Value):
 Calls Tryz.prog 163 #[.slice (some ⟨d,0,none⟩) n n,.int .i64 (a:Int),.int .i64 (b:Int),.int .i64 (k:Int),cv] w (SVP w0 B d g q n L):=by
 have HW:=Lib.hid hw
 clear hw
 go_enter Tryz.func163,Tryz.ntmps163
 go_wp2
 go_loopw [10] (fun i wr=>∃j:Nat,i=.int .i64 j∧j≤k∧SV w0 B d g q n L wr) (fun i _=>k-(intOf i).toNat)
 case atStart=>exact⟨0,rfl,Nat.zero_le _,HW.out⟩
 case round=>
  clear HW
  obtain⟨j,rfl,hjk,hs⟩:=hrel
  have HS:=Lib.hid hs
  by_cases hj:j<k
  ·obtain⟨x,hx,c0,f0⟩:=hs.at (j:=a+j) (by omega)
   obtain⟨y,hy,c1,f1⟩:=hs.at (j:=b+j) (by omega)
   clear hs
   obtain⟨p,HP⟩:=named (a+j)
   obtain⟨r,HR⟩:=named (b+j)
   have hp:(a:Int)+(j:Int)=(p:Int):=by rw[HP.out];omega
   have hr:(b:Int)+(j:Int)=(r:Int):=by rw[HR.out];omega
   have hpn:p<n:=by rw[HP.out];omega
   have hrn:r<n:=by rw[HR.out];omega
   have hwp:IntKind.i64.wrap ((a:Int)+(j:Int))=(p:Int):=by rw[IntKind.wrap_i64];omega
   have hwr:IntKind.i64.wrap ((b:Int)+(j:Int))=(r:Int):=by rw[IntKind.wrap_i64];omega
   have hpr:p≠r:=by rw[HP.out,HR.out];omega
   have hrp:r≠p:=Ne.symm hpr
   rw[←HP.out]at c0 f0
   rw[←HR.out]at c1 f1
   go_wp2
   go_big_region
   all_goals
    go_wp2
    go_roundw
    case rel=>
     refine⟨j+1,by go_num,by omega,?_⟩
     first
      |exact ((HS.out.set hd hg hq p y hy).set hd hg hq r x hx).drew
      |exact ((HS.out.set hd hg hq r x hx).set hd hg hq p y hy).drew
      |exact ((HS.out.drew.set hd hg hq p y hy).set hd hg hq r x hx)
    case measure=>simp[intOf];omega
  ·obtain rfl:k=j:=by omega
   go_wp2
   go_end0
   exact⟨rfl,HS.out⟩
set_option maxRecDepth 100000 in
set_option maxHeartbeats 4000000 in
theorem rot_w(L:List Int)(n d g q B a m b:Nat)(w w0:World)(hd:B≤d)(hg:d≠g)(hq:d≠q)(hn:n≤1000000)(ha:a<m)(hm:m<b)(hb:b≤n)(hw:SV w0 B d g q n L w)(cv:Value):
 Calls Tryz.prog 158 #[.slice (some ⟨d,0,none⟩) n n,.int .i64 (a:Int),.int .i64 (m:Int),.int .i64 (b:Int),cv] w (SVP w0 B d g q n L):=by
 have HSW:Hid (∀(x y k:Nat) (W:World),x+k≤n→y+k≤n→x≠y→SV w0 B d g q n L W→Calls Tryz.prog 163 #[.slice (some ⟨d,0,none⟩) n n,.int .i64 (x:Int),.int .i64 (y:Int),.int .i64 (k:Int),cv] W (SVP w0 B d g q n L)):=
  Lib.hid fun x y k W h1 h2 h3 h4=>swap_w L n d g q B x y k W w0 hd hg hq hn h1 h2 h3 h4 cv
 have HW:=Lib.hid hw
 clear hw
 have hwi:IntKind.i64.wrap ((m:Int)-(a:Int))=((m-a:Nat):Int):=by rw[IntKind.wrap_i64];omega
 have hwj:IntKind.i64.wrap ((b:Int)-(m:Int))=((b-m:Nat):Int):=by rw[IntKind.wrap_i64];omega
 go_enter Tryz.func158,Tryz.ntmps158
 go_wp2
 go_loopw [10,11] (fun vi vj wr=>∃i j:Nat,vi=.int .i64 i∧vj=.int .i64 j∧1≤i∧1≤j∧i≤m∧m+j≤n∧SV w0 B d g q n L wr) (fun vi vj _=>(intOf vi).toNat+(intOf vj).toNat)
 case atStart=>exact⟨m-a,b-m,by first|rfl|(rw[hwi])|go_num,by first|rfl|(rw[hwj])|go_num,by omega,by omega,by omega,by omega,HW.out⟩
 case round=>
  clear HW hwi hwj
  obtain⟨i,j,rfl,rfl,hi1,hj1,him,hmj,hs⟩:=hrel
  have HS:=Lib.hid hs
  clear hs
  have hmi:(m:Int)-(i:Int)=((m-i:Nat):Int):=by omega
  have hwm:IntKind.i64.wrap ((m:Int)-(i:Int))=((m-i:Nat):Int):=by rw[IntKind.wrap_i64];omega
  rcases Nat.lt_trichotomy i j with hlt|heq|hgt
  ·have hlz:(i:Int)<(j:Int):=by omega
   have hne:¬((i:Int)=(j:Int)):=by omega
   have hng:¬((j:Int)<(i:Int)):=by omega
   have hws:IntKind.i64.wrap ((m:Int)+(j:Int))=((m+j:Nat):Int):=by rw[IntKind.wrap_i64];omega
   have hwt:IntKind.i64.wrap (((m+j:Nat):Int)-(i:Int))=((m+j-i:Nat):Int):=by rw[IntKind.wrap_i64];omega
   have hwu:IntKind.i64.wrap ((m:Int)+(j:Int)-(i:Int))=((m+j-i:Nat):Int):=by rw[IntKind.wrap_i64];omega
   have hwv:IntKind.i64.wrap ((j:Int)-(i:Int))=((j-i:Nat):Int):=by rw[IntKind.wrap_i64];omega
   have HC:=Lib.hid (HSW.out (m-i) (m+j-i) i wr (by omega) (by omega) (by omega) HS.out)
   have hx:(m:Int)+(j:Int)-(i:Int)=((m+j-i:Nat):Int):=by omega
   go_wp2_with (go_at_call 163;(with_reducible refine HC.out.mono ?_);rintro e w2 ⟨rfl,h2⟩;have HS2:=Lib.hid h2;clear h2)
   go_roundw
   case rel=>exact⟨i,j-i,rfl,by first|rfl|(rw[hwv])|go_num,hi1,by omega,him,by omega,HS2.out⟩
   case measure=>simp[intOf];omega
  ·subst heq
   have HC:=Lib.hid (HSW.out (m-i) m i wr (by omega) (by omega) (by omega) HS.out)
   go_wp2_with (go_at_call 163;(with_reducible refine HC.out.mono ?_);rintro e w2 ⟨rfl,h2⟩;have HS2:=Lib.hid h2;clear h2)
   go_end0
   exact⟨rfl,HS2.out⟩
  ·have hne:¬((i:Int)=(j:Int)):=by omega
   have hgz:(j:Int)<(i:Int):=by omega
   have hwv:IntKind.i64.wrap ((i:Int)-(j:Int))=((i-j:Nat):Int):=by rw[IntKind.wrap_i64];omega
   have HC:=Lib.hid (HSW.out (m-i) m j wr (by omega) (by omega) (by omega) HS.out)
   go_wp2_with (go_at_call 163;(with_reducible refine HC.out.mono ?_);rintro e w2 ⟨rfl,h2⟩;have HS2:=Lib.hid h2;clear h2)
   go_roundw
   case rel=>exact⟨i-j,j,by first|rfl|(rw[hwv])|go_num,rfl,by omega,hj1,by omega,hmj,HS2.out⟩
   case measure=>simp[intOf];omega
set_option maxRecDepth 100000 in
set_option maxHeartbeats 4000000 in
theorem insert_w(L:List Int)(n d g q B a b:Nat)(w w0:World)(hd:B≤d)(hg:d≠g)(hq:d≠q)(hL:L.length=n)(hn:n≤1000000)(hb:b≤n)(ha:a≤n)(hw:SV w0 B d g q n L w):
 Calls Tryz.prog 144 #[.slice (some ⟨d,0,none⟩) n n,.int .i64 (a:Int),.int .i64 (b:Int),.func (.func 78) #[] #[.pointer (some ⟨q,0,none⟩)]] w (SVP w0 B d g q n L):=by
 have HW:=Lib.hid hw
 have HLL:=Lib.hid hL
 clear hw hL
 have hwa:IntKind.i64.wrap ((a:Int)+1)=((a+1:Nat):Int):=by rw[IntKind.wrap_i64];omega
 go_enter Tryz.func144,Tryz.ntmps144
 go_wp2
 go_loopw [8] (fun i wr=>∃k:Nat,i=.int .i64 k∧a+1≤k∧k≤n+1∧SV w0 B d g q n L wr) (fun i _=>n+1-(intOf i).toNat)
 case atStart=>exact⟨a+1,by first|rfl|go_num,Nat.le_refl _,by omega,HW.out⟩
 case round=>
  clear HW hwa
  obtain⟨k,rfl,hk1,hk2,hsw⟩:=hrel
  have HSW:=Lib.hid hsw
  clear hsw
  by_cases hlt:k<b
  ·have hltz:(k:Int)<(b:Int):=by omega
   go_wp2
   go_loopg [9] k (fun g2 vj wr2=>∃j:Nat,vj=.int .i64 j∧j≤g2∧j≤k∧a≤j∧SV w0 B d g q n L wr2)
   case atStart=>exact⟨k,rfl,Nat.le_refl _,Nat.le_refl _,by omega,HSW.out⟩
   case round=>
    clear HSW
    obtain⟨j,rfl,hjg,hjk,haj,hsw⟩:=hrel
    have HSW:=Lib.hid hsw
    by_cases hja:j=a
    ·subst hja
     clear hsw
     have hdec:decide ((j:Int)<(j:Int))=false:=by simp
     go_wp2
     go_quiet (fail)
     go_wp2
     go_roundw
     case rel=>exact⟨k+1,by go_num,by omega,by omega,HSW.out.drewN _⟩
     case measure=>simp[intOf];omega
    ·obtain⟨jp,rfl⟩:∃jp,j=jp+1:=⟨j-1,by omega⟩
     obtain⟨xn,hx,c1,f1⟩:=hsw.at (j:=jp+1) (by omega)
     obtain⟨yn,hy,c0,f0⟩:=hsw.at (j:=jp) (by omega)
     clear hsw
     have hc:=fun m=>HSW.out.cmp HLL.out hn hx hy m
     obtain⟨z,HZ⟩:=named (cmpI (lat L xn) (lat L yn))
     rw[←HZ.out]at hc
     have hwp:IntKind.i64.wrap (jp:Int)=(jp:Int):=by rw[IntKind.wrap_i64];omega
     have jz:(jp:Int)+1<(n:Int):=by omega
     have jz1:(jp:Int)<(n:Int):=by omega
     have hjaz':(a:Int)<(jp:Int)+1:=by omega
     have hjaz2:decide ((a:Int)<(jp:Int)+1)=true:=by simpa using hjaz'
     have p0:(0:Int)≤(jp:Int)+1:=by omega
     have e0:((jp:Int)+1).toNat=jp+1:=by omega
     generalize hwq:wr=wq at c1 c0 f1 f0 hc HSW ⊢
     clear hwq
     by_cases hlv:z<0
     ·go_wp2_with fail
      go_quiet ((go_at_call 78;refine Calls.quiet_of (hc _)))
      go_wp2_with fail
      have hlv':decide (z<0)=true:=by simpa using hlv
      have HS2:=Lib.hid (HSW.out.drewN nq)
      have c1':(wq.drewN nq).cell? ⟨d,jp+1,none⟩=some (.int .i64 (xn:Int)):=c1
      have c0':(wq.drewN nq).cell? ⟨d,jp,none⟩=some (.int .i64 (yn:Int)):=c0
      have f1':(wq.drewN nq).frozen? ⟨d,jp+1,none⟩=false:=f1
      have f0':(wq.drewN nq).frozen? ⟨d,jp,none⟩=false:=f0
      clear c1 c0 f1 f0 hc
      generalize wq.drewN nq=wq2 at HS2 c1' c0' f1' f0' ⊢
      obtain⟨j1,hj1⟩:∃j1,j1=jp+1:=⟨_,rfl⟩
      rw[←hj1]at c1' f1' e0
      have J1:=Lib.hid hj1
      clear hj1
      go_big_region
      all_goals
       go_wp2
       go_roundg jp
       case measure=>omega
       case rel=>
        refine⟨jp,by first|rfl|go_num|(congr 1;omega),Nat.le_refl _,by omega,by omega,?_⟩
        exact ((HS2.out.set hd hg hq j1 yn hy).set hd hg hq jp xn hx).drew
     ·have hlv':decide (z<0)=false:=by simpa using hlv
      go_wp2_with fail
      go_quiet ((go_at_call 78;refine Calls.quiet_of (hc _)))
      go_wp2
      go_roundw
      case rel=>exact⟨k+1,by go_num,by omega,by omega,HSW.out.drewN _⟩
      case measure=>simp[intOf];omega
  ·go_wp2
   go_end0
   exact⟨rfl,HSW.out⟩
end Go.Proofs.YtemjmfpcopfdbaaGreatDoor
