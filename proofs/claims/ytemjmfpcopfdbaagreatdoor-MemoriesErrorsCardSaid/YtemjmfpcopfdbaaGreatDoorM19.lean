/- The texts Srz. -/
import Derived.Test.YtemjmfpcopfdbaaGreatDoorM18
namespace Go.Proofs.YtemjmfpcopfdbaaGreatDoor
open Go.RowKit
set_option maxRecDepth 100000 in
set_option maxHeartbeats 8000000 in
theorem sym_any(L:List Int)(n d g q B:Nat)(w0:World)(hd:B≤d)(hg:d≠g)(hq:d≠q)(hL:L.length=n)(hn:n≤1000000):∀(f a m b:Nat) (w:World),b-a≤f→a<m→m<b→b≤n→SV w0 B d g q n L w→
 Calls Tryz.prog 145 #[.slice (some ⟨d,0,none⟩) n n,.int .i64 (a:Int),.int .i64 (m:Int),.int .i64 (b:Int),.func (.func 78) #[] #[.pointer (some ⟨q,0,none⟩)]] w (SVP w0 B d g q n L):=by
 intro f
 induction f with
 |zero=>intro a m b w hf ham hmb;omega
 |succ f ih=>
  intro a m b w hf ham hmb hb hw
  by_cases h1:m=a+1
  ·exact sym_one L n d g q B a m b w w0 hd hg hq hL hn h1 hmb hb hw
  by_cases h2:b=m+1
  ·exact sym_last L n d g q B a m b w w0 hd hg hq hL hn (by omega) h2 hb hw
  have HROT:Hid (∀(x y z:Nat) (W:World),x<y→y<z→z≤n→SV w0 B d g q n L W→Calls Tryz.prog 158 #[.slice (some ⟨d,0,none⟩) n n,.int .i64 (x:Int),.int .i64 (y:Int),.int .i64 (z:Int),.func (.func 78) #[] #[.pointer (some ⟨q,0,none⟩)]] W (SVP w0 B d g q n L)):=
   Lib.hid fun x y z W e1 e2 e3 e4=>rot_w L n d g q B x y z W w0 hd hg hq hn e1 e2 e3 e4 _
  have HIH:Hid (∀(x y z:Nat) (W:World),z-x≤f→x<y→y<z→z≤n→SV w0 B d g q n L W→Calls Tryz.prog 145 #[.slice (some ⟨d,0,none⟩) n n,.int .i64 (x:Int),.int .i64 (y:Int),.int .i64 (z:Int),.func (.func 78) #[] #[.pointer (some ⟨q,0,none⟩)]] W (SVP w0 B d g q n L)):=
   Lib.hid fun x y z W e0 e1 e2 e3 e4=>ih x y z W e0 e1 e2 e3 e4
  have HW:=Lib.hid hw
  have HLL:=Lib.hid hL
  clear hw hL ih
  obtain⟨mid,HMID⟩:=named ((a+b)/2)
  have hm1:2*mid≤a+b:=by rw[HMID.out];omega
  have hm2:a+b<2*mid+2:=by rw[HMID.out];omega
  obtain⟨s,HS0⟩:=named (mid+m)
  have hs:s=mid+m:=HS0.out
  obtain⟨pz,HPZ⟩:=named (s-1)
  have hp:pz+1=s:=by rw[HPZ.out];omega
  have t1:(((m:Int)-(a:Int))==1)=false:=by rw[beq_eq_false_iff_ne];omega
  have t1':¬((m:Int)-(a:Int)=1):=by omega
  have t2:(((b:Int)-(m:Int))==1)=false:=by rw[beq_eq_false_iff_ne];omega
  have t2':¬((b:Int)-(m:Int)=1):=by omega
  have u2:((a:Int)+(b:Int))/2=(mid:Int):=by omega
  have u3:(mid:Int)+(m:Int)=(s:Int):=by omega
  have u4:(s:Int)-1=(pz:Int):=by omega
  have HS1:=Lib.hid hs
  clear hs
  go_enter Tryz.func145,Tryz.ntmps145
  go_upto_if 140 with (fail)
  go_cut [20,21] (fun vs vr wx=>∃s0 r0:Nat,vs=.int .i64 s0∧vr=.int .i64 r0∧s0≤r0∧r0≤n∧r0≤s∧s≤s0+b∧SV w0 B d g q n L wx)
  case first=>
   by_cases hgt:mid<m
   ·have u5:(s:Int)-(b:Int)=((s-b:Nat):Int):=by have:=HS1.out;omega
    go_wp2
    go_meet
    have hs:=HS1.out
    exact⟨s-b,mid,by first|rfl|go_num,by first|rfl|go_num,by omega,by omega,by omega,by omega,HW.out⟩
   ·go_wp2
    go_meet
    have hs:=HS1.out
    exact⟨a,m,by first|rfl|go_num,by first|rfl|go_num,by omega,by omega,by omega,by omega,HW.out⟩
  case rest=>
   clear HW
   obtain⟨s0,r0,rfl,rfl,k1,k2,k3,k4,hw⟩:=hcut
   have HW:=Lib.hid hw
   clear hw
   go_wp2
   go_loopw [20,21] (fun vi vj wr=>∃i j:Nat,vi=.int .i64 i∧vj=.int .i64 j∧i≤j∧j≤n∧j≤s∧s≤i+b∧SV w0 B d g q n L wr) (fun vi vj _=>(intOf vj).toNat-(intOf vi).toNat)
   case atStart=>exact⟨s0,r0,rfl,rfl,k1,k2,k3,k4,HW.out⟩
   case round=>
    clear HW k1 k2 k3 k4
    obtain⟨i,j,rfl,rfl,hij,hjn,hjs,his,hsv⟩:=hrel
    have HS:=Lib.hid hsv
    by_cases hlt:i<j
    ·obtain⟨h,HH⟩:=named ((i+j)/2)
     have hb1:2*h≤i+j:=by rw[HH.out];omega
     have hb2:i+j<2*h+2:=by rw[HH.out];omega
     have hhn:h<n:=by omega
     obtain⟨e,HE⟩:=named (pz-h)
     have hen:e<n:=by rw[HE.out];omega
     have u6:(pz:Int)-(h:Int)=(e:Int):=by rw[HE.out];omega
     obtain⟨x,hx,c0,-⟩:=hsv.at (j:=e) hen
     obtain⟨y,hy,c1,-⟩:=hsv.at (j:=h) hhn
     clear hsv
     have hc:=fun m=>HS.out.cmp HLL.out hn hx hy m
     obtain⟨z,HZ⟩:=named (cmpI (lat L x) (lat L y))
     rw[←HZ.out]at hc
     have hlz:(i:Int)<(j:Int):=by omega
     have u7:((i:Int)+(j:Int))/2=(h:Int):=by omega
     by_cases hlv:z<0
     ·have hlv':decide (z<0)=true:=by simpa using hlv
      go_wp2
      go_quiet ((go_at_call 78;refine Calls.quiet_of (hc _)))
      go_wp2
      go_roundw
      case rel=>exact⟨i,h,by first|rfl|go_num,by first|rfl|go_num,by omega,by omega,by omega,by omega,HS.out.drewN _⟩
      case measure=>simp[intOf];omega
     ·have hlv':decide (z<0)=false:=by simpa using hlv
      go_wp2
      go_quiet ((go_at_call 78;refine Calls.quiet_of (hc _)))
      go_wp2
      go_roundw
      case rel=>exact⟨h+1,j,by first|rfl|go_num,by first|rfl|go_num,by omega,by omega,by omega,by omega,HS.out.drewN _⟩
      case measure=>simp[intOf];omega
    ·clear hsv
     obtain rfl:i=j:=by omega
     clear hlt
     obtain⟨e,HE⟩:=named (s-i)
     have he:e+i=s:=by rw[HE.out];omega
     have heb:e≤b:=by omega
     have u6:(s:Int)-(i:Int)=(e:Int):=by omega
     rcases (show (i<m∧m<e)∨(i<m∧¬m<e)∨¬i<m by omega) with⟨p1,p2⟩| ⟨p1,p2⟩|p1<;>
      rcases (show (a<i∧i<mid)∨(a<i∧¬i<mid)∨¬a<i by omega) with⟨p3,p4⟩| ⟨p3,p4⟩|p3<;>
      rcases (show (mid<e∧e<b)∨(mid<e∧¬e<b)∨¬mid<e by omega) with⟨p5,p6⟩| ⟨p5,p6⟩|p5
     all_goals
      go_upto_region 39 with (fail)
      go_wp2_with (first
       |(go_at_call 158;(with_reducible refine (HROT.out i m e _ (by omega) (by omega) (by omega) HS.out).mono ?_);rintro ee w2 ⟨rfl,h5⟩;have HS2:=Lib.hid h5;clear h5)
       |(go_at_call 145;(with_reducible refine (HIH.out a i mid _ (by omega) (by omega) (by omega) (by omega) (by first|exact HS2.out|exact HS.out)).mono ?_);rintro ee w3 ⟨rfl,h5⟩;have HS3:=Lib.hid h5;clear h5)
       |(go_at_call 145;(with_reducible refine (HIH.out mid e b _ (by omega) (by omega) (by omega) (by omega) (by first|exact HS3.out|exact HS2.out|exact HS.out)).mono ?_);rintro ee w4 ⟨rfl,h5⟩;have HS4:=Lib.hid h5;clear h5))
      go_end0
      exact⟨rfl,by first|exact HS4.out|exact HS3.out|exact HS2.out|exact HS.out⟩
end Go.Proofs.YtemjmfpcopfdbaaGreatDoor
