/- The texts Sry. -/
import Derived.Test.YtemjmfpcopfdbaaGreatDoorM17
namespace Go.Proofs.YtemjmfpcopfdbaaGreatDoor
open Go.RowKit
set_option maxRecDepth 100000 in
set_option maxHeartbeats 8000000 in
theorem sym_one(L:List Int)(n d g q B a m b:Nat)(w w0:World)(hd:B≤d)(hg:d≠g)(hq:d≠q)(hL:L.length=n)(hn:n≤1000000)(ham:m=a+1)(hmb:m<b)(hb:b≤n)(hw:SV w0 B d g q n L w):
 Calls Tryz.prog 145 #[.slice (some ⟨d,0,none⟩) n n,.int .i64 (a:Int),.int .i64 (m:Int),.int .i64 (b:Int),.func (.func 78) #[] #[.pointer (some ⟨q,0,none⟩)]] w (SVP w0 B d g q n L):=by
 have HW:=Lib.hid hw
 have HLL:=Lib.hid hL
 clear hw hL
 have h1:(m:Int)-(a:Int)=1:=by omega
 have h1':IntKind.i64.wrap ((m:Int)-(a:Int))=1:=by rw[IntKind.wrap_i64];omega
 have HAM:=Lib.hid ham
 have hma:a<m:=by omega
 clear ham
 go_enter Tryz.func145,Tryz.ntmps145
 go_wp2
 go_loopw [10,11] (fun vi vj wr=>∃i j:Nat,vi=.int .i64 i∧vj=.int .i64 j∧i≤j∧m≤i∧j≤b∧SV w0 B d g q n L wr) (fun vi vj _=>(intOf vj).toNat-(intOf vi).toNat)
 case atStart=>exact⟨m,b,by first|rfl|go_num,by first|rfl|go_num,by omega,by omega,by omega,HW.out⟩
 case round=>
  clear HW
  obtain⟨i,j,rfl,rfl,hij,hai,hjb,hs⟩:=hrel
  have HS:=Lib.hid hs
  by_cases hlt:i<j
  ·obtain⟨h,HH⟩:=named ((i+j)/2)
   have hb1:2*h≤i+j:=by rw[HH.out];omega
   have hb2:i+j<2*h+2:=by rw[HH.out];omega
   have hhn:h<n:=by omega
   obtain⟨x,hx,c0,-⟩:=hs.at (j:=h) hhn
   obtain⟨y,hy,c1,-⟩:=hs.at (j:=a) (by omega)
   clear hs
   have hc:=fun m=>HS.out.cmp HLL.out hn hx hy m
   obtain⟨z,HZ⟩:=named (cmpI (lat L x) (lat L y))
   rw[←HZ.out]at hc
   have hlz:(i:Int)<(j:Int):=by omega
   have u2:((i:Int)+(j:Int))/2=(h:Int):=by omega
   by_cases hlv:z<0
   ·have hlv':decide (z<0)=true:=by simpa using hlv
    go_wp2
    go_quiet ((go_at_call 78;refine Calls.quiet_of (hc _)))
    go_wp2
    go_roundw
    case rel=>exact⟨h+1,j,by first|rfl|go_num,by first|rfl|go_num,by omega,by omega,by omega,HS.out.drewN _⟩
    case measure=>simp[intOf];omega
   ·have hlv':decide (z<0)=false:=by simpa using hlv
    go_wp2
    go_quiet ((go_at_call 78;refine Calls.quiet_of (hc _)))
    go_wp2
    go_roundw
    case rel=>exact⟨i,h,by first|rfl|go_num,by first|rfl|go_num,by omega,by omega,by omega,HS.out.drewN _⟩
    case measure=>simp[intOf];omega
  ·clear hs
   obtain rfl:i=j:=by omega
   obtain⟨hw1,hw1'⟩:(i:Int)-1=((i-1:Nat):Int)∧IntKind.i64.wrap ((i:Int)-1)=((i-1:Nat):Int):=⟨by omega,by rw[IntKind.wrap_i64];omega⟩
   clear hlt
   obtain⟨e,HE⟩:=named (i-1)
   have hen:e+1≤n:=by rw[HE.out];omega
   have hea:a≤e:=by rw[HE.out];omega
   rw[←HE.out]at hw1 hw1'
   go_wp2
   go_loopw [13] (fun vk wx=>∃k:Nat,vk=.int .i64 k∧k≤e∧SV w0 B d g q n L wx) (fun vk _=>e-(intOf vk).toNat)
   case atStart=>exact⟨a,rfl,hea,HS.out⟩
   case round=>
    clear HS
    obtain⟨k,rfl,hke,hs⟩:=hrel
    have HS:=Lib.hid hs
    by_cases hk:k<e
    ·obtain⟨x,hx,c0,f0⟩:=hs.at (j:=k) (by omega)
     obtain⟨y,hy,c1,f1⟩:=hs.at (j:=k+1) (by omega)
     clear hs
     obtain⟨r,HR⟩:=named (k+1)
     have hr:(k:Int)+1=(r:Int):=by rw[HR.out];omega
     have hrn:r<n:=by rw[HR.out];omega
     have hkr:k≠r:=by rw[HR.out];omega
     have hrk:r≠k:=Ne.symm hkr
     have hwr:IntKind.i64.wrap ((k:Int)+1)=(r:Int):=by rw[IntKind.wrap_i64];omega
     rw[←HR.out]at c1 f1
     go_wp2
     go_big_region
     all_goals
      go_wp2
      go_roundw
      case rel=>
       refine⟨k+1,by first|rfl|go_num|(rw[HR.out];rfl),by omega,?_⟩
       first
        |exact ((HS.out.set hd hg hq k y hy).set hd hg hq r x hx).drew
        |exact ((HS.out.set hd hg hq r x hx).set hd hg hq k y hy).drew
      case measure=>simp[intOf];omega
    ·clear hs
     go_wp2
     go_end0
     exact⟨rfl,HS.out⟩
set_option maxRecDepth 100000 in
set_option maxHeartbeats 8000000 in
theorem sym_last(L:List Int)(n d g q B a m b:Nat)(w w0:World)(hd:B≤d)(hg:d≠g)(hq:d≠q)(hL:L.length=n)(hn:n≤1000000)(ham:a+1<m)(hmb:b=m+1)(hb:b≤n)(hw:SV w0 B d g q n L w):
 Calls Tryz.prog 145 #[.slice (some ⟨d,0,none⟩) n n,.int .i64 (a:Int),.int .i64 (m:Int),.int .i64 (b:Int),.func (.func 78) #[] #[.pointer (some ⟨q,0,none⟩)]] w (SVP w0 B d g q n L):=by
 have HW:=Lib.hid hw
 have HLL:=Lib.hid hL
 clear hw hL
 have hb1:(b:Int)-(m:Int)=1:=by omega
 have hbw:IntKind.i64.wrap ((b:Int)-(m:Int))=1:=by rw[IntKind.wrap_i64];omega
 have HMB:=Lib.hid hmb
 have hmb':m<b:=by omega
 clear hmb
 have h1:(((m:Int)-(a:Int))==1)=false:=by rw[beq_eq_false_iff_ne];omega
 have h1b:¬((m:Int)-(a:Int)=1):=by omega
 have h1c:¬(m-a=1):=by omega
 go_enter Tryz.func145,Tryz.ntmps145
 go_wp2
 go_loopw [14,15] (fun vi vj wr=>∃i j:Nat,vi=.int .i64 i∧vj=.int .i64 j∧i≤j∧a≤i∧j≤m∧SV w0 B d g q n L wr) (fun vi vj _=>(intOf vj).toNat-(intOf vi).toNat)
 case atStart=>exact⟨a,m,by first|rfl|go_num,by first|rfl|go_num,by omega,by omega,by omega,HW.out⟩
 case round=>
  clear HW
  obtain⟨i,j,rfl,rfl,hij,hai,hjb,hs⟩:=hrel
  have HS:=Lib.hid hs
  by_cases hlt:i<j
  ·obtain⟨h,HH⟩:=named ((i+j)/2)
   have hb1:2*h≤i+j:=by rw[HH.out];omega
   have hb2:i+j<2*h+2:=by rw[HH.out];omega
   have hhn:h<n:=by omega
   obtain⟨x,hx,c0,-⟩:=hs.at (j:=h) hhn
   obtain⟨y,hy,c1,-⟩:=hs.at (j:=m) (by omega)
   clear hs
   have hc:=fun m=>HS.out.cmp HLL.out hn hy hx m
   obtain⟨z,HZ⟩:=named (cmpI (lat L y) (lat L x))
   rw[←HZ.out]at hc
   have hlz:(i:Int)<(j:Int):=by omega
   have u2:((i:Int)+(j:Int))/2=(h:Int):=by omega
   by_cases hlv:z<0
   ·have hlv':decide (z<0)=true:=by simpa using hlv
    go_wp2
    go_quiet ((go_at_call 78;refine Calls.quiet_of (hc _)))
    go_wp2
    go_roundw
    case rel=>exact⟨i,h,by first|rfl|go_num,by first|rfl|go_num,by omega,by omega,by omega,HS.out.drewN _⟩
    case measure=>simp[intOf];omega
   ·have hlv':decide (z<0)=false:=by simpa using hlv
    go_wp2
    go_quiet ((go_at_call 78;refine Calls.quiet_of (hc _)))
    go_wp2
    go_roundw
    case rel=>exact⟨h+1,j,by first|rfl|go_num,by first|rfl|go_num,by omega,by omega,by omega,HS.out.drewN _⟩
    case measure=>simp[intOf];omega
  ·clear hs
   obtain rfl:i=j:=by omega
   clear hlt
   go_wp2
   go_loopw [17] (fun vk wx=>∃k:Nat,vk=.int .i64 k∧i≤k∧k≤m∧SV w0 B d g q n L wx) (fun vk _=>(intOf vk).toNat)
   case atStart=>exact⟨m,rfl,by omega,by omega,HS.out⟩
   case round=>
    clear HS
    obtain⟨k,rfl,hik,hkm,hs⟩:=hrel
    have HS:=Lib.hid hs
    by_cases hk:i<k
    ·obtain⟨r,rfl⟩:∃r,k=r+1:=⟨k-1,by omega⟩
     obtain⟨x,hx,c0,f0⟩:=hs.at (j:=r+1) (by omega)
     obtain⟨y,hy,c1,f1⟩:=hs.at (j:=r) (by omega)
     clear hs
     obtain⟨k,HK⟩:=named (r+1)
     have hkr:k≠r:=by rw[HK.out];omega
     have hrk:r≠k:=Ne.symm hkr
     have hkn:k<n:=by rw[HK.out];omega
     have hrn:r<n:=by omega
     have hki:(i:Int)<(k:Int):=by rw[HK.out];omega
     have hkz:(((r+1:Nat)):Int)=(k:Int):=by rw[HK.out]
     have hk1:(k:Int)-1=(r:Int):=by rw[HK.out];omega
     have hwr:IntKind.i64.wrap ((k:Int)-1)=(r:Int):=by rw[IntKind.wrap_i64];omega
     rw[←HK.out]at c0 f0 ⊢
     go_wp2
     go_big_region
     all_goals
      go_wp2
      go_roundw
      case rel=>
       refine⟨r,by first|rfl|go_num,by omega,by omega,?_⟩
       first
        |exact ((HS.out.set hd hg hq k y hy).set hd hg hq r x hx).drew
        |exact ((HS.out.set hd hg hq r x hx).set hd hg hq k y hy).drew
      case measure=>simp[intOf];omega
    ·clear hs
     obtain rfl:i=k:=by omega
     go_wp2
     go_end0
     exact⟨rfl,HS.out⟩
end Go.Proofs.YtemjmfpcopfdbaaGreatDoor
