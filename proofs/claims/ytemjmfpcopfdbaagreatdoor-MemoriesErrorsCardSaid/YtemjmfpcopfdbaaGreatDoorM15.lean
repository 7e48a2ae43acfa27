/- The texts LgEvalw Smp LgMono Smq Smv. -/
import Derived.Test.YtemjmfpcopfdbaaGreatDoorM14
import Derived.Test.YtemjmfpcopfdbaaGreatDoorM13
import Derived.Test.YtemjmfpcopfdbaaGreatDoorM01
import Derived.Test.YtemjmfpcopfdbaaGreatDoorM07
import Derived.Test.YtemjmfpcopfdbaaGreatDoorM11
namespace Go.Proofs.YtemjmfpcopfdbaaGreatDoor.Lg
open Go.RowKit
section
variable {w0:World} {B:Nat} {s:Value} {l:List Int} (hB:B≤w0.heap.size) (hs:Vs w0 B s l) (w:World) (hb:Below w0.heap.size w0 w)
include hB hs hb
theorem and_rel:Calls Tryz.prog 114 #[s] w fun e w'=>e=.returned (.int .u8 (andL l))∧Below w0.heap.size w0 w':=
 rel (and_any (Nat.le_trans hB hb.size) (hs.below (hb.mono hB))) hb
theorem or_rel:Calls Tryz.prog 115 #[s] w fun e w'=>e=.returned (.int .u8 (orL l))∧Below w0.heap.size w0 w':=
 rel (or_any (Nat.le_trans hB hb.size) (hs.below (hb.mono hB))) hb
theorem xor_rel:Calls Tryz.prog 116 #[s] w fun e w'=>e=.returned (.int .u8 (xorL l))∧Below w0.heap.size w0 w':=
 rel (xor_any (Nat.le_trans hB hb.size) (hs.below (hb.mono hB))) hb
theorem bus_rel:Calls Tryz.prog 119 #[s] w fun e w'=>e=.returned (.int .u8 (busL l))∧Below w0.heap.size w0 w':=
 rel (bus_any (Nat.le_trans hB hb.size) (hs.below (hb.mono hB))) hb
end
set_option maxHeartbeats 400000 in
theorem eval_less{w:World}{s:Value}(n c:Nat)(A:Option Addr)(hs:s=.slice A n c)(k:Int)(h0:0≤k)(ht:Tabs w)(h:(n:Int)<lo k):
 Calls Tryz.prog 71 #[.int .u8 k,s] w fun e w'=>e=.returned (.int .u8 2)∧Below w.heap.size w w':=by
 subst hs
 have HT:=Lib.hid ht
 have H0:=Lib.hid h0
 clear ht h0
 go_enter Tryz.func71,Tryz.ntmps71
 go_wp2_with (go_at_call 111;refine (fanin_any _ H0.out _ HT.out).mono ?_;rintro e w' ⟨rfl,m,rfl⟩;have hb:Below w.heap.size w (w.drewN m):=below_drewN (Below.refl _ _) m)
 go_ret
 exact⟨rfl,by assumption⟩
set_option maxHeartbeats 400000 in
theorem eval_more{w:World}{s:Value}(n c:Nat)(A:Option Addr)(hs:s=.slice A n c)(k:Int)(h0:0≤k)(ht:Tabs w)(hl:¬(n:Int)<lo k)(h:hi k<(n:Int)):
 Calls Tryz.prog 71 #[.int .u8 k,s] w fun e w'=>e=.returned (.int .u8 2)∧Below w.heap.size w w':=by
 subst hs
 have HT:=Lib.hid ht
 have H0:=Lib.hid h0
 clear ht h0
 go_enter Tryz.func71,Tryz.ntmps71
 go_wp2_with (go_at_call 111;refine (fanin_any _ H0.out _ HT.out).mono ?_;rintro e w' ⟨rfl,m,rfl⟩;have hb:Below w.heap.size w (w.drewN m):=below_drewN (Below.refl _ _) m)
 go_ret
 exact⟨rfl,by assumption⟩
set_option maxHeartbeats 1000000 in
theorem eval_k0{w:World}{B:Nat}{s:Value}{l:List Int}(n c:Nat)(A:Option Addr)(hsv:s=.slice A n c)(hB:B≤w.heap.size)(hs:Vs w B s l)(ht:Tabs w)(hl:0≤n)(hh:n≤0):
 Calls Tryz.prog 71 #[.int .u8 0,s] w fun e w'=>e=.returned (.int .u8 (funL 0 l))∧Below w.heap.size w w':=by
 obtain⟨y,HY⟩:=named (funL 0 l)
 rw[←HY.out]
 have el:lo 0=0:=by decide
 have eh:hi 0=0:=by decide
 have HT:=Lib.hid ht
 have H0:Hid (0≤(0:Int)):=Lib.hid (by decide)
 have HS:=Lib.hid hs
 have HB:=Lib.hid hB
 clear ht hs hB
 subst hsv
 go_enter Tryz.func71,Tryz.ntmps71
 go_wp2_with (first
  |(go_at_call 111;refine (fanin_any _ H0.out _ HT.out).mono ?_;rintro e w' ⟨rfl,m,rfl⟩;have hb:Below w.heap.size w (w.drewN m):=below_drewN (Below.refl _ _) m)
  |(go_at_call 114;refine (and_rel HB.out HS.out _ (by assumption)).mono ?_;rintro e w' ⟨rfl,hb⟩)
  |(go_at_call 115;refine (or_rel HB.out HS.out _ (by assumption)).mono ?_;rintro e w' ⟨rfl,hb⟩)
  |(go_at_call 116;refine (xor_rel HB.out HS.out _ (by assumption)).mono ?_;rintro e w' ⟨rfl,hb⟩)
  |(go_at_call 119;refine (bus_rel HB.out HS.out _ (by assumption)).mono ?_;rintro e w' ⟨rfl,hb⟩)
  |(go_at_call 113;refine (not_any _ _).mono ?_;rintro e w' ⟨rfl,rfl⟩)
  |(go_at_call 112;refine (read_any _ _).mono ?_;rintro e w' ⟨rfl,rfl⟩))
 go_ret
 exact⟨ret_int (by rw[HY.out];rfl),by first|assumption|exact below_drewN (Below.refl _ _) _⟩
set_option maxHeartbeats 1000000 in
theorem eval_k1{w:World}{B:Nat}{s:Value}{l:List Int}(n c:Nat)(A:Option Addr)(hsv:s=.slice A n c)(hB:B≤w.heap.size)(hs:Vs w B s l)(ht:Tabs w)(hl:0≤n)(hh:n≤0):
 Calls Tryz.prog 71 #[.int .u8 1,s] w fun e w'=>e=.returned (.int .u8 (funL 1 l))∧Below w.heap.size w w':=by
 obtain⟨y,HY⟩:=named (funL 1 l)
 rw[←HY.out]
 have el:lo 1=0:=by decide
 have eh:hi 1=0:=by decide
 have HT:=Lib.hid ht
 have H0:Hid (0≤(1:Int)):=Lib.hid (by decide)
 have HS:=Lib.hid hs
 have HB:=Lib.hid hB
 clear ht hs hB
 subst hsv
 go_enter Tryz.func71,Tryz.ntmps71
 go_wp2_with (first
  |(go_at_call 111;refine (fanin_any _ H0.out _ HT.out).mono ?_;rintro e w' ⟨rfl,m,rfl⟩;have hb:Below w.heap.size w (w.drewN m):=below_drewN (Below.refl _ _) m)
  |(go_at_call 114;refine (and_rel HB.out HS.out _ (by assumption)).mono ?_;rintro e w' ⟨rfl,hb⟩)
  |(go_at_call 115;refine (or_rel HB.out HS.out _ (by assumption)).mono ?_;rintro e w' ⟨rfl,hb⟩)
  |(go_at_call 116;refine (xor_rel HB.out HS.out _ (by assumption)).mono ?_;rintro e w' ⟨rfl,hb⟩)
  |(go_at_call 119;refine (bus_rel HB.out HS.out _ (by assumption)).mono ?_;rintro e w' ⟨rfl,hb⟩)
  |(go_at_call 113;refine (not_any _ _).mono ?_;rintro e w' ⟨rfl,rfl⟩)
  |(go_at_call 112;refine (read_any _ _).mono ?_;rintro e w' ⟨rfl,rfl⟩))
 go_ret
 exact⟨ret_int (by rw[HY.out];rfl),by first|assumption|exact below_drewN (Below.refl _ _) _⟩
set_option maxHeartbeats 1000000 in
theorem eval_k2{w:World}{B:Nat}{s:Value}{l:List Int}(n c:Nat)(A:Option Addr)(hsv:s=.slice A n c)(hB:B≤w.heap.size)(hs:Vs w B s l)(ht:Tabs w)(hl:0≤n)(hh:n≤0):
 Calls Tryz.prog 71 #[.int .u8 2,s] w fun e w'=>e=.returned (.int .u8 (funL 2 l))∧Below w.heap.size w w':=by
 obtain⟨y,HY⟩:=named (funL 2 l)
 rw[←HY.out]
 have el:lo 2=0:=by decide
 have eh:hi 2=0:=by decide
 have HT:=Lib.hid ht
 have H0:Hid (0≤(2:Int)):=Lib.hid (by decide)
 have HS:=Lib.hid hs
 have HB:=Lib.hid hB
 clear ht hs hB
 subst hsv
 go_enter Tryz.func71,Tryz.ntmps71
 go_wp2_with (first
  |(go_at_call 111;refine (fanin_any _ H0.out _ HT.out).mono ?_;rintro e w' ⟨rfl,m,rfl⟩;have hb:Below w.heap.size w (w.drewN m):=below_drewN (Below.refl _ _) m)
  |(go_at_call 114;refine (and_rel HB.out HS.out _ (by assumption)).mono ?_;rintro e w' ⟨rfl,hb⟩)
  |(go_at_call 115;refine (or_rel HB.out HS.out _ (by assumption)).mono ?_;rintro e w' ⟨rfl,hb⟩)
  |(go_at_call 116;refine (xor_rel HB.out HS.out _ (by assumption)).mono ?_;rintro e w' ⟨rfl,hb⟩)
  |(go_at_call 119;refine (bus_rel HB.out HS.out _ (by assumption)).mono ?_;rintro e w' ⟨rfl,hb⟩)
  |(go_at_call 113;refine (not_any _ _).mono ?_;rintro e w' ⟨rfl,rfl⟩)
  |(go_at_call 112;refine (read_any _ _).mono ?_;rintro e w' ⟨rfl,rfl⟩))
 go_ret
 exact⟨ret_int (by rw[HY.out];rfl),by first|assumption|exact below_drewN (Below.refl _ _) _⟩
set_option maxHeartbeats 1000000 in
theorem eval_k3{w:World}{B:Nat}{s:Value}{l:List Int}(n c:Nat)(A:Option Addr)(hsv:s=.slice A n c)(hB:B≤w.heap.size)(hs:Vs w B s l)(ht:Tabs w)(hl:1≤n)(hh:n≤1)(b o:Nat)(hA:A=some ⟨b,o,none⟩)(hc0:w.cell? ⟨b,o+0,none⟩=some (.int .u8 (l.getD 0 0))):
 Calls Tryz.prog 71 #[.int .u8 3,s] w fun e w'=>e=.returned (.int .u8 (funL 3 l))∧Below w.heap.size w w':=by
 obtain⟨y,HY⟩:=named (funL 3 l)
 rw[←HY.out]
 have el:lo 3=1:=by decide
 have eh:hi 3=1:=by decide
 have HT:=Lib.hid ht
 have H0:Hid (0≤(3:Int)):=Lib.hid (by decide)
 have HS:=Lib.hid hs
 have HB:=Lib.hid hB
 clear ht hs hB
 subst hsv
 subst hA
 obtain⟨x0,hx0⟩:∃x,x=l.getD 0 0:=⟨_,rfl⟩
 rw[←hx0]at hc0
 have HX0:=Lib.hid hx0
 clear hx0
 simp only[Nat.add_zero]at hc0
 go_enter Tryz.func71,Tryz.ntmps71
 go_wp2_with (first
  |(go_at_call 111;refine (fanin_any _ H0.out _ HT.out).mono ?_;rintro e w' ⟨rfl,m,rfl⟩;have hb:Below w.heap.size w (w.drewN m):=below_drewN (Below.refl _ _) m)
  |(go_at_call 114;refine (and_rel HB.out HS.out _ (by assumption)).mono ?_;rintro e w' ⟨rfl,hb⟩)
  |(go_at_call 115;refine (or_rel HB.out HS.out _ (by assumption)).mono ?_;rintro e w' ⟨rfl,hb⟩)
  |(go_at_call 116;refine (xor_rel HB.out HS.out _ (by assumption)).mono ?_;rintro e w' ⟨rfl,hb⟩)
  |(go_at_call 119;refine (bus_rel HB.out HS.out _ (by assumption)).mono ?_;rintro e w' ⟨rfl,hb⟩)
  |(go_at_call 113;refine (not_any _ _).mono ?_;rintro e w' ⟨rfl,rfl⟩)
  |(go_at_call 112;refine (read_any _ _).mono ?_;rintro e w' ⟨rfl,rfl⟩))
 go_ret
 exact⟨ret_int (by rw[HY.out,HX0.out];rfl),by first|assumption|exact below_drewN (Below.refl _ _) _⟩
set_option maxHeartbeats 1000000 in
theorem eval_k4{w:World}{B:Nat}{s:Value}{l:List Int}(n c:Nat)(A:Option Addr)(hsv:s=.slice A n c)(hB:B≤w.heap.size)(hs:Vs w B s l)(ht:Tabs w)(hl:1≤n)(hh:n≤1)(b o:Nat)(hA:A=some ⟨b,o,none⟩)(hc0:w.cell? ⟨b,o+0,none⟩=some (.int .u8 (l.getD 0 0))):
 Calls Tryz.prog 71 #[.int .u8 4,s] w fun e w'=>e=.returned (.int .u8 (funL 4 l))∧Below w.heap.size w w':=by
 obtain⟨y,HY⟩:=named (funL 4 l)
 rw[←HY.out]
 have el:lo 4=1:=by decide
 have eh:hi 4=1:=by decide
 have HT:=Lib.hid ht
 have H0:Hid (0≤(4:Int)):=Lib.hid (by decide)
 have HS:=Lib.hid hs
 have HB:=Lib.hid hB
 clear ht hs hB
 subst hsv
 subst hA
 obtain⟨x0,hx0⟩:∃x,x=l.getD 0 0:=⟨_,rfl⟩
 rw[←hx0]at hc0
 have HX0:=Lib.hid hx0
 clear hx0
 simp only[Nat.add_zero]at hc0
 go_enter Tryz.func71,Tryz.ntmps71
 go_wp2_with (first
  |(go_at_call 111;refine (fanin_any _ H0.out _ HT.out).mono ?_;rintro e w' ⟨rfl,m,rfl⟩;have hb:Below w.heap.size w (w.drewN m):=below_drewN (Below.refl _ _) m)
  |(go_at_call 114;refine (and_rel HB.out HS.out _ (by assumption)).mono ?_;rintro e w' ⟨rfl,hb⟩)
  |(go_at_call 115;refine (or_rel HB.out HS.out _ (by assumption)).mono ?_;rintro e w' ⟨rfl,hb⟩)
  |(go_at_call 116;refine (xor_rel HB.out HS.out _ (by assumption)).mono ?_;rintro e w' ⟨rfl,hb⟩)
  |(go_at_call 119;refine (bus_rel HB.out HS.out _ (by assumption)).mono ?_;rintro e w' ⟨rfl,hb⟩)
  |(go_at_call 113;refine (not_any _ _).mono ?_;rintro e w' ⟨rfl,rfl⟩)
  |(go_at_call 112;refine (read_any _ _).mono ?_;rintro e w' ⟨rfl,rfl⟩))
 go_ret
 exact⟨ret_int (by rw[HY.out,HX0.out];rfl),by first|assumption|exact below_drewN (Below.refl _ _) _⟩
set_option maxHeartbeats 1000000 in
theorem eval_k5{w:World}{B:Nat}{s:Value}{l:List Int}(n c:Nat)(A:Option Addr)(hsv:s=.slice A n c)(hB:B≤w.heap.size)(hs:Vs w B s l)(ht:Tabs w)(hl:2≤n)(hh:n≤16):
 Calls Tryz.prog 71 #[.int .u8 5,s] w fun e w'=>e=.returned (.int .u8 (funL 5 l))∧Below w.heap.size w w':=by
 obtain⟨y,HY⟩:=named (funL 5 l)
 rw[←HY.out]
 have el:lo 5=2:=by decide
 have eh:hi 5=16:=by decide
 have HT:=Lib.hid ht
 have H0:Hid (0≤(5:Int)):=Lib.hid (by decide)
 have HS:=Lib.hid hs
 have HB:=Lib.hid hB
 clear ht hs hB
 subst hsv
 go_enter Tryz.func71,Tryz.ntmps71
 go_wp2_with (first
  |(go_at_call 111;refine (fanin_any _ H0.out _ HT.out).mono ?_;rintro e w' ⟨rfl,m,rfl⟩;have hb:Below w.heap.size w (w.drewN m):=below_drewN (Below.refl _ _) m)
  |(go_at_call 114;refine (and_rel HB.out HS.out _ (by assumption)).mono ?_;rintro e w' ⟨rfl,hb⟩)
  |(go_at_call 115;refine (or_rel HB.out HS.out _ (by assumption)).mono ?_;rintro e w' ⟨rfl,hb⟩)
  |(go_at_call 116;refine (xor_rel HB.out HS.out _ (by assumption)).mono ?_;rintro e w' ⟨rfl,hb⟩)
  |(go_at_call 119;refine (bus_rel HB.out HS.out _ (by assumption)).mono ?_;rintro e w' ⟨rfl,hb⟩)
  |(go_at_call 113;refine (not_any _ _).mono ?_;rintro e w' ⟨rfl,rfl⟩)
  |(go_at_call 112;refine (read_any _ _).mono ?_;rintro e w' ⟨rfl,rfl⟩))
 go_ret
 exact⟨ret_int (by rw[HY.out];rfl),by first|assumption|exact below_drewN (Below.refl _ _) _⟩
set_option maxHeartbeats 1000000 in
theorem eval_k6{w:World}{B:Nat}{s:Value}{l:List Int}(n c:Nat)(A:Option Addr)(hsv:s=.slice A n c)(hB:B≤w.heap.size)(hs:Vs w B s l)(ht:Tabs w)(hl:2≤n)(hh:n≤16):
 Calls Tryz.prog 71 #[.int .u8 6,s] w fun e w'=>e=.returned (.int .u8 (funL 6 l))∧Below w.heap.size w w':=by
 obtain⟨y,HY⟩:=named (funL 6 l)
 rw[←HY.out]
 have el:lo 6=2:=by decide
 have eh:hi 6=16:=by decide
 have HT:=Lib.hid ht
 have H0:Hid (0≤(6:Int)):=Lib.hid (by decide)
 have HS:=Lib.hid hs
 have HB:=Lib.hid hB
 clear ht hs hB
 subst hsv
 go_enter Tryz.func71,Tryz.ntmps71
 go_wp2_with (first
  |(go_at_call 111;refine (fanin_any _ H0.out _ HT.out).mono ?_;rintro e w' ⟨rfl,m,rfl⟩;have hb:Below w.heap.size w (w.drewN m):=below_drewN (Below.refl _ _) m)
  |(go_at_call 114;refine (and_rel HB.out HS.out _ (by assumption)).mono ?_;rintro e w' ⟨rfl,hb⟩)
  |(go_at_call 115;refine (or_rel HB.out HS.out _ (by assumption)).mono ?_;rintro e w' ⟨rfl,hb⟩)
  |(go_at_call 116;refine (xor_rel HB.out HS.out _ (by assumption)).mono ?_;rintro e w' ⟨rfl,hb⟩)
  |(go_at_call 119;refine (bus_rel HB.out HS.out _ (by assumption)).mono ?_;rintro e w' ⟨rfl,hb⟩)
  |(go_at_call 113;refine (not_any _ _).mono ?_;rintro e w' ⟨rfl,rfl⟩)
  |(go_at_call 112;refine (read_any _ _).mono ?_;rintro e w' ⟨rfl,rfl⟩))
 go_ret
 exact⟨ret_int (by rw[HY.out];rfl),by first|assumption|exact below_drewN (Below.refl _ _) _⟩
set_option maxHeartbeats 1000000 in
theorem eval_k7{w:World}{B:Nat}{s:Value}{l:List Int}(n c:Nat)(A:Option Addr)(hsv:s=.slice A n c)(hB:B≤w.heap.size)(hs:Vs w B s l)(ht:Tabs w)(hl:2≤n)(hh:n≤16):
 Calls Tryz.prog 71 #[.int .u8 7,s] w fun e w'=>e=.returned (.int .u8 (funL 7 l))∧Below w.heap.size w w':=by
 obtain⟨y,HY⟩:=named (funL 7 l)
 rw[←HY.out]
 have el:lo 7=2:=by decide
 have eh:hi 7=16:=by decide
 have HT:=Lib.hid ht
 have H0:Hid (0≤(7:Int)):=Lib.hid (by decide)
 have HS:=Lib.hid hs
 have HB:=Lib.hid hB
 clear ht hs hB
 subst hsv
 go_enter Tryz.func71,Tryz.ntmps71
 go_wp2_with (first
  |(go_at_call 111;refine (fanin_any _ H0.out _ HT.out).mono ?_;rintro e w' ⟨rfl,m,rfl⟩;have hb:Below w.heap.size w (w.drewN m):=below_drewN (Below.refl _ _) m)
  |(go_at_call 114;refine (and_rel HB.out HS.out _ (by assumption)).mono ?_;rintro e w' ⟨rfl,hb⟩)
  |(go_at_call 115;refine (or_rel HB.out HS.out _ (by assumption)).mono ?_;rintro e w' ⟨rfl,hb⟩)
  |(go_at_call 116;refine (xor_rel HB.out HS.out _ (by assumption)).mono ?_;rintro e w' ⟨rfl,hb⟩)
  |(go_at_call 119;refine (bus_rel HB.out HS.out _ (by assumption)).mono ?_;rintro e w' ⟨rfl,hb⟩)
  |(go_at_call 113;refine (not_any _ _).mono ?_;rintro e w' ⟨rfl,rfl⟩)
  |(go_at_call 112;refine (read_any _ _).mono ?_;rintro e w' ⟨rfl,rfl⟩))
 go_ret
 exact⟨ret_int (by rw[HY.out];rfl),by first|assumption|exact below_drewN (Below.refl _ _) _⟩
set_option maxHeartbeats 1000000 in
theorem eval_k8{w:World}{B:Nat}{s:Value}{l:List Int}(n c:Nat)(A:Option Addr)(hsv:s=.slice A n c)(hB:B≤w.heap.size)(hs:Vs w B s l)(ht:Tabs w)(hl:2≤n)(hh:n≤16):
 Calls Tryz.prog 71 #[.int .u8 8,s] w fun e w'=>e=.returned (.int .u8 (funL 8 l))∧Below w.heap.size w w':=by
 obtain⟨y,HY⟩:=named (funL 8 l)
 rw[←HY.out]
 have el:lo 8=2:=by decide
 have eh:hi 8=16:=by decide
 have HT:=Lib.hid ht
 have H0:Hid (0≤(8:Int)):=Lib.hid (by decide)
 have HS:=Lib.hid hs
 have HB:=Lib.hid hB
 clear ht hs hB
 subst hsv
 go_enter Tryz.func71,Tryz.ntmps71
 go_wp2_with (first
  |(go_at_call 111;refine (fanin_any _ H0.out _ HT.out).mono ?_;rintro e w' ⟨rfl,m,rfl⟩;have hb:Below w.heap.size w (w.drewN m):=below_drewN (Below.refl _ _) m)
  |(go_at_call 114;refine (and_rel HB.out HS.out _ (by assumption)).mono ?_;rintro e w' ⟨rfl,hb⟩)
  |(go_at_call 115;refine (or_rel HB.out HS.out _ (by assumption)).mono ?_;rintro e w' ⟨rfl,hb⟩)
  |(go_at_call 116;refine (xor_rel HB.out HS.out _ (by assumption)).mono ?_;rintro e w' ⟨rfl,hb⟩)
  |(go_at_call 119;refine (bus_rel HB.out HS.out _ (by assumption)).mono ?_;rintro e w' ⟨rfl,hb⟩)
  |(go_at_call 113;refine (not_any _ _).mono ?_;rintro e w' ⟨rfl,rfl⟩)
  |(go_at_call 112;refine (read_any _ _).mono ?_;rintro e w' ⟨rfl,rfl⟩))
 go_ret
 exact⟨ret_int (by rw[HY.out];rfl),by first|assumption|exact below_drewN (Below.refl _ _) _⟩
set_option maxHeartbeats 1000000 in
theorem eval_k9{w:World}{B:Nat}{s:Value}{l:List Int}(n c:Nat)(A:Option Addr)(hsv:s=.slice A n c)(hB:B≤w.heap.size)(hs:Vs w B s l)(ht:Tabs w)(hl:2≤n)(hh:n≤16):
 Calls Tryz.prog 71 #[.int .u8 9,s] w fun e w'=>e=.returned (.int .u8 (funL 9 l))∧Below w.heap.size w w':=by
 obtain⟨y,HY⟩:=named (funL 9 l)
 rw[←HY.out]
 have el:lo 9=2:=by decide
 have eh:hi 9=16:=by decide
 have HT:=Lib.hid ht
 have H0:Hid (0≤(9:Int)):=Lib.hid (by decide)
 have HS:=Lib.hid hs
 have HB:=Lib.hid hB
 clear ht hs hB
 subst hsv
 go_enter Tryz.func71,Tryz.ntmps71
 go_wp2_with (first
  |(go_at_call 111;refine (fanin_any _ H0.out _ HT.out).mono ?_;rintro e w' ⟨rfl,m,rfl⟩;have hb:Below w.heap.size w (w.drewN m):=below_drewN (Below.refl _ _) m)
  |(go_at_call 114;refine (and_rel HB.out HS.out _ (by assumption)).mono ?_;rintro e w' ⟨rfl,hb⟩)
  |(go_at_call 115;refine (or_rel HB.out HS.out _ (by assumption)).mono ?_;rintro e w' ⟨rfl,hb⟩)
  |(go_at_call 116;refine (xor_rel HB.out HS.out _ (by assumption)).mono ?_;rintro e w' ⟨rfl,hb⟩)
  |(go_at_call 119;refine (bus_rel HB.out HS.out _ (by assumption)).mono ?_;rintro e w' ⟨rfl,hb⟩)
  |(go_at_call 113;refine (not_any _ _).mono ?_;rintro e w' ⟨rfl,rfl⟩)
  |(go_at_call 112;refine (read_any _ _).mono ?_;rintro e w' ⟨rfl,rfl⟩))
 go_ret
 exact⟨ret_int (by rw[HY.out];rfl),by first|assumption|exact below_drewN (Below.refl _ _) _⟩
set_option maxHeartbeats 1000000 in
theorem eval_k10{w:World}{B:Nat}{s:Value}{l:List Int}(n c:Nat)(A:Option Addr)(hsv:s=.slice A n c)(hB:B≤w.heap.size)(hs:Vs w B s l)(ht:Tabs w)(hl:2≤n)(hh:n≤16):
 Calls Tryz.prog 71 #[.int .u8 10,s] w fun e w'=>e=.returned (.int .u8 (funL 10 l))∧Below w.heap.size w w':=by
 obtain⟨y,HY⟩:=named (funL 10 l)
 rw[←HY.out]
 have el:lo 10=2:=by decide
 have eh:hi 10=16:=by decide
 have HT:=Lib.hid ht
 have H0:Hid (0≤(10:Int)):=Lib.hid (by decide)
 have HS:=Lib.hid hs
 have HB:=Lib.hid hB
 clear ht hs hB
 subst hsv
 go_enter Tryz.func71,Tryz.ntmps71
 go_wp2_with (first
  |(go_at_call 111;refine (fanin_any _ H0.out _ HT.out).mono ?_;rintro e w' ⟨rfl,m,rfl⟩;have hb:Below w.heap.size w (w.drewN m):=below_drewN (Below.refl _ _) m)
  |(go_at_call 114;refine (and_rel HB.out HS.out _ (by assumption)).mono ?_;rintro e w' ⟨rfl,hb⟩)
  |(go_at_call 115;refine (or_rel HB.out HS.out _ (by assumption)).mono ?_;rintro e w' ⟨rfl,hb⟩)
  |(go_at_call 116;refine (xor_rel HB.out HS.out _ (by assumption)).mono ?_;rintro e w' ⟨rfl,hb⟩)
  |(go_at_call 119;refine (bus_rel HB.out HS.out _ (by assumption)).mono ?_;rintro e w' ⟨rfl,hb⟩)
  |(go_at_call 113;refine (not_any _ _).mono ?_;rintro e w' ⟨rfl,rfl⟩)
  |(go_at_call 112;refine (read_any _ _).mono ?_;rintro e w' ⟨rfl,rfl⟩))
 go_ret
 exact⟨ret_int (by rw[HY.out];rfl),by first|assumption|exact below_drewN (Below.refl _ _) _⟩
set_option maxHeartbeats 1000000 in
theorem eval_k11{w:World}{B:Nat}{s:Value}{l:List Int}(n c:Nat)(A:Option Addr)(hsv:s=.slice A n c)(hB:B≤w.heap.size)(hs:Vs w B s l)(ht:Tabs w)(hl:3≤n)(hh:n≤3)(b o:Nat)(hA:A=some ⟨b,o,none⟩)(hc0:w.cell? ⟨b,o+0,none⟩=some (.int .u8 (l.getD 0 0)))(hc1:w.cell? ⟨b,o+1,none⟩=some (.int .u8 (l.getD 1 0)))(hc2:w.cell? ⟨b,o+2,none⟩=some (.int .u8 (l.getD 2 0))):
 Calls Tryz.prog 71 #[.int .u8 11,s] w fun e w'=>e=.returned (.int .u8 (funL 11 l))∧Below w.heap.size w w':=by
 obtain⟨y,HY⟩:=named (funL 11 l)
 rw[←HY.out]
 have el:lo 11=3:=by decide
 have eh:hi 11=3:=by decide
 have HT:=Lib.hid ht
 have H0:Hid (0≤(11:Int)):=Lib.hid (by decide)
 have HS:=Lib.hid hs
 have HB:=Lib.hid hB
 clear ht hs hB
 subst hsv
 obtain rfl:n=3:=by omega
 subst hA
 obtain⟨x0,hx0⟩:∃x,x=l.getD 0 0:=⟨_,rfl⟩
 rw[←hx0]at hc0
 have HX0:=Lib.hid hx0
 clear hx0
 obtain⟨x1,hx1⟩:∃x,x=l.getD 1 0:=⟨_,rfl⟩
 rw[←hx1]at hc1
 have HX1:=Lib.hid hx1
 clear hx1
 obtain⟨x2,hx2⟩:∃x,x=l.getD 2 0:=⟨_,rfl⟩
 rw[←hx2]at hc2
 have HX2:=Lib.hid hx2
 clear hx2
 simp only[Nat.add_zero]at hc0
 go_enter Tryz.func71,Tryz.ntmps71
 go_wp2_with (go_at_call 111;refine (fanin_any _ H0.out _ HT.out).mono ?_;rintro e w1 ⟨rfl,hm⟩;have hb:Below w.heap.size w w1:=(by obtain⟨m,rfl⟩:=hm;exact below_drewN (Below.refl _ _) m);have hd0:w1.cell? ⟨b,o,none⟩=some (.int .u8 x0):=(by obtain⟨m,rfl⟩:=hm;exact hc0);have hd1:w1.cell? ⟨b,o+1,none⟩=some (.int .u8 x1):=(by obtain⟨m,rfl⟩:=hm;exact hc1);have hd2:w1.cell? ⟨b,o+2,none⟩=some (.int .u8 x2):=(by obtain⟨m,rfl⟩:=hm;exact hc2);clear hm)
 go_quiet ((go_at_call 117;exact Calls.quiet_of_same ((mux_any _ _ _ _).mono fun _ _ h=>⟨h.1,h.2.symm⟩)))
 go_wp2
 go_ret
 exact⟨ret_int (by rw[HY.out,HX0.out,HX1.out,HX2.out];rfl),below_drewN hb _⟩
set_option maxHeartbeats 1000000 in
theorem eval_k12{w:World}{B:Nat}{s:Value}{l:List Int}(n c:Nat)(A:Option Addr)(hsv:s=.slice A n c)(hB:B≤w.heap.size)(hs:Vs w B s l)(ht:Tabs w)(hl:2≤n)(hh:n≤2)(b o:Nat)(hA:A=some ⟨b,o,none⟩)(hc0:w.cell? ⟨b,o+0,none⟩=some (.int .u8 (l.getD 0 0)))(hc1:w.cell? ⟨b,o+1,none⟩=some (.int .u8 (l.getD 1 0))):
 Calls Tryz.prog 71 #[.int .u8 12,s] w fun e w'=>e=.returned (.int .u8 (funL 12 l))∧Below w.heap.size w w':=by
 obtain⟨y,HY⟩:=named (funL 12 l)
 rw[←HY.out]
 have el:lo 12=2:=by decide
 have eh:hi 12=2:=by decide
 have HT:=Lib.hid ht
 have H0:Hid (0≤(12:Int)):=Lib.hid (by decide)
 have HS:=Lib.hid hs
 have HB:=Lib.hid hB
 clear ht hs hB
 subst hsv
 obtain rfl:n=2:=by omega
 subst hA
 obtain⟨x0,hx0⟩:∃x,x=l.getD 0 0:=⟨_,rfl⟩
 rw[←hx0]at hc0
 have HX0:=Lib.hid hx0
 clear hx0
 obtain⟨x1,hx1⟩:∃x,x=l.getD 1 0:=⟨_,rfl⟩
 rw[←hx1]at hc1
 have HX1:=Lib.hid hx1
 clear hx1
 simp only[Nat.add_zero]at hc0
 go_enter Tryz.func71,Tryz.ntmps71
 go_wp2_with (go_at_call 111;refine (fanin_any _ H0.out _ HT.out).mono ?_;rintro e w1 ⟨rfl,hm⟩;have hb:Below w.heap.size w w1:=(by obtain⟨m,rfl⟩:=hm;exact below_drewN (Below.refl _ _) m);have hd0:w1.cell? ⟨b,o,none⟩=some (.int .u8 x0):=(by obtain⟨m,rfl⟩:=hm;exact hc0);have hd1:w1.cell? ⟨b,o+1,none⟩=some (.int .u8 x1):=(by obtain⟨m,rfl⟩:=hm;exact hc1);clear hm)
 go_quiet ((go_at_call 118;exact Calls.quiet_of_same ((tri_any _ _ _).mono fun _ _ h=>⟨h.1,h.2.symm⟩)))
 go_wp2
 go_ret
 exact⟨ret_int (by rw[HY.out,HX0.out,HX1.out];rfl),below_drewN hb _⟩
set_option maxHeartbeats 1000000 in
theorem eval_k13{w:World}{B:Nat}{s:Value}{l:List Int}(n c:Nat)(A:Option Addr)(hsv:s=.slice A n c)(hB:B≤w.heap.size)(hs:Vs w B s l)(ht:Tabs w)(hl:1≤n)(hh:n≤16):
 Calls Tryz.prog 71 #[.int .u8 13,s] w fun e w'=>e=.returned (.int .u8 (funL 13 l))∧Below w.heap.size w w':=by
 obtain⟨y,HY⟩:=named (funL 13 l)
 rw[←HY.out]
 have el:lo 13=1:=by decide
 have eh:hi 13=16:=by decide
 have HT:=Lib.hid ht
 have H0:Hid (0≤(13:Int)):=Lib.hid (by decide)
 have HS:=Lib.hid hs
 have HB:=Lib.hid hB
 clear ht hs hB
 subst hsv
 go_enter Tryz.func71,Tryz.ntmps71
 go_wp2_with (first
  |(go_at_call 111;refine (fanin_any _ H0.out _ HT.out).mono ?_;rintro e w' ⟨rfl,m,rfl⟩;have hb:Below w.heap.size w (w.drewN m):=below_drewN (Below.refl _ _) m)
  |(go_at_call 114;refine (and_rel HB.out HS.out _ (by assumption)).mono ?_;rintro e w' ⟨rfl,hb⟩)
  |(go_at_call 115;refine (or_rel HB.out HS.out _ (by assumption)).mono ?_;rintro e w' ⟨rfl,hb⟩)
  |(go_at_call 116;refine (xor_rel HB.out HS.out _ (by assumption)).mono ?_;rintro e w' ⟨rfl,hb⟩)
  |(go_at_call 119;refine (bus_rel HB.out HS.out _ (by assumption)).mono ?_;rintro e w' ⟨rfl,hb⟩)
  |(go_at_call 113;refine (not_any _ _).mono ?_;rintro e w' ⟨rfl,rfl⟩)
  |(go_at_call 112;refine (read_any _ _).mono ?_;rintro e w' ⟨rfl,rfl⟩))
 go_ret
 exact⟨ret_int (by rw[HY.out];rfl),by first|assumption|exact below_drewN (Below.refl _ _) _⟩
set_option maxHeartbeats 1000000 in
theorem eval_k14{w:World}{B:Nat}{s:Value}{l:List Int}(n c:Nat)(A:Option Addr)(hsv:s=.slice A n c)(hB:B≤w.heap.size)(hs:Vs w B s l)(ht:Tabs w)(hl:1≤n)(hh:n≤1):
 Calls Tryz.prog 71 #[.int .u8 14,s] w fun e w'=>e=.returned (.int .u8 (funL 14 l))∧Below w.heap.size w w':=by
 obtain⟨y,HY⟩:=named (funL 14 l)
 rw[←HY.out]
 have el:lo 14=1:=by decide
 have eh:hi 14=1:=by decide
 have HT:=Lib.hid ht
 have H0:Hid (0≤(14:Int)):=Lib.hid (by decide)
 have HS:=Lib.hid hs
 have HB:=Lib.hid hB
 clear ht hs hB
 subst hsv
 go_enter Tryz.func71,Tryz.ntmps71
 go_wp2_with (first
  |(go_at_call 111;refine (fanin_any _ H0.out _ HT.out).mono ?_;rintro e w' ⟨rfl,m,rfl⟩;have hb:Below w.heap.size w (w.drewN m):=below_drewN (Below.refl _ _) m)
  |(go_at_call 114;refine (and_rel HB.out HS.out _ (by assumption)).mono ?_;rintro e w' ⟨rfl,hb⟩)
  |(go_at_call 115;refine (or_rel HB.out HS.out _ (by assumption)).mono ?_;rintro e w' ⟨rfl,hb⟩)
  |(go_at_call 116;refine (xor_rel HB.out HS.out _ (by assumption)).mono ?_;rintro e w' ⟨rfl,hb⟩)
  |(go_at_call 119;refine (bus_rel HB.out HS.out _ (by assumption)).mono ?_;rintro e w' ⟨rfl,hb⟩)
  |(go_at_call 113;refine (not_any _ _).mono ?_;rintro e w' ⟨rfl,rfl⟩)
  |(go_at_call 112;refine (read_any _ _).mono ?_;rintro e w' ⟨rfl,rfl⟩))
 go_ret
 exact⟨ret_int (by rw[HY.out];rfl),by first|assumption|exact below_drewN (Below.refl _ _) _⟩
set_option maxHeartbeats 1000000 in
theorem eval_k15{w:World}{B:Nat}{s:Value}{l:List Int}(n c:Nat)(A:Option Addr)(hsv:s=.slice A n c)(hB:B≤w.heap.size)(hs:Vs w B s l)(ht:Tabs w)(hl:0≤n)(hh:n≤0):
 Calls Tryz.prog 71 #[.int .u8 15,s] w fun e w'=>e=.returned (.int .u8 (funL 15 l))∧Below w.heap.size w w':=by
 obtain⟨y,HY⟩:=named (funL 15 l)
 rw[←HY.out]
 have el:lo 15=0:=by decide
 have eh:hi 15=0:=by decide
 have HT:=Lib.hid ht
 have H0:Hid (0≤(15:Int)):=Lib.hid (by decide)
 have HS:=Lib.hid hs
 have HB:=Lib.hid hB
 clear ht hs hB
 subst hsv
 go_enter Tryz.func71,Tryz.ntmps71
 go_wp2_with (first
  |(go_at_call 111;refine (fanin_any _ H0.out _ HT.out).mono ?_;rintro e w' ⟨rfl,m,rfl⟩;have hb:Below w.heap.size w (w.drewN m):=below_drewN (Below.refl _ _) m)
  |(go_at_call 114;refine (and_rel HB.out HS.out _ (by assumption)).mono ?_;rintro e w' ⟨rfl,hb⟩)
  |(go_at_call 115;refine (or_rel HB.out HS.out _ (by assumption)).mono ?_;rintro e w' ⟨rfl,hb⟩)
  |(go_at_call 116;refine (xor_rel HB.out HS.out _ (by assumption)).mono ?_;rintro e w' ⟨rfl,hb⟩)
  |(go_at_call 119;refine (bus_rel HB.out HS.out _ (by assumption)).mono ?_;rintro e w' ⟨rfl,hb⟩)
  |(go_at_call 113;refine (not_any _ _).mono ?_;rintro e w' ⟨rfl,rfl⟩)
  |(go_at_call 112;refine (read_any _ _).mono ?_;rintro e w' ⟨rfl,rfl⟩))
 go_ret
 exact⟨ret_int (by rw[HY.out];rfl),by first|assumption|exact below_drewN (Below.refl _ _) _⟩
theorem eval_any{w:World}{B:Nat}{s:Value}{l:List Int}(k:Int)(h0:0≤k)(hB:B≤w.heap.size)(hs:Vs w B s l)(ht:Tabs w):
 Calls Tryz.prog 71 #[.int .u8 k,s] w fun e w'=>e=.returned (.int .u8 (evalL k l))∧Below w.heap.size w w':=by
 obtain⟨b,o,c,hv,hm,hc⟩:=id hs
 have key:∀A,(0<l.length→A=some ⟨b,o,none⟩)→s=.slice A l.length c→Calls Tryz.prog 71 #[.int .u8 k,s] w fun e w'=>e=.returned (.int .u8 (evalL k l))∧Below w.heap.size w w':=by
  intro A hA hsv
  by_cases hl:(l.length:Int)<lo k
  ·rw[evalL,if_pos (.inl hl)];exact eval_less _ _ _ hsv k h0 ht hl
  ·by_cases hh:hi k<(l.length:Int)
   ·rw[evalL,if_pos (.inr hh)];exact eval_more _ _ _ hsv k h0 ht hl hh
   ·rw[evalL,if_neg (by omega)]
    have hk:¬15<k:=by intro hk;simp[hi,hk]at hh;omega
    rcases kinds h0 hk with rfl|rfl|rfl|rfl|rfl|rfl|rfl|rfl|rfl|rfl|rfl|rfl|rfl|rfl|rfl|rfl
    ·have hl':0≤l.length:=by rw[show lo 0=0 by decide]at hl;omega
     have hh':l.length≤0:=by rw[show hi 0=0 by decide]at hh;omega
     exact eval_k0 _ _ _ hsv hB hs ht hl' hh'
    ·have hl':0≤l.length:=by rw[show lo 1=0 by decide]at hl;omega
     have hh':l.length≤0:=by rw[show hi 1=0 by decide]at hh;omega
     exact eval_k1 _ _ _ hsv hB hs ht hl' hh'
    ·have hl':0≤l.length:=by rw[show lo 2=0 by decide]at hl;omega
     have hh':l.length≤0:=by rw[show hi 2=0 by decide]at hh;omega
     exact eval_k2 _ _ _ hsv hB hs ht hl' hh'
    ·have hl':1≤l.length:=by rw[show lo 3=1 by decide]at hl;omega
     have hh':l.length≤1:=by rw[show hi 3=1 by decide]at hh;omega
     exact eval_k3 _ _ _ hsv hB hs ht hl' hh' b o (hA (by omega)) (hc 0 (by omega)).2
    ·have hl':1≤l.length:=by rw[show lo 4=1 by decide]at hl;omega
     have hh':l.length≤1:=by rw[show hi 4=1 by decide]at hh;omega
     exact eval_k4 _ _ _ hsv hB hs ht hl' hh' b o (hA (by omega)) (hc 0 (by omega)).2
    ·have hl':2≤l.length:=by rw[show lo 5=2 by decide]at hl;omega
     have hh':l.length≤16:=by rw[show hi 5=16 by decide]at hh;omega
     exact eval_k5 _ _ _ hsv hB hs ht hl' hh'
    ·have hl':2≤l.length:=by rw[show lo 6=2 by decide]at hl;omega
     have hh':l.length≤16:=by rw[show hi 6=16 by decide]at hh;omega
     exact eval_k6 _ _ _ hsv hB hs ht hl' hh'
    ·have hl':2≤l.length:=by rw[show lo 7=2 by decide]at hl;omega
     have hh':l.length≤16:=by rw[show hi 7=16 by decide]at hh;omega
     exact eval_k7 _ _ _ hsv hB hs ht hl' hh'
    ·have hl':2≤l.length:=by rw[show lo 8=2 by decide]at hl;omega
     have hh':l.length≤16:=by rw[show hi 8=16 by decide]at hh;omega
     exact eval_k8 _ _ _ hsv hB hs ht hl' hh'
    ·have hl':2≤l.length:=by rw[show lo 9=2 by decide]at hl;omega
     have hh':l.length≤16:=by rw[show hi 9=16 by decide]at hh;omega
     exact eval_k9 _ _ _ hsv hB hs ht hl' hh'
    ·have hl':2≤l.length:=by rw[show lo 10=2 by decide]at hl;omega
     have hh':l.length≤16:=by rw[show hi 10=16 by decide]at hh;omega
     exact eval_k10 _ _ _ hsv hB hs ht hl' hh'
    ·have hl':3≤l.length:=by rw[show lo 11=3 by decide]at hl;omega
     have hh':l.length≤3:=by rw[show hi 11=3 by decide]at hh;omega
     exact eval_k11 _ _ _ hsv hB hs ht hl' hh' b o (hA (by omega)) (hc 0 (by omega)).2 (hc 1 (by omega)).2 (hc 2 (by omega)).2
    ·have hl':2≤l.length:=by rw[show lo 12=2 by decide]at hl;omega
     have hh':l.length≤2:=by rw[show hi 12=2 by decide]at hh;omega
     exact eval_k12 _ _ _ hsv hB hs ht hl' hh' b o (hA (by omega)) (hc 0 (by omega)).2 (hc 1 (by omega)).2
    ·have hl':1≤l.length:=by rw[show lo 13=1 by decide]at hl;omega
     have hh':l.length≤16:=by rw[show hi 13=16 by decide]at hh;omega
     exact eval_k13 _ _ _ hsv hB hs ht hl' hh'
    ·have hl':1≤l.length:=by rw[show lo 14=1 by decide]at hl;omega
     have hh':l.length≤1:=by rw[show hi 14=1 by decide]at hh;omega
     exact eval_k14 _ _ _ hsv hB hs ht hl' hh'
    ·have hl':0≤l.length:=by rw[show lo 15=0 by decide]at hl;omega
     have hh':l.length≤0:=by rw[show hi 15=0 by decide]at hh;omega
     exact eval_k15 _ _ _ hsv hB hs ht hl' hh'
 rcases hv with rfl| ⟨rfl,A,rfl⟩
 ·exact key _ (fun _=>rfl) rfl
 ·exact key _ (fun h=>absurd h (by simp)) rfl
end Go.Proofs.YtemjmfpcopfdbaaGreatDoor.Lg
namespace Go.Proofs.YtemjmfpcopfdbaaGreatDoor
def gateV(nodes:List Nd)(out:List Int)(i:Int):Int:=evalL (nodes.getD i.toNat default).kind ((nodes.getD i.toNat default).ins.map fun x=>cln (lat out x))
def stl(nodes:List Nd)(out:List Int)(i:Int):List Int:=if cmb (nodes.getD i.toNat default).kind=true then out.set i.toNat (gateV nodes out i) else out
def Net(nodes:List Nd)(base out:List Int):Prop:=out.length=nodes.length∧∀i:Nat,i<nodes.length→lat out i=if cmb (nodes.getD i default).kind=true then gateV nodes out i else lat base i
structure StI(nodes:List Nd)(base P out:List Int):Prop where
 len:out.length=nodes.length
 off:∀i:Nat,i<nodes.length→cmb (nodes.getD i default).kind=false→lat out i=lat base i
 on:∀y∈P,cmb (nodes.getD y.toNat default).kind=true→lat out y=gateV nodes out y
end Go.Proofs.YtemjmfpcopfdbaaGreatDoor
namespace Go.Proofs.YtemjmfpcopfdbaaGreatDoor.Lg
def LeL(l m:List Int):Prop:=l.length=m.length∧∀j,j<l.length→blw (l.getD j 0) (m.getD j 0)=true
end Go.Proofs.YtemjmfpcopfdbaaGreatDoor.Lg
namespace Go.Proofs.YtemjmfpcopfdbaaGreatDoor
def asg(out l vs:List Int):List Int:=(l.zip vs).foldl (fun o p=>o.set p.1.toNat p.2) out
theorem asg_len(out l vs:List Int):(asg out l vs).length=out.length:=by
 unfold asg
 induction l.zip vs generalizing out with
 |nil=>rfl
 |cons p t ih=>rw[List.foldl_cons,ih,List.length_set]
def baseV(n:Nat)(ins sts pin pst:List Int):List Int:=asg (asg (List.replicate n 0) ins pin) sts pst
open Go.RowKit
def VRow(w:World)(g:Nat)(l:List Int):Prop:=w.ownsRow g 77 1 (.slice (some ⟨g,0,none⟩) l.length l.length) l.length (l.map (Value.int .u8))
section
variable {w w':World} {g:Nat} {l:List Int}
theorem VRow.cell(h:VRow w g l){j:Nat}(hj:j<l.length):w.cell? ⟨g,j,none⟩=some (.int .u8 (lat l j)):=by
 have:=World.ownsRow.cellAt h j (by omega)
 rw[this,List.getElem?_map,List.getElem?_eq_getElem hj]
 simp[lat,List.getD_eq_getElem?_getD,List.getElem?_eq_getElem hj]
theorem VRow.frozen(h:VRow w g l)(j:Nat):w.frozen? ⟨g,j,none⟩=false:=World.ownsRow.frozenAt h j
theorem VRow.set(h:VRow w g l)(j:Nat)(x:Int):VRow (w.setCell ⟨g,j,none⟩ (.int .u8 x)) g (l.set j x):=by
 have:=(World.ownsRow.stored h j (.int .u8 x)).1
 unfold VRow
 rw[List.length_set,List.map_set]
 exact this
theorem VRow.lt(h:VRow w g l):g<w.heap.size:=(World.ownsRow.lt h g rfl).2
theorem VRow.len(h:VRow w g l):l.length≤maxLen:=by
 rcases h.2 with⟨e,-⟩| ⟨g',cap,cur,e,hb',hg',hle,hmx,hs',ht'⟩
 ·cases e
 ·simp only[Value.slice.injEq]at e;omega
theorem VRow.kept{row:Option Nat}(h:VRow w g l)(hg:w.grownBy w' row)(hne:some g≠row):VRow w' g l:=World.ownsRow.kept h hg (.inr hne)
theorem VRow.below(h:VRow w g l)(hb:Below w.heap.size w w'):VRow w' g l:=
 h.kept (row:=none) ⟨hb.os,hb.tape,hb.output,hb.size,fun i hi _=>hb.block i hi⟩ (by simp)
theorem VRow.ks(h:VRow w g l):Ks w w.heap.size (.slice (some ⟨g,0,none⟩) l.length l.length) l:=
 ⟨_,g,0,_,rfl,fun _=>rfl,Nat.le_refl _,h.len,fun k hk=>⟨h.lt,by
  have:=h.cell hk
  unfold lat at this
  rw[Int.toNat_natCast]at this
  show w.cell? ⟨g,0+k*1,none⟩=_
  rw[Nat.zero_add,Nat.mul_one];exact this⟩⟩
theorem VRow.of{B n:Nat}(h:w.ownsRow B 77 1 (.slice (some ⟨g,0,none⟩) n n) n (l.map (Value.int .u8)))(hl:l.length=n):VRow w g l:=by
 subst hl
 unfold VRow
 refine⟨h.1,?_⟩
 rcases h.2 with⟨e,-⟩| ⟨g',cap,cur,e,hb',hg',hle,hmx,hs',ht'⟩
 ·cases e
 ·simp only[Value.slice.injEq,Option.some.injEq,Addr.mk.injEq]at e
  obtain⟨⟨rfl,-⟩,-,rfl⟩:=e
  exact .inr ⟨g,_,cur,rfl,Nat.le_refl _,hg',hle,hmx,hs',ht'⟩
end
theorem info_val:(Tryz.prog.info? 77).map (fun i=>(i.zero,i.size,i.bytes))=some (some (.int .u8 0),1,1):=by kernel_rfl
theorem ret_v{a b:Int}(h:a=b):Ending.returned (.int .u8 a)=.returned (.int .u8 b):=by rw[h]
def valA(l:List Int)(x:Int):Int:=if x<0∨(l.length:Int)≤x then 2 else cln (lat l x)
theorem Ks.vs{w:World}{B:Nat}{v:Value}{l:List Int}(h:Ks w B v l):Lg.Vs w B v l:=by
 obtain⟨A,b,o,c,rfl,hA,hle,hm,hc⟩:=h.opens
 by_cases h0:0<l.length
 ·obtain rfl:=hA h0
  exact⟨b,o,c,.inl rfl,hm,hc⟩
 ·obtain rfl:l=[]:=List.eq_nil_of_length_eq_zero (by omega)
  exact⟨b,o,c,.inr ⟨rfl,A,rfl⟩,hm,hc⟩
def Nv(w:World)(q:Nat)(l:List Int):Prop:=∃A c,w.cell? ⟨q,0,none⟩=some (.slice A l.length c)∧Ks w w.heap.size (.slice A l.length c) l
theorem Nv.below{w w':World}{q:Nat}{l:List Int}(h:Nv w q l)(hb:Below w.heap.size w w'):Nv w' q l:=by
 obtain⟨A,c,h1,h2⟩:=h
 exact⟨A,c,(hb.cell (p:=⟨q,0,none⟩) (cell_lt h1)).trans h1,Arr.keep stays_u8 h2 hb.size fun _ hp=>hb.cell hp⟩
set_option maxHeartbeats 1000000 in
theorem val1_any(l:List Int)(x:Int)(q:Nat)(w:World)(hq:Nv w q l):
 Calls Tryz.prog 110 #[.int .i64 x,.pointer (some ⟨q,0,none⟩)] w fun e w'=>e=.returned (.int .u8 (valA l x))∧w=w':=by
 obtain⟨y,HY⟩:=named (valA l x)
 rw[←HY.out]
 obtain⟨A,c,h1,h2⟩:=hq
 obtain⟨A',b,o,c',e,hA,hle,hm,hc⟩:=h2.opens
 simp only[Value.slice.injEq,true_and]at e
 obtain⟨rfl,rfl⟩:=e
 have HA:=Lib.hid hA
 have HC:=Lib.hid hc
 unfold maxLen at hm
 clear hA hc h2
 obtain⟨n,HN⟩:=named l.length
 rw[←HN.out]at h1 hm HA HC hle
 have HCL:=Lib.hid (fun w=>Lg.clean_any (lat l x) w)
 obtain⟨z,HZ⟩:=named (lat l x)
 obtain⟨cz,HCZ⟩:=named (cln (lat l x))
 rw[←HCZ.out,←HZ.out]at HCL
 have HYD:Hid (y=if x<0∨(n:Int)≤x then 2 else cz):=Lib.hid (by rw[HY.out,HN.out,HCZ.out];rfl)
 by_cases h0:x<0
 ·have hy:y=2:=by rw[HYD.out];exact if_pos (.inl h0)
  have HYF:=Lib.hid hy
  clear hy
  go_enter Tryz.func110,Tryz.ntmps110
  go_wp2
  go_ret
  exact⟨ret_v HYF.out.symm,rfl⟩
 by_cases hn:(n:Int)≤x
 ·have hy:y=2:=by rw[HYD.out];exact if_pos (.inr hn)
  have HYF:=Lib.hid hy
  clear hy
  go_enter Tryz.func110,Tryz.ntmps110
  go_wp2
  go_ret
  exact⟨ret_v HYF.out.symm,rfl⟩
 have hy:y=cz:=by rw[HYD.out];exact if_neg (by omega)
 have HYF:=Lib.hid hy
 obtain⟨k,rfl⟩:=Int.eq_ofNat_of_zero_le (show 0≤x by omega)
 have hk:k<n:=by omega
 obtain rfl:=HA.out (by omega)
 have hcell:=(HC.out k hk).2
 have HZ2:Hid (l.getD k 0=z):=Lib.hid (by rw[HZ.out];unfold lat;rw[Int.toNat_natCast])
 rw[HZ2.out]at hcell
 clear hy
 go_enter Tryz.func110,Tryz.ntmps110
 go_wp2_with (go_at_call 94;(with_reducible refine (HCL.out _).mono ?_);rintro e w' ⟨rfl,rfl⟩)
 go_ret
 exact⟨ret_v HYF.out.symm,rfl⟩
end Go.Proofs.YtemjmfpcopfdbaaGreatDoor
