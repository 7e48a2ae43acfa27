/- The texts LgEvalw Rlp Smp LgMono Smq Smv. -/
import Derived.Test.YtemjmfpcopfdbaaGreatDoorM06
import Derived.Test.YtemjmfpcopfdbaaGreatDoorM05
import Derived.Test.YtemjmfpcopfdbaaGreatDoorM01
import Derived.Test.YtemjmfpcopfdbaaGreatDoorM04
namespace Go.Proofs.YtemjmfpcopfdbaaGreatDoor.Lg
open Go.RowKit
section
variable {w0:World} {B:Nat} {s:Value} {l:List Int} (hB:B≤w0.heap.size) (hs:Vs w0 B s l) (w:World) (hb:Below w0.heap.size w0 w)
include hB hs hb
theorem and_rel:Calls Tryz.prog 114 #[s] w fun e w'=>e=.returned (.int .u8 (andL l))∧Below w0.heap.size w0 w':=
 rel (and_any (Nat.le_trans hB hb.size) (hs.below (hb.mono hB))) hb
theorem or_rel:Calls Tryz.prog 115 #[s] w fun e w'=>e=.returned (.int .u8 (orL l))∧Below w0.heap.size w0 w':=
 rel (or_any (Nat.le_trans hB hb.size) (hs.below (hb.mono hB))) hb
theorem xor_rel:Calls Tryz.prog 116 #[s] w fun e w'=>e=.returned (.int .u8 (xorL l))∧Below w0.heap.size w0 w':=
 rel (xor_any (Nat.le_trans hB hb.size) (hs.below (hb.mono hB))) hb
theorem bus_rel:Calls Tryz.prog 119 #[s] w fun e w'=>e=.returned (.int .u8 (busL l))∧Below w0.heap.size w0 w':=
 rel (bus_any (Nat.le_trans hB hb.size) (hs.below (hb.mono hB))) hb
end
set_option maxHeartbeats 400000 in
theorem eval_less{w:World}{s:Value}(n c:Nat)(A:Option Addr)(hs:s=.slice A n c)(k:Int)(h0:0≤k)(ht:Tabs w)(h:(n:Int)<lo k):
 Calls Tryz.prog 71 #[.int .u8 k,s] w fun e w'=>e=.returned (.int .u8 2)∧Below w.heap.size w w':=by
 subst hs
 have HT:=Lib.hid ht
 have H0:=Lib.hid h0
 clear ht h0
 go_enter Tryz.func71,Tryz.ntmps71
 go_wp2_with (go_at_call 111;refine (fanin_any _ H0.out _ HT.out).mono ?_;rintro e w' ⟨rfl,m,rfl⟩;have hb:Below w.heap.size w (w.drewN m):=below_drewN (Below.refl _ _) m)
 go_ret
 exact⟨rfl,by assumption⟩
set_option maxHeartbeats 400000 in
theorem eval_more{w:World}{s:Value}(n c:Nat)(A:Option Addr)(hs:s=.slice A n c)(k:Int)(h0:0≤k)(ht:Tabs w)(hl:¬(n:Int)<lo k)(h:hi k<(n:Int)):
 Calls Tryz.prog 71 #[.int .u8 k,s] w fun e w'=>e=.returned (.int .u8 2)∧Below w.heap.size w w':=by
 subst hs
 have HT:=Lib.hid ht
 have H0:=Lib.hid h0
 clear ht h0
 go_enter Tryz.func71,Tryz.ntmps71
 go_wp2_with (go_at_call 111;refine (fanin_any _ H0.out _ HT.out).mono ?_;rintro e w' ⟨rfl,m,rfl⟩;have hb:Below w.heap.size w (w.drewN m):=below_drewN (Below.refl _ _) m)
 go_ret
 exact⟨rfl,by assumption⟩
set_option maxHeartbeats 1000000 in
theorem eval_k0{w:World}{B:Nat}{s:Value}{l:List Int}(n c:Nat)(A:Option Addr)(hsv:s=.slice A n c)(hB:B≤w.heap.size)(hs:Vs w B s l)(ht:Tabs w)(hl:0≤n)(hh:n≤0):
 Calls Tryz.prog 71 #[.int .u8 0,s] w fun e w'=>e=.returned (.int .u8 (funL 0 l))∧Below w.heap.size w w':=by
 obtain⟨y,HY⟩:=named (funL 0 l)
 rw[←HY.out]
 have el:lo 0=0:=by decide
 have eh:hi 0=0:=by decide
 have HT:=Lib.hid ht
 have H0:Hid (0≤(0:Int)):=Lib.hid (by decide)
 have HS:=Lib.hid hs
 have HB:=Lib.hid hB
 clear ht hs hB
 subst hsv
 go_enter Tryz.func71,Tryz.ntmps71
 go_wp2_with (first
  |(go_at_call 111;refine (fanin_any _ H0.out _ HT.out).mono ?_;rintro e w' ⟨rfl,m,rfl⟩;have hb:Below w.heap.size w (w.drewN m):=below_drewN (Below.refl _ _) m)
  |(go_at_call 114;refine (and_rel HB.out HS.out _ (by assumption)).mono ?_;rintro e w' ⟨rfl,hb⟩)
  |(go_at_call 115;refine (or_rel HB.out HS.out _ (by assumption)).mono ?_;rintro e w' ⟨rfl,hb⟩)
  |(go_at_call 116;refine (xor_rel HB.out HS.out _ (by assumption)).mono ?_;rintro e w' ⟨rfl,hb⟩)
  |(go_at_call 119;refine (bus_rel HB.out HS.out _ (by assumption)).mono ?_;rintro e w' ⟨rfl,hb⟩)
  |(go_at_call 113;refine (not_any _ _).mono ?_;rintro e w' ⟨rfl,rfl⟩)
  |(go_at_call 112;refine (read_any _ _).mono ?_;rintro e w' ⟨rfl,rfl⟩))
 go_ret
 exact⟨ret_int (by rw[HY.out];rfl),by first|assumption|exact below_drewN (Below.refl _ _) _⟩
set_option maxHeartbeats 1000000 in
theorem eval_k1{w:World}{B:Nat}{s:Value}{l:List Int}(n c:Nat)(A:Option Addr)(hsv:s=.slice A n c)(hB:B≤w.heap.size)(hs:Vs w B s l)(ht:Tabs w)(hl:0≤n)(hh:n≤0):
 Calls Tryz.prog 71 #[.int .u8 1,s] w fun e w'=>e=.returned (.int .u8 (funL 1 l))∧Below w.heap.size w w':=by
 obtain⟨y,HY⟩:=named (funL 1 l)
 rw[←HY.out]
 have el:lo 1=0:=by decide
 have eh:hi 1=0:=by decide
 have HT:=Lib.hid ht
 have H0:Hid (0≤(1:Int)):=Lib.hid (by decide)
 have HS:=Lib.hid hs
 have HB:=Lib.hid hB
 clear ht hs hB
 subst hsv
 go_enter Tryz.func71,Tryz.ntmps71
 go_wp2_with (first
  |(go_at_call 111;refine (fanin_any _ H0.out _ HT.out).mono ?_;rintro e w' ⟨rfl,m,rfl⟩;have hb:Below w.heap.size w (w.drewN m):=below_drewN (Below.refl _ _) m)
  |(go_at_call 114;refine (and_rel HB.out HS.out _ (by assumption)).mono ?_;rintro e w' ⟨rfl,hb⟩)
  |(go_at_call 115;refine (or_rel HB.out HS.out _ (by assumption)).mono ?_;rintro e w' ⟨rfl,hb⟩)
  |(go_at_call 116;refine (xor_rel HB.out HS.out _ (by assumption)).mono ?_;rintro e w' ⟨rfl,hb⟩)
  |(go_at_call 119;refine (bus_rel HB.out HS.out _ (by assumption)).mono ?_;rintro e w' ⟨rfl,hb⟩)
  |(go_at_call 113;refine (not_any _ _).mono ?_;rintro e w' ⟨rfl,rfl⟩)
  |(go_at_call 112;refine (read_any _ _).mono ?_;rintro e w' ⟨rfl,rfl⟩))
 go_ret
 exact⟨ret_int (by rw[HY.out];rfl),by first|assumption|exact below_drewN (Below.refl _ _) _⟩
set_option maxHeartbeats 1000000 in
theorem eval_k2{w:World}{B:Nat}{s:Value}{l:List Int}(n c:Nat)(A:Option Addr)(hsv:s=.slice A n c)(hB:B≤w.heap.size)(hs:Vs w B s l)(ht:Tabs w)(hl:0≤n)(hh:n≤0):
 Calls Tryz.prog 71 #[.int .u8 2,s] w fun e w'=>e=.returned (.int .u8 (funL 2 l))∧Below w.heap.size w w':=by
 obtain⟨y,HY⟩:=named (funL 2 l)
 rw[←HY.out]
 have el:lo 2=0:=by decide
 have eh:hi 2=0:=by decide
 have HT:=Lib.hid ht
 have H0:Hid (0≤(2:Int)):=Lib.hid (by decide)
 have HS:=Lib.hid hs
 have HB:=Lib.hid hB
 clear ht hs hB
 subst hsv
 go_enter Tryz.func71,Tryz.ntmps71
 go_wp2_with (first
  |(go_at_call 111;refine (fanin_any _ H0.out _ HT.out).mono ?_;rintro e w' ⟨rfl,m,rfl⟩;have hb:Below w.heap.size w (w.drewN m):=below_drewN (Below.refl _ _) m)
  |(go_at_call 114;refine (and_rel HB.out HS.out _ (by assumption)).mono ?_;rintro e w' ⟨rfl,hb⟩)
  |(go_at_call 115;refine (or_rel HB.out HS.out _ (by assumption)).mono ?_;rintro e w' ⟨rfl,hb⟩)
  |(go_at_call 116;refine (xor_rel HB.out HS.out _ (by assumption)).mono ?_;rintro e w' ⟨rfl,hb⟩)
  |(go_at_call 119;refine (bus_rel HB.out HS.out _ (by assumption)).mono ?_;rintro e w' ⟨rfl,hb⟩)
  |(go_at_call 113;refine (not_any _ _).mono ?_;rintro e w' ⟨rfl,rfl⟩)
  |(go_at_call 112;refine (read_any _ _).mono ?_;rintro e w' ⟨rfl,rfl⟩))
 go_ret
 exact⟨ret_int (by rw[HY.out];rfl),by first|assumption|exact below_drewN (Below.refl _ _) _⟩
set_option maxHeartbeats 1000000 in
theorem eval_k3{w:World}{B:Nat}{s:Value}{l:List Int}(n c:Nat)(A:Option Addr)(hsv:s=.slice A n c)(hB:B≤w.heap.size)(hs:Vs w B s l)(ht:Tabs w)(hl:1≤n)(hh:n≤1)(b o:Nat)(hA:A=some ⟨b,o,none⟩)(hc0:w.cell? ⟨b,o+0,none⟩=some (.int .u8 (l.getD 0 0))):
 Calls Tryz.prog 71 #[.int .u8 3,s] w fun e w'=>e=.returned (.int .u8 (funL 3 l))∧Below w.heap.size w w':=by
 obtain⟨y,HY⟩:=named (funL 3 l)
 rw[←HY.out]
 have el:lo 3=1:=by decide
 have eh:hi 3=1:=by decide
 have HT:=Lib.hid ht
 have H0:Hid (0≤(3:Int)):=Lib.hid (by decide)
 have HS:=Lib.hid hs
 have HB:=Lib.hid hB
 clear ht hs hB
 subst hsv
 subst hA
 obtain⟨x0,hx0⟩:∃x,x=l.getD 0 0:=⟨_,rfl⟩
 rw[←hx0]at hc0
 have HX0:=Lib.hid hx0
 clear hx0
 simp only[Nat.add_zero]at hc0
 go_enter Tryz.func71,Tryz.ntmps71
 go_wp2_with (first
  |(go_at_call 111;refine (fanin_any _ H0.out _ HT.out).mono ?_;rintro e w' ⟨rfl,m,rfl⟩;have hb:Below w.heap.size w (w.drewN m):=below_drewN (Below.refl _ _) m)
  |(go_at_call 114;refine (and_rel HB.out HS.out _ (by assumption)).mono ?_;rintro e w' ⟨rfl,hb⟩)
  |(go_at_call 115;refine (or_rel HB.out HS.out _ (by assumption)).mono ?_;rintro e w' ⟨rfl,hb⟩)
  |(go_at_call 116;refine (xor_rel HB.out HS.out _ (by assumption)).mono ?_;rintro e w' ⟨rfl,hb⟩)
  |(go_at_call 119;refine (bus_rel HB.out HS.out _ (by assumption)).mono ?_;rintro e w' ⟨rfl,hb⟩)
  |(go_at_call 113;refine (not_any _ _).mono ?_;rintro e w' ⟨rfl,rfl⟩)
  |(go_at_call 112;refine (read_any _ _).mono ?_;rintro e w' ⟨rfl,rfl⟩))
 go_ret
 exact⟨ret_int (by rw[HY.out,HX0.out];rfl),by first|assumption|exact below_drewN (Below.refl _ _) _⟩
set_option maxHeartbeats 1000000 in
theorem eval_k4{w:World}{B:Nat}{s:Value}{l:List Int}(n c:Nat)(A:Option Addr)(hsv:s=.slice A n c)(hB:B≤w.heap.size)(hs:Vs w B s l)(ht:Tabs w)(hl:1≤n)(hh:n≤1)(b o:Nat)(hA:A=some ⟨b,o,none⟩)(hc0:w.cell? ⟨b,o+0,none⟩=some (.int .u8 (l.getD 0 0))):
 Calls Tryz.prog 71 #[.int .u8 4,s] w fun e w'=>e=.returned (.int .u8 (funL 4 l))∧Below w.heap.size w w':=by
 obtain⟨y,HY⟩:=named (funL 4 l)
 rw[←HY.out]
 have el:lo 4=1:=by decide
 have eh:hi 4=1:=by decide
 have HT:=Lib.hid ht
 have H0:Hid (0≤(4:Int)):=Lib.hid (by decide)
 have HS:=Lib.hid hs
 have HB:=Lib.hid hB
 clear ht hs hB
 subst hsv
 subst hA
 obtain⟨x0,hx0⟩:∃x,x=l.getD 0 0:=⟨_,rfl⟩
 rw[←hx0]at hc0
 have HX0:=Lib.hid hx0
 clear hx0
 simp only[Nat.add_zero]at hc0
 go_enter Tryz.func71,Tryz.ntmps71
 go_wp2_with (first
  |(go_at_call 111;refine (fanin_any _ H0.out _ HT.out).mono ?_;rintro e w' ⟨rfl,m,rfl⟩;have hb:Below w.heap.size w (w.drewN m):=below_drewN (Below.refl _ _) m)
  |(go_at_call 114;refine (and_rel HB.out HS.out _ (by assumption)).mono ?_;rintro e w' ⟨rfl,hb⟩)
  |(go_at_call 115;refine (or_rel HB.out HS.out _ (by assumption)).mono ?_;rintro e w' ⟨rfl,hb⟩)
  |(go_at_call 116;refine (xor_rel HB.out HS.out _ (by assumption)).mono ?_;rintro e w' ⟨rfl,hb⟩)
  |(go_at_call 119;refine (bus_rel HB.out HS.out _ (by assumption)).mono ?_;rintro e w' ⟨rfl,hb⟩)
  |(go_at_call 113;refine (not_any _ _).mono ?_;rintro e w' ⟨rfl,rfl⟩)
  |(go_at_call 112;refine (read_any _ _).mono ?_;rintro e w' ⟨rfl,rfl⟩))
 go_ret
 exact⟨ret_int (by rw[HY.out,HX0.out];rfl),by first|assumption|exact below_drewN (Below.refl _ _) _⟩
set_option maxHeartbeats 1000000 in
theorem eval_k5{w:World}{B:Nat}{s:Value}{l:List Int}(n c:Nat)(A:Option Addr)(hsv:s=.slice A n c)(hB:B≤w.heap.size)(hs:Vs w B s l)(ht:Tabs w)(hl:2≤n)(hh:n≤16):
 Calls Tryz.prog 71 #[.int .u8 5,s] w fun e w'=>e=.returned (.int .u8 (funL 5 l))∧Below w.heap.size w w':=by
 obtain⟨y,HY⟩:=named (funL 5 l)
 rw[←HY.out]
 have el:lo 5=2:=by decide
 have eh:hi 5=16:=by decide
 have HT:=Lib.hid ht
 have H0:Hid (0≤(5:Int)):=Lib.hid (by decide)
 have HS:=Lib.hid hs
 have HB:=Lib.hid hB
 clear ht hs hB
 subst hsv
 go_enter Tryz.func71,Tryz.ntmps71
 go_wp2_with (first
  |(go_at_call 111;refine (fanin_any _ H0.out _ HT.out).mono ?_;rintro e w' ⟨rfl,m,rfl⟩;have hb:Below w.heap.size w (w.drewN m):=below_drewN (Below.refl _ _) m)
  |(go_at_call 114;refine (and_rel HB.out HS.out _ (by assumption)).mono ?_;rintro e w' ⟨rfl,hb⟩)
  |(go_at_call 115;refine (or_rel HB.out HS.out _ (by assumption)).mono ?_;rintro e w' ⟨rfl,hb⟩)
  |(go_at_call 116;refine (xor_rel HB.out HS.out _ (by assumption)).mono ?_;rintro e w' ⟨rfl,hb⟩)
  |(go_at_call 119;refine (bus_rel HB.out HS.out _ (by assumption)).mono ?_;rintro e w' ⟨rfl,hb⟩)
  |(go_at_call 113;refine (not_any _ _).mono ?_;rintro e w' ⟨rfl,rfl⟩)
  |(go_at_call 112;refine (read_any _ _).mono ?_;rintro e w' ⟨rfl,rfl⟩))
 go_ret
 exact⟨ret_int (by rw[HY.out];rfl),by first|assumption|exact below_drewN (Below.refl _ _) _⟩
set_option maxHeartbeats 1000000 in
theorem eval_k6{w:World}{B:Nat}{s:Value}{l:List Int}(n c:Nat)(A:Option Addr)(hsv:s=.slice A n c)(hB:B≤w.heap.size)(hs:Vs w B s l)(ht:Tabs w)(hl:2≤n)(hh:n≤16):
 Calls Tryz.prog 71 #[.int .u8 6,s] w fun e w'=>e=.returned (.int .u8 (funL 6 l))∧Below w.heap.size w w':=by
 obtain⟨y,HY⟩:=named (funL 6 l)
 rw[←HY.out]
 have el:lo 6=2:=by decide
 have eh:hi 6=16:=by decide
 have HT:=Lib.hid ht
 have H0:Hid (0≤(6:Int)):=Lib.hid (by decide)
 have HS:=Lib.hid hs
 have HB:=Lib.hid hB
 clear ht hs hB
 subst hsv
 go_enter Tryz.func71,Tryz.ntmps71
 go_wp2_with (first
  |(go_at_call 111;refine (fanin_any _ H0.out _ HT.out).mono ?_;rintro e w' ⟨rfl,m,rfl⟩;have hb:Below w.heap.size w (w.drewN m):=below_drewN (Below.refl _ _) m)
  |(go_at_call 114;refine (and_rel HB.out HS.out _ (by assumption)).mono ?_;rintro e w' ⟨rfl,hb⟩)
  |(go_at_call 115;refine (or_rel HB.out HS.out _ (by assumption)).mono ?_;rintro e w' ⟨rfl,hb⟩)
  |(go_at_call 116;refine (xor_rel HB.out HS.out _ (by assumption)).mono ?_;rintro e w' ⟨rfl,hb⟩)
  |(go_at_call 119;refine (bus_rel HB.out HS.out _ (by assumption)).mono ?_;rintro e w' ⟨rfl,hb⟩)
  |(go_at_call 113;refine (not_any _ _).mono ?_;rintro e w' ⟨rfl,rfl⟩)
  |(go_at_call 112;refine (read_any _ _).mono ?_;rintro e w' ⟨rfl,rfl⟩))
 go_ret
 exact⟨ret_int (by rw[HY.out];rfl),by first|assumption|exact below_drewN (Below.refl _ _) _⟩
set_option maxHeartbeats 1000000 in
theorem eval_k7{w:World}{B:Nat}{s:Value}{l:List Int}(n c:Nat)(A:Option Addr)(hsv:s=.slice A n c)(hB:B≤w.heap.size)(hs:Vs w B s l)(ht:Tabs w)(hl:2≤n)(hh:n≤16):
 Calls Tryz.prog 71 #[.int .u8 7,s] w fun e w'=>e=.returned (.int .u8 (funL 7 l))∧Below w.heap.size w w':=by
 obtain⟨y,HY⟩:=named (funL 7 l)
 rw[←HY.out]
 have el:lo 7=2:=by decide
 have eh:hi 7=16:=by decide
 have HT:=Lib.hid ht
 have H0:Hid (0≤(7:Int)):=Lib.hid (by decide)
 have HS:=Lib.hid hs
 have HB:=Lib.hid hB
 clear ht hs hB
 subst hsv
 go_enter Tryz.func71,Tryz.ntmps71
 go_wp2_with (first
  |(go_at_call 111;refine (fanin_any _ H0.out _ HT.out).mono ?_;rintro e w' ⟨rfl,m,rfl⟩;have hb:Below w.heap.size w (w.drewN m):=below_drewN (Below.refl _ _) m)
  |(go_at_call 114;refine (and_rel HB.out HS.out _ (by assumption)).mono ?_;rintro e w' ⟨rfl,hb⟩)
  |(go_at_call 115;refine (or_rel HB.out HS.out _ (by assumption)).mono ?_;rintro e w' ⟨rfl,hb⟩)
  |(go_at_call 116;refine (xor_rel HB.out HS.out _ (by assumption)).mono ?_;rintro e w' ⟨rfl,hb⟩)
  |(go_at_call 119;refine (bus_rel HB.out HS.out _ (by assumption)).mono ?_;rintro e w' ⟨rfl,hb⟩)
  |(go_at_call 113;refine (not_any _ _).mono ?_;rintro e w' ⟨rfl,rfl⟩)
  |(go_at_call 112;refine (read_any _ _).mono ?_;rintro e w' ⟨rfl,rfl⟩))
 go_ret
 exact⟨ret_int (by rw[HY.out];rfl),by first|assumption|exact below_drewN (Below.refl _ _) _⟩
set_option maxHeartbeats 1000000 in
theorem eval_k8{w:World}{B:Nat}{s:Value}{l:List Int}(n c:Nat)(A:Option Addr)(hsv:s=.slice A n c)(hB:B≤w.heap.size)(hs:Vs w B s l)(ht:Tabs w)(hl:2≤n)(hh:n≤16):
 Calls Tryz.prog 71 #[.int .u8 8,s] w fun e w'=>e=.returned (.int .u8 (funL 8 l))∧Below w.heap.size w w':=by
 obtain⟨y,HY⟩:=named (funL 8 l)
 rw[←HY.out]
 have el:lo 8=2:=by decide
 have eh:hi 8=16:=by decide
 have HT:=Lib.hid ht
 have H0:Hid (0≤(8:Int)):=Lib.hid (by decide)
 have HS:=Lib.hid hs
 have HB:=Lib.hid hB
 clear ht hs hB
 subst hsv
 go_enter Tryz.func71,Tryz.ntmps71
 go_wp2_with (first
  |(go_at_call 111;refine (fanin_any _ H0.out _ HT.out).mono ?_;rintro e w' ⟨rfl,m,rfl⟩;have hb:Below w.heap.size w (w.drewN m):=below_drewN (Below.refl _ _) m)
  |(go_at_call 114;refine (and_rel HB.out HS.out _ (by assumption)).mono ?_;rintro e w' ⟨rfl,hb⟩)
  |(go_at_call 115;refine (or_rel HB.out HS.out _ (by assumption)).mono ?_;rintro e w' ⟨rfl,hb⟩)
  |(go_at_call 116;refine (xor_rel HB.out HS.out _ (by assumption)).mono ?_;rintro e w' ⟨rfl,hb⟩)
  |(go_at_call 119;refine (bus_rel HB.out HS.out _ (by assumption)).mono ?_;rintro e w' ⟨rfl,hb⟩)
  |(go_at_call 113;refine (not_any _ _).mono ?_;rintro e w' ⟨rfl,rfl⟩)
  |(go_at_call 112;refine (read_any _ _).mono ?_;rintro e w' ⟨rfl,rfl⟩))
 go_ret
 exact⟨ret_int (by rw[HY.out];rfl),by first|assumption|exact below_drewN (Below.refl _ _) _⟩
set_option maxHeartbeats 1000000 in
theorem eval_k9{w:World}{B:Nat}{s:Value}{l:List Int}(n c:Nat)(A:Option Addr)(hsv:s=.slice A n c)(hB:B≤w.heap.size)(hs:Vs w B s l)(ht:Tabs w)(hl:2≤n)(hh:n≤16):
 Calls Tryz.prog 71 #[.int .u8 9,s] w fun e w'=>e=.returned (.int .u8 (funL 9 l))∧Below w.heap.size w w':=by
 obtain⟨y,HY⟩:=named (funL 9 l)
 rw[←HY.out]
 have el:lo 9=2:=by decide
 have eh:hi 9=16:=by decide
 have HT:=Lib.hid ht
 have H0:Hid (0≤(9:Int)):=Lib.hid (by decide)
 have HS:=Lib.hid hs
 have HB:=Lib.hid hB
 clear ht hs hB
 subst hsv
 go_enter Tryz.func71,Tryz.ntmps71
 go_wp2_with (first
  |(go_at_call 111;refine (fanin_any _ H0.out _ HT.out).mono ?_;rintro e w' ⟨rfl,m,rfl⟩;have hb:Below w.heap.size w (w.drewN m):=below_drewN (Below.refl _ _) m)
  |(go_at_call 114;refine (and_rel HB.out HS.out _ (by assumption)).mono ?_;rintro e w' ⟨rfl,hb⟩)
  |(go_at_call 115;refine (or_rel HB.out HS.out _ (by assumption)).mono ?_;rintro e w' ⟨rfl,hb⟩)
  |(go_at_call 116;refine (xor_rel HB.out HS.out _ (by assumption)).mono ?_;rintro e w' ⟨rfl,hb⟩)
  |(go_at_call 119;refine (bus_rel HB.out HS.out _ (by assumption)).mono ?_;rintro e w' ⟨rfl,hb⟩)
  |(go_at_call 113;refine (not_any _ _).mono ?_;rintro e w' ⟨rfl,rfl⟩)
  |(go_at_call 112;refine (read_any _ _).mono ?_;rintro e w' ⟨rfl,rfl⟩))
 go_ret
 exact⟨ret_int (by rw[HY.out];rfl),by first|assumption|exact below_drewN (Below.refl _ _) _⟩
set_option maxHeartbeats 1000000 in
theorem eval_k10{w:World}{B:Nat}{s:Value}{l:List Int}(n c:Nat)(A:Option Addr)(hsv:s=.slice A n c)(hB:B≤w.heap.size)(hs:Vs w B s l)(ht:Tabs w)(hl:2≤n)(hh:n≤16):
 Calls Tryz.prog 71 #[.int .u8 10,s] w fun e w'=>e=.returned (.int .u8 (funL 10 l))∧Below w.heap.size w w':=by
 obtain⟨y,HY⟩:=named (funL 10 l)
 rw[←HY.out]
 have el:lo 10=2:=by decide
 have eh:hi 10=16:=by decide
 have HT:=Lib.hid ht
 have H0:Hid (0≤(10:Int)):=Lib.hid (by decide)
 have HS:=Lib.hid hs
 have HB:=Lib.hid hB
 clear ht hs hB
 subst hsv
 go_enter Tryz.func71,Tryz.ntmps71
 go_wp2_with (first
  |(go_at_call 111;refine (fanin_any _ H0.out _ HT.out).mono ?_;rintro e w' ⟨rfl,m,rfl⟩;have hb:Below w.heap.size w (w.drewN m):=below_drewN (Below.refl _ _) m)
  |(go_at_call 114;refine (and_rel HB.out HS.out _ (by assumption)).mono ?_;rintro e w' ⟨rfl,hb⟩)
  |(go_at_call 115;refine (or_rel HB.out HS.out _ (by assumption)).mono ?_;rintro e w' ⟨rfl,hb⟩)
  |(go_at_call 116;refine (xor_rel HB.out HS.out _ (by assumption)).mono ?_;rintro e w' ⟨rfl,hb⟩)
  |(go_at_call 119;refine (bus_rel HB.out HS.out _ (by assumption)).mono ?_;rintro e w' ⟨rfl,hb⟩)
  |(go_at_call 113;refine (not_any _ _).mono ?_;rintro e w' ⟨rfl,rfl⟩)
  |(go_at_call 112;refine (read_any _ _).mono ?_;rintro e w' ⟨rfl,rfl⟩))
 go_ret
 exact⟨ret_int (by rw[HY.out];rfl),by first|assumption|exact below_drewN (Below.refl _ _) _⟩
set_option maxHeartbeats 1000000 in
theorem eval_k11{w:World}{B:Nat}{s:Value}{l:List Int}(n c:Nat)(A:Option Addr)(hsv:s=.slice A n c)(hB:B≤w.heap.size)(hs:Vs w B s l)(ht:Tabs w)(hl:3≤n)(hh:n≤3)(b o:Nat)(hA:A=some ⟨b,o,none⟩)(hc0:w.cell? ⟨b,o+0,none⟩=some (.int .u8 (l.getD 0 0)))(hc1:w.cell? ⟨b,o+1,none⟩=some (.int .u8 (l.getD 1 0)))(hc2:w.cell? ⟨b,o+2,none⟩=some (.int .u8 (l.getD 2 0))):
 Calls Tryz.prog 71 #[.int .u8 11,s] w fun e w'=>e=.returned (.int .u8 (funL 11 l))∧Below w.heap.size w w':=by
 obtain⟨y,HY⟩:=named (funL 11 l)
 rw[←HY.out]
 have el:lo 11=3:=by decide
 have eh:hi 11=3:=by decide
 have HT:=Lib.hid ht
 have H0:Hid (0≤(11:Int)):=Lib.hid (by decide)
 have HS:=Lib.hid hs
 have HB:=Lib.hid hB
 clear ht hs hB
 subst hsv
 obtain rfl:n=3:=by omega
 subst hA
 obtain⟨x0,hx0⟩:∃x,x=l.getD 0 0:=⟨_,rfl⟩
 rw[←hx0]at hc0
 have HX0:=Lib.hid hx0
 clear hx0
 obtain⟨x1,hx1⟩:∃x,x=l.getD 1 0:=⟨_,rfl⟩
 rw[←hx1]at hc1
 have HX1:=Lib.hid hx1
 clear hx1
 obtain⟨x2,hx2⟩:∃x,x=l.getD 2 0:=⟨_,rfl⟩
 rw[←hx2]at hc2
 have HX2:=Lib.hid hx2
 clear hx2
 simp only[Nat.add_zero]at hc0
 go_enter Tryz.func71,Tryz.ntmps71
 go_wp2_with (go_at_call 111;refine (fanin_any _ H0.out _ HT.out).mono ?_;rintro e w1 ⟨rfl,hm⟩;have hb:Below w.heap.size w w1:=(by obtain⟨m,rfl⟩:=hm;exact below_drewN (Below.refl _ _) m);have hd0:w1.cell? ⟨b,o,none⟩=some (.int .u8 x0):=(by obtain⟨m,rfl⟩:=hm;exact hc0);have hd1:w1.cell? ⟨b,o+1,none⟩=some (.int .u8 x1):=(by obtain⟨m,rfl⟩:=hm;exact hc1);have hd2:w1.cell? ⟨b,o+2,none⟩=some (.int .u8 x2):=(by obtain⟨m,rfl⟩:=hm;exact hc2);clear hm)
 go_quiet ((go_at_call 117;exact Calls.quiet_of_same ((mux_any _ _ _ _).mono fun _ _ h=>⟨h.1,h.2.symm⟩)))
 go_wp2
 go_ret
 exact⟨ret_int (by rw[HY.out,HX0.out,HX1.out,HX2.out];rfl),below_drewN hb _⟩
set_option maxHeartbeats 1000000 in
theorem eval_k12{w:World}{B:Nat}{s:Value}{l:List Int}(n c:Nat)(A:Option Addr)(hsv:s=.slice A n c)(hB:B≤w.heap.size)(hs:Vs w B s l)(ht:Tabs w)(hl:2≤n)(hh:n≤2)(b o:Nat)(hA:A=some ⟨b,o,none⟩)(hc0:w.cell? ⟨b,o+0,none⟩=some (.int .u8 (l.getD 0 0)))(hc1:w.cell? ⟨b,o+1,none⟩=some (.int .u8 (l.getD 1 0))):
 Calls Tryz.prog 71 #[.int .u8 12,s] w fun e w'=>e=.returned (.int .u8 (funL 12 l))∧Below w.heap.size w w':=by
 obtain⟨y,HY⟩:=named (funL 12 l)
 rw[←HY.out]
 have el:lo 12=2:=by decide
 have eh:hi 12=2:=by decide
 have HT:=Lib.hid ht
 have H0:Hid (0≤(12:Int)):=Lib.hid (by decide)
 have HS:=Lib.hid hs
 have HB:=Lib.hid hB
 clear ht hs hB
 subst hsv
 obtain rfl:n=2:=by omega
 subst hA
 obtain⟨x0,hx0⟩:∃x,x=l.getD 0 0:=⟨_,rfl⟩
 rw[←hx0]at hc0
 have HX0:=Lib.hid hx0
 clear hx0
 obtain⟨x1,hx1⟩:∃x,x=l.getD 1 0:=⟨_,rfl⟩
 rw[←hx1]at hc1
 have HX1:=Lib.hid hx1
 clear hx1
 simp only[Nat.add_zero]at hc0
 go_enter Tryz.func71,Tryz.ntmps71
 go_wp2_with (go_at_call 111;refine (fanin_any _ H0.out _ HT.out).mono ?_;rintro e w1 ⟨rfl,hm⟩;have hb:Below w.heap.size w w1:=(by obtain⟨m,rfl⟩:=hm;exact below_drewN (Below.refl _ _) m);have hd0:w1.cell? ⟨b,o,none⟩=some (.int .u8 x0):=(by obtain⟨m,rfl⟩:=hm;exact hc0);have hd1:w1.cell? ⟨b,o+1,none⟩=some (.int .u8 x1):=(by obtain⟨m,rfl⟩:=hm;exact hc1);clear hm)
 go_quiet ((go_at_call 118;exact Calls.quiet_of_same ((tri_any _ _ _).mono fun _ _ h=>⟨h.1,h.2.symm⟩)))
 go_wp2
 go_ret
 exact⟨ret_int (by rw[HY.out,HX0.out,HX1.out];rfl),below_drewN hb _⟩
set_option maxHeartbeats 1000000 in
theorem eval_k13{w:World}{B:Nat}{s:Value}{l:List Int}(n c:Nat)(A:Option Addr)(hsv:s=.slice A n c)(hB:B≤w.heap.size)(hs:Vs w B s l)(ht:Tabs w)(hl:1≤n)(hh:n≤16):
 Calls Tryz.prog 71 #[.int .u8 13,s] w fun e w'=>e=.returned (.int .u8 (funL 13 l))∧Below w.heap.size w w':=by
 obtain⟨y,HY⟩:=named (funL 13 l)
 rw[←HY.out]
 have el:lo 13=1:=by decide
 have eh:hi 13=16:=by decide
 have HT:=Lib.hid ht
 have H0:Hid (0≤(13:Int)):=Lib.hid (by decide)
 have HS:=Lib.hid hs
 have HB:=Lib.hid hB
 clear ht hs hB
 subst hsv
 go_enter Tryz.func71,Tryz.ntmps71
 go_wp2_with (first
  |(go_at_call 111;refine (fanin_any _ H0.out _ HT.out).mono ?_;rintro e w' ⟨rfl,m,rfl⟩;have hb:Below w.heap.size w (w.drewN m):=below_drewN (Below.refl _ _) m)
  |(go_at_call 114;refine (and_rel HB.out HS.out _ (by assumption)).mono ?_;rintro e w' ⟨rfl,hb⟩)
  |(go_at_call 115;refine (or_rel HB.out HS.out _ (by assumption)).mono ?_;rintro e w' ⟨rfl,hb⟩)
  |(go_at_call 116;refine (xor_rel HB.out HS.out _ (by assumption)).mono ?_;rintro e w' ⟨rfl,hb⟩)
  |(go_at_call 119;refine (bus_rel HB.out HS.out _ (by assumption)).mono ?_;rintro e w' ⟨rfl,hb⟩)
  |(go_at_call 113;refine (not_any _ _).mono ?_;rintro e w' ⟨rfl,rfl⟩)
  |(go_at_call 112;refine (read_any _ _).mono ?_;rintro e w' ⟨rfl,rfl⟩))
 go_ret
 exact⟨ret_int (by rw[HY.out];rfl),by first|assumption|exact below_drewN (Below.refl _ _) _⟩
set_option maxHeartbeats 1000000 in
theorem eval_k14{w:World}{B:Nat}{s:Value}{l:List Int}(n c:Nat)(A:Option Addr)(hsv:s=.slice A n c)(hB:B≤w.heap.size)(hs:Vs w B s l)(ht:Tabs w)(hl:1≤n)(hh:n≤1):
 Calls Tryz.prog 71 #[.int .u8 14,s] w fun e w'=>e=.returned (.int .u8 (funL 14 l))∧Below w.heap.size w w':=by
 obtain⟨y,HY⟩:=named (funL 14 l)
 rw[←HY.out]
 have el:lo 14=1:=by decide
 have eh:hi 14=1:=by decide
 have HT:=Lib.hid ht
 have H0:Hid (0≤(14:Int)):=Lib.hid (by decide)
 have HS:=Lib.hid hs
 have HB:=Lib.hid hB
 clear ht hs hB
 subst hsv
 go_enter Tryz.func71,Tryz.ntmps71
 go_wp2_with (first
  |(go_at_call 111;refine (fanin_any _ H0.out _ HT.out).mono ?_;rintro e w' ⟨rfl,m,rfl⟩;have hb:Below w.heap.size w (w.drewN m):=below_drewN (Below.refl _ _) m)
  |(go_at_call 114;refine (and_rel HB.out HS.out _ (by assumption)).mono ?_;rintro e w' ⟨rfl,hb⟩)
  |(go_at_call 115;refine (or_rel HB.out HS.out _ (by assumption)).mono ?_;rintro e w' ⟨rfl,hb⟩)
  |(go_at_call 116;refine (xor_rel HB.out HS.out _ (by assumption)).mono ?_;rintro e w' ⟨rfl,hb⟩)
  |(go_at_call 119;refine (bus_rel HB.out HS.out _ (by assumption)).mono ?_;rintro e w' ⟨rfl,hb⟩)
  |(go_at_call 113;refine (not_any _ _).mono ?_;rintro e w' ⟨rfl,rfl⟩)
  |(go_at_call 112;refine (read_any _ _).mono ?_;rintro e w' ⟨rfl,rfl⟩))
 go_ret
 exact⟨ret_int (by rw[HY.out];rfl),by first|assumption|exact below_drewN (Below.refl _ _) _⟩
set_option maxHeartbeats 1000000 in
theorem eval_k15{w:World}{B:Nat}{s:Value}{l:List Int}(n c:Nat)(A:Option Addr)(hsv:s=.slice A n c)(hB:B≤w.heap.size)(hs:Vs w B s l)(ht:Tabs w)(hl:0≤n)(hh:n≤0):
 Calls Tryz.prog 71 #[.int .u8 15,s] w fun e w'=>e=.returned (.int .u8 (funL 15 l))∧Below w.heap.size w w':=by
 obtain⟨y,HY⟩:=named (funL 15 l)
 rw[←HY.out]
 have el:lo 15=0:=by decide
 have eh:hi 15=0:=by decide
 have HT:=Lib.hid ht
 have H0:Hid (0≤(15:Int)):=Lib.hid (by decide)
 have HS:=Lib.hid hs
 have HB:=Lib.hid hB
 clear ht hs hB
 subst hsv
 go_enter Tryz.func71,Tryz.ntmps71
 go_wp2_with (first
  |(go_at_call 111;refine (fanin_any _ H0.out _ HT.out).mono ?_;rintro e w' ⟨rfl,m,rfl⟩;have hb:Below w.heap.size w (w.drewN m):=below_drewN (Below.refl _ _) m)
  |(go_at_call 114;refine (and_rel HB.out HS.out _ (by assumption)).mono ?_;rintro e w' ⟨rfl,hb⟩)
  |(go_at_call 115;refine (or_rel HB.out HS.out _ (by assumption)).mono ?_;rintro e w' ⟨rfl,hb⟩)
  |(go_at_call 116;refine (xor_rel HB.out HS.out _ (by assumption)).mono ?_;rintro e w' ⟨rfl,hb⟩)
  |(go_at_call 119;refine (bus_rel HB.out HS.out _ (by assumption)).mono ?_;rintro e w' ⟨rfl,hb⟩)
  |(go_at_call 113;refine (not_any _ _).mono ?_;rintro e w' ⟨rfl,rfl⟩)
  |(go_at_call 112;refine (read_any _ _).mono ?_;rintro e w' ⟨rfl,rfl⟩))
 go_ret
 exact⟨ret_int (by rw[HY.out];rfl),by first|assumption|exact below_drewN (Below.refl _ _) _⟩
theorem eval_any{w:World}{B:Nat}{s:Value}{l:List Int}(k:Int)(h0:0≤k)(hB:B≤w.heap.size)(hs:Vs w B s l)(ht:Tabs w):
 Calls Tryz.prog 71 #[.int .u8 k,s] w fun e w'=>e=.returned (.int .u8 (evalL k l))∧Below w.heap.size w w':=by
 obtain⟨b,o,c,hv,hm,hc⟩:=id hs
 have key:∀A,(0<l.length→A=some ⟨b,o,none⟩)→s=.slice A l.length c→Calls Tryz.prog 71 #[.int .u8 k,s] w fun e w'=>e=.returned (.int .u8 (evalL k l))∧Below w.heap.size w w':=by
  intro A hA hsv
  by_cases hl:(l.length:Int)<lo k
  ·rw[evalL,if_pos (.inl hl)];exact eval_less _ _ _ hsv k h0 ht hl
  ·by_cases hh:hi k<(l.length:Int)
   ·rw[evalL,if_pos (.inr hh)];exact eval_more _ _ _ hsv k h0 ht hl hh
   ·rw[evalL,if_neg (by omega)]
    have hk:¬15<k:=by intro hk;simp[hi,hk]at hh;omega
    rcases kinds h0 hk with rfl|rfl|rfl|rfl|rfl|rfl|rfl|rfl|rfl|rfl|rfl|rfl|rfl|rfl|rfl|rfl
    ·have hl':0≤l.length:=by rw[show lo 0=0 by decide]at hl;omega
     have hh':l.length≤0:=by rw[show hi 0=0 by decide]at hh;omega
     exact eval_k0 _ _ _ hsv hB hs ht hl' hh'
    ·have hl':0≤l.length:=by rw[show lo 1=0 by decide]at hl;omega
     have hh':l.length≤0:=by rw[show hi 1=0 by decide]at hh;omega
     exact eval_k1 _ _ _ hsv hB hs ht hl' hh'
    ·have hl':0≤l.length:=by rw[show lo 2=0 by decide]at hl;omega
     have hh':l.length≤0:=by rw[show hi 2=0 by decide]at hh;omega
     exact eval_k2 _ _ _ hsv hB hs ht hl' hh'
    ·have hl':1≤l.length:=by rw[show lo 3=1 by decide]at hl;omega
     have hh':l.length≤1:=by rw[show hi 3=1 by decide]at hh;omega
     exact eval_k3 _ _ _ hsv hB hs ht hl' hh' b o (hA (by omega)) (hc 0 (by omega)).2
    ·have hl':1≤l.length:=by rw[show lo 4=1 by decide]at hl;omega
     have hh':l.length≤1:=by rw[show hi 4=1 by decide]at hh;omega
     exact eval_k4 _ _ _ hsv hB hs ht hl' hh' b o (hA (by omega)) (hc 0 (by omega)).2
    ·have hl':2≤l.length:=by rw[show lo 5=2 by decide]at hl;omega
     have hh':l.length≤16:=by rw[show hi 5=16 by decide]at hh;omega
     exact eval_k5 _ _ _ hsv hB hs ht hl' hh'
    ·have hl':2≤l.length:=by rw[show lo 6=2 by decide]at hl;omega
     have hh':l.length≤16:=by rw[show hi 6=16 by decide]at hh;omega
     exact eval_k6 _ _ _ hsv hB hs ht hl' hh'
    ·have hl':2≤l.length:=by rw[show lo 7=2 by decide]at hl;omega
     have hh':l.length≤16:=by rw[show hi 7=16 by decide]at hh;omega
     exact eval_k7 _ _ _ hsv hB hs ht hl' hh'
    ·have hl':2≤l.length:=by rw[show lo 8=2 by decide]at hl;omega
     have hh':l.length≤16:=by rw[show hi 8=16 by decide]at hh;omega
     exact eval_k8 _ _ _ hsv hB hs ht hl' hh'
    ·have hl':2≤l.length:=by rw[show lo 9=2 by decide]at hl;omega
     have hh':l.length≤16:=by rw[show hi 9=16 by decide]at hh;omega
     exact eval_k9 _ _ _ hsv hB hs ht hl' hh'
    ·have hl':2≤l.length:=by rw[show lo 10=2 by decide]at hl;omega
     have hh':l.length≤16:=by rw[show hi 10=16 by decide]at hh;omega
     exact eval_k10 _ _ _ hsv hB hs ht hl' hh'
    ·have hl':3≤l.length:=by rw[show lo 11=3 by decide]at hl;omega
     have hh':l.length≤3:=by rw[show hi 11=3 by decide]at hh;omega
     exact eval_k11 _ _ _ hsv hB hs ht hl' hh' b o (hA (by omega)) (hc 0 (by omega)).2 (hc 1 (by omega)).2 (hc 2 (by omega)).2
    ·have hl':2≤l.length:=by rw[show lo 12=2 by decide]at hl;omega
     have hh':l.length≤2:=by rw[show hi 12=2 by decide]at hh;omega
     exact eval_k12 _ _ _ hsv hB hs ht hl' hh' b o (hA (by omega)) (hc 0 (by omega)).2 (hc 1 (by omega)).2
    ·have hl':1≤l.length:=by rw[show lo 13=1 by decide]at hl;omega
     have hh':l.length≤16:=by rw[show hi 13=16 by decide]at hh;omega
     exact eval_k13 _ _ _ hsv hB hs ht hl' hh'
    ·have hl':1≤l.length:=by rw[show lo 14=1 by decide]at hl;omega
     have hh':l.length≤1:=by rw[show hi 14=1 by decide]at hh;omega
     exact eval_k14 _ _ _ hsv hB hs ht hl' hh'
    ·have hl':0≤l.length:=by rw[show lo 15=0 by decide]at hl;omega
     have hh':l.length≤0:=by rw[show hi 15=0 by decide]at hh;omega
     exact eval_k15 _ _ _ hsv hB hs ht hl' hh'
 rcases hv with rfl| ⟨rfl,A,rfl⟩
 ·exact key _ (fun _=>rfl) rfl
 ·exact key _ (fun h=>absurd h (by simp)) rfl
end Go.Proofs.YtemjmfpcopfdbaaGreatDoor.Lg
namespace Go.Proofs.YtemjmfpcopfdbaaGreatDoor
theorem lat_nat(lv:List Int){x:Int}(h:0≤x):lat lv ((x.toNat:Nat):Int)=lat lv x:=by rw[Int.toNat_of_nonneg h]
def rpin(i:Nat)(s:List Int×Bool)(x:Int):List Int×Bool:=if lat s.1 i<lat s.1 x+1 then (s.1.set i (lat s.1 x+1),true) else s
structure RI(nodes:List Nd)(prev:List Int)(k:Nat)(l:List Int)(s:List Int×Bool):Prop where
 len:s.1.length=nodes.length
 pos:∀i:Nat,0≤lat s.1 i
 up:∀i:Nat,lat prev i≤lat s.1 i
 same:s.2=false→s.1=prev
 le:∀L,Lvl nodes L→∀i:Nat,i<nodes.length→lat s.1 i≤lat L i
 old:∀j:Nat,j<k→∀x∈dep nodes j,lat prev x+1≤lat s.1 j
 now:∀x∈l,lat prev x+1≤lat s.1 k
 chg:s.2=true→∃i:Nat,i<nodes.length∧lat prev i<lat s.1 i
theorem RI.pin{nodes:List Nd}{prev:List Int}{k:Nat}{l:List Int}{s:List Int×Bool}(hw:Wf nodes)(h:RI nodes prev k l s)(hk:k<nodes.length){x:Int}(hx:x∈dep nodes k):RI nodes prev k (l++[x]) (rpin k s x):=by
 have hb:=hw.dep (i:=(k:Int)) (by simpa using hk) hx
 have hup:=h.up x.toNat
 rw[lat_nat _ hb.1,lat_nat _ hb.1]at hup
 unfold rpin
 by_cases hr:lat s.1 k<lat s.1 x+1
 ·rw[if_pos hr]
  have hset:∀i:Nat,lat (s.1.set k (lat s.1 x+1)) i=if i=k then lat s.1 x+1 else lat s.1 i:=fun i=>by
   rw[lat_set _ (by omega)]
   by_cases e:i=k
   ·rw[if_pos e,if_pos ⟨by omega,by rw[h.len];exact hk⟩]
   ·rw[if_neg e,if_neg (fun h'=>e (by omega))]
  have hge:∀i:Nat,lat s.1 i≤lat (s.1.set k (lat s.1 x+1)) i:=fun i=>by
   rw[hset]
   split
   ·rename_i e;subst e;omega
   ·exact Int.le_refl _
  refine⟨by simp[h.len],fun i=>Int.le_trans (h.pos i) (hge i),fun i=>Int.le_trans (h.up i) (hge i),(fun e=>by cases e),fun L hL i hi=>?_,fun j hj y hy=>Int.le_trans (h.old j hj y hy) (hge j),fun y hy=>?_,fun _=>⟨k,hk,?_⟩⟩
  ·show lat (s.1.set k (lat s.1 x+1)) i≤_
   rw[hset]
   split
   ·rename_i e;subst e
    have h1:=h.le L hL x.toNat (by omega)
    rw[lat_nat _ hb.1,lat_nat _ hb.1]at h1
    have h2:=hL.lt (i:=(i:Int)) (by omega) (by omega) hx
    omega
   ·exact h.le L hL i hi
  ·show _≤lat (s.1.set k (lat s.1 x+1)) k
   rcases List.mem_append.1 hy with hy|hy
   ·exact Int.le_trans (h.now y hy) (hge k)
   ·obtain rfl:=List.mem_singleton.1 hy
    rw[hset,if_pos rfl];omega
  · show _ < lat (s.1.set k (lat s.1 x + 1)) k
    rw[hset,if_pos rfl]
    have:=h.up k
    omega
 ·rw[if_neg hr]
  refine⟨h.len,h.pos,h.up,h.same,h.le,h.old,fun y hy=>?_,h.chg⟩
  rcases List.mem_append.1 hy with hy|hy
  ·exact h.now y hy
  ·obtain rfl:=List.mem_singleton.1 hy
   omega
theorem RI.next{nodes:List Nd}{prev:List Int}{k:Nat}{s:List Int×Bool}(h:RI nodes prev k (dep nodes k) s):RI nodes prev (k+1) [] s:=
 ⟨h.len,h.pos,h.up,h.same,h.le,fun j hj x hx=>by
  by_cases e:j=k
  ·subst e;exact h.now x hx
  ·exact h.old j (by omega) x hx,fun x hx=>absurd hx (List.not_mem_nil),h.chg⟩
structure RO(nodes:List Nd)(k:Nat)(out:List Int):Prop where
 len:out.length=nodes.length
 pos:∀i:Nat,0≤lat out i
 le:∀L,Lvl nodes L→∀i:Nat,i<nodes.length→lat out i≤lat L i
 eq:∀L,Lvl nodes L→∀i:Nat,i<nodes.length→lat L i≤(k:Int)→lat out i=lat L i
theorem RO.start(nodes:List Nd):RO nodes 0 (List.replicate nodes.length 0):=by
 have hz:∀i:Nat,lat (List.replicate nodes.length 0) i=0:=fun i=>by
  unfold lat;rw[List.getD_eq_getElem?_getD,List.getElem?_replicate];split<;>rfl
 refine⟨by simp,fun i=>(by rw[hz];exact Int.le_refl _),fun L hL i hi=>(by rw[hz];exact hL.nonneg hi),fun L hL i hi h=>?_⟩
 have:=hL.nonneg hi
 rw[hz];omega
theorem RO.begin{nodes:List Nd}{k:Nat}{out:List Int}(h:RO nodes k out):RI nodes out 0 [] (out,false):=
 ⟨h.len,h.pos,fun _=>Int.le_refl _,fun _=>rfl,h.le,fun j hj=>absurd hj (by omega),fun x hx=>absurd hx (List.not_mem_nil),fun e=>by cases e⟩
theorem levf_ge{L:List Int}{l:List Int}{b:Int}(h0:0≤b)(h:∀x∈l,lat L x+1≤b):levf L l≤b:=by
 rcases levf_is L l with e| ⟨x,hx,e⟩
 ·omega
 ·have:=h x hx;omega
theorem RO.next{nodes:List Nd}{k:Nat}{out:List Int}{s:List Int×Bool}(hw:Wf nodes)(h:RO nodes k out)(hs:RI nodes out nodes.length [] s):RO nodes (k+1) s.1:=by
 refine⟨hs.len,hs.pos,hs.le,fun L hL i hi hlt=>?_⟩
 have h1:=hs.le L hL i hi
 have h2:lat L i=levf out (dep nodes i):=by
  rw[hL.2 i hi]
  refine levf_congr fun x hx=>?_
  have hb:=hw.dep (i:=(i:Int)) (by simpa using hi) hx
  have h3:=hL.lt (i:=(i:Int)) (by omega) (by omega) hx
  have h4:=h.eq L hL x.toNat (by omega) (by rw[lat_nat _ hb.1];omega)
  rw[lat_nat _ hb.1,lat_nat _ hb.1]at h4
  exact h4.symm
 have h3:=levf_ge (hs.pos i) (hs.old i hi)
 omega
theorem countP_lt{α:Type}{p q:α→Bool} :∀ {l:List α},(∀x∈l,p x=true→q x=true)→(∃x∈l,q x=true∧p x=false)→l.countP p+1≤l.countP q
 |[],_,⟨x,hx,_⟩=>absurd hx (List.not_mem_nil)
 |y::l,h,⟨x,hx,hq,hp⟩=>by
  have hmono:l.countP p≤l.countP q:=List.countP_mono_left fun x hx h'=>h x (List.mem_cons_of_mem _ hx) h'
  rw[List.countP_cons,List.countP_cons]
  rcases List.mem_cons.1 hx with rfl|hx
  ·rw[hq,hp];simp;omega
  ·have ih:=countP_lt (l:=l) (fun x hx=>h x (List.mem_cons_of_mem _ hx)) ⟨x,hx,hq,hp⟩
   by_cases hy:p y=true
   ·have:=h y List.mem_cons_self hy
    rw[hy,this];simp;omega
   ·have:p y=false:=by simpa using hy
    rw[this]
    simp;split<;>omega
theorem Lvl.down{nodes:List Nd}{L:List Int}(hw:Wf nodes)(h:Lvl nodes L):∀(m:Nat) (i:Nat),i<nodes.length→lat L i=(m:Int)→∀m':Nat,m'≤m→∃j:Nat,j<nodes.length∧lat L j=(m':Int)
 |0,i,hi,e,m',hm=>⟨i,hi,by rw[e];omega⟩
 |m+1,i,hi,e,m',hm=>by
  by_cases hmm:m'=m+1
  ·subst hmm;exact⟨i,hi,e⟩
  ·rcases levf_is L (dep nodes i) with e0| ⟨x,hx,e0⟩
   ·rw[←h.2 i hi]at e0;omega
   ·rw[←h.2 i hi]at e0
    have hb:=hw.dep (i:=(i:Int)) (by simpa using hi) hx
    exact Lvl.down hw h m x.toNat (by omega) (by rw[lat_nat _ hb.1];omega) m' (by omega)
theorem Lvl.bound{nodes:List Nd}{L:List Int}(hw:Wf nodes)(h:Lvl nodes L){i:Nat}(hi:i<nodes.length):lat L i<(nodes.length:Int):=by
 have h0:=h.nonneg hi
 have key:∀m:Nat,(m:Int)≤lat L i→m+1≤(List.range nodes.length).countP fun(j:Nat)=>decide (lat L j≤(m:Int)):=by
  intro m
  induction m with
  |zero=>
   intro hm
   obtain⟨j,hj,e⟩:=h.down hw (lat L i).toNat i hi (by omega) 0 (Nat.zero_le _)
   have:0<(List.range nodes.length).countP fun(j:Nat)=>decide (lat L j≤((0:Nat):Int)):=List.countP_pos_iff.2 ⟨j,List.mem_range.2 hj,by simp[e]⟩
   omega
  |succ m ih=>
   intro hm
   have h1:=ih (by omega)
   obtain⟨j,hj,e⟩:=h.down hw (lat L i).toNat i hi (by omega) (m+1) (by omega)
   have:=countP_lt (l:=List.range nodes.length) (p:=fun(j:Nat)=>decide (lat L j≤(m:Int))) (q:=fun(j:Nat)=>decide (lat L j≤((m+1:Nat):Int)))
    (fun x _ hx=>by simp at hx ⊢;omega) ⟨j,List.mem_range.2 hj,by simp[e],by simp[e];omega⟩
   omega
 have:=key (lat L i).toNat (by omega)
 have h2:(List.range nodes.length).countP (fun(j:Nat)=>decide (lat L j≤(((lat L i).toNat:Nat):Int)))≤(List.range nodes.length).length:=List.countP_le_length
 rw[List.length_range]at h2
 omega
theorem RO.more{nodes:List Nd}{k:Nat}{out:List Int}{s:List Int×Bool}(hw:Wf nodes)(h:RO nodes k out)(hs:RI nodes out nodes.length [] s)(ht:s.2=true)(hL:∃L,Lvl nodes L):k+1≤nodes.length:=by
 obtain⟨L,hL⟩:=hL
 refine Classical.byContradiction fun hk=>?_
 obtain⟨i,hi,hlt⟩:=hs.chg ht
 have h1:=hL.bound hw hi
 have h2:=h.eq L hL i hi (by omega)
 have h3:=hs.le L hL i hi
 omega
def lvIt(nodes:List Nd):Nat→List Int
 |0=>List.replicate nodes.length 0
 |m+1=>(List.range nodes.length).map fun(i:Nat)=>levf (lvIt nodes m) (dep nodes i)
theorem lvIt_at(nodes:List Nd)(m:Nat){i:Nat}(hi:i<nodes.length):lat (lvIt nodes (m+1)) i=levf (lvIt nodes m) (dep nodes i):=by
 simp[lvIt,lat,List.getD_eq_getElem?_getD,hi]
theorem lvl_of_rank{nodes:List Nd}(hw:Wf nodes)(f:List Int)(h0:∀i:Nat,0≤lat f i)(h:∀j:Nat,j<nodes.length→∀x∈dep nodes j,lat f x+1≤lat f j):∃L,Lvl nodes L:=by
 have hst:∀m:Nat,∀i:Nat,i<nodes.length→lat f i<(m:Int)→lat (lvIt nodes m) i=lat (lvIt nodes (m+1)) i:=by
  intro m
  induction m with
  |zero=>intro i hi hlt;have:=h0 i;omega
  |succ m ih=>
   intro i hi hlt
   rw[lvIt_at _ _ hi,lvIt_at _ _ hi]
   refine levf_congr fun x hx=>?_
   have hb:=hw.dep (i:=(i:Int)) (by simpa using hi) hx
   have h1:=h i hi x hx
   have h2:=ih x.toNat (by omega) (by rw[lat_nat _ hb.1];omega)
   rw[lat_nat _ hb.1,lat_nat _ hb.1]at h2
   exact h2
 have hM:∀l:List Int,∃M:Nat,∀x∈l,x<(M:Int):=by
  intro l
  induction l with
  |nil=>exact⟨0,fun x hx=>absurd hx (List.not_mem_nil)⟩
  |cons a l ih=>
   obtain⟨M,hM⟩:=ih
   refine⟨max M (a.toNat+1),fun x hx=>?_⟩
   rcases List.mem_cons.1 hx with rfl|hx
   ·omega
   ·have:=hM x hx;omega
 obtain⟨M,hM⟩:=hM f
 have hb:∀i:Nat,lat f i<((M+1:Nat):Int):=fun i=>by
  unfold lat
  by_cases hl:(i:Int).toNat<f.length
  ·rw[List.getD_eq_getElem?_getD,List.getElem?_eq_getElem hl]
   have h1:=hM _ (List.getElem_mem hl)
   show f[(i:Int).toNat]<_
   omega
  ·rw[List.getD_eq_getElem?_getD,List.getElem?_eq_none (by omega)]
   show (0:Int)<_
   omega
 refine⟨lvIt nodes (M+1),by simp[lvIt],fun i hi=>?_⟩
 rw[hst (M+1) i hi (hb i),lvIt_at _ _ hi]
theorem RO.stop{nodes:List Nd}{out:List Int}{s:List Int×Bool}(hw:Wf nodes)(hs:RI nodes out nodes.length [] s)(hf:s.2=false):Lvl nodes s.1:=by
 have e:=hs.same hf
 have hold:∀j:Nat,j<nodes.length→∀x∈dep nodes j,lat s.1 x+1≤lat s.1 j:=by rw[e];have:=hs.old;rw[e]at this;exact this
 obtain⟨L,hL⟩:=lvl_of_rank hw s.1 hs.pos hold
 have key:∀(m:Nat) (i:Nat),i<nodes.length→lat L i<(m:Int)→lat s.1 i=lat L i:=by
  intro m
  induction m with
  |zero=>intro i hi hlt;have:=hL.nonneg hi;omega
  |succ m ih=>
   intro i hi hlt
   have h1:=hs.le L hL i hi
   have h2:lat L i=levf s.1 (dep nodes i):=by
    rw[hL.2 i hi]
    refine levf_congr fun x hx=>?_
    have hb:=hw.dep (i:=(i:Int)) (by simpa using hi) hx
    have h3:=hL.lt (i:=(i:Int)) (by omega) (by omega) hx
    have h4:=ih x.toNat (by omega) (by rw[lat_nat _ hb.1];omega)
    rw[lat_nat _ hb.1,lat_nat _ hb.1]at h4
    exact h4.symm
   have h3:=levf_ge (hs.pos i) (hold i hi)
   omega
 have e2:s.1=L:=ext_lat (by rw[hs.len,hL.1]) fun i hi=>key (lat L i+1).toNat i (by rw[hs.len]at hi;exact hi) (by have:=hL.nonneg (i:=i) (by rw[hs.len]at hi;exact hi);omega)
 rw[e2];exact hL
/-! The order. -/
theorem sorted_sub{α:Type}{r:α→α→Prop}(ht:∀a b c,r a b→r b c→r a c)(hi:∀a,¬r a a):∀ {l2 l1:List α},l1.Pairwise r→l2.Pairwise r→(∀x∈l1,x∈l2)→l1.Sublist l2
 |[],l1,_,_,h=>by
  cases l1 with
  |nil=>exact List.Sublist.slnil
  |cons a l=>exact absurd (h a List.mem_cons_self) (List.not_mem_nil)
 |b::l2,[],_,_,_=>List.nil_sublist _
 |b::l2,a::t,h1,h2,h=>by
  obtain⟨h11,h12⟩:=List.pairwise_cons.1 h1
  obtain⟨h21,h22⟩:=List.pairwise_cons.1 h2
  rcases List.mem_cons.1 (h a List.mem_cons_self) with e|hm
  ·subst e
   refine List.Sublist.cons_cons _ (sorted_sub ht hi h12 h22 fun x hx=>?_)
   rcases List.mem_cons.1 (h x (List.mem_cons_of_mem _ hx)) with e|hm
   ·subst e;exact absurd (h11 _ hx) (hi _)
   ·exact hm
  ·refine List.Sublist.cons _ (sorted_sub ht hi h1 h22 fun x hx=>?_)
   rcases List.mem_cons.1 hx with e|hx'
   ·rw[e];exact hm
   ·rcases List.mem_cons.1 (h x hx) with e|hm'
    ·subst e;exact absurd (ht _ _ _ (h21 a hm) (h11 _ hx')) (hi _)
    ·exact hm'
theorem Lex.trans{L:List Int}{a b c:Int}(h:Lex L a b)(h':Lex L b c):Lex L a c:=by
 rcases h with h| ⟨h,h2⟩ <;>rcases h' with h'| ⟨h',h3⟩
 ·exact .inl (by omega)
 ·exact .inl (by omega)
 ·exact .inl (by omega)
 ·exact .inr ⟨by omega,by omega⟩
theorem Lex.irr{L:List Int}(a:Int):¬Lex L a a:=fun h=>by
 rcases h with h| ⟨-,h⟩ <;>omega
def atLv(L:List Int)(v k:Nat):List Int:=((List.range k).filter fun(i:Nat)=>lat L i==(v:Int)).map fun(i:Nat)=>(i:Int)
def ordTo(L:List Int)(n:Nat):Nat→List Int
 |0=>[]
 |m+1=>ordTo L n m++atLv L m n
theorem atLv_succ(L:List Int)(v k:Nat):atLv L v (k+1)=if (lat L k==(v:Int))=true then atLv L v k++[(k:Int)] else atLv L v k:=by
 unfold atLv
 rw[List.range_succ,List.filter_append,List.map_append]
 by_cases h:(lat L k==(v:Int))=true
 ·rw[if_pos h];simp[h]
 ·rw[if_neg h];simp[h]
theorem atLv_mem{L:List Int}{v k:Nat}{x:Int} :x∈atLv L v k↔∃i:Nat,x=(i:Int)∧i<k∧lat L i=(v:Int):=by
 unfold atLv
 simp only[List.mem_map,List.mem_filter,List.mem_range,beq_iff_eq]
 constructor
 ·rintro⟨i,⟨h1,h2⟩,rfl⟩;exact⟨i,rfl,h1,h2⟩
 ·rintro⟨i,rfl,h1,h2⟩;exact⟨i,⟨h1,h2⟩,rfl⟩
theorem atLv_len(L:List Int)(v k:Nat):(atLv L v k).length≤k:=by
 unfold atLv
 rw[List.length_map]
 have:=List.length_filter_le (fun(i:Nat)=>lat L i==(v:Int)) (List.range k)
 simpa using this
theorem ordTo_mem{L:List Int}{n:Nat}{x:Int} :∀ {m:Nat},x∈ordTo L n m↔∃i:Nat,x=(i:Int)∧i<n∧0≤lat L i∧lat L i<(m:Int)
 |0=>by
  simp only[ordTo,List.not_mem_nil,false_iff]
  rintro⟨i,_,_,h1,h2⟩;omega
 |m+1=>by
  rw[ordTo,List.mem_append,ordTo_mem (m:=m),atLv_mem]
  constructor
  ·rintro (⟨i,h1,h2,h3,h4⟩| ⟨i,h1,h2,h3⟩)
   ·exact⟨i,h1,h2,h3,by omega⟩
   ·exact⟨i,h1,h2,by omega,by omega⟩
  ·rintro⟨i,h1,h2,h3,h4⟩
   by_cases h:lat L i=(m:Int)
   ·exact .inr ⟨i,h1,h2,h⟩
   ·exact .inl ⟨i,h1,h2,h3,by omega⟩
theorem atLv_sorted(L:List Int)(v:Nat):∀k,(atLv L v k).Pairwise (Lex L)
 |0=>List.Pairwise.nil
 |k+1=>by
  rw[atLv_succ]
  split
  ·rename_i h
   refine List.pairwise_append.2 ⟨atLv_sorted L v k,List.pairwise_singleton _ _,fun a ha b hb=>?_⟩
   obtain rfl:=List.mem_singleton.1 hb
   obtain⟨i,rfl,h1,h2⟩:=atLv_mem.1 ha
   have h3:lat L k=(v:Int):=by simpa using h
   exact .inr ⟨by omega,by omega⟩
  ·exact atLv_sorted L v k
theorem ordTo_sorted(L:List Int)(n:Nat):∀m,(ordTo L n m).Pairwise (Lex L)
 |0=>List.Pairwise.nil
 |m+1=>by
  refine List.pairwise_append.2 ⟨ordTo_sorted L n m,atLv_sorted L m n,fun a ha b hb=>?_⟩
  obtain⟨i,rfl,h1,h2,h3⟩:=ordTo_mem.1 ha
  obtain⟨j,rfl,h4,h5⟩:=atLv_mem.1 hb
  exact .inl (by omega)
theorem sorted_len{L:List Int}{n:Nat}{l:List Int}(h:l.Pairwise (Lex L))(hm:∀x∈l,0≤x∧x<(n:Int)):l.length≤n:=by
 have hn:l.Nodup:=h.imp fun {a b} hab e=>by subst e;exact Lex.irr _ hab
 have key:∀(n:Nat) (l:List Int),l.Nodup→(∀x∈l,0≤x∧x<(n:Int))→l.length≤n:=by
  intro n
  induction n with
  |zero=>
   intro l _ hm
   cases l with
   |nil=>simp
   |cons a l=>have:=hm a List.mem_cons_self;omega
  |succ n ih=>
   intro l hn hm
   have h1:=ih (l.erase (n:Int)) (hn.erase _) fun x hx=>by
    have h2:=(hn.mem_erase_iff).1 hx
    have h3:=hm x h2.2
    exact⟨h3.1,by have:=h2.1;omega⟩
   have h2:=List.length_erase (a:=(n:Int)) (l:=l)
   split at h2<;>omega
 exact key n l hn hm
theorem ordTo_len(L:List Int)(n m:Nat):(ordTo L n m).length≤n:=sorted_len (ordTo_sorted L n m) fun x hx=>by
 obtain⟨i,rfl,h1,-⟩:=ordTo_mem.1 hx
 omega
theorem ord_eq{L:List Int}{n m:Nat}{R:List Int}(hR:SortTo L n n R)(hL:∀i:Nat,i<n→0≤lat L i∧lat L i<(m:Int)):R=ordTo L n m:=by
 obtain⟨S,h1,h2,-,h4,h5⟩:=hR
 have e:R=S:=by rw[h1];simp[rng]
 subst e
 have hs:R.Sublist (ordTo L n m):=sorted_sub (r:=Lex L) (fun _ _ _ h h'=>Lex.trans h h') Lex.irr h4 (ordTo_sorted L n m) fun x hx=>by
  have hb:=h5 x hx
  refine ordTo_mem.2 ⟨x.toNat,by omega,by omega,?_,?_⟩
  ·exact (hL x.toNat (by omega)).1
  ·exact (hL x.toNat (by omega)).2
 exact hs.eq_of_length_le (by rw[h2];exact ordTo_len L n m)
theorem ordTo_full{L:List Int}{n m:Nat}(hL:∀i:Nat,i<n→0≤lat L i∧lat L i<(m:Int)):(ordTo L n m).length=n:=by
 have h1:=ordTo_len L n m
 have h2:(rng 0 n).length≤(ordTo L n m).length:=by
  have hn:(rng 0 n).Nodup:=by
   unfold rng
   refine List.pairwise_map.2 (List.nodup_range.imp ?_)
   intro a b h e;simp only[Nat.zero_add]at e;omega
  have hsub:∀(l l':List Int),l.Nodup→(∀x∈l,x∈l')→l.length≤l'.length:=by
   intro l
   induction l with
   |nil=>intro l' _ _;simp
   |cons a l ih=>
    intro l' hn hm
    have h1:=List.nodup_cons.1 hn
    have h2:=ih (l'.erase a) h1.2 fun x hx=>by
     have hne:x≠a:=fun e=>h1.1 (e▸hx)
     exact (List.mem_erase_of_ne hne).2 (hm x (List.mem_cons_of_mem _ hx))
    have h3:=List.length_erase_of_mem (hm a List.mem_cons_self)
    have h4:=List.length_pos_of_mem (hm a List.mem_cons_self)
    simp only[List.length_cons];omega
  refine hsub _ _ hn fun x hx=>?_
  unfold rng at hx
  obtain⟨i,hi,rfl⟩:=List.mem_map.1 hx
  have hi':=List.mem_range.1 hi
  exact ordTo_mem.2 ⟨i,by omega,by omega,(hL i (by omega)).1,(hL i (by omega)).2⟩
 rw[rng_len]at h2
 omega
def gateV(nodes:List Nd)(out:List Int)(i:Int):Int:=evalL (nodes.getD i.toNat default).kind ((nodes.getD i.toNat default).ins.map fun x=>cln (lat out x))
def stl(nodes:List Nd)(out:List Int)(i:Int):List Int:=if cmb (nodes.getD i.toNat default).kind=true then out.set i.toNat (gateV nodes out i) else out
def Net(nodes:List Nd)(base out:List Int):Prop:=out.length=nodes.length∧∀i:Nat,i<nodes.length→lat out i=if cmb (nodes.getD i default).kind=true then gateV nodes out i else lat base i
structure StI(nodes:List Nd)(base P out:List Int):Prop where
 len:out.length=nodes.length
 off:∀i:Nat,i<nodes.length→cmb (nodes.getD i default).kind=false→lat out i=lat base i
 on:∀y∈P,cmb (nodes.getD y.toNat default).kind=true→lat out y=gateV nodes out y
theorem gateV_congr{nodes:List Nd}{out out':List Int}{i:Int}(h:∀x∈(nodes.getD i.toNat default).ins,lat out x=lat out' x):gateV nodes out i=gateV nodes out' i:=by
 unfold gateV
 congr 1
 exact List.map_congr_left fun x hx=>by rw[h x hx]
theorem dep_ins{nodes:List Nd}{i:Int}(h:cmb (nodes.getD i.toNat default).kind=true):dep nodes i=(nodes.getD i.toNat default).ins:=by
 unfold dep depsOf;rw[if_pos h]
theorem StI.start(nodes:List Nd)(base:List Int)(h:base.length=nodes.length):StI nodes base [] base:=⟨h,fun _ _ _=>rfl,fun y hy=>by cases hy⟩
theorem StI.step{nodes:List Nd}{base P out L:List Int}(hw:Wf nodes)(hL:Lvl nodes L)(h:StI nodes base P out){x:Int}(h0:0≤x)(hx:x<(nodes.length:Int))
 (hP:∀y∈P,0≤y∧y<(nodes.length:Int)∧y≠x∧lat L y≤lat L x):StI nodes base (P++[x]) (stl nodes out x):=by
 unfold stl
 by_cases hc:cmb (nodes.getD x.toNat default).kind=true
 ·rw[if_pos hc]
  have hset:∀y:Int,0≤y→y≠x→lat (out.set x.toNat (gateV nodes out x)) y=lat out y:=fun y hy hyx=>by
   rw[lat_set _ hy,if_neg (fun e=>hyx (by omega))]
  have hx2:lat (out.set x.toNat (gateV nodes out x)) x=gateV nodes out x:=by
   rw[lat_set _ h0,if_pos ⟨by omega,by rw[h.len];omega⟩]
  have hself:∀z∈(nodes.getD x.toNat default).ins,lat (out.set x.toNat (gateV nodes out x)) z=lat out z:=fun z hz=>by
   have hz':z∈dep nodes x:=by rw[dep_ins hc];exact hz
   have:=hw.dep (i:=x) (by omega) hz'
   exact hset z this.1 fun e=>by have:=hL.lt h0 (by omega) hz';rw[e]at this;omega
  refine⟨by rw[List.length_set];exact h.len,fun i hi hn=>?_,fun y hy hyc=>?_⟩
  ·rw[hset i (by omega) (fun e=>by rw[←e]at hc;rw[Int.toNat_natCast]at hc;rw[hc]at hn;cases hn)]
   exact h.off i hi hn
  ·rcases List.mem_append.1 hy with hy|hy
   ·obtain⟨p0,p1,p2,p3⟩:=hP y hy
    rw[hset y p0 p2,h.on y hy hyc]
    refine gateV_congr fun z hz=>?_
    have hz':z∈dep nodes y:=by rw[dep_ins hyc];exact hz
    have q:=hw.dep (i:=y) (by omega) hz'
    exact (hset z q.1 fun e=>by have:=hL.lt p0 (by omega) hz';rw[e]at this;omega).symm
   ·obtain rfl:y=x:=by simpa using hy
    rw[hx2]
    exact (gateV_congr hself).symm
 ·rw[if_neg hc]
  refine⟨h.len,h.off,fun y hy hyc=>?_⟩
  rcases List.mem_append.1 hy with hy|hy
  ·exact h.on y hy hyc
  ·obtain rfl:y=x:=by simpa using hy
   exact absurd hyc hc
theorem StI.stop{nodes:List Nd}{base P out:List Int}(h:StI nodes base P out)(hP:∀i:Nat,i<nodes.length→(i:Int)∈P):Net nodes base out:=
 ⟨h.len,fun i hi=>by
  by_cases hc:cmb (nodes.getD i default).kind=true
  ·rw[if_pos hc]
   exact h.on i (hP i hi) (by rw[Int.toNat_natCast];exact hc)
  ·rw[if_neg hc]
   exact h.off i hi (by simpa using hc)⟩
theorem Net.same{nodes:List Nd}{base base' out out' L:List Int}(hw:Wf nodes)(hL:Lvl nodes L)(h:Net nodes base out)(h':Net nodes base' out')(hb:∀i:Nat,i<nodes.length→cmb (nodes.getD i default).kind=false→lat base i=lat base' i):out=out':=by
 have key:∀(m:Nat) (i:Nat),i<nodes.length→lat L i<(m:Int)→lat out i=lat out' i:=by
  intro m
  induction m with
  |zero=>intro i hi hlt;have:=hL.nonneg hi;omega
  |succ m ih=>
   intro i hi hlt
   rw[h.2 i hi,h'.2 i hi]
   by_cases hc:cmb (nodes.getD i default).kind=true
   ·rw[if_pos hc,if_pos hc]
    refine gateV_congr fun z hz=>?_
    have hz':z∈dep nodes i:=by rw[dep_ins (by rw[Int.toNat_natCast];exact hc)];exact hz
    have q:=hw.dep (i:=(i:Int)) (by omega) hz'
    have hl:=hL.lt (i:=(i:Int)) (by omega) (by omega) hz'
    obtain⟨k,rfl⟩:=Int.eq_ofNat_of_zero_le q.1
    exact ih k (by omega) (by omega)
   ·rw[if_neg hc,if_neg hc]
    exact hb i hi (by simpa using hc)
 refine ext_lat (h.1.trans h'.1.symm) fun i hi=>?_
 have hi':i<nodes.length:=by rw[←h.1];exact hi
 exact key ((lat L i).toNat+1) i hi' (by have:=hL.nonneg hi';omega)
theorem order_before{L R:List Int}{n:Nat}(h:SortTo L n n R){k:Nat}(hk:k<n):0≤lat R k∧lat R k<(n:Int)∧∀y∈R.take k,0≤y∧y<(n:Int)∧y≠lat R k∧lat L y≤lat L (lat R k):=by
 obtain⟨S,h1,h2,h3,h4,h5⟩:=h
 have hR:R=S:=by rw[h1];simp[rng]
 subst hR
 have hk':k<R.length:=by omega
 have e:lat R k=R[k]:=by unfold lat;rw[Int.toNat_natCast,List.getD_eq_getElem?_getD,List.getElem?_eq_getElem hk'];rfl
 rw[e]
 refine⟨(h5 _ (List.getElem_mem hk')).1,(h5 _ (List.getElem_mem hk')).2,fun y hy=>?_⟩
 have hm:=h5 y (List.mem_of_mem_take hy)
 obtain⟨j,hj,ej⟩:=List.mem_iff_getElem.1 hy
 rw[List.length_take]at hj
 rw[List.getElem_take]at ej
 have hjk:j<k:=by omega
 have:=List.pairwise_iff_getElem.1 h4 j k (by omega) hk' hjk
 rw[ej]at this
 refine⟨hm.1,hm.2,fun e2=>?_,?_⟩
 ·rw[e2]at this;exact Lex.irr _ this
 ·rcases this with h|h<;>omega
end Go.Proofs.YtemjmfpcopfdbaaGreatDoor
namespace Go.Proofs.YtemjmfpcopfdbaaGreatDoor.Lg
def LeL(l m:List Int):Prop:=l.length=m.length∧∀j,j<l.length→blw (l.getD j 0) (m.getD j 0)=true
end Go.Proofs.YtemjmfpcopfdbaaGreatDoor.Lg
namespace Go.Proofs.YtemjmfpcopfdbaaGreatDoor
theorem cln_cln(a:Int):cln (cln a)=cln a:=by unfold cln;split<;>simp_all
def asg(out l vs:List Int):List Int:=(l.zip vs).foldl (fun o p=>o.set p.1.toNat p.2) out
theorem asg_len(out l vs:List Int):(asg out l vs).length=out.length:=by
 unfold asg
 induction l.zip vs generalizing out with
 |nil=>rfl
 |cons p t ih=>rw[List.foldl_cons,ih,List.length_set]
def baseV(n:Nat)(ins sts pin pst:List Int):List Int:=asg (asg (List.replicate n 0) ins pin) sts pst
open Go.RowKit
def VRow(w:World)(g:Nat)(l:List Int):Prop:=w.ownsRow g 77 1 (.slice (some ⟨g,0,none⟩) l.length l.length) l.length (l.map (Value.int .u8))
section
variable {w w':World} {g:Nat} {l:List Int}
theorem VRow.cell(h:VRow w g l){j:Nat}(hj:j<l.length):w.cell? ⟨g,j,none⟩=some (.int .u8 (lat l j)):=by
 have:=World.ownsRow.cellAt h j (by omega)
 rw[this,List.getElem?_map,List.getElem?_eq_getElem hj]
 simp[lat,List.getD_eq_getElem?_getD,List.getElem?_eq_getElem hj]
theorem VRow.frozen(h:VRow w g l)(j:Nat):w.frozen? ⟨g,j,none⟩=false:=World.ownsRow.frozenAt h j
theorem VRow.set(h:VRow w g l)(j:Nat)(x:Int):VRow (w.setCell ⟨g,j,none⟩ (.int .u8 x)) g (l.set j x):=by
 have:=(World.ownsRow.stored h j (.int .u8 x)).1
 unfold VRow
 rw[List.length_set,List.map_set]
 exact this
theorem VRow.lt(h:VRow w g l):g<w.heap.size:=(World.ownsRow.lt h g rfl).2
theorem VRow.len(h:VRow w g l):l.length≤maxLen:=by
 rcases h.2 with⟨e,-⟩| ⟨g',cap,cur,e,hb',hg',hle,hmx,hs',ht'⟩
 ·cases e
 ·simp only[Value.slice.injEq]at e;omega
theorem VRow.kept{row:Option Nat}(h:VRow w g l)(hg:w.grownBy w' row)(hne:some g≠row):VRow w' g l:=World.ownsRow.kept h hg (.inr hne)
theorem VRow.below(h:VRow w g l)(hb:Below w.heap.size w w'):VRow w' g l:=
 h.kept (row:=none) ⟨hb.os,hb.tape,hb.output,hb.size,fun i hi _=>hb.block i hi⟩ (by simp)
theorem VRow.ks(h:VRow w g l):Ks w w.heap.size (.slice (some ⟨g,0,none⟩) l.length l.length) l:=
 ⟨_,g,0,_,rfl,fun _=>rfl,Nat.le_refl _,h.len,fun k hk=>⟨h.lt,by
  have:=h.cell hk
  unfold lat at this
  rw[Int.toNat_natCast]at this
  show w.cell? ⟨g,0+k*1,none⟩=_
  rw[Nat.zero_add,Nat.mul_one];exact this⟩⟩
theorem VRow.of{B n:Nat}(h:w.ownsRow B 77 1 (.slice (some ⟨g,0,none⟩) n n) n (l.map (Value.int .u8)))(hl:l.length=n):VRow w g l:=by
 subst hl
 unfold VRow
 refine⟨h.1,?_⟩
 rcases h.2 with⟨e,-⟩| ⟨g',cap,cur,e,hb',hg',hle,hmx,hs',ht'⟩
 ·cases e
 ·simp only[Value.slice.injEq,Option.some.injEq,Addr.mk.injEq]at e
  obtain⟨⟨rfl,-⟩,-,rfl⟩:=e
  exact .inr ⟨g,_,cur,rfl,Nat.le_refl _,hg',hle,hmx,hs',ht'⟩
end
theorem info_val:(Tryz.prog.info? 77).map (fun i=>(i.zero,i.size,i.bytes))=some (some (.int .u8 0),1,1):=by kernel_rfl
theorem ret_v{a b:Int}(h:a=b):Ending.returned (.int .u8 a)=.returned (.int .u8 b):=by rw[h]
def valA(l:List Int)(x:Int):Int:=if x<0∨(l.length:Int)≤x then 2 else cln (lat l x)
theorem Ks.vs{w:World}{B:Nat}{v:Value}{l:List Int}(h:Ks w B v l):Lg.Vs w B v l:=by
 obtain⟨A,b,o,c,rfl,hA,hle,hm,hc⟩:=h.opens
 by_cases h0:0<l.length
 ·obtain rfl:=hA h0
  exact⟨b,o,c,.inl rfl,hm,hc⟩
 ·obtain rfl:l=[]:=List.eq_nil_of_length_eq_zero (by omega)
  exact⟨b,o,c,.inr ⟨rfl,A,rfl⟩,hm,hc⟩
def Nv(w:World)(q:Nat)(l:List Int):Prop:=∃A c,w.cell? ⟨q,0,none⟩=some (.slice A l.length c)∧Ks w w.heap.size (.slice A l.length c) l
theorem Nv.below{w w':World}{q:Nat}{l:List Int}(h:Nv w q l)(hb:Below w.heap.size w w'):Nv w' q l:=by
 obtain⟨A,c,h1,h2⟩:=h
 exact⟨A,c,(hb.cell (p:=⟨q,0,none⟩) (cell_lt h1)).trans h1,Arr.keep stays_u8 h2 hb.size fun _ hp=>hb.cell hp⟩
set_option maxHeartbeats 1000000 in
theorem val1_any(l:List Int)(x:Int)(q:Nat)(w:World)(hq:Nv w q l):
 Calls Tryz.prog 110 #[.int .i64 x,.pointer (some ⟨q,0,none⟩)] w fun e w'=>e=.returned (.int .u8 (valA l x))∧w=w':=by
 obtain⟨y,HY⟩:=named (valA l x)
 rw[←HY.out]
 obtain⟨A,c,h1,h2⟩:=hq
 obtain⟨A',b,o,c',e,hA,hle,hm,hc⟩:=h2.opens
 simp only[Value.slice.injEq,true_and]at e
 obtain⟨rfl,rfl⟩:=e
 have HA:=Lib.hid hA
 have HC:=Lib.hid hc
 unfold maxLen at hm
 clear hA hc h2
 obtain⟨n,HN⟩:=named l.length
 rw[←HN.out]at h1 hm HA HC hle
 have HCL:=Lib.hid (fun w=>Lg.clean_any (lat l x) w)
 obtain⟨z,HZ⟩:=named (lat l x)
 obtain⟨cz,HCZ⟩:=named (cln (lat l x))
 rw[←HCZ.out,←HZ.out]at HCL
 have HYD:Hid (y=if x<0∨(n:Int)≤x then 2 else cz):=Lib.hid (by rw[HY.out,HN.out,HCZ.out];rfl)
 by_cases h0:x<0
 ·have hy:y=2:=by rw[HYD.out];exact if_pos (.inl h0)
  have HYF:=Lib.hid hy
  clear hy
  go_enter Tryz.func110,Tryz.ntmps110
  go_wp2
  go_ret
  exact⟨ret_v HYF.out.symm,rfl⟩
 by_cases hn:(n:Int)≤x
 ·have hy:y=2:=by rw[HYD.out];exact if_pos (.inr hn)
  have HYF:=Lib.hid hy
  clear hy
  go_enter Tryz.func110,Tryz.ntmps110
  go_wp2
  go_ret
  exact⟨ret_v HYF.out.symm,rfl⟩
 have hy:y=cz:=by rw[HYD.out];exact if_neg (by omega)
 have HYF:=Lib.hid hy
 obtain⟨k,rfl⟩:=Int.eq_ofNat_of_zero_le (show 0≤x by omega)
 have hk:k<n:=by omega
 obtain rfl:=HA.out (by omega)
 have hcell:=(HC.out k hk).2
 have HZ2:Hid (l.getD k 0=z):=Lib.hid (by rw[HZ.out];unfold lat;rw[Int.toNat_natCast])
 rw[HZ2.out]at hcell
 clear hy
 go_enter Tryz.func110,Tryz.ntmps110
 go_wp2_with (go_at_call 94;(with_reducible refine (HCL.out _).mono ?_);rintro e w' ⟨rfl,rfl⟩)
 go_ret
 exact⟨ret_v HYF.out.symm,rfl⟩
end Go.Proofs.YtemjmfpcopfdbaaGreatDoor
