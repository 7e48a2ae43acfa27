/- . -/
import Derived.Test.YtjdjcaobkmpoeaaDoorLgEval
namespace Go.Proofs.YtjdjcaobkmpoeaaDoor.Lg
open Go.RowKit
section
variable {w0:World} {B:Nat} {s:Value} {l:List Int} (hB:B≤w0.heap.size) (hs:Vs w0 B s l) (w:World) (hb:Below w0.heap.size w0 w)
include hB hs hb
theorem and_rel:Calls Tryd.prog 67 #[s] w fun e w'=>e=.returned (.int .u8 (andL l))∧Below w0.heap.size w0 w':=
 rel (and_any (Nat.le_trans hB hb.size) (hs.below (hb.mono hB))) hb
theorem or_rel:Calls Tryd.prog 68 #[s] w fun e w'=>e=.returned (.int .u8 (orL l))∧Below w0.heap.size w0 w':=
 rel (or_any (Nat.le_trans hB hb.size) (hs.below (hb.mono hB))) hb
theorem xor_rel:Calls Tryd.prog 69 #[s] w fun e w'=>e=.returned (.int .u8 (xorL l))∧Below w0.heap.size w0 w':=
 rel (xor_any (Nat.le_trans hB hb.size) (hs.below (hb.mono hB))) hb
theorem bus_rel:Calls Tryd.prog 72 #[s] w fun e w'=>e=.returned (.int .u8 (busL l))∧Below w0.heap.size w0 w':=
 rel (bus_any (Nat.le_trans hB hb.size) (hs.below (hb.mono hB))) hb
end
set_option maxHeartbeats 400000 in
theorem eval_less{w:World}{s:Value}(n c:Nat)(A:Option Addr)(hs:s=.slice A n c)(k:Int)(h0:0≤k)(ht:Tabs w)(h:(n:Int)<lo k):
 Calls Tryd.prog 45 #[.int .u8 k,s] w fun e w'=>e=.returned (.int .u8 2)∧Below w.heap.size w w':=by
 subst hs
 have HT:=Lib.hid ht
 have H0:=Lib.hid h0
 clear ht h0
 go_enter Tryd.func45,Tryd.ntmps45
 go_wp2_with (go_at_call 64;refine (fanin_any _ H0.out _ HT.out).mono ?_;rintro e w' ⟨rfl,m,rfl⟩;have hb:Below w.heap.size w (w.drewN m):=below_drewN (Below.refl _ _) m)
 go_ret
 exact⟨rfl,by assumption⟩
set_option maxHeartbeats 400000 in
theorem eval_more{w:World}{s:Value}(n c:Nat)(A:Option Addr)(hs:s=.slice A n c)(k:Int)(h0:0≤k)(ht:Tabs w)(hl:¬(n:Int)<lo k)(h:hi k<(n:Int)):
 Calls Tryd.prog 45 #[.int .u8 k,s] w fun e w'=>e=.returned (.int .u8 2)∧Below w.heap.size w w':=by
 subst hs
 have HT:=Lib.hid ht
 have H0:=Lib.hid h0
 clear ht h0
 go_enter Tryd.func45,Tryd.ntmps45
 go_wp2_with (go_at_call 64;refine (fanin_any _ H0.out _ HT.out).mono ?_;rintro e w' ⟨rfl,m,rfl⟩;have hb:Below w.heap.size w (w.drewN m):=below_drewN (Below.refl _ _) m)
 go_ret
 exact⟨rfl,by assumption⟩
set_option maxHeartbeats 1000000 in
theorem eval_k0{w:World}{B:Nat}{s:Value}{l:List Int}(n c:Nat)(A:Option Addr)(hsv:s=.slice A n c)(hB:B≤w.heap.size)(hs:Vs w B s l)(ht:Tabs w)(hl:0≤n)(hh:n≤0):
 Calls Tryd.prog 45 #[.int .u8 0,s] w fun e w'=>e=.returned (.int .u8 (funL 0 l))∧Below w.heap.size w w':=by
 obtain⟨y,HY⟩:=named (funL 0 l)
 rw[←HY.out]
 have el:lo 0=0:=by decide
 have eh:hi 0=0:=by decide
 have HT:=Lib.hid ht
 have H0:Hid (0≤(0:Int)):=Lib.hid (by decide)
 have HS:=Lib.hid hs
 have HB:=Lib.hid hB
 clear ht hs hB
 subst hsv
 go_enter Tryd.func45,Tryd.ntmps45
 go_wp2_with (first
  |(go_at_call 64;refine (fanin_any _ H0.out _ HT.out).mono ?_;rintro e w' ⟨rfl,m,rfl⟩;have hb:Below w.heap.size w (w.drewN m):=below_drewN (Below.refl _ _) m)
  |(go_at_call 67;refine (and_rel HB.out HS.out _ (by assumption)).mono ?_;rintro e w' ⟨rfl,hb⟩)
  |(go_at_call 68;refine (or_rel HB.out HS.out _ (by assumption)).mono ?_;rintro e w' ⟨rfl,hb⟩)
  |(go_at_call 69;refine (xor_rel HB.out HS.out _ (by assumption)).mono ?_;rintro e w' ⟨rfl,hb⟩)
  |(go_at_call 72;refine (bus_rel HB.out HS.out _ (by assumption)).mono ?_;rintro e w' ⟨rfl,hb⟩)
  |(go_at_call 66;refine (not_any _ _).mono ?_;rintro e w' ⟨rfl,rfl⟩)
  |(go_at_call 65;refine (read_any _ _).mono ?_;rintro e w' ⟨rfl,rfl⟩))
 go_ret
 exact⟨ret_int (by rw[HY.out];rfl),by first|assumption|exact below_drewN (Below.refl _ _) _⟩
set_option maxHeartbeats 1000000 in
theorem eval_k1{w:World}{B:Nat}{s:Value}{l:List Int}(n c:Nat)(A:Option Addr)(hsv:s=.slice A n c)(hB:B≤w.heap.size)(hs:Vs w B s l)(ht:Tabs w)(hl:0≤n)(hh:n≤0):
 Calls Tryd.prog 45 #[.int .u8 1,s] w fun e w'=>e=.returned (.int .u8 (funL 1 l))∧Below w.heap.size w w':=by
 obtain⟨y,HY⟩:=named (funL 1 l)
 rw[←HY.out]
 have el:lo 1=0:=by decide
 have eh:hi 1=0:=by decide
 have HT:=Lib.hid ht
 have H0:Hid (0≤(1:Int)):=Lib.hid (by decide)
 have HS:=Lib.hid hs
 have HB:=Lib.hid hB
 clear ht hs hB
 subst hsv
 go_enter Tryd.func45,Tryd.ntmps45
 go_wp2_with (first
  |(go_at_call 64;refine (fanin_any _ H0.out _ HT.out).mono ?_;rintro e w' ⟨rfl,m,rfl⟩;have hb:Below w.heap.size w (w.drewN m):=below_drewN (Below.refl _ _) m)
  |(go_at_call 67;refine (and_rel HB.out HS.out _ (by assumption)).mono ?_;rintro e w' ⟨rfl,hb⟩)
  |(go_at_call 68;refine (or_rel HB.out HS.out _ (by assumption)).mono ?_;rintro e w' ⟨rfl,hb⟩)
  |(go_at_call 69;refine (xor_rel HB.out HS.out _ (by assumption)).mono ?_;rintro e w' ⟨rfl,hb⟩)
  |(go_at_call 72;refine (bus_rel HB.out HS.out _ (by assumption)).mono ?_;rintro e w' ⟨rfl,hb⟩)
  |(go_at_call 66;refine (not_any _ _).mono ?_;rintro e w' ⟨rfl,rfl⟩)
  |(go_at_call 65;refine (read_any _ _).mono ?_;rintro e w' ⟨rfl,rfl⟩))
 go_ret
 exact⟨ret_int (by rw[HY.out];rfl),by first|assumption|exact below_drewN (Below.refl _ _) _⟩
set_option maxHeartbeats 1000000 in
theorem eval_k2{w:World}{B:Nat}{s:Value}{l:List Int}(n c:Nat)(A:Option Addr)(hsv:s=.slice A n c)(hB:B≤w.heap.size)(hs:Vs w B s l)(ht:Tabs w)(hl:0≤n)(hh:n≤0):
 Calls Tryd.prog 45 #[.int .u8 2,s] w fun e w'=>e=.returned (.int .u8 (funL 2 l))∧Below w.heap.size w w':=by
 obtain⟨y,HY⟩:=named (funL 2 l)
 rw[←HY.out]
 have el:lo 2=0:=by decide
 have eh:hi 2=0:=by decide
 have HT:=Lib.hid ht
 have H0:Hid (0≤(2:Int)):=Lib.hid (by decide)
 have HS:=Lib.hid hs
 have HB:=Lib.hid hB
 clear ht hs hB
 subst hsv
 go_enter Tryd.func45,Tryd.ntmps45
 go_wp2_with (first
  |(go_at_call 64;refine (fanin_any _ H0.out _ HT.out).mono ?_;rintro e w' ⟨rfl,m,rfl⟩;have hb:Below w.heap.size w (w.drewN m):=below_drewN (Below.refl _ _) m)
  |(go_at_call 67;refine (and_rel HB.out HS.out _ (by assumption)).mono ?_;rintro e w' ⟨rfl,hb⟩)
  |(go_at_call 68;refine (or_rel HB.out HS.out _ (by assumption)).mono ?_;rintro e w' ⟨rfl,hb⟩)
  |(go_at_call 69;refine (xor_rel HB.out HS.out _ (by assumption)).mono ?_;rintro e w' ⟨rfl,hb⟩)
  |(go_at_call 72;refine (bus_rel HB.out HS.out _ (by assumption)).mono ?_;rintro e w' ⟨rfl,hb⟩)
  |(go_at_call 66;refine (not_any _ _).mono ?_;rintro e w' ⟨rfl,rfl⟩)
  |(go_at_call 65;refine (read_any _ _).mono ?_;rintro e w' ⟨rfl,rfl⟩))
 go_ret
 exact⟨ret_int (by rw[HY.out];rfl),by first|assumption|exact below_drewN (Below.refl _ _) _⟩
set_option maxHeartbeats 1000000 in
theorem eval_k3{w:World}{B:Nat}{s:Value}{l:List Int}(n c:Nat)(A:Option Addr)(hsv:s=.slice A n c)(hB:B≤w.heap.size)(hs:Vs w B s l)(ht:Tabs w)(hl:1≤n)(hh:n≤1)(b o:Nat)(hA:A=some ⟨b,o,none⟩)(hc0:w.cell? ⟨b,o+0,none⟩=some (.int .u8 (l.getD 0 0))):
 Calls Tryd.prog 45 #[.int .u8 3,s] w fun e w'=>e=.returned (.int .u8 (funL 3 l))∧Below w.heap.size w w':=by
 obtain⟨y,HY⟩:=named (funL 3 l)
 rw[←HY.out]
 have el:lo 3=1:=by decide
 have eh:hi 3=1:=by decide
 have HT:=Lib.hid ht
 have H0:Hid (0≤(3:Int)):=Lib.hid (by decide)
 have HS:=Lib.hid hs
 have HB:=Lib.hid hB
 clear ht hs hB
 subst hsv
 subst hA
 obtain⟨x0,hx0⟩:∃x,x=l.getD 0 0:=⟨_,rfl⟩
 rw[←hx0]at hc0
 have HX0:=Lib.hid hx0
 clear hx0
 simp only[Nat.add_zero]at hc0
 go_enter Tryd.func45,Tryd.ntmps45
 go_wp2_with (first
  |(go_at_call 64;refine (fanin_any _ H0.out _ HT.out).mono ?_;rintro e w' ⟨rfl,m,rfl⟩;have hb:Below w.heap.size w (w.drewN m):=below_drewN (Below.refl _ _) m)
  |(go_at_call 67;refine (and_rel HB.out HS.out _ (by assumption)).mono ?_;rintro e w' ⟨rfl,hb⟩)
  |(go_at_call 68;refine (or_rel HB.out HS.out _ (by assumption)).mono ?_;rintro e w' ⟨rfl,hb⟩)
  |(go_at_call 69;refine (xor_rel HB.out HS.out _ (by assumption)).mono ?_;rintro e w' ⟨rfl,hb⟩)
  |(go_at_call 72;refine (bus_rel HB.out HS.out _ (by assumption)).mono ?_;rintro e w' ⟨rfl,hb⟩)
  |(go_at_call 66;refine (not_any _ _).mono ?_;rintro e w' ⟨rfl,rfl⟩)
  |(go_at_call 65;refine (read_any _ _).mono ?_;rintro e w' ⟨rfl,rfl⟩))
 go_ret
 exact⟨ret_int (by rw[HY.out,HX0.out];rfl),by first|assumption|exact below_drewN (Below.refl _ _) _⟩
set_option maxHeartbeats 1000000 in
theorem eval_k4{w:World}{B:Nat}{s:Value}{l:List Int}(n c:Nat)(A:Option Addr)(hsv:s=.slice A n c)(hB:B≤w.heap.size)(hs:Vs w B s l)(ht:Tabs w)(hl:1≤n)(hh:n≤1)(b o:Nat)(hA:A=some ⟨b,o,none⟩)(hc0:w.cell? ⟨b,o+0,none⟩=some (.int .u8 (l.getD 0 0))):
 Calls Tryd.prog 45 #[.int .u8 4,s] w fun e w'=>e=.returned (.int .u8 (funL 4 l))∧Below w.heap.size w w':=by
 obtain⟨y,HY⟩:=named (funL 4 l)
 rw[←HY.out]
 have el:lo 4=1:=by decide
 have eh:hi 4=1:=by decide
 have HT:=Lib.hid ht
 have H0:Hid (0≤(4:Int)):=Lib.hid (by decide)
 have HS:=Lib.hid hs
 have HB:=Lib.hid hB
 clear ht hs hB
 subst hsv
 subst hA
 obtain⟨x0,hx0⟩:∃x,x=l.getD 0 0:=⟨_,rfl⟩
 rw[←hx0]at hc0
 have HX0:=Lib.hid hx0
 clear hx0
 simp only[Nat.add_zero]at hc0
 go_enter Tryd.func45,Tryd.ntmps45
 go_wp2_with (first
  |(go_at_call 64;refine (fanin_any _ H0.out _ HT.out).mono ?_;rintro e w' ⟨rfl,m,rfl⟩;have hb:Below w.heap.size w (w.drewN m):=below_drewN (Below.refl _ _) m)
  |(go_at_call 67;refine (and_rel HB.out HS.out _ (by assumption)).mono ?_;rintro e w' ⟨rfl,hb⟩)
  |(go_at_call 68;refine (or_rel HB.out HS.out _ (by assumption)).mono ?_;rintro e w' ⟨rfl,hb⟩)
  |(go_at_call 69;refine (xor_rel HB.out HS.out _ (by assumption)).mono ?_;rintro e w' ⟨rfl,hb⟩)
  |(go_at_call 72;refine (bus_rel HB.out HS.out _ (by assumption)).mono ?_;rintro e w' ⟨rfl,hb⟩)
  |(go_at_call 66;refine (not_any _ _).mono ?_;rintro e w' ⟨rfl,rfl⟩)
  |(go_at_call 65;refine (read_any _ _).mono ?_;rintro e w' ⟨rfl,rfl⟩))
 go_ret
 exact⟨ret_int (by rw[HY.out,HX0.out];rfl),by first|assumption|exact below_drewN (Below.refl _ _) _⟩
set_option maxHeartbeats 1000000 in
theorem eval_k5{w:World}{B:Nat}{s:Value}{l:List Int}(n c:Nat)(A:Option Addr)(hsv:s=.slice A n c)(hB:B≤w.heap.size)(hs:Vs w B s l)(ht:Tabs w)(hl:2≤n)(hh:n≤16):
 Calls Tryd.prog 45 #[.int .u8 5,s] w fun e w'=>e=.returned (.int .u8 (funL 5 l))∧Below w.heap.size w w':=by
 obtain⟨y,HY⟩:=named (funL 5 l)
 rw[←HY.out]
 have el:lo 5=2:=by decide
 have eh:hi 5=16:=by decide
 have HT:=Lib.hid ht
 have H0:Hid (0≤(5:Int)):=Lib.hid (by decide)
 have HS:=Lib.hid hs
 have HB:=Lib.hid hB
 clear ht hs hB
 subst hsv
 go_enter Tryd.func45,Tryd.ntmps45
 go_wp2_with (first
  |(go_at_call 64;refine (fanin_any _ H0.out _ HT.out).mono ?_;rintro e w' ⟨rfl,m,rfl⟩;have hb:Below w.heap.size w (w.drewN m):=below_drewN (Below.refl _ _) m)
  |(go_at_call 67;refine (and_rel HB.out HS.out _ (by assumption)).mono ?_;rintro e w' ⟨rfl,hb⟩)
  |(go_at_call 68;refine (or_rel HB.out HS.out _ (by assumption)).mono ?_;rintro e w' ⟨rfl,hb⟩)
  |(go_at_call 69;refine (xor_rel HB.out HS.out _ (by assumption)).mono ?_;rintro e w' ⟨rfl,hb⟩)
  |(go_at_call 72;refine (bus_rel HB.out HS.out _ (by assumption)).mono ?_;rintro e w' ⟨rfl,hb⟩)
  |(go_at_call 66;refine (not_any _ _).mono ?_;rintro e w' ⟨rfl,rfl⟩)
  |(go_at_call 65;refine (read_any _ _).mono ?_;rintro e w' ⟨rfl,rfl⟩))
 go_ret
 exact⟨ret_int (by rw[HY.out];rfl),by first|assumption|exact below_drewN (Below.refl _ _) _⟩
set_option maxHeartbeats 1000000 in
theorem eval_k6{w:World}{B:Nat}{s:Value}{l:List Int}(n c:Nat)(A:Option Addr)(hsv:s=.slice A n c)(hB:B≤w.heap.size)(hs:Vs w B s l)(ht:Tabs w)(hl:2≤n)(hh:n≤16):
 Calls Tryd.prog 45 #[.int .u8 6,s] w fun e w'=>e=.returned (.int .u8 (funL 6 l))∧Below w.heap.size w w':=by
 obtain⟨y,HY⟩:=named (funL 6 l)
 rw[←HY.out]
 have el:lo 6=2:=by decide
 have eh:hi 6=16:=by decide
 have HT:=Lib.hid ht
 have H0:Hid (0≤(6:Int)):=Lib.hid (by decide)
 have HS:=Lib.hid hs
 have HB:=Lib.hid hB
 clear ht hs hB
 subst hsv
 go_enter Tryd.func45,Tryd.ntmps45
 go_wp2_with (first
  |(go_at_call 64;refine (fanin_any _ H0.out _ HT.out).mono ?_;rintro e w' ⟨rfl,m,rfl⟩;have hb:Below w.heap.size w (w.drewN m):=below_drewN (Below.refl _ _) m)
  |(go_at_call 67;refine (and_rel HB.out HS.out _ (by assumption)).mono ?_;rintro e w' ⟨rfl,hb⟩)
  |(go_at_call 68;refine (or_rel HB.out HS.out _ (by assumption)).mono ?_;rintro e w' ⟨rfl,hb⟩)
  |(go_at_call 69;refine (xor_rel HB.out HS.out _ (by assumption)).mono ?_;rintro e w' ⟨rfl,hb⟩)
  |(go_at_call 72;refine (bus_rel HB.out HS.out _ (by assumption)).mono ?_;rintro e w' ⟨rfl,hb⟩)
  |(go_at_call 66;refine (not_any _ _).mono ?_;rintro e w' ⟨rfl,rfl⟩)
  |(go_at_call 65;refine (read_any _ _).mono ?_;rintro e w' ⟨rfl,rfl⟩))
 go_ret
 exact⟨ret_int (by rw[HY.out];rfl),by first|assumption|exact below_drewN (Below.refl _ _) _⟩
set_option maxHeartbeats 1000000 in
theorem eval_k7{w:World}{B:Nat}{s:Value}{l:List Int}(n c:Nat)(A:Option Addr)(hsv:s=.slice A n c)(hB:B≤w.heap.size)(hs:Vs w B s l)(ht:Tabs w)(hl:2≤n)(hh:n≤16):
 Calls Tryd.prog 45 #[.int .u8 7,s] w fun e w'=>e=.returned (.int .u8 (funL 7 l))∧Below w.heap.size w w':=by
 obtain⟨y,HY⟩:=named (funL 7 l)
 rw[←HY.out]
 have el:lo 7=2:=by decide
 have eh:hi 7=16:=by decide
 have HT:=Lib.hid ht
 have H0:Hid (0≤(7:Int)):=Lib.hid (by decide)
 have HS:=Lib.hid hs
 have HB:=Lib.hid hB
 clear ht hs hB
 subst hsv
 go_enter Tryd.func45,Tryd.ntmps45
 go_wp2_with (first
  |(go_at_call 64;refine (fanin_any _ H0.out _ HT.out).mono ?_;rintro e w' ⟨rfl,m,rfl⟩;have hb:Below w.heap.size w (w.drewN m):=below_drewN (Below.refl _ _) m)
  |(go_at_call 67;refine (and_rel HB.out HS.out _ (by assumption)).mono ?_;rintro e w' ⟨rfl,hb⟩)
  |(go_at_call 68;refine (or_rel HB.out HS.out _ (by assumption)).mono ?_;rintro e w' ⟨rfl,hb⟩)
  |(go_at_call 69;refine (xor_rel HB.out HS.out _ (by assumption)).mono ?_;rintro e w' ⟨rfl,hb⟩)
  |(go_at_call 72;refine (bus_rel HB.out HS.out _ (by assumption)).mono ?_;rintro e w' ⟨rfl,hb⟩)
  |(go_at_call 66;refine (not_any _ _).mono ?_;rintro e w' ⟨rfl,rfl⟩)
  |(go_at_call 65;refine (read_any _ _).mono ?_;rintro e w' ⟨rfl,rfl⟩))
 go_ret
 exact⟨ret_int (by rw[HY.out];rfl),by first|assumption|exact below_drewN (Below.refl _ _) _⟩
set_option maxHeartbeats 1000000 in
theorem eval_k8{w:World}{B:Nat}{s:Value}{l:List Int}(n c:Nat)(A:Option Addr)(hsv:s=.slice A n c)(hB:B≤w.heap.size)(hs:Vs w B s l)(ht:Tabs w)(hl:2≤n)(hh:n≤16):
 Calls Tryd.prog 45 #[.int .u8 8,s] w fun e w'=>e=.returned (.int .u8 (funL 8 l))∧Below w.heap.size w w':=by
 obtain⟨y,HY⟩:=named (funL 8 l)
 rw[←HY.out]
 have el:lo 8=2:=by decide
 have eh:hi 8=16:=by decide
 have HT:=Lib.hid ht
 have H0:Hid (0≤(8:Int)):=Lib.hid (by decide)
 have HS:=Lib.hid hs
 have HB:=Lib.hid hB
 clear ht hs hB
 subst hsv
 go_enter Tryd.func45,Tryd.ntmps45
 go_wp2_with (first
  |(go_at_call 64;refine (fanin_any _ H0.out _ HT.out).mono ?_;rintro e w' ⟨rfl,m,rfl⟩;have hb:Below w.heap.size w (w.drewN m):=below_drewN (Below.refl _ _) m)
  |(go_at_call 67;refine (and_rel HB.out HS.out _ (by assumption)).mono ?_;rintro e w' ⟨rfl,hb⟩)
  |(go_at_call 68;refine (or_rel HB.out HS.out _ (by assumption)).mono ?_;rintro e w' ⟨rfl,hb⟩)
  |(go_at_call 69;refine (xor_rel HB.out HS.out _ (by assumption)).mono ?_;rintro e w' ⟨rfl,hb⟩)
  |(go_at_call 72;refine (bus_rel HB.out HS.out _ (by assumption)).mono ?_;rintro e w' ⟨rfl,hb⟩)
  |(go_at_call 66;refine (not_any _ _).mono ?_;rintro e w' ⟨rfl,rfl⟩)
  |(go_at_call 65;refine (read_any _ _).mono ?_;rintro e w' ⟨rfl,rfl⟩))
 go_ret
 exact⟨ret_int (by rw[HY.out];rfl),by first|assumption|exact below_drewN (Below.refl _ _) _⟩
set_option maxHeartbeats 1000000 in
theorem eval_k9{w:World}{B:Nat}{s:Value}{l:List Int}(n c:Nat)(A:Option Addr)(hsv:s=.slice A n c)(hB:B≤w.heap.size)(hs:Vs w B s l)(ht:Tabs w)(hl:2≤n)(hh:n≤16):
 Calls Tryd.prog 45 #[.int .u8 9,s] w fun e w'=>e=.returned (.int .u8 (funL 9 l))∧Below w.heap.size w w':=by
 obtain⟨y,HY⟩:=named (funL 9 l)
 rw[←HY.out]
 have el:lo 9=2:=by decide
 have eh:hi 9=16:=by decide
 have HT:=Lib.hid ht
 have H0:Hid (0≤(9:Int)):=Lib.hid (by decide)
 have HS:=Lib.hid hs
 have HB:=Lib.hid hB
 clear ht hs hB
 subst hsv
 go_enter Tryd.func45,Tryd.ntmps45
 go_wp2_with (first
  |(go_at_call 64;refine (fanin_any _ H0.out _ HT.out).mono ?_;rintro e w' ⟨rfl,m,rfl⟩;have hb:Below w.heap.size w (w.drewN m):=below_drewN (Below.refl _ _) m)
  |(go_at_call 67;refine (and_rel HB.out HS.out _ (by assumption)).mono ?_;rintro e w' ⟨rfl,hb⟩)
  |(go_at_call 68;refine (or_rel HB.out HS.out _ (by assumption)).mono ?_;rintro e w' ⟨rfl,hb⟩)
  |(go_at_call 69;refine (xor_rel HB.out HS.out _ (by assumption)).mono ?_;rintro e w' ⟨rfl,hb⟩)
  |(go_at_call 72;refine (bus_rel HB.out HS.out _ (by assumption)).mono ?_;rintro e w' ⟨rfl,hb⟩)
  |(go_at_call 66;refine (not_any _ _).mono ?_;rintro e w' ⟨rfl,rfl⟩)
  |(go_at_call 65;refine (read_any _ _).mono ?_;rintro e w' ⟨rfl,rfl⟩))
 go_ret
 exact⟨ret_int (by rw[HY.out];rfl),by first|assumption|exact below_drewN (Below.refl _ _) _⟩
set_option maxHeartbeats 1000000 in
theorem eval_k10{w:World}{B:Nat}{s:Value}{l:List Int}(n c:Nat)(A:Option Addr)(hsv:s=.slice A n c)(hB:B≤w.heap.size)(hs:Vs w B s l)(ht:Tabs w)(hl:2≤n)(hh:n≤16):
 Calls Tryd.prog 45 #[.int .u8 10,s] w fun e w'=>e=.returned (.int .u8 (funL 10 l))∧Below w.heap.size w w':=by
 obtain⟨y,HY⟩:=named (funL 10 l)
 rw[←HY.out]
 have el:lo 10=2:=by decide
 have eh:hi 10=16:=by decide
 have HT:=Lib.hid ht
 have H0:Hid (0≤(10:Int)):=Lib.hid (by decide)
 have HS:=Lib.hid hs
 have HB:=Lib.hid hB
 clear ht hs hB
 subst hsv
 go_enter Tryd.func45,Tryd.ntmps45
 go_wp2_with (first
  |(go_at_call 64;refine (fanin_any _ H0.out _ HT.out).mono ?_;rintro e w' ⟨rfl,m,rfl⟩;have hb:Below w.heap.size w (w.drewN m):=below_drewN (Below.refl _ _) m)
  |(go_at_call 67;refine (and_rel HB.out HS.out _ (by assumption)).mono ?_;rintro e w' ⟨rfl,hb⟩)
  |(go_at_call 68;refine (or_rel HB.out HS.out _ (by assumption)).mono ?_;rintro e w' ⟨rfl,hb⟩)
  |(go_at_call 69;refine (xor_rel HB.out HS.out _ (by assumption)).mono ?_;rintro e w' ⟨rfl,hb⟩)
  |(go_at_call 72;refine (bus_rel HB.out HS.out _ (by assumption)).mono ?_;rintro e w' ⟨rfl,hb⟩)
  |(go_at_call 66;refine (not_any _ _).mono ?_;rintro e w' ⟨rfl,rfl⟩)
  |(go_at_call 65;refine (read_any _ _).mono ?_;rintro e w' ⟨rfl,rfl⟩))
 go_ret
 exact⟨ret_int (by rw[HY.out];rfl),by first|assumption|exact below_drewN (Below.refl _ _) _⟩
set_option maxHeartbeats 1000000 in
theorem eval_k11{w:World}{B:Nat}{s:Value}{l:List Int}(n c:Nat)(A:Option Addr)(hsv:s=.slice A n c)(hB:B≤w.heap.size)(hs:Vs w B s l)(ht:Tabs w)(hl:3≤n)(hh:n≤3)(b o:Nat)(hA:A=some ⟨b,o,none⟩)(hc0:w.cell? ⟨b,o+0,none⟩=some (.int .u8 (l.getD 0 0)))(hc1:w.cell? ⟨b,o+1,none⟩=some (.int .u8 (l.getD 1 0)))(hc2:w.cell? ⟨b,o+2,none⟩=some (.int .u8 (l.getD 2 0))):
 Calls Tryd.prog 45 #[.int .u8 11,s] w fun e w'=>e=.returned (.int .u8 (funL 11 l))∧Below w.heap.size w w':=by
 obtain⟨y,HY⟩:=named (funL 11 l)
 rw[←HY.out]
 have el:lo 11=3:=by decide
 have eh:hi 11=3:=by decide
 have HT:=Lib.hid ht
 have H0:Hid (0≤(11:Int)):=Lib.hid (by decide)
 have HS:=Lib.hid hs
 have HB:=Lib.hid hB
 clear ht hs hB
 subst hsv
 obtain rfl:n=3:=by omega
 subst hA
 obtain⟨x0,hx0⟩:∃x,x=l.getD 0 0:=⟨_,rfl⟩
 rw[←hx0]at hc0
 have HX0:=Lib.hid hx0
 clear hx0
 obtain⟨x1,hx1⟩:∃x,x=l.getD 1 0:=⟨_,rfl⟩
 rw[←hx1]at hc1
 have HX1:=Lib.hid hx1
 clear hx1
 obtain⟨x2,hx2⟩:∃x,x=l.getD 2 0:=⟨_,rfl⟩
 rw[←hx2]at hc2
 have HX2:=Lib.hid hx2
 clear hx2
 simp only[Nat.add_zero]at hc0
 go_enter Tryd.func45,Tryd.ntmps45
 go_wp2_with (go_at_call 64;refine (fanin_any _ H0.out _ HT.out).mono ?_;rintro e w1 ⟨rfl,hm⟩;have hb:Below w.heap.size w w1:=(by obtain⟨m,rfl⟩:=hm;exact below_drewN (Below.refl _ _) m);have hd0:w1.cell? ⟨b,o,none⟩=some (.int .u8 x0):=(by obtain⟨m,rfl⟩:=hm;exact hc0);have hd1:w1.cell? ⟨b,o+1,none⟩=some (.int .u8 x1):=(by obtain⟨m,rfl⟩:=hm;exact hc1);have hd2:w1.cell? ⟨b,o+2,none⟩=some (.int .u8 x2):=(by obtain⟨m,rfl⟩:=hm;exact hc2);clear hm)
 go_quiet ((go_at_call 70;exact Calls.quiet_of_same ((mux_any _ _ _ _).mono fun _ _ h=>⟨h.1,h.2.symm⟩)))
 go_wp2
 go_ret
 exact⟨ret_int (by rw[HY.out,HX0.out,HX1.out,HX2.out];rfl),below_drewN hb _⟩
set_option maxHeartbeats 1000000 in
theorem eval_k12{w:World}{B:Nat}{s:Value}{l:List Int}(n c:Nat)(A:Option Addr)(hsv:s=.slice A n c)(hB:B≤w.heap.size)(hs:Vs w B s l)(ht:Tabs w)(hl:2≤n)(hh:n≤2)(b o:Nat)(hA:A=some ⟨b,o,none⟩)(hc0:w.cell? ⟨b,o+0,none⟩=some (.int .u8 (l.getD 0 0)))(hc1:w.cell? ⟨b,o+1,none⟩=some (.int .u8 (l.getD 1 0))):
 Calls Tryd.prog 45 #[.int .u8 12,s] w fun e w'=>e=.returned (.int .u8 (funL 12 l))∧Below w.heap.size w w':=by
 obtain⟨y,HY⟩:=named (funL 12 l)
 rw[←HY.out]
 have el:lo 12=2:=by decide
 have eh:hi 12=2:=by decide
 have HT:=Lib.hid ht
 have H0:Hid (0≤(12:Int)):=Lib.hid (by decide)
 have HS:=Lib.hid hs
 have HB:=Lib.hid hB
 clear ht hs hB
 subst hsv
 obtain rfl:n=2:=by omega
 subst hA
 obtain⟨x0,hx0⟩:∃x,x=l.getD 0 0:=⟨_,rfl⟩
 rw[←hx0]at hc0
 have HX0:=Lib.hid hx0
 clear hx0
 obtain⟨x1,hx1⟩:∃x,x=l.getD 1 0:=⟨_,rfl⟩
 rw[←hx1]at hc1
 have HX1:=Lib.hid hx1
 clear hx1
 simp only[Nat.add_zero]at hc0
 go_enter Tryd.func45,Tryd.ntmps45
 go_wp2_with (go_at_call 64;refine (fanin_any _ H0.out _ HT.out).mono ?_;rintro e w1 ⟨rfl,hm⟩;have hb:Below w.heap.size w w1:=(by obtain⟨m,rfl⟩:=hm;exact below_drewN (Below.refl _ _) m);have hd0:w1.cell? ⟨b,o,none⟩=some (.int .u8 x0):=(by obtain⟨m,rfl⟩:=hm;exact hc0);have hd1:w1.cell? ⟨b,o+1,none⟩=some (.int .u8 x1):=(by obtain⟨m,rfl⟩:=hm;exact hc1);clear hm)
 go_quiet ((go_at_call 71;exact Calls.quiet_of_same ((tri_any _ _ _).mono fun _ _ h=>⟨h.1,h.2.symm⟩)))
 go_wp2
 go_ret
 exact⟨ret_int (by rw[HY.out,HX0.out,HX1.out];rfl),below_drewN hb _⟩
set_option maxHeartbeats 1000000 in
theorem eval_k13{w:World}{B:Nat}{s:Value}{l:List Int}(n c:Nat)(A:Option Addr)(hsv:s=.slice A n c)(hB:B≤w.heap.size)(hs:Vs w B s l)(ht:Tabs w)(hl:1≤n)(hh:n≤16):
 Calls Tryd.prog 45 #[.int .u8 13,s] w fun e w'=>e=.returned (.int .u8 (funL 13 l))∧Below w.heap.size w w':=by
 obtain⟨y,HY⟩:=named (funL 13 l)
 rw[←HY.out]
 have el:lo 13=1:=by decide
 have eh:hi 13=16:=by decide
 have HT:=Lib.hid ht
 have H0:Hid (0≤(13:Int)):=Lib.hid (by decide)
 have HS:=Lib.hid hs
 have HB:=Lib.hid hB
 clear ht hs hB
 subst hsv
 go_enter Tryd.func45,Tryd.ntmps45
 go_wp2_with (first
  |(go_at_call 64;refine (fanin_any _ H0.out _ HT.out).mono ?_;rintro e w' ⟨rfl,m,rfl⟩;have hb:Below w.heap.size w (w.drewN m):=below_drewN (Below.refl _ _) m)
  |(go_at_call 67;refine (and_rel HB.out HS.out _ (by assumption)).mono ?_;rintro e w' ⟨rfl,hb⟩)
  |(go_at_call 68;refine (or_rel HB.out HS.out _ (by assumption)).mono ?_;rintro e w' ⟨rfl,hb⟩)
  |(go_at_call 69;refine (xor_rel HB.out HS.out _ (by assumption)).mono ?_;rintro e w' ⟨rfl,hb⟩)
  |(go_at_call 72;refine (bus_rel HB.out HS.out _ (by assumption)).mono ?_;rintro e w' ⟨rfl,hb⟩)
  |(go_at_call 66;refine (not_any _ _).mono ?_;rintro e w' ⟨rfl,rfl⟩)
  |(go_at_call 65;refine (read_any _ _).mono ?_;rintro e w' ⟨rfl,rfl⟩))
 go_ret
 exact⟨ret_int (by rw[HY.out];rfl),by first|assumption|exact below_drewN (Below.refl _ _) _⟩
set_option maxHeartbeats 1000000 in
theorem eval_k14{w:World}{B:Nat}{s:Value}{l:List Int}(n c:Nat)(A:Option Addr)(hsv:s=.slice A n c)(hB:B≤w.heap.size)(hs:Vs w B s l)(ht:Tabs w)(hl:1≤n)(hh:n≤1):
 Calls Tryd.prog 45 #[.int .u8 14,s] w fun e w'=>e=.returned (.int .u8 (funL 14 l))∧Below w.heap.size w w':=by
 obtain⟨y,HY⟩:=named (funL 14 l)
 rw[←HY.out]
 have el:lo 14=1:=by decide
 have eh:hi 14=1:=by decide
 have HT:=Lib.hid ht
 have H0:Hid (0≤(14:Int)):=Lib.hid (by decide)
 have HS:=Lib.hid hs
 have HB:=Lib.hid hB
 clear ht hs hB
 subst hsv
 go_enter Tryd.func45,Tryd.ntmps45
 go_wp2_with (first
  |(go_at_call 64;refine (fanin_any _ H0.out _ HT.out).mono ?_;rintro e w' ⟨rfl,m,rfl⟩;have hb:Below w.heap.size w (w.drewN m):=below_drewN (Below.refl _ _) m)
  |(go_at_call 67;refine (and_rel HB.out HS.out _ (by assumption)).mono ?_;rintro e w' ⟨rfl,hb⟩)
  |(go_at_call 68;refine (or_rel HB.out HS.out _ (by assumption)).mono ?_;rintro e w' ⟨rfl,hb⟩)
  |(go_at_call 69;refine (xor_rel HB.out HS.out _ (by assumption)).mono ?_;rintro e w' ⟨rfl,hb⟩)
  |(go_at_call 72;refine (bus_rel HB.out HS.out _ (by assumption)).mono ?_;rintro e w' ⟨rfl,hb⟩)
  |(go_at_call 66;refine (not_any _ _).mono ?_;rintro e w' ⟨rfl,rfl⟩)
  |(go_at_call 65;refine (read_any _ _).mono ?_;rintro e w' ⟨rfl,rfl⟩))
 go_ret
 exact⟨ret_int (by rw[HY.out];rfl),by first|assumption|exact below_drewN (Below.refl _ _) _⟩
set_option maxHeartbeats 1000000 in
theorem eval_k15{w:World}{B:Nat}{s:Value}{l:List Int}(n c:Nat)(A:Option Addr)(hsv:s=.slice A n c)(hB:B≤w.heap.size)(hs:Vs w B s l)(ht:Tabs w)(hl:0≤n)(hh:n≤0):
 Calls Tryd.prog 45 #[.int .u8 15,s] w fun e w'=>e=.returned (.int .u8 (funL 15 l))∧Below w.heap.size w w':=by
 obtain⟨y,HY⟩:=named (funL 15 l)
 rw[←HY.out]
 have el:lo 15=0:=by decide
 have eh:hi 15=0:=by decide
 have HT:=Lib.hid ht
 have H0:Hid (0≤(15:Int)):=Lib.hid (by decide)
 have HS:=Lib.hid hs
 have HB:=Lib.hid hB
 clear ht hs hB
 subst hsv
 go_enter Tryd.func45,Tryd.ntmps45
 go_wp2_with (first
  |(go_at_call 64;refine (fanin_any _ H0.out _ HT.out).mono ?_;rintro e w' ⟨rfl,m,rfl⟩;have hb:Below w.heap.size w (w.drewN m):=below_drewN (Below.refl _ _) m)
  |(go_at_call 67;refine (and_rel HB.out HS.out _ (by assumption)).mono ?_;rintro e w' ⟨rfl,hb⟩)
  |(go_at_call 68;refine (or_rel HB.out HS.out _ (by assumption)).mono ?_;rintro e w' ⟨rfl,hb⟩)
  |(go_at_call 69;refine (xor_rel HB.out HS.out _ (by assumption)).mono ?_;rintro e w' ⟨rfl,hb⟩)
  |(go_at_call 72;refine (bus_rel HB.out HS.out _ (by assumption)).mono ?_;rintro e w' ⟨rfl,hb⟩)
  |(go_at_call 66;refine (not_any _ _).mono ?_;rintro e w' ⟨rfl,rfl⟩)
  |(go_at_call 65;refine (read_any _ _).mono ?_;rintro e w' ⟨rfl,rfl⟩))
 go_ret
 exact⟨ret_int (by rw[HY.out];rfl),by first|assumption|exact below_drewN (Below.refl _ _) _⟩
theorem eval_any{w:World}{B:Nat}{s:Value}{l:List Int}(k:Int)(h0:0≤k)(hB:B≤w.heap.size)(hs:Vs w B s l)(ht:Tabs w):
 Calls Tryd.prog 45 #[.int .u8 k,s] w fun e w'=>e=.returned (.int .u8 (evalL k l))∧Below w.heap.size w w':=by
 obtain⟨b,o,c,hv,hm,hc⟩:=id hs
 have key:∀A,(0<l.length→A=some ⟨b,o,none⟩)→s=.slice A l.length c→Calls Tryd.prog 45 #[.int .u8 k,s] w fun e w'=>e=.returned (.int .u8 (evalL k l))∧Below w.heap.size w w':=by
  intro A hA hsv
  by_cases hl:(l.length:Int)<lo k
  ·rw[evalL,if_pos (.inl hl)];exact eval_less _ _ _ hsv k h0 ht hl
  ·by_cases hh:hi k<(l.length:Int)
   ·rw[evalL,if_pos (.inr hh)];exact eval_more _ _ _ hsv k h0 ht hl hh
   ·rw[evalL,if_neg (by omega)]
    have hk:¬15<k:=by intro hk;simp[hi,hk]at hh;omega
    rcases kinds h0 hk with rfl|rfl|rfl|rfl|rfl|rfl|rfl|rfl|rfl|rfl|rfl|rfl|rfl|rfl|rfl|rfl
    ·have hl':0≤l.length:=by rw[show lo 0=0 by decide]at hl;omega
     have hh':l.length≤0:=by rw[show hi 0=0 by decide]at hh;omega
     exact eval_k0 _ _ _ hsv hB hs ht hl' hh'
    ·have hl':0≤l.length:=by rw[show lo 1=0 by decide]at hl;omega
     have hh':l.length≤0:=by rw[show hi 1=0 by decide]at hh;omega
     exact eval_k1 _ _ _ hsv hB hs ht hl' hh'
    ·have hl':0≤l.length:=by rw[show lo 2=0 by decide]at hl;omega
     have hh':l.length≤0:=by rw[show hi 2=0 by decide]at hh;omega
     exact eval_k2 _ _ _ hsv hB hs ht hl' hh'
    ·have hl':1≤l.length:=by rw[show lo 3=1 by decide]at hl;omega
     have hh':l.length≤1:=by rw[show hi 3=1 by decide]at hh;omega
     exact eval_k3 _ _ _ hsv hB hs ht hl' hh' b o (hA (by omega)) (hc 0 (by omega)).2
    ·have hl':1≤l.length:=by rw[show lo 4=1 by decide]at hl;omega
     have hh':l.length≤1:=by rw[show hi 4=1 by decide]at hh;omega
     exact eval_k4 _ _ _ hsv hB hs ht hl' hh' b o (hA (by omega)) (hc 0 (by omega)).2
    ·have hl':2≤l.length:=by rw[show lo 5=2 by decide]at hl;omega
     have hh':l.length≤16:=by rw[show hi 5=16 by decide]at hh;omega
     exact eval_k5 _ _ _ hsv hB hs ht hl' hh'
    ·have hl':2≤l.length:=by rw[show lo 6=2 by decide]at hl;omega
     have hh':l.length≤16:=by rw[show hi 6=16 by decide]at hh;omega
     exact eval_k6 _ _ _ hsv hB hs ht hl' hh'
    ·have hl':2≤l.length:=by rw[show lo 7=2 by decide]at hl;omega
     have hh':l.length≤16:=by rw[show hi 7=16 by decide]at hh;omega
     exact eval_k7 _ _ _ hsv hB hs ht hl' hh'
    ·have hl':2≤l.length:=by rw[show lo 8=2 by decide]at hl;omega
     have hh':l.length≤16:=by rw[show hi 8=16 by decide]at hh;omega
     exact eval_k8 _ _ _ hsv hB hs ht hl' hh'
    ·have hl':2≤l.length:=by rw[show lo 9=2 by decide]at hl;omega
     have hh':l.length≤16:=by rw[show hi 9=16 by decide]at hh;omega
     exact eval_k9 _ _ _ hsv hB hs ht hl' hh'
    ·have hl':2≤l.length:=by rw[show lo 10=2 by decide]at hl;omega
     have hh':l.length≤16:=by rw[show hi 10=16 by decide]at hh;omega
     exact eval_k10 _ _ _ hsv hB hs ht hl' hh'
    ·have hl':3≤l.length:=by rw[show lo 11=3 by decide]at hl;omega
     have hh':l.length≤3:=by rw[show hi 11=3 by decide]at hh;omega
     exact eval_k11 _ _ _ hsv hB hs ht hl' hh' b o (hA (by omega)) (hc 0 (by omega)).2 (hc 1 (by omega)).2 (hc 2 (by omega)).2
    ·have hl':2≤l.length:=by rw[show lo 12=2 by decide]at hl;omega
     have hh':l.length≤2:=by rw[show hi 12=2 by decide]at hh;omega
     exact eval_k12 _ _ _ hsv hB hs ht hl' hh' b o (hA (by omega)) (hc 0 (by omega)).2 (hc 1 (by omega)).2
    ·have hl':1≤l.length:=by rw[show lo 13=1 by decide]at hl;omega
     have hh':l.length≤16:=by rw[show hi 13=16 by decide]at hh;omega
     exact eval_k13 _ _ _ hsv hB hs ht hl' hh'
    ·have hl':1≤l.length:=by rw[show lo 14=1 by decide]at hl;omega
     have hh':l.length≤1:=by rw[show hi 14=1 by decide]at hh;omega
     exact eval_k14 _ _ _ hsv hB hs ht hl' hh'
    ·have hl':0≤l.length:=by rw[show lo 15=0 by decide]at hl;omega
     have hh':l.length≤0:=by rw[show hi 15=0 by decide]at hh;omega
     exact eval_k15 _ _ _ hsv hB hs ht hl' hh'
 rcases hv with rfl| ⟨rfl,A,rfl⟩
 ·exact key _ (fun _=>rfl) rfl
 ·exact key _ (fun h=>absurd h (by simp)) rfl
end Go.Proofs.YtjdjcaobkmpoeaaDoor.Lg
