/- The texts LgRef2 Rf9 Rg9. -/
import Derived.Test.YtemjmfpcopfdbaaGreatDoorM26
import Derived.Test.YtemjmfpcopfdbaaGreatDoorM04
import Derived.Deep.RegionLawGrows
import Derived.Deep.Upon
import Derived.Deep.RegionHeld3
namespace Go.Proofs.YtemjmfpcopfdbaaGreatDoor.Lg
open Go.RowKit
theorem chc_ways(v:Int)(bus:Bool):(v=0∧chc v bus=[0])∨(v=1∧chc v bus=[1])∨((v==0)=false∧(v==1)=false∧bus=true∧(v==3)=true∧chc v bus=[2])∨
 ((v==0)=false∧(v==1)=false∧bus=true∧(v==3)=false∧chc v bus=[0,1,2])∨((v==0)=false∧(v==1)=false∧bus=false∧chc v bus=[0,1]):=by
 by_cases h0:v=0
 ·exact .inl ⟨h0,by simp[chc,h0]⟩
 by_cases h1:v=1
 ·exact .inr (.inl ⟨h1,by simp[chc,h1]⟩)
 cases bus
 ·exact .inr (.inr (.inr (.inr ⟨by simpa using h0,by simpa using h1,rfl,by simp[chc,h0,h1]⟩)))
 ·by_cases h3:v=3
  ·exact .inr (.inr (.inl ⟨by simpa using h0,by simpa using h1,rfl,by simpa using h3,by simp[chc,h0,h1,h3]⟩))
  ·exact .inr (.inr (.inr (.inl ⟨by simpa using h0,by simpa using h1,rfl,by simpa using h3,by simp[chc,h0,h1,h3]⟩)))
set_option maxHeartbeats 1000000 in
theorem choices_any(v:Int)(bus:Bool)(w:World):
 Calls Tryz.prog 91 #[.int .u8 v,.bool bus] w fun e w'=>e=.returned (.slice (some ⟨w.heap.size,0,none⟩) (chc v bus).length (chc v bus).length)∧w'=w.alloc (.cells ((chc v bus).map (Value.int .i64)).toArray 3):=by
 rcases chc_ways v bus with⟨rfl,h⟩| ⟨rfl,h⟩| ⟨h0,h1,rfl,h3,h⟩| ⟨h0,h1,rfl,h3,h⟩| ⟨h0,h1,rfl,h⟩
 all_goals
  rw[h]
  clear h
  go_enter Tryz.func91,Tryz.ntmps91
  go_wp2
  go_ret
  exact⟨rfl,rfl⟩
set_option maxHeartbeats 1000000 in
set_option maxRecDepth 100000 in
theorem fun_k1(l:List Int)(s:Value)(n c:Nat)(A:Option Addr)(hsv:s=.slice A n c)(w:World)(B:Nat)(hs:Vi w B s l)(hlen:l.length≤1000):
 Calls Tryz.prog 159 #[.int .u8 1,s] w fun e w'=>e=.returned (.int .i64 (fn 1 l))∧w=w':=by
 obtain⟨y,HY⟩:=named (fn 1 l)
 rw[←HY.out]
 have ha:=cnt_le 1 l
 have hb:=cnt_le 0 l
 obtain⟨p,HP⟩:=named (cnt 1 l)
 obtain⟨z,HZ⟩:=named (cnt 0 l)
 rw[←HP.out]at ha
 rw[←HZ.out]at hb
 have ha:p≤1000:=by omega
 have hb:z≤1000:=by omega
 have HS:=Lib.hid hs
 clear hs hlen
 subst hsv
 go_enter Tryz.func159,Tryz.ntmps159
 go_wp2_with (first
  |(go_at_call 164;first
   |((with_reducible refine (count_any 1 l _ _ B HS.out).mono ?_);rintro e w' ⟨rfl,rfl⟩;rw[←HP.out])
   |((with_reducible refine (count_any 0 l _ _ B HS.out).mono ?_);rintro e w' ⟨rfl,rfl⟩;rw[←HZ.out]))
  |(go_at_call 165;(with_reducible refine (bit_any _ _).mono ?_);rintro e w' ⟨rfl,rfl⟩))
 go_ret
 exact⟨ret_int (by rw[HY.out,fn,←HP.out,←HZ.out];simp[fnK,bitI]),rfl⟩
set_option maxHeartbeats 1000000 in
set_option maxRecDepth 100000 in
theorem fun_k2(l:List Int)(s:Value)(n c:Nat)(A:Option Addr)(hsv:s=.slice A n c)(w:World)(B:Nat)(hs:Vi w B s l)(hlen:l.length≤1000):
 Calls Tryz.prog 159 #[.int .u8 2,s] w fun e w'=>e=.returned (.int .i64 (fn 2 l))∧w=w':=by
 obtain⟨y,HY⟩:=named (fn 2 l)
 rw[←HY.out]
 have ha:=cnt_le 1 l
 have hb:=cnt_le 0 l
 obtain⟨p,HP⟩:=named (cnt 1 l)
 obtain⟨z,HZ⟩:=named (cnt 0 l)
 rw[←HP.out]at ha
 rw[←HZ.out]at hb
 have ha:p≤1000:=by omega
 have hb:z≤1000:=by omega
 have HS:=Lib.hid hs
 clear hs hlen
 subst hsv
 go_enter Tryz.func159,Tryz.ntmps159
 go_wp2_with (first
  |(go_at_call 164;first
   |((with_reducible refine (count_any 1 l _ _ B HS.out).mono ?_);rintro e w' ⟨rfl,rfl⟩;rw[←HP.out])
   |((with_reducible refine (count_any 0 l _ _ B HS.out).mono ?_);rintro e w' ⟨rfl,rfl⟩;rw[←HZ.out]))
  |(go_at_call 165;(with_reducible refine (bit_any _ _).mono ?_);rintro e w' ⟨rfl,rfl⟩))
 go_ret
 exact⟨ret_int (by rw[HY.out,fn,←HP.out,←HZ.out];simp[fnK,bitI]),rfl⟩
set_option maxHeartbeats 1000000 in
set_option maxRecDepth 100000 in
theorem fun_k3(l:List Int)(s:Value)(n c:Nat)(A:Option Addr)(hsv:s=.slice A n c)(w:World)(B:Nat)(hs:Vi w B s l)(hlen:l.length≤1000)(hnn:1≤n)(b o:Nat)(hA:A=some ⟨b,o,none⟩)(hc0:w.cell? ⟨b,o+0,none⟩=some (.int .i64 (l.getD 0 0))):
 Calls Tryz.prog 159 #[.int .u8 3,s] w fun e w'=>e=.returned (.int .i64 (fn 3 l))∧w=w':=by
 obtain⟨y,HY⟩:=named (fn 3 l)
 rw[←HY.out]
 have ha:=cnt_le 1 l
 have hb:=cnt_le 0 l
 obtain⟨p,HP⟩:=named (cnt 1 l)
 obtain⟨z,HZ⟩:=named (cnt 0 l)
 rw[←HP.out]at ha
 rw[←HZ.out]at hb
 have ha:p≤1000:=by omega
 have hb:z≤1000:=by omega
 have HS:=Lib.hid hs
 clear hs hlen
 subst hsv
 subst hA
 obtain⟨x0,HX0⟩:=named (l.getD 0 0)
 rw[←HX0.out]at hc0
 simp only[Nat.add_zero]at hc0
 by_cases hx:x0=1
 ·have e:(x0==1)=true:=by simpa using hx
  go_enter Tryz.func159,Tryz.ntmps159
  go_wp2_with (first
   |(go_at_call 164;first
    |((with_reducible refine (count_any 1 l _ _ B HS.out).mono ?_);rintro e w' ⟨rfl,rfl⟩;rw[←HP.out])
    |((with_reducible refine (count_any 0 l _ _ B HS.out).mono ?_);rintro e w' ⟨rfl,rfl⟩;rw[←HZ.out]))
   |(go_at_call 165;(with_reducible refine (bit_any _ _).mono ?_);rintro e w' ⟨rfl,rfl⟩))
  go_ret
  exact⟨ret_int (by rw[HY.out,fn,←HP.out,←HZ.out];simp only[fnK,←HX0.out];simp[bitI,hx]),rfl⟩
 ·have e:(x0==1)=false:=by simpa using hx
  go_enter Tryz.func159,Tryz.ntmps159
  go_wp2_with (first
   |(go_at_call 164;first
    |((with_reducible refine (count_any 1 l _ _ B HS.out).mono ?_);rintro e w' ⟨rfl,rfl⟩;rw[←HP.out])
    |((with_reducible refine (count_any 0 l _ _ B HS.out).mono ?_);rintro e w' ⟨rfl,rfl⟩;rw[←HZ.out]))
   |(go_at_call 165;(with_reducible refine (bit_any _ _).mono ?_);rintro e w' ⟨rfl,rfl⟩))
  go_ret
  exact⟨ret_int (by rw[HY.out,fn,←HP.out,←HZ.out];simp only[fnK,←HX0.out];simp[bitI,hx]),rfl⟩
set_option maxHeartbeats 1000000 in
set_option maxRecDepth 100000 in
theorem fun_k4(l:List Int)(s:Value)(n c:Nat)(A:Option Addr)(hsv:s=.slice A n c)(w:World)(B:Nat)(hs:Vi w B s l)(hlen:l.length≤1000)(hnn:1≤n)(b o:Nat)(hA:A=some ⟨b,o,none⟩)(hc0:w.cell? ⟨b,o+0,none⟩=some (.int .i64 (l.getD 0 0))):
 Calls Tryz.prog 159 #[.int .u8 4,s] w fun e w'=>e=.returned (.int .i64 (fn 4 l))∧w=w':=by
 obtain⟨y,HY⟩:=named (fn 4 l)
 rw[←HY.out]
 have ha:=cnt_le 1 l
 have hb:=cnt_le 0 l
 obtain⟨p,HP⟩:=named (cnt 1 l)
 obtain⟨z,HZ⟩:=named (cnt 0 l)
 rw[←HP.out]at ha
 rw[←HZ.out]at hb
 have ha:p≤1000:=by omega
 have hb:z≤1000:=by omega
 have HS:=Lib.hid hs
 clear hs hlen
 subst hsv
 subst hA
 obtain⟨x0,HX0⟩:=named (l.getD 0 0)
 rw[←HX0.out]at hc0
 simp only[Nat.add_zero]at hc0
 by_cases hx:x0=1
 ·have e:(x0==1)=true:=by simpa using hx
  go_enter Tryz.func159,Tryz.ntmps159
  go_wp2_with (first
   |(go_at_call 164;first
    |((with_reducible refine (count_any 1 l _ _ B HS.out).mono ?_);rintro e w' ⟨rfl,rfl⟩;rw[←HP.out])
    |((with_reducible refine (count_any 0 l _ _ B HS.out).mono ?_);rintro e w' ⟨rfl,rfl⟩;rw[←HZ.out]))
   |(go_at_call 165;(with_reducible refine (bit_any _ _).mono ?_);rintro e w' ⟨rfl,rfl⟩))
  go_ret
  exact⟨ret_int (by rw[HY.out,fn,←HP.out,←HZ.out];simp only[fnK,←HX0.out];simp[bitI,hx]),rfl⟩
 ·have e:(x0==1)=false:=by simpa using hx
  go_enter Tryz.func159,Tryz.ntmps159
  go_wp2_with (first
   |(go_at_call 164;first
    |((with_reducible refine (count_any 1 l _ _ B HS.out).mono ?_);rintro e w' ⟨rfl,rfl⟩;rw[←HP.out])
    |((with_reducible refine (count_any 0 l _ _ B HS.out).mono ?_);rintro e w' ⟨rfl,rfl⟩;rw[←HZ.out]))
   |(go_at_call 165;(with_reducible refine (bit_any _ _).mono ?_);rintro e w' ⟨rfl,rfl⟩))
  go_ret
  exact⟨ret_int (by rw[HY.out,fn,←HP.out,←HZ.out];simp only[fnK,←HX0.out];simp[bitI,hx]),rfl⟩
set_option maxHeartbeats 1000000 in
set_option maxRecDepth 100000 in
theorem fun_k5(l:List Int)(s:Value)(n c:Nat)(A:Option Addr)(hsv:s=.slice A n c)(w:World)(B:Nat)(hs:Vi w B s l)(hlen:l.length≤1000):
 Calls Tryz.prog 159 #[.int .u8 5,s] w fun e w'=>e=.returned (.int .i64 (fn 5 l))∧w=w':=by
 obtain⟨y,HY⟩:=named (fn 5 l)
 rw[←HY.out]
 have ha:=cnt_le 1 l
 have hb:=cnt_le 0 l
 obtain⟨p,HP⟩:=named (cnt 1 l)
 obtain⟨z,HZ⟩:=named (cnt 0 l)
 rw[←HP.out]at ha
 rw[←HZ.out]at hb
 have ha:p≤1000:=by omega
 have hb:z≤1000:=by omega
 have HS:=Lib.hid hs
 clear hs hlen
 subst hsv
 by_cases hz:z=0
 ·subst hz
  go_enter Tryz.func159,Tryz.ntmps159
  go_wp2_with (first
   |(go_at_call 164;first
    |((with_reducible refine (count_any 1 l _ _ B HS.out).mono ?_);rintro e w' ⟨rfl,rfl⟩;rw[←HP.out])
    |((with_reducible refine (count_any 0 l _ _ B HS.out).mono ?_);rintro e w' ⟨rfl,rfl⟩;rw[←HZ.out]))
   |(go_at_call 165;(with_reducible refine (bit_any _ _).mono ?_);rintro e w' ⟨rfl,rfl⟩))
  go_ret
  exact⟨ret_int (by rw[HY.out,fn,←HP.out,←HZ.out];simp[fnK,bitI]),rfl⟩
 ·have e:((z:Int)==0)=false:=by simp;omega
  have e2:decide ((0:Int)<(z:Int))=true:=by simp;omega
  have e3:decide (0<z)=true:=by simp;omega
  have e4:0<z:=by omega
  go_enter Tryz.func159,Tryz.ntmps159
  go_wp2_with (first
   |(go_at_call 164;first
    |((with_reducible refine (count_any 1 l _ _ B HS.out).mono ?_);rintro e w' ⟨rfl,rfl⟩;rw[←HP.out])
    |((with_reducible refine (count_any 0 l _ _ B HS.out).mono ?_);rintro e w' ⟨rfl,rfl⟩;rw[←HZ.out]))
   |(go_at_call 165;(with_reducible refine (bit_any _ _).mono ?_);rintro e w' ⟨rfl,rfl⟩))
  go_ret
  exact⟨ret_int (by rw[HY.out,fn,←HP.out,←HZ.out];simp[fnK,bitI,hz,e4]),rfl⟩
set_option maxHeartbeats 1000000 in
set_option maxRecDepth 100000 in
theorem fun_k6(l:List Int)(s:Value)(n c:Nat)(A:Option Addr)(hsv:s=.slice A n c)(w:World)(B:Nat)(hs:Vi w B s l)(hlen:l.length≤1000):
 Calls Tryz.prog 159 #[.int .u8 6,s] w fun e w'=>e=.returned (.int .i64 (fn 6 l))∧w=w':=by
 obtain⟨y,HY⟩:=named (fn 6 l)
 rw[←HY.out]
 have ha:=cnt_le 1 l
 have hb:=cnt_le 0 l
 obtain⟨p,HP⟩:=named (cnt 1 l)
 obtain⟨z,HZ⟩:=named (cnt 0 l)
 rw[←HP.out]at ha
 rw[←HZ.out]at hb
 have ha:p≤1000:=by omega
 have hb:z≤1000:=by omega
 have HS:=Lib.hid hs
 clear hs hlen
 subst hsv
 by_cases hz:z=0
 ·subst hz
  go_enter Tryz.func159,Tryz.ntmps159
  go_wp2_with (first
   |(go_at_call 164;first
    |((with_reducible refine (count_any 1 l _ _ B HS.out).mono ?_);rintro e w' ⟨rfl,rfl⟩;rw[←HP.out])
    |((with_reducible refine (count_any 0 l _ _ B HS.out).mono ?_);rintro e w' ⟨rfl,rfl⟩;rw[←HZ.out]))
   |(go_at_call 165;(with_reducible refine (bit_any _ _).mono ?_);rintro e w' ⟨rfl,rfl⟩))
  go_ret
  exact⟨ret_int (by rw[HY.out,fn,←HP.out,←HZ.out];simp[fnK,bitI]),rfl⟩
 ·have e:((z:Int)==0)=false:=by simp;omega
  have e2:decide ((0:Int)<(z:Int))=true:=by simp;omega
  have e3:decide (0<z)=true:=by simp;omega
  have e4:0<z:=by omega
  go_enter Tryz.func159,Tryz.ntmps159
  go_wp2_with (first
   |(go_at_call 164;first
    |((with_reducible refine (count_any 1 l _ _ B HS.out).mono ?_);rintro e w' ⟨rfl,rfl⟩;rw[←HP.out])
    |((with_reducible refine (count_any 0 l _ _ B HS.out).mono ?_);rintro e w' ⟨rfl,rfl⟩;rw[←HZ.out]))
   |(go_at_call 165;(with_reducible refine (bit_any _ _).mono ?_);rintro e w' ⟨rfl,rfl⟩))
  go_ret
  exact⟨ret_int (by rw[HY.out,fn,←HP.out,←HZ.out];simp[fnK,bitI,hz,e4]),rfl⟩
set_option maxHeartbeats 1000000 in
set_option maxRecDepth 100000 in
theorem fun_k7(l:List Int)(s:Value)(n c:Nat)(A:Option Addr)(hsv:s=.slice A n c)(w:World)(B:Nat)(hs:Vi w B s l)(hlen:l.length≤1000):
 Calls Tryz.prog 159 #[.int .u8 7,s] w fun e w'=>e=.returned (.int .i64 (fn 7 l))∧w=w':=by
 obtain⟨y,HY⟩:=named (fn 7 l)
 rw[←HY.out]
 have ha:=cnt_le 1 l
 have hb:=cnt_le 0 l
 obtain⟨p,HP⟩:=named (cnt 1 l)
 obtain⟨z,HZ⟩:=named (cnt 0 l)
 rw[←HP.out]at ha
 rw[←HZ.out]at hb
 have ha:p≤1000:=by omega
 have hb:z≤1000:=by omega
 have HS:=Lib.hid hs
 clear hs hlen
 subst hsv
 by_cases hz:p=0
 ·subst hz
  go_enter Tryz.func159,Tryz.ntmps159
  go_wp2_with (first
   |(go_at_call 164;first
    |((with_reducible refine (count_any 1 l _ _ B HS.out).mono ?_);rintro e w' ⟨rfl,rfl⟩;rw[←HP.out])
    |((with_reducible refine (count_any 0 l _ _ B HS.out).mono ?_);rintro e w' ⟨rfl,rfl⟩;rw[←HZ.out]))
   |(go_at_call 165;(with_reducible refine (bit_any _ _).mono ?_);rintro e w' ⟨rfl,rfl⟩))
  go_ret
  exact⟨ret_int (by rw[HY.out,fn,←HP.out,←HZ.out];simp[fnK,bitI]),rfl⟩
 ·have e:((p:Int)==0)=false:=by simp;omega
  have e2:decide ((0:Int)<(p:Int))=true:=by simp;omega
  have e3:decide (0<p)=true:=by simp;omega
  have e4:0<p:=by omega
  go_enter Tryz.func159,Tryz.ntmps159
  go_wp2_with (first
   |(go_at_call 164;first
    |((with_reducible refine (count_any 1 l _ _ B HS.out).mono ?_);rintro e w' ⟨rfl,rfl⟩;rw[←HP.out])
    |((with_reducible refine (count_any 0 l _ _ B HS.out).mono ?_);rintro e w' ⟨rfl,rfl⟩;rw[←HZ.out]))
   |(go_at_call 165;(with_reducible refine (bit_any _ _).mono ?_);rintro e w' ⟨rfl,rfl⟩))
  go_ret
  exact⟨ret_int (by rw[HY.out,fn,←HP.out,←HZ.out];simp[fnK,bitI,hz,e4]),rfl⟩
set_option maxHeartbeats 1000000 in
set_option maxRecDepth 100000 in
theorem fun_k8(l:List Int)(s:Value)(n c:Nat)(A:Option Addr)(hsv:s=.slice A n c)(w:World)(B:Nat)(hs:Vi w B s l)(hlen:l.length≤1000):
 Calls Tryz.prog 159 #[.int .u8 8,s] w fun e w'=>e=.returned (.int .i64 (fn 8 l))∧w=w':=by
 obtain⟨y,HY⟩:=named (fn 8 l)
 rw[←HY.out]
 have ha:=cnt_le 1 l
 have hb:=cnt_le 0 l
 obtain⟨p,HP⟩:=named (cnt 1 l)
 obtain⟨z,HZ⟩:=named (cnt 0 l)
 rw[←HP.out]at ha
 rw[←HZ.out]at hb
 have ha:p≤1000:=by omega
 have hb:z≤1000:=by omega
 have HS:=Lib.hid hs
 clear hs hlen
 subst hsv
 by_cases hz:p=0
 ·subst hz
  go_enter Tryz.func159,Tryz.ntmps159
  go_wp2_with (first
   |(go_at_call 164;first
    |((with_reducible refine (count_any 1 l _ _ B HS.out).mono ?_);rintro e w' ⟨rfl,rfl⟩;rw[←HP.out])
    |((with_reducible refine (count_any 0 l _ _ B HS.out).mono ?_);rintro e w' ⟨rfl,rfl⟩;rw[←HZ.out]))
   |(go_at_call 165;(with_reducible refine (bit_any _ _).mono ?_);rintro e w' ⟨rfl,rfl⟩))
  go_ret
  exact⟨ret_int (by rw[HY.out,fn,←HP.out,←HZ.out];simp[fnK,bitI]),rfl⟩
 ·have e:((p:Int)==0)=false:=by simp;omega
  have e2:decide ((0:Int)<(p:Int))=true:=by simp;omega
  have e3:decide (0<p)=true:=by simp;omega
  have e4:0<p:=by omega
  go_enter Tryz.func159,Tryz.ntmps159
  go_wp2_with (first
   |(go_at_call 164;first
    |((with_reducible refine (count_any 1 l _ _ B HS.out).mono ?_);rintro e w' ⟨rfl,rfl⟩;rw[←HP.out])
    |((with_reducible refine (count_any 0 l _ _ B HS.out).mono ?_);rintro e w' ⟨rfl,rfl⟩;rw[←HZ.out]))
   |(go_at_call 165;(with_reducible refine (bit_any _ _).mono ?_);rintro e w' ⟨rfl,rfl⟩))
  go_ret
  exact⟨ret_int (by rw[HY.out,fn,←HP.out,←HZ.out];simp[fnK,bitI,hz,e4]),rfl⟩
set_option maxHeartbeats 1000000 in
set_option maxRecDepth 100000 in
theorem fun_k9(l:List Int)(s:Value)(n c:Nat)(A:Option Addr)(hsv:s=.slice A n c)(w:World)(B:Nat)(hs:Vi w B s l)(hlen:l.length≤1000):
 Calls Tryz.prog 159 #[.int .u8 9,s] w fun e w'=>e=.returned (.int .i64 (fn 9 l))∧w=w':=by
 obtain⟨y,HY⟩:=named (fn 9 l)
 rw[←HY.out]
 have ha:=cnt_le 1 l
 have hb:=cnt_le 0 l
 obtain⟨p,HP⟩:=named (cnt 1 l)
 obtain⟨z,HZ⟩:=named (cnt 0 l)
 rw[←HP.out]at ha
 rw[←HZ.out]at hb
 have ha:p≤1000:=by omega
 have hb:z≤1000:=by omega
 have HS:=Lib.hid hs
 clear hs hlen
 subst hsv
 by_cases hm:p%2=1
 ·have e:(((p:Int)%2)==1)=true:=by simp;omega
  go_enter Tryz.func159,Tryz.ntmps159
  go_wp2_with (first
   |(go_at_call 164;first
    |((with_reducible refine (count_any 1 l _ _ B HS.out).mono ?_);rintro e w' ⟨rfl,rfl⟩;rw[←HP.out])
    |((with_reducible refine (count_any 0 l _ _ B HS.out).mono ?_);rintro e w' ⟨rfl,rfl⟩;rw[←HZ.out]))
   |(go_at_call 165;(with_reducible refine (bit_any _ _).mono ?_);rintro e w' ⟨rfl,rfl⟩))
  go_ret
  exact⟨ret_int (by rw[HY.out,fn,←HP.out,←HZ.out];simp[fnK,bitI,hm]),rfl⟩
 ·have e:(((p:Int)%2)==1)=false:=by simp;omega
  go_enter Tryz.func159,Tryz.ntmps159
  go_wp2_with (first
   |(go_at_call 164;first
    |((with_reducible refine (count_any 1 l _ _ B HS.out).mono ?_);rintro e w' ⟨rfl,rfl⟩;rw[←HP.out])
    |((with_reducible refine (count_any 0 l _ _ B HS.out).mono ?_);rintro e w' ⟨rfl,rfl⟩;rw[←HZ.out]))
   |(go_at_call 165;(with_reducible refine (bit_any _ _).mono ?_);rintro e w' ⟨rfl,rfl⟩))
  go_ret
  exact⟨ret_int (by rw[HY.out,fn,←HP.out,←HZ.out];simp[fnK,bitI,hm]),rfl⟩
set_option maxHeartbeats 1000000 in
set_option maxRecDepth 100000 in
theorem fun_k10(l:List Int)(s:Value)(n c:Nat)(A:Option Addr)(hsv:s=.slice A n c)(w:World)(B:Nat)(hs:Vi w B s l)(hlen:l.length≤1000):
 Calls Tryz.prog 159 #[.int .u8 10,s] w fun e w'=>e=.returned (.int .i64 (fn 10 l))∧w=w':=by
 obtain⟨y,HY⟩:=named (fn 10 l)
 rw[←HY.out]
 have ha:=cnt_le 1 l
 have hb:=cnt_le 0 l
 obtain⟨p,HP⟩:=named (cnt 1 l)
 obtain⟨z,HZ⟩:=named (cnt 0 l)
 rw[←HP.out]at ha
 rw[←HZ.out]at hb
 have ha:p≤1000:=by omega
 have hb:z≤1000:=by omega
 have HS:=Lib.hid hs
 clear hs hlen
 subst hsv
 by_cases hm:p%2=1
 ·have e:(((p:Int)%2)==1)=true:=by simp;omega
  go_enter Tryz.func159,Tryz.ntmps159
  go_wp2_with (first
   |(go_at_call 164;first
    |((with_reducible refine (count_any 1 l _ _ B HS.out).mono ?_);rintro e w' ⟨rfl,rfl⟩;rw[←HP.out])
    |((with_reducible refine (count_any 0 l _ _ B HS.out).mono ?_);rintro e w' ⟨rfl,rfl⟩;rw[←HZ.out]))
   |(go_at_call 165;(with_reducible refine (bit_any _ _).mono ?_);rintro e w' ⟨rfl,rfl⟩))
  go_ret
  exact⟨ret_int (by rw[HY.out,fn,←HP.out,←HZ.out];simp[fnK,bitI,hm]),rfl⟩
 ·have e:(((p:Int)%2)==1)=false:=by simp;omega
  go_enter Tryz.func159,Tryz.ntmps159
  go_wp2_with (first
   |(go_at_call 164;first
    |((with_reducible refine (count_any 1 l _ _ B HS.out).mono ?_);rintro e w' ⟨rfl,rfl⟩;rw[←HP.out])
    |((with_reducible refine (count_any 0 l _ _ B HS.out).mono ?_);rintro e w' ⟨rfl,rfl⟩;rw[←HZ.out]))
   |(go_at_call 165;(with_reducible refine (bit_any _ _).mono ?_);rintro e w' ⟨rfl,rfl⟩))
  go_ret
  exact⟨ret_int (by rw[HY.out,fn,←HP.out,←HZ.out];simp[fnK,bitI,hm]),rfl⟩
set_option maxHeartbeats 1000000 in
set_option maxRecDepth 100000 in
theorem fun_k11(l:List Int)(s:Value)(n c:Nat)(A:Option Addr)(hsv:s=.slice A n c)(w:World)(B:Nat)(hs:Vi w B s l)(hlen:l.length≤1000)(hnn:3≤n)(b o:Nat)(hA:A=some ⟨b,o,none⟩)(hc0:w.cell? ⟨b,o+0,none⟩=some (.int .i64 (l.getD 0 0)))(hc1:w.cell? ⟨b,o+1,none⟩=some (.int .i64 (l.getD 1 0)))(hc2:w.cell? ⟨b,o+2,none⟩=some (.int .i64 (l.getD 2 0))):
 Calls Tryz.prog 159 #[.int .u8 11,s] w fun e w'=>e=.returned (.int .i64 (fn 11 l))∧w=w':=by
 obtain⟨y,HY⟩:=named (fn 11 l)
 rw[←HY.out]
 have ha:=cnt_le 1 l
 have hb:=cnt_le 0 l
 obtain⟨p,HP⟩:=named (cnt 1 l)
 obtain⟨z,HZ⟩:=named (cnt 0 l)
 rw[←HP.out]at ha
 rw[←HZ.out]at hb
 have ha:p≤1000:=by omega
 have hb:z≤1000:=by omega
 have HS:=Lib.hid hs
 clear hs hlen
 subst hsv
 subst hA
 obtain⟨x0,HX0⟩:=named (l.getD 0 0)
 rw[←HX0.out]at hc0
 obtain⟨x1,HX1⟩:=named (l.getD 1 0)
 rw[←HX1.out]at hc1
 obtain⟨x2,HX2⟩:=named (l.getD 2 0)
 rw[←HX2.out]at hc2
 simp only[Nat.add_zero]at hc0
 by_cases hx:x0=0
 ·have e:(x0==0)=true:=by simpa using hx
  go_enter Tryz.func159,Tryz.ntmps159
  go_wp2_with (first
   |(go_at_call 164;first
    |((with_reducible refine (count_any 1 l _ _ B HS.out).mono ?_);rintro e w' ⟨rfl,rfl⟩;rw[←HP.out])
    |((with_reducible refine (count_any 0 l _ _ B HS.out).mono ?_);rintro e w' ⟨rfl,rfl⟩;rw[←HZ.out]))
   |(go_at_call 165;(with_reducible refine (bit_any _ _).mono ?_);rintro e w' ⟨rfl,rfl⟩))
  go_ret
  exact⟨ret_int (by rw[HY.out,fn,←HP.out,←HZ.out];simp only[fnK,←HX0.out,←HX1.out,←HX2.out];simp[bitI,hx]),rfl⟩
 ·have e:(x0==0)=false:=by simpa using hx
  go_enter Tryz.func159,Tryz.ntmps159
  go_wp2_with (first
   |(go_at_call 164;first
    |((with_reducible refine (count_any 1 l _ _ B HS.out).mono ?_);rintro e w' ⟨rfl,rfl⟩;rw[←HP.out])
    |((with_reducible refine (count_any 0 l _ _ B HS.out).mono ?_);rintro e w' ⟨rfl,rfl⟩;rw[←HZ.out]))
   |(go_at_call 165;(with_reducible refine (bit_any _ _).mono ?_);rintro e w' ⟨rfl,rfl⟩))
  go_ret
  exact⟨ret_int (by rw[HY.out,fn,←HP.out,←HZ.out];simp only[fnK,←HX0.out,←HX1.out,←HX2.out];simp[bitI,hx]),rfl⟩
set_option maxHeartbeats 1000000 in
set_option maxRecDepth 100000 in
theorem fun_k12(l:List Int)(s:Value)(n c:Nat)(A:Option Addr)(hsv:s=.slice A n c)(w:World)(B:Nat)(hs:Vi w B s l)(hlen:l.length≤1000)(hnn:2≤n)(b o:Nat)(hA:A=some ⟨b,o,none⟩)(hc0:w.cell? ⟨b,o+0,none⟩=some (.int .i64 (l.getD 0 0)))(hc1:w.cell? ⟨b,o+1,none⟩=some (.int .i64 (l.getD 1 0))):
 Calls Tryz.prog 159 #[.int .u8 12,s] w fun e w'=>e=.returned (.int .i64 (fn 12 l))∧w=w':=by
 obtain⟨y,HY⟩:=named (fn 12 l)
 rw[←HY.out]
 have ha:=cnt_le 1 l
 have hb:=cnt_le 0 l
 obtain⟨p,HP⟩:=named (cnt 1 l)
 obtain⟨z,HZ⟩:=named (cnt 0 l)
 rw[←HP.out]at ha
 rw[←HZ.out]at hb
 have ha:p≤1000:=by omega
 have hb:z≤1000:=by omega
 have HS:=Lib.hid hs
 clear hs hlen
 subst hsv
 subst hA
 obtain⟨x0,HX0⟩:=named (l.getD 0 0)
 rw[←HX0.out]at hc0
 obtain⟨x1,HX1⟩:=named (l.getD 1 0)
 rw[←HX1.out]at hc1
 simp only[Nat.add_zero]at hc0
 by_cases hx:x0=0
 ·have e:(x0==0)=true:=by simpa using hx
  go_enter Tryz.func159,Tryz.ntmps159
  go_wp2_with (first
   |(go_at_call 164;first
    |((with_reducible refine (count_any 1 l _ _ B HS.out).mono ?_);rintro e w' ⟨rfl,rfl⟩;rw[←HP.out])
    |((with_reducible refine (count_any 0 l _ _ B HS.out).mono ?_);rintro e w' ⟨rfl,rfl⟩;rw[←HZ.out]))
   |(go_at_call 165;(with_reducible refine (bit_any _ _).mono ?_);rintro e w' ⟨rfl,rfl⟩))
  go_ret
  exact⟨ret_int (by rw[HY.out,fn,←HP.out,←HZ.out];simp only[fnK,←HX0.out,←HX1.out];simp[bitI,hx]),rfl⟩
 ·have e:(x0==0)=false:=by simpa using hx
  go_enter Tryz.func159,Tryz.ntmps159
  go_wp2_with (first
   |(go_at_call 164;first
    |((with_reducible refine (count_any 1 l _ _ B HS.out).mono ?_);rintro e w' ⟨rfl,rfl⟩;rw[←HP.out])
    |((with_reducible refine (count_any 0 l _ _ B HS.out).mono ?_);rintro e w' ⟨rfl,rfl⟩;rw[←HZ.out]))
   |(go_at_call 165;(with_reducible refine (bit_any _ _).mono ?_);rintro e w' ⟨rfl,rfl⟩))
  go_ret
  exact⟨ret_int (by rw[HY.out,fn,←HP.out,←HZ.out];simp only[fnK,←HX0.out,←HX1.out];simp[bitI,hx]),rfl⟩
set_option maxHeartbeats 1000000 in
set_option maxRecDepth 100000 in
theorem fun_k13(l:List Int)(s:Value)(n c:Nat)(A:Option Addr)(hsv:s=.slice A n c)(w:World)(B:Nat)(hs:Vi w B s l)(hlen:l.length≤1000):
 Calls Tryz.prog 159 #[.int .u8 13,s] w fun e w'=>e=.returned (.int .i64 (fn 13 l))∧w=w':=by
 obtain⟨y,HY⟩:=named (fn 13 l)
 rw[←HY.out]
 have ha:=cnt_le 1 l
 have hb:=cnt_le 0 l
 obtain⟨p,HP⟩:=named (cnt 1 l)
 obtain⟨z,HZ⟩:=named (cnt 0 l)
 rw[←HP.out]at ha
 rw[←HZ.out]at hb
 have ha:p≤1000:=by omega
 have hb:z≤1000:=by omega
 have HS:=Lib.hid hs
 clear hs hlen
 subst hsv
 by_cases hp:p=0
 ·subst hp
  by_cases hz:z=0
  ·subst hz
   go_enter Tryz.func159,Tryz.ntmps159
   go_wp2_with (first
    |(go_at_call 164;first
     |((with_reducible refine (count_any 1 l _ _ B HS.out).mono ?_);rintro e w' ⟨rfl,rfl⟩;rw[←HP.out])
     |((with_reducible refine (count_any 0 l _ _ B HS.out).mono ?_);rintro e w' ⟨rfl,rfl⟩;rw[←HZ.out]))
    |(go_at_call 165;(with_reducible refine (bit_any _ _).mono ?_);rintro e w' ⟨rfl,rfl⟩))
   go_ret
   exact⟨ret_int (by rw[HY.out,fn,←HP.out,←HZ.out];simp[fnK,bitI]),rfl⟩
  ·have z1:decide ((0:Int)<(z:Int))=true:=by simp;omega
   have z2:0<z:=by omega
   have z3:decide (0<z)=true:=by simp;omega
   have s1:((z:Int)==0)=false:=by simp;omega
   go_enter Tryz.func159,Tryz.ntmps159
   go_wp2_with (first
    |(go_at_call 164;first
     |((with_reducible refine (count_any 1 l _ _ B HS.out).mono ?_);rintro e w' ⟨rfl,rfl⟩;rw[←HP.out])
     |((with_reducible refine (count_any 0 l _ _ B HS.out).mono ?_);rintro e w' ⟨rfl,rfl⟩;rw[←HZ.out]))
    |(go_at_call 165;(with_reducible refine (bit_any _ _).mono ?_);rintro e w' ⟨rfl,rfl⟩))
   go_ret
   exact⟨ret_int (by rw[HY.out,fn,←HP.out,←HZ.out];simp[fnK,bitI,hz,z2]),rfl⟩
 ·have q1:decide ((0:Int)<(p:Int))=true:=by simp;omega
  have q2:0<p:=by omega
  have q3:decide (0<p)=true:=by simp;omega
  by_cases hz:z=0
  ·subst hz
   have s1:((p:Int)==0)=false:=by simp;omega
   go_enter Tryz.func159,Tryz.ntmps159
   go_wp2_with (first
    |(go_at_call 164;first
     |((with_reducible refine (count_any 1 l _ _ B HS.out).mono ?_);rintro e w' ⟨rfl,rfl⟩;rw[←HP.out])
     |((with_reducible refine (count_any 0 l _ _ B HS.out).mono ?_);rintro e w' ⟨rfl,rfl⟩;rw[←HZ.out]))
    |(go_at_call 165;(with_reducible refine (bit_any _ _).mono ?_);rintro e w' ⟨rfl,rfl⟩))
   go_ret
   exact⟨ret_int (by rw[HY.out,fn,←HP.out,←HZ.out];simp[fnK,bitI,hp,q2]),rfl⟩
  ·have z1:decide ((0:Int)<(z:Int))=true:=by simp;omega
   have z2:0<z:=by omega
   have z3:decide (0<z)=true:=by simp;omega
   have s1:(((p:Int)+(z:Int))==0)=false:=by simp;omega
   go_enter Tryz.func159,Tryz.ntmps159
   go_wp2_with (first
    |(go_at_call 164;first
     |((with_reducible refine (count_any 1 l _ _ B HS.out).mono ?_);rintro e w' ⟨rfl,rfl⟩;rw[←HP.out])
     |((with_reducible refine (count_any 0 l _ _ B HS.out).mono ?_);rintro e w' ⟨rfl,rfl⟩;rw[←HZ.out]))
    |(go_at_call 165;(with_reducible refine (bit_any _ _).mono ?_);rintro e w' ⟨rfl,rfl⟩))
   go_ret
   exact⟨ret_int (by rw[HY.out,fn,←HP.out,←HZ.out];simp[fnK,bitI,hp,q2,hz,z2]),rfl⟩
end Go.Proofs.YtemjmfpcopfdbaaGreatDoor.Lg
namespace Go.Proofs.YtemjmfpcopfdbaaGreatDoor
open Go.RowKit
set_option maxHeartbeats 1000000 in
theorem rbit_any(l:List Int)(A:Option Addr)(m c b:Nat)(w:World)(B:Nat)(hs:Ks w B (.slice A m c) l):
 Calls Tryz.prog 92 #[.slice A m c,.int .i64 (b:Int)] w fun e w'=>e=.returned (.slice (some ⟨w.heap.size,0,none⟩) (bw l b).length (bw l b).length)∧w'=w.alloc (.cells ((bw l b).map (Value.int .i64)).toArray 3):=by
 obtain⟨A',b',o,c',e,hA,-,hm,hc⟩:=hs.opens
 simp only[Value.slice.injEq]at e
 obtain⟨rfl,hml,rfl⟩:=e
 rw[←hml]at hA hc hm
 unfold maxLen at hm
 by_cases h:m≤b
 ·have e:bw l b=[0,1]:=by unfold bw;rw[if_pos (by omega)]
  rw[e]
  clear hA hc hs hml e
  have h1:(m:Int)≤(b:Int):=by omega
  go_enter Tryz.func92,Tryz.ntmps92
  go_wp2
  go_ret
  exact⟨rfl,rfl⟩
 ·have e:bw l b=Lg.chc (l.getD b 0) false:=by unfold bw;rw[if_neg (by omega)]
  rw[e]
  obtain rfl:=hA (by omega)
  have x0:=(hc b (by omega)).2
  obtain⟨y,HY⟩:=named (l.getD b 0)
  rw[←HY.out]at x0 ⊢
  have HC:=Lib.hid (Lg.choices_any y false w)
  obtain⟨k,HK⟩:=named (Lg.chc y false)
  rw[←HK.out]at HC ⊢
  clear hA hc hs hml e
  have h1:¬(m:Int)≤(b:Int):=by omega
  have h2:(b:Int)<(m:Int):=by omega
  go_enter Tryz.func92,Tryz.ntmps92
  go_wp2_with (go_at_call 91;(with_reducible refine HC.out.mono ?_);rintro e w' ⟨rfl,rfl⟩)
  go_ret
  exact⟨rfl,rfl⟩
set_option maxHeartbeats 2000000 in
theorem rval_any(l:List Int)(A:Option Addr)(m c:Nat)(w:World)(B:Nat)(hs:Is w B (.slice A m c) l)(h01:∀x∈l,x=0∨x=1)(hsz:m≤1000000):
 Calls Tryz.prog 93 #[.slice A m c] w fun e w'=>e=.returned (.int .u8 (valL l))∧BelW w w':=by
 obtain⟨A',b',o,c',e,hA,-,hm,hc⟩:=hs.opens
 simp only[Value.slice.injEq]at e
 obtain⟨rfl,hml,rfl⟩:=e
 rw[←hml]at hA hc hm
 obtain⟨y,HY⟩:=named (valL l)
 rw[←HY.out]
 have HA:=Lib.hid hA
 have HC:=Lib.hid hc
 have HML:=Lib.hid hml
 have hx0:0<m→l.getD 0 0=0∨l.getD 0 0=1:=fun h=>by
  have h2:0<l.length:=by omega
  have:=h01 l[0] (List.getElem_mem h2)
  rwa [List.getD_eq_getElem?_getD,List.getElem?_eq_getElem h2]
 obtain⟨x0,HX0⟩:=named (l.getD 0 0)
 rw[←HX0.out]at hx0
 have HZ:=Lib.hid hx0
 clear hA hc hs hml hx0 h01
 go_enter Tryz.func93,Tryz.ntmps93
 go_wp2
 go_loopw [3] (fun i wr=>∃k:Nat,k≤m∧i=.int .i64 k∧(∀j,j<k→l.getD j 0=x0)∧∃z,wr=w.drewN z) (fun i _=>m-(intOf i).toNat)
 case atStart=>exact⟨0,Nat.zero_le _,rfl,fun j hj=>absurd hj (by omega),0,rfl⟩
 case round=>
  obtain⟨k,hk,rfl,hall,z,rfl⟩:=hrel
  have HALL:=Lib.hid hall
  clear hall
  by_cases hlt:k<m
  ·obtain rfl:=HA.out (by omega)
   have c0:=(HC.out 0 (by omega)).2
   have ck:=(HC.out k hlt).2
   rw[←HX0.out]at c0
   rw[Nat.add_zero]at c0
   obtain⟨x,HX⟩:=named (l.getD k 0)
   rw[←HX.out]at ck
   have hk2:(k:Int)<(m:Int):=by omega
   have hm0:(0:Int)<(m:Int):=by omega
   by_cases hxx:x=x0
   ·have t1:(x != x0)=false:=by simp[hxx]
    have HN:Hid (∀j,j<k+1→l.getD j 0=x0):=Lib.hid fun j hj=>by
     by_cases e:j=k
     ·rw[e,←HX.out,hxx]
     ·exact HALL.out j (by omega)
    clear hxx
    go_wp2
    go_quiet (fail)
    go_wp2
    go_roundw
    case rel=>exact⟨k+1,by omega,by go_num,HN.out,_,rfl⟩
    case measure=>simp[intOf];omega
   ·have t1:(x != x0)=true:=by simpa using hxx
    have HE:Hid (y=2):=Lib.hid (by
     rw[HY.out]
     have h1:k<l.length:=by rw[←HML.out];exact hlt
     refine valL_mix (x:=l.getD k 0) (y:=l.getD 0 0) ?_ ?_ (by rw[←HX.out,←HX0.out];exact hxx)
     ·rw[List.getD_eq_getElem?_getD,List.getElem?_eq_getElem h1];exact List.getElem_mem h1
     ·rw[List.getD_eq_getElem?_getD,List.getElem?_eq_getElem (by omega)];exact List.getElem_mem (by omega))
    clear hxx
    go_wp2
    go_quiet (fail)
    go_wp2
    go_ret
    exact⟨by rw[HE.out];rfl,below_drewN (below_drewN (Below.refl _ _) _) _⟩
  ·obtain rfl:m=k:=by omega
   by_cases h0:m=0
   ·subst h0
    have HE:Hid (y=2):=Lib.hid (by
     rw[HY.out,List.eq_nil_of_length_eq_zero HML.out.symm];rfl)
    go_wp2
    go_ret
    exact⟨by rw[HE.out];rfl,below_drewN (Below.refl _ _) _⟩
   ·obtain rfl:=HA.out (by omega)
    have c0:=(HC.out 0 (by omega)).2
    rw[←HX0.out]at c0
    rw[Nat.add_zero]at c0
    have hm0:(0:Int)<(m:Int):=by omega
    have hne:¬(m:Int)=0:=by omega
    have HE:Hid (y=x0):=Lib.hid (by
     rw[HY.out]
     refine valL_all (fun e=>?_) fun x hx=>?_
     ·rw[e]at HML
      exact h0 HML.out
     ·obtain⟨j,hj,rfl⟩:=List.mem_iff_getElem.1 hx
      have:=HALL.out j (by rw[HML.out];exact hj)
      rwa [List.getD_eq_getElem?_getD,List.getElem?_eq_getElem hj]at this)
    rcases HZ.out (by omega) with e|e
    all_goals
     rw[e]at c0
     have HE2:=Lib.hid (HE.out.trans e)
     clear e
     go_wp2
     go_ret
     exact⟨by rw[HE2.out];rfl,below_drewN (Below.refl _ _) _⟩
theorem take_flat{l:List Int}(f:Int→List Int){i:Nat}(h:i<l.length):(l.take (i+1)).flatMap f=(l.take i).flatMap f++f (l.getD i 0):=by
 rw[List.take_add_one,List.flatMap_append,List.getElem?_eq_getElem h,List.getD_eq_getElem?_getD,List.getElem?_eq_getElem h]
 simp
theorem take_map{l:List Int}(f:Int→Int){i:Nat}(h:i<l.length):(l.take (i+1)).map f=(l.take i).map f++[f (l.getD i 0)]:=by
 rw[List.take_add_one,List.map_append,List.getElem?_eq_getElem h,List.getD_eq_getElem?_getD,List.getElem?_eq_getElem h]
 rfl
theorem adS_len(ad:List Int)(k:Nat):(adS ad k).length≤2^k:=by
 induction k with
 |zero=>simp[adS]
 |succ k ih=>
  unfold adS
  have h:∀l:List Int,(l.flatMap fun o=>(Lg.chc (ad.getD k 0) false).map fun m=>o+m*2^k).length≤l.length*2:=fun l=>by
   induction l with
   |nil=>simp
   |cons a t iht=>
    rw[List.flatMap_cons,List.length_append,List.length_map,List.length_cons]
    have:(Lg.chc (ad.getD k 0) false).length≤2:=by rcases chc_01 (ad.getD k 0) with h|h|h<;>rw[h]<;>decide
    omega
  have:=h (adS ad k)
  rw[Nat.pow_succ]
  omega
theorem step_ints{P:Program}{ops:Array Oper}{o:Oper}{a:Act}{w:World}{K:Act→World→Prop}{Q:Exit→Act→World→Prop}{E:Prop}(hgd:o.guard=none)(s x:Operand)(t:TypeId)
 (ho:o.op=.call { callee:=.builtin .append,args:=#[s,x],argTypes:=#[t,t] })
 (base:Nat) (e:TypeId) (i:TypeInfo) (z:Value) (ht:P.underlying t=some (.slice e)) (hi:P.info? e=some i) (hz:i.zero=some z) (hsize:i.size=1) (hby:i.bytes=8) (hzs:z.cells.size=1)
 (v:Value) (n:Nat) (xs:List Value) (hs:a.eval s=v) (hown:w.ownsRow base e 1 v n xs) (ad:Addr) (m c:Nat) (news:List Value) (hx:a.eval x=.slice (some ad) m c)
 (hl:news.length=m) (hnews:∀j u,news[j]? =some u→w.cell? (ad.add j)=some u) (h1:∀u∈news,u.oneCell'=true) (hnm:n+m≤1000000) (hbase:base≤w.heap.size)
 (h:∀v' w',w'.ownsRow base e 1 v' (n+m) (xs++news)→w.grownBy w' v.ownBlock→K (a.put o.dst v') w'):
 if Region.wanted o (yielded ops a.tmps)=true then Oper.wp P o a w K Q else E:=by
 have hw:Region.wanted o (yielded ops a.tmps)=true:=by simp[Region.wanted,hgd]
 rw[if_pos hw]
 exact wp_append_own w s x t ho base e i z 1 8 ht hi hz hsize hby hzs (by decide) v n xs hs hown ad m c news hx (by rw[hl,Nat.mul_one]) hnews h1 (by unfold maxLen;omega) (by omega) hbase fun v' w' h2 h3 _=>h v' w' h2 h3
theorem chc_01m(v y:Int)(h:y∈Lg.chc v false):y=0∨y=1:=by
 rcases chc_01 v with e|e|e<;>rw[e]at h<;>simp at h
 ·exact .inl h
 ·exact .inr h
 ·exact h
theorem adS_bnd(ad:List Int)(k:Nat)(x:Int)(h:x∈adS ad k):0≤x∧x<2^k:=by
 obtain⟨n,rfl,hn,-⟩:=(adS_mem ad k x).1 h
 refine⟨by omega,?_⟩
 have:=Int.ofNat_lt.2 hn
 rwa [Int.natCast_pow]at this
theorem getD_mem{l:List Int}{i:Nat}(h:i<l.length):l.getD i 0∈l:=by
 rw[List.getD_eq_getElem?_getD,List.getElem?_eq_getElem h];exact List.getElem_mem h
theorem stk_is{w:World}{g:Nat}{v:Value}{l:List Int}(h:Stk w g v l):∃A c,v=.slice A l.length c∧Is w w.heap.size (.slice A l.length c) l:=by
 obtain⟨A,c,rfl,hle,hm,-⟩:=h.form
 exact⟨A,c,rfl,h.reads c hle (Nat.le_trans hle hm)⟩
set_option maxRecDepth 100000 in
set_option maxHeartbeats 4000000 in
theorem adr_any(ad:List Int)(A:Option Addr)(n c:Nat)(w:World)(B:Nat)(hB:B≤w.heap.size)(hs:Ks w B (.slice A n c) ad)(h6:n≤6):
 Calls Tryz.prog 90 #[.slice A n c] w fun e w'=>∃A' c',e=.returned (.slice A' (adS ad n).length c')∧Is w' w'.heap.size (.slice A' (adS ad n).length c') (adS ad n)∧BelW w w':=by
 obtain⟨A',b,o,c',e,hA,-,hm,hc⟩:=hs.opens
 simp only[Value.slice.injEq]at e
 obtain⟨rfl,hml,rfl⟩:=e
 rw[←hml]at hA hc
 have HA:=Lib.hid hA
 have HC:Hid (∀k,k<n→∀W,BelW w W→W.cell? ⟨b,o+k,none⟩=some (.int .u8 (ad.getD k 0))):=Lib.hid fun k hk W h=>(Below.cell h (p:=⟨b,o+k,none⟩) (Nat.lt_of_lt_of_le (hc k hk).1 hB)).trans (hc k hk).2
 obtain⟨ii,hji,hy0,hy1,hy2⟩:=info_parts info_int
 have HJ:=Lib.hid (And.intro hji (And.intro hy0 (And.intro hy1 hy2)))
 clear hA hc hs hml hji hy0 hy1 hy2 hm
 obtain⟨W1,HW1⟩:=named (w.alloc (.cells #[.int .i64 0] 3))
 have hb1:BelW w W1:=by rw[HW1.out];exact below_new (Below.refl _ _) _
 have hf1:Fr W1 w.heap.size 3 [.int .i64 0]:=by rw[HW1.out];exact Fr.made _ [.int .i64 0] _ rfl
 have hi1:Is W1 W1.heap.size (.slice (some ⟨w.heap.size,0,none⟩) 1 1) [0]:=⟨_,w.heap.size,0,1,rfl,fun _=>rfl,by decide,by decide,fun k hk=>⟨hf1.lt,by
  obtain rfl:k=0:=by simpa using hk
  exact hf1.cell 0⟩⟩
 have HB1:=Lib.hid hb1
 have HI1:=Lib.hid hi1
 clear hb1 hf1 hi1
 have hb0:B≤w.heap.size:=hB
 obtain⟨q0,HQ0⟩:=named w.heap.size
 rw[←HQ0.out]at HI1
 go_enter Tryz.func90,Tryz.ntmps90
 go_upto_region 2 with (fail)
 rw[←HW1.out,←HQ0.out]
 go_wp2
 go_loopw [3,4] (fun ov kv wr=>∃(k:Nat) (A:Option Addr) (c:Nat),k≤n∧kv=.int .i64 k∧ov=.slice A (adS ad k).length c∧Is wr wr.heap.size (.slice A (adS ad k).length c) (adS ad k)∧BelW w wr) (fun _ kv _=>n-(intOf kv).toNat)
 case atStart=>exact⟨0,_,_,Nat.zero_le _,rfl,rfl,HI1.out,HB1.out⟩
 case round=>
  obtain⟨k,Ao,co,hk,rfl,rfl,hio,hb⟩:=hrel
  have HIO:=Lib.hid hio
  have HBR:=Lib.hid hb
  by_cases hlt:k<n
  ·obtain rfl:=HA.out (by omega)
   have x0:=HC.out k hlt wr hb
   have hk2:(k:Int)<(n:Int):=by omega
   have HSU:Hid (adS ad (k+1)=(adS ad k).flatMap fun o=>(Lg.chc (ad.getD k 0) false).map fun m=>o+m*2^k):=Lib.hid rfl
   have HOB:Hid (∀x∈adS ad k,0≤x∧x<2^k):=Lib.hid (adS_bnd ad k)
   have hol:(adS ad k).length≤64:=Nat.le_trans (adS_len ad k) (Nat.le_trans (Nat.pow_le_pow_right (by decide) (show k≤6 by omega)) (by decide))
   obtain⟨y,HY⟩:=named (ad.getD k 0)
   rw[←HY.out]at x0 HSU
   have HCH:=Lib.hid (Lg.choices_any y false wr)
   have HCB:Hid (∀x∈Lg.chc y false,x=0∨x=1):=Lib.hid fun x h=>chc_01m y x h
   have hal:(Lg.chc y false).length≤2:=by rcases chc_01 y with e|e|e<;>rw[e]<;>decide
   obtain⟨al,HAL⟩:=named (Lg.chc y false)
   rw[←HAL.out]at HCH HCB hal HSU
   obtain⟨O,HO⟩:=named (adS ad k)
   rw[←HO.out]at HOB HIO hol HSU ⊢
   obtain⟨X,HX⟩:=named (wr.alloc (.cells (al.map (Value.int .i64)).toArray 3))
   have hbX:BelW wr X:=by rw[HX.out];exact below_new (Below.refl _ _) _
   have hfX:Fr X wr.heap.size 3 (al.map (Value.int .i64)):=by rw[HX.out];exact Fr.made _ _ _ rfl
   rw[←HX.out]at HCH
   have hlX:∀j,j<al.length→X.cell? ⟨wr.heap.size,j,none⟩=some (.int .i64 (al.getD j 0)):=fun j hj=>by
    rw[hfX.cell,List.getElem?_map,List.getElem?_eq_getElem hj,List.getD_eq_getElem?_getD,List.getElem?_eq_getElem hj];rfl
   obtain⟨Ao',bo,oo,co',e,hAo,-,-,hco⟩:=HIO.out
   simp only[Value.slice.injEq]at e
   obtain⟨rfl,-,rfl⟩:=e
   have HAO:=Lib.hid hAo
   have HOX:Hid (∀i,i<O.length→∀W,BelW X W→W.cell? ⟨bo,oo+i,none⟩=some (.int .i64 (O.getD i 0))):=Lib.hid fun i hi W h=>by
    have:=(hco i hi).2
    have h2:wr.cell? ⟨bo,oo+i*1,none⟩=_:=this
    rw[Nat.mul_one]at h2
    exact (Below.cell (joinB hbX h) (p:=⟨bo,oo+i,none⟩) (hco i hi).1).trans h2
   have HLX:Hid (∀j,j<al.length→∀W,BelW X W→W.cell? ⟨wr.heap.size,j,none⟩=some (.int .i64 (al.getD j 0))):=Lib.hid fun j hj W h=>(Below.cell h (p:=⟨wr.heap.size,j,none⟩) hfX.lt).trans (hlX j hj)
   obtain⟨ga,HGA⟩:=named wr.heap.size
   rw[←HGA.out]at HLX HCH
   have HBX:=Lib.hid (joinB hb hbX)
   obtain⟨no,HNO⟩:=named O.length
   rw[←HNO.out]at HAO HOX hol ⊢
   obtain⟨nl,HNL⟩:=named al.length
   rw[←HNL.out]at HLX HCH hal
   clear hio hb hbX hfX hlX hAo hco
   obtain⟨gx,HGX⟩:=named X.heap.size
   have HTK:Hid (∀i,i<no→(O.take (i+1)).flatMap (fun o=>al.map fun m=>o+m*2^k)=(O.take i).flatMap (fun o=>al.map fun m=>o+m*2^k)++al.map fun m=>O.getD i 0+m*2^k):=Lib.hid fun i hi=>take_flat _ (by rw[←HNO.out];exact hi)
   have HTL:Hid (∀i,i≤no→((O.take i).flatMap (fun o=>al.map fun m=>o+m*2^k)).length≤64*2):=Lib.hid fun i hi=>by
    have h1:∀l:List Int,(l.flatMap fun o=>al.map fun m=>o+m*2^k).length=l.length*al.length:=fun l=>by
     induction l with
     |nil=>simp
     |cons a t ih=>rw[List.flatMap_cons,List.length_append,List.length_map,ih,List.length_cons,Nat.add_mul,Nat.one_mul,Nat.add_comm]
    rw[h1,List.length_take,←HNO.out,←HNL.out]
    exact Nat.mul_le_mul (by omega) hal
   obtain⟨F,HF⟩:=named (fun o=>al.map fun m=>o+m*2^k)
   rw[←HF.out]at HTK HTL HSU
   go_wp2_with (go_at_call 91;(with_reducible refine HCH.out.mono ?_);rintro e w2 ⟨rfl,hw2⟩;obtain rfl:X=w2:=hw2.symm)
   go_loopw [5,7] (fun mv iv w2=>∃i:Nat,i≤no∧iv=.int .i64 i∧Stk w2 gx mv ((O.take i).flatMap F)∧BelW X w2) (fun _ iv _=>no-(intOf iv).toNat)
   case atStart=>exact⟨0,Nat.zero_le _,rfl,Stk.nil _ _,Below.refl _ _⟩
   case round=>
    obtain⟨i,hi,rfl,hst,hbx⟩:=hrel
    obtain⟨w3,rfl⟩:∃z,z=wr:=⟨_,rfl⟩
    have HST:=Lib.hid hst
    have HBX3:=Lib.hid hbx
    by_cases hli:i<no
    ·have HTI:=Lib.hid (HTK.out i hli)
     have htl:=HTL.out i hi
     have hi2:(i:Int)<(no:Int):=by omega
     have hxb:=HOB.out (O.getD i 0) (getD_mem (by rw[←HNO.out];exact hli))
     have HOI:=Lib.hid (HOX.out i hli)
     obtain rfl:=HAO.out (by omega)
     obtain⟨x,HXX⟩:=named (O.getD i 0)
     rw[←HXX.out]at HTI hxb HOI
     obtain⟨P,HP⟩:=named ((O.take i).flatMap F)
     rw[←HP.out]at HTI htl HST
     have HPT:Hid (∀j,j<nl→P++(al.take (j+1)).map (fun m=>x+m*2^k)=(P++(al.take j).map (fun m=>x+m*2^k))++[x+al.getD j 0*2^k]):=Lib.hid fun j hj=>by rw[take_map _ (by rw[←HNL.out];exact hj),List.append_assoc]
     have HPL:Hid (∀j,j≤nl→(P++(al.take j).map (fun m=>x+m*2^k)).length≤256):=Lib.hid fun j hj=>by rw[List.length_append,List.length_map,List.length_take];omega
     clear hst hbx
     go_wp2
     go_loopw [5,8] (fun mv jv w4=>∃j:Nat,j≤nl∧jv=.int .i64 j∧Stk w4 gx mv (P++(al.take j).map (fun m=>x+m*2^k))∧BelW X w4) (fun _ jv _=>nl-(intOf jv).toNat)
     case atStart=>exact⟨0,Nat.zero_le _,rfl,by rw[List.take_zero,List.map_nil,List.append_nil];exact HST.out,HBX3.out⟩
     case round=>
      obtain⟨j,hj,rfl,hst,hbx⟩:=hrel
      by_cases hlj:j<nl
      ·have HPJ:=Lib.hid (HPT.out j hlj)
       have hpl:=HPL.out j hj
       have hj2:(j:Int)<(nl:Int):=by omega
       have hyb:=HCB.out (al.getD j 0) (getD_mem (by rw[←HNL.out];exact hlj))
       have HLJ:=Lib.hid (HLX.out j hlj)
       obtain⟨m,HM⟩:=named (al.getD j 0)
       rw[←HM.out]at HPJ hyb HLJ
       obtain⟨PJ,HPP⟩:=named (P++(al.take j).map (fun m=>x+m*2^k))
       rw[←HPP.out]at HPJ hpl hst
       obtain⟨mv,rfl⟩:∃z,z=u5:=⟨_,rfl⟩
       have HS4:=Lib.hid hst
       have hpb:0≤m*2^k∧m*2^k≤32:=by
        have h2:(2:Int)^k≤32:=by
         have:(2:Nat)^k≤2^5:=Nat.pow_le_pow_right (by decide) (by omega)
         have h3:=Int.ofNat_le.2 this
         rw[Int.natCast_pow]at h3
         exact h3
        have h0:(0:Int)≤2^k:=Int.le_of_lt (Int.pow_pos (by decide))
        rcases hyb with rfl|rfl<;>omega
       have hxb2:x<64:=Int.lt_of_lt_of_le hxb.2 (by
        have:(2:Nat)^k≤2^6:=Nat.pow_le_pow_right (by decide) (by omega)
        have h3:=Int.ofNat_le.2 this
        rw[Int.natCast_pow]at h3
        exact h3)
       have hxb1:=hxb.1
       obtain⟨p,HPW⟩:=named (m*2^k)
       rw[←HPW.out]at HPJ hpb
       have hsh:IntKind.i64.wrap (m*2^k)=p:=by rw[←HPW.out];exact (IntKind.wrap_i64 p).trans (by omega)
       have hsum:IntKind.i64.wrap (x+p)=x+p:=(IntKind.wrap_i64 _).trans (by omega)
       have HBX4:=Lib.hid hbx
       have HS:Hid (∀w',BelW X w'→BelW X w'∧w'.cell? ⟨bo,oo+i,none⟩=some (.int .i64 x)∧w'.cell? ⟨ga,j,none⟩=some (.int .i64 m)):=Lib.hid fun w' h=>⟨h,HOI.out w' h,HLJ.out w' h⟩
       have HSK:Hid (∀w',BelW wr w'→w'.ownsRow gx 3 1 mv PJ.length (PJ.map (Value.int .i64))∧gx≤w'.heap.size):=Lib.hid fun w' h=>⟨HS4.out.below h,by rw[HGX.out];exact Below.size (joinB HBX4.out h)⟩
       have HQ:Hid (∀q,mv.ownBlock=some q→X.heap.size≤q):=Lib.hid fun q hq=>by have:=(World.ownsRow.lt HS4.out q hq).1;rw[←HGX.out];exact this
       have hs0:=HS.out wr hbx
       obtain⟨-,y1,y2⟩:=HS.out wr hbx
       have hy0:BelW wr wr:=Below.refl _ _
       clear hst hbx hyb
       go_wp2_with fail
       go_region_held3 (fun w'=>BelW X w'∧w'.cell? ⟨bo,oo+i,none⟩=some (.int .i64 x)∧w'.cell? ⟨ga,j,none⟩=some (.int .i64 m))
        (first|exact hs0|exact hs9|exact HS.out _ (BelW.trans HBX4.out (by with_reducible repeat (first|assumption|refine BelW.drew ?_|refine BelW.alloc ?_ _))))
        ((refine step_ints rfl (.tmp 33) (.tmp 45) 37 rfl gx 3 ii (.int .i64 0) Tryz.underlying37 HJ.out.1 HJ.out.2.1 HJ.out.2.2.1 HJ.out.2.2.2 rfl mv PJ.length (PJ.map (Value.int .i64)) rfl (HSK.out _ (by with_reducible repeat (first|assumption|refine BelW.drew ?_|refine BelW.alloc ?_ _))).1 _ 1 1 [.int .i64 (x+p)] rfl rfl (by first|exact one_new _ _ _) (by intro u hu;obtain rfl:=List.mem_singleton.1 hu;rfl) (by omega) (HSK.out _ (by with_reducible repeat (first|assumption|refine BelW.drew ?_|refine BelW.alloc ?_ _))).2 ?_
          intro v5 w5 ho5 hg5
          have hs9:=HS.out w5 (Below.grown (BelW.trans HBX4.out (by with_reducible repeat (first|assumption|refine BelW.drew ?_|refine BelW.alloc ?_ _))) hg5 (by rw[←HGX.out];exact (HSK.out _ (by with_reducible repeat (first|assumption|refine BelW.drew ?_|refine BelW.alloc ?_ _))).2) HQ.out)))
       have HST5:Hid (Stk w5 gx v5 (P++(al.take (j+1)).map (fun m=>x+m*2^k))):=Lib.hid (by
        rw[HPJ.out]
        unfold Stk
        rw[List.length_append,List.map_append]
        exact ho5)
       have HB5:=Lib.hid hs9.1
       go_wp2
       go_roundw
       case rel=>exact⟨j+1,by omega,by go_num,HST5.out,HB5.out⟩
       case measure=>simp[intOf];omega
      ·obtain rfl:nl=j:=by omega
       go_wp2
       go_roundw
       case rel=>
        refine⟨i+1,by omega,by go_num,?_,hbx⟩
        rw[HTI.out]
        rw[HNL.out,List.take_length]at hst
        exact hst
       case measure=>simp[intOf];omega
    ·obtain rfl:no=i:=by omega
     obtain⟨A',c',hv,his⟩:=stk_is HST.out
     have e9:(O.take no).flatMap F=adS ad (k+1):=by rw[HNO.out,List.take_length,HSU.out]
     rw[e9]at hv his
     have HIS:=Lib.hid his
     subst hv
     clear his hst hbx
     go_wp2
     go_roundw
     case rel=>exact⟨k+1,_,_,by omega,by go_num,rfl,HIS.out,joinB HBX.out HBX3.out⟩
     case measure=>simp[intOf];omega
  ·obtain rfl:n=k:=by omega
   go_wp2
   go_ret
   exact⟨_,_,rfl,HIO.out,HBR.out⟩
end Go.Proofs.YtemjmfpcopfdbaaGreatDoor
