/- . -/
import Derived.Test.YtjdjcaobkmpoeaaDoorRows
import Derived.Test.YtjdjcaobkmpoeaaDoorM01
import Derived.WalkKit
import Derived.WalkSpells
import Derived.WalkLawsBesides
import Derived.Lib.Hide
namespace Go.Proofs.YtjdjcaobkmpoeaaDoor.Lg
open Go.RowKit
theorem ret_int{k:IntKind}{a b:Int}(h:a=b):Ending.returned (.int k a)=.returned (.int k b):=by rw[h]
theorem ret_bool{a b:Bool}(h:a=b):Ending.returned (.bool a)=.returned (.bool b):=by rw[h]
set_option maxHeartbeats 400000 in
theorem clean_any(a:Int)(w:World):Calls Tryd.prog 91 #[.int .u8 a] w fun e w'=>e=.returned (.int .u8 (cln a))∧w=w':=by
 by_cases h:3<a
 ·have hc:cln a=2:=by simp[cln,h]
  rw[hc]
  go_enter Tryd.func91,Tryd.ntmps91
  go_wp2
  go_ret
  exact⟨rfl,rfl⟩
 ·have hc:cln a=a:=by simp[cln,h]
  rw[hc]
  go_enter Tryd.func91,Tryd.ntmps91
  go_wp2
  go_ret
  exact⟨rfl,rfl⟩
theorem named{α:Type}(x:α):∃y,Hid (y=x):=⟨x,Lib.hid rfl⟩
set_option maxHeartbeats 400000 in
theorem known_any(a:Int)(w:World):Calls Tryd.prog 89 #[.int .u8 a] w fun e w'=>e=.returned (.bool (knw a))∧w=w':=by
 obtain⟨x,HX⟩:=named (knw a)
 rw[←HX.out]
 go_enter Tryd.func89,Tryd.ntmps89
 go_wp2
 all_goals go_ret
 all_goals exact⟨ret_bool (by rw[HX.out];simp[knw, *]),rfl⟩
set_option maxHeartbeats 400000 in
theorem read_any(a:Int)(w:World):Calls Tryd.prog 65 #[.int .u8 a] w fun e w'=>e=.returned (.int .u8 (rd a))∧w=w':=by
 cases h:knw a
 all_goals
  obtain⟨x,HX⟩:=named (rd a)
  rw[←HX.out]
  go_enter Tryd.func65,Tryd.ntmps65
  go_wp2_with (go_at_call 89;refine (known_any _ _).mono ?_;rintro e w' ⟨rfl,rfl⟩)
  go_ret
  exact⟨ret_int (by rw[HX.out];simp[rd,h]),rfl⟩
set_option maxHeartbeats 400000 in
theorem not_any(a:Int)(w:World):Calls Tryd.prog 66 #[.int .u8 a] w fun e w'=>e=.returned (.int .u8 (nt a))∧w=w':=by
 rcases rd_cases a with h|h|h
 all_goals
  obtain⟨x,HX⟩:=named (nt a)
  rw[←HX.out]
  go_enter Tryd.func66,Tryd.ntmps66
  go_wp2_with (go_at_call 65;refine (read_any _ _).mono ?_;rintro e w' ⟨rfl,rfl⟩)
  go_ret
  exact⟨ret_int (by rw[HX.out];simp[nt,h]),rfl⟩
set_option maxHeartbeats 400000 in
theorem tri_any(a b:Int)(w:World):Calls Tryd.prog 71 #[.int .u8 a,.int .u8 b] w fun e w'=>e=.returned (.int .u8 (tr a b))∧w=w':=by
 rcases rd_cases a with h|h|h
 all_goals
  obtain⟨x,HX⟩:=named (tr a b)
  rw[←HX.out]
  go_enter Tryd.func71,Tryd.ntmps71
  go_wp2_with (go_at_call 65;refine (read_any _ _).mono ?_;rintro e w' ⟨rfl,rfl⟩)
  go_ret
  exact⟨ret_int (by rw[HX.out];simp[tr,h]),rfl⟩
set_option maxHeartbeats 400000 in
theorem mux_any(s a b:Int)(w:World):Calls Tryd.prog 70 #[.int .u8 s,.int .u8 a,.int .u8 b] w fun e w'=>e=.returned (.int .u8 (mx s a b))∧w=w':=by
 rcases rd_cases s with h|h|h
 ·obtain⟨x,HX⟩:=named (mx s a b)
  rw[←HX.out]
  go_enter Tryd.func70,Tryd.ntmps70
  go_wp2_with (go_at_call 65;refine (read_any _ _).mono ?_;rintro e w' ⟨rfl,rfl⟩)
  go_ret
  exact⟨ret_int (by rw[HX.out];simp[mx,h]),rfl⟩
 ·obtain⟨x,HX⟩:=named (mx s a b)
  rw[←HX.out]
  go_enter Tryd.func70,Tryd.ntmps70
  go_wp2_with (go_at_call 65;refine (read_any _ _).mono ?_;rintro e w' ⟨rfl,rfl⟩)
  go_ret
  exact⟨ret_int (by rw[HX.out];simp[mx,h]),rfl⟩
 ·rcases rd_cases a with ha|ha|ha<;>rcases rd_cases b with hb|hb|hb
  all_goals
   obtain⟨x,HX⟩:=named (mx s a b)
   rw[←HX.out]
   go_enter Tryd.func70,Tryd.ntmps70
   go_wp2_with (go_at_call 65;refine (read_any _ _).mono ?_;rintro e w' ⟨rfl,rfl⟩)
   go_ret
   exact⟨ret_int (by rw[HX.out];simp[mx,h,ha,hb]),rfl⟩
end Go.Proofs.YtjdjcaobkmpoeaaDoor.Lg
