/- The texts Ofn. -/
import Derived.Test.YtcbllelkgniogaaDoorM22
import Derived.Laws.BytesArg
namespace Go.Proofs.YtcbllelkgniogaaDoor
open Go.RowKit
theorem conv_name(w:World)(x y:Int)(s:ByteArray)(h:strOfNums [110,x,y]=s):
 (convert 25 9 (.slice (some ⟨w.heap.size,0,none⟩) 3 3)).run Tryd.prog (w.alloc (.cells #[.int .u8 110,.int .u8 x,.int .u8 y] 5))=.ok (.string s) (w.alloc (.cells #[.int .u8 110,.int .u8 x,.int .u8 y] 5)):=by
 rw[←h]
 exact run_convert_bytes_arg (P:=Tryd.prog) (w.alloc (.cells #[.int .u8 110,.int .u8 x,.int .u8 y] 5)) 25 5 Tryd.underlying25 Tryd.underlying5 w.heap.size 0 3 3 [110,x,y] rfl (fun i hi=>by
  rw[World.cell?_alloc_at _ _ _ _ rfl]
  have h3:i=0∨i=1∨i=2:=by omega
  rcases h3 with rfl|rfl|rfl<;>rfl) 9 Tryd.underlying9
set_option maxRecDepth 100000 in
set_option maxHeartbeats 2000000 in
theorem name_any(i:Nat)(hi:i<16)(w:World):Calls Tryd.prog 32 #[.int .i64 (i:Int)] w fun e w'=>e=.returned (.string (nameB i))∧Below w.heap.size w w':=by
 have hc:i=0∨i=1∨i=2∨i=3∨i=4∨i=5∨i=6∨i=7∨i=8∨i=9∨i=10∨i=11∨i=12∨i=13∨i=14∨i=15:=by omega
 rcases hc with rfl|rfl|rfl|rfl|rfl|rfl|rfl|rfl|rfl|rfl|rfl|rfl|rfl|rfl|rfl|rfl
 ·show Calls Tryd.prog 32 #[.int .i64 0] w _
  have hcv:=conv_name w 48 48 (nameB 0) (by decide)
  go_enter Tryd.func32,Tryd.ntmps32
  go_wp2
  go_ret
  exact⟨rfl,below_new (Below.refl _ _) _⟩
 ·show Calls Tryd.prog 32 #[.int .i64 1] w _
  have hcv:=conv_name w 48 49 (nameB 1) (by decide)
  go_enter Tryd.func32,Tryd.ntmps32
  go_wp2
  go_ret
  exact⟨rfl,below_new (Below.refl _ _) _⟩
 ·show Calls Tryd.prog 32 #[.int .i64 2] w _
  have hcv:=conv_name w 48 50 (nameB 2) (by decide)
  go_enter Tryd.func32,Tryd.ntmps32
  go_wp2
  go_ret
  exact⟨rfl,below_new (Below.refl _ _) _⟩
 ·show Calls Tryd.prog 32 #[.int .i64 3] w _
  have hcv:=conv_name w 48 51 (nameB 3) (by decide)
  go_enter Tryd.func32,Tryd.ntmps32
  go_wp2
  go_ret
  exact⟨rfl,below_new (Below.refl _ _) _⟩
 ·show Calls Tryd.prog 32 #[.int .i64 4] w _
  have hcv:=conv_name w 48 52 (nameB 4) (by decide)
  go_enter Tryd.func32,Tryd.ntmps32
  go_wp2
  go_ret
  exact⟨rfl,below_new (Below.refl _ _) _⟩
 ·show Calls Tryd.prog 32 #[.int .i64 5] w _
  have hcv:=conv_name w 48 53 (nameB 5) (by decide)
  go_enter Tryd.func32,Tryd.ntmps32
  go_wp2
  go_ret
  exact⟨rfl,below_new (Below.refl _ _) _⟩
 ·show Calls Tryd.prog 32 #[.int .i64 6] w _
  have hcv:=conv_name w 48 54 (nameB 6) (by decide)
  go_enter Tryd.func32,Tryd.ntmps32
  go_wp2
  go_ret
  exact⟨rfl,below_new (Below.refl _ _) _⟩
 ·show Calls Tryd.prog 32 #[.int .i64 7] w _
  have hcv:=conv_name w 48 55 (nameB 7) (by decide)
  go_enter Tryd.func32,Tryd.ntmps32
  go_wp2
  go_ret
  exact⟨rfl,below_new (Below.refl _ _) _⟩
 ·show Calls Tryd.prog 32 #[.int .i64 8] w _
  have hcv:=conv_name w 48 56 (nameB 8) (by decide)
  go_enter Tryd.func32,Tryd.ntmps32
  go_wp2
  go_ret
  exact⟨rfl,below_new (Below.refl _ _) _⟩
 ·show Calls Tryd.prog 32 #[.int .i64 9] w _
  have hcv:=conv_name w 48 57 (nameB 9) (by decide)
  go_enter Tryd.func32,Tryd.ntmps32
  go_wp2
  go_ret
  exact⟨rfl,below_new (Below.refl _ _) _⟩
 ·show Calls Tryd.prog 32 #[.int .i64 10] w _
  have hcv:=conv_name w 49 48 (nameB 10) (by decide)
  go_enter Tryd.func32,Tryd.ntmps32
  go_wp2
  go_ret
  exact⟨rfl,below_new (Below.refl _ _) _⟩
 ·show Calls Tryd.prog 32 #[.int .i64 11] w _
  have hcv:=conv_name w 49 49 (nameB 11) (by decide)
  go_enter Tryd.func32,Tryd.ntmps32
  go_wp2
  go_ret
  exact⟨rfl,below_new (Below.refl _ _) _⟩
 ·show Calls Tryd.prog 32 #[.int .i64 12] w _
  have hcv:=conv_name w 49 50 (nameB 12) (by decide)
  go_enter Tryd.func32,Tryd.ntmps32
  go_wp2
  go_ret
  exact⟨rfl,below_new (Below.refl _ _) _⟩
 ·show Calls Tryd.prog 32 #[.int .i64 13] w _
  have hcv:=conv_name w 49 51 (nameB 13) (by decide)
  go_enter Tryd.func32,Tryd.ntmps32
  go_wp2
  go_ret
  exact⟨rfl,below_new (Below.refl _ _) _⟩
 ·show Calls Tryd.prog 32 #[.int .i64 14] w _
  have hcv:=conv_name w 49 52 (nameB 14) (by decide)
  go_enter Tryd.func32,Tryd.ntmps32
  go_wp2
  go_ret
  exact⟨rfl,below_new (Below.refl _ _) _⟩
 ·show Calls Tryd.prog 32 #[.int .i64 15] w _
  have hcv:=conv_name w 49 53 (nameB 15) (by decide)
  go_enter Tryd.func32,Tryd.ntmps32
  go_wp2
  go_ret
  exact⟨rfl,below_new (Below.refl _ _) _⟩
end Go.Proofs.YtcbllelkgniogaaDoor
