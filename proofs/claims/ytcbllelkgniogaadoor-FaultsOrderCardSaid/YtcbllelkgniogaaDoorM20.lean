/- The texts Sor. -/
import Derived.Test.YtcbllelkgniogaaDoorM19
import Derived.LoopN
namespace Go.Proofs.YtcbllelkgniogaaDoor
open Go.RowKit
def SortPost(L:List Int)(w:World)(B d g q n:Nat)(e:Ending)(w':World):Prop:=e=.returned (.tuple #[])∧∃R,SortTo L n n R∧SW w B d g q n L R w'
set_option maxHeartbeats 1000000 in
theorem stable_any(L:List Int)(n d g q B:Nat)(w:World)(hd:B≤d)(hg:d≠g)(hq:d≠q)(hL:L.length=n)(hn:n<20)(hw:SW w B d g q n L (rng 0 n) w):
 Calls Tryd.prog 76 #[.slice (some ⟨d,0,none⟩) n n,.int .i64 n,.func (.func 60) #[] #[.pointer (some ⟨q,0,none⟩)]] w (SortPost L w B d g q n):=by
 have HI:=Lib.hid (insert_any L n d g q B w hd hg hq hL (by omega) hw)
 clear hw hL
 go_enter Tryd.func76,Tryd.ntmps76
 go_wp2
 refine wp_loop_rounds 1 ?_
 simp only[Code.rounds]
 go_wp2_with (go_at_call 94;(with_reducible refine HI.out.mono ?_);rintro e w' ⟨rfl,R,h1,h2⟩;have HR:=Lib.hid h1;have HS:=Lib.hid h2;clear h1 h2)
 refine wp_loop_rounds 1 ?_
 simp only[Code.rounds]
 go_wp2
 go_end0
 exact⟨rfl,R,HR.out,HS.out⟩
theorem fillL_rng(z:Value)(n:Nat):fillL (fun j=>.int .i64 (j:Int)) z n n=(rng 0 n).map (Value.int .i64):=by
 apply List.ext_getElem?
 intro j
 by_cases hj:j<n
 ·rw[fillL_get _ _ _ _ _ hj,if_pos hj];simp[rng,hj]
 ·rw[List.getElem?_eq_none (by simp[fillL_len];omega),List.getElem?_eq_none (by simp[rng];omega)]
def OrdPost(c:Ck)(w:World)(e:Ending)(w':World):Prop:=
 Below w.heap.size w w'∧((chkErr c=0∧shapeErr c=0∧∃L R d,Lvl c.nodes L∧(∀i:Nat,i<c.nodes.length→lat L i<(c.nodes.length:Int))∧SortTo L c.nodes.length c.nodes.length R∧w.heap.size≤d∧e=.returned (.tuple #[.slice (some ⟨d,0,none⟩) c.nodes.length c.nodes.length,.int .i64 0])∧Row w' d R)
  ∨(chkErr c≠0∧e=.returned (.tuple #[.slice none 0 0,.int .i64 (chkErr c)])))
end Go.Proofs.YtcbllelkgniogaaDoor
