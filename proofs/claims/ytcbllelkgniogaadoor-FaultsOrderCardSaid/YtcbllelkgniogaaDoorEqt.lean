import Derived.Test.YtcbllelkgniogaaDoorM41
namespace Go.Proofs.YtcbllelkgniogaaDoor
open Go.RowKit
theorem eqlF_run(ρ:Operand→Value)(o:Oper)(x y:Operand)(u:TypeId)(ho:o.op=.binOp .eql 33 x y u)(a0 a1 a2 a3 a4 b0 b1 b2 b3 b4:Int)(hx:ρ x=.agg #[.int .u8 a0,.int .i64 a1,.int .i64 a2,.int .u8 a3,.int .i64 a4])(hy:ρ y=.agg #[.int .u8 b0,.int .i64 b1,.int .i64 b2,.int .u8 b3,.int .i64 b4])(w:World):
 (execOp ρ o).run Tryd.prog w=.ok (.value (.bool (decide (a0=b0∧a1=b1∧a2=b2∧a3=b3∧a4=b4)))) w:=by
 unfold execOp
 rw[ho]
 simp only[hx,hy]
 by_cases h0:a0=b0
 ·subst h0
  by_cases h1:a1=b1
  ·subst h1
   by_cases h2:a2=b2
   ·subst h2
    by_cases h3:a3=b3
    ·subst h3
     by_cases h4:a4=b4
     ·subst h4
      go_simp
     ·go_simp
    ·go_simp
   ·go_simp
  ·go_simp
 ·go_simp
theorem wpList_eqlF{ops:Array Oper}{rest:List Oper}{o:Oper}{a:Act}{Q:Exit→Act→World→Prop}{w:World}(hgd:o.guard=none)(x y:Operand)(u:TypeId)(ho:o.op=.binOp .eql 33 x y u)(a0 a1 a2 a3 a4 b0 b1 b2 b3 b4:Int)(hx:a.eval x=.agg #[.int .u8 a0,.int .i64 a1,.int .i64 a2,.int .u8 a3,.int .i64 a4])(hy:a.eval y=.agg #[.int .u8 b0,.int .i64 b1,.int .i64 b2,.int .u8 b3,.int .i64 b4])(t:Bool)(ht:t=true↔(a0=b0∧a1=b1∧a2=b2∧a3=b3∧a4=b4))
 (h:wpList Tryd.prog ops Q rest (a.put o.dst (.bool t)) w):wpList Tryd.prog ops Q (o::rest) a w:=by
 refine wpList_plain hgd fun K hK=>?_
 unfold Oper.wp
 rw[eqlF_run a.eval o x y u ho a0 a1 a2 a3 a4 b0 b1 b2 b3 b4 hx hy w]
 have e:decide (a0=b0∧a1=b1∧a2=b2∧a3=b3∧a4=b4)=t:=by
  rw[Bool.eq_iff_iff,decide_eq_true_iff]
  exact ht.symm
 rw[e]
 exact hK _ _ h
end Go.Proofs.YtcbllelkgniogaaDoor
