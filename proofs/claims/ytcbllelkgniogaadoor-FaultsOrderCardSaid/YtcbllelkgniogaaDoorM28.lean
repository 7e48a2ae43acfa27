/- The texts Ofg. -/
import Derived.Test.YtcbllelkgniogaaDoorM27
import Derived.Test.YtcbllelkgniogaaDoorM10
import Derived.Test.YtcbllelkgniogaaDoorM26
namespace Go.Proofs.YtcbllelkgniogaaDoor
open Go.RowKit
theorem Fr.low{w w':World}{B g:Nat}{t:TypeId}{cs:List Value}(h:Fr w g t cs)(hb:Below B w w')(hg:g<B):Fr w' g t cs:=by
 unfold Fr at*
 exact (hb.block g hg).trans h
end Go.Proofs.YtcbllelkgniogaaDoor
