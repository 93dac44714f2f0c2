/- What the walks of the layer's statements share: contracts at known answers. -/
import Derived.Test.YtgpjeijhbikjaaaGeomR
import Derived.Test.YtgpjeijhbikjaaaGeomG
import Derived.Test.YtgpjeijhbikjaaaGeomH
import Derived.Test.YtgpjeijhbikjaaaHatS
import Derived.Test.YtgpjeijhbikjaaaFlat
namespace Go.Proofs.Ytgpjeijhbikjaaa
open Go.RowKit
set_option linter.unusedVariables false

theorem Calls.hat_i {P : Program} {f : FuncId} {args : Array Value} {W : World} {x : Hat W} {k : IntKind} {b b' : Int} (hb : b = b')
    (h : Calls P f args x.w fun e w' => e = .returned (.int k b) ∧ New x.w w') : Calls P f args x.w fun e w'' => e = .returned (.int k b') ∧ ∃ y : Hat W, w'' = y.w := by
  subst hb; exact Calls.hat h

theorem ladd_nr {x z y u : Int} (w : World) (hx : Nr x) (hz : Nr z) (hy : Nr y) (hu : Nr u) :
    Calls Try.prog 21 #[.agg #[.int .i64 x, .int .i64 z], .agg #[.int .i64 y, .int .i64 u]] w fun e w' => e = .returned (.agg #[.int .i64 (x + y), .int .i64 (z + u)]) ∧ New w w' := by
  unfold Nr at *
  exact ladd_any x z y u w (by omega) (by omega) (by omega) (by omega)

theorem lback_nr {x z : Int} (w : World) (hx : Nr x) (hz : Nr z) :
    Calls Try.prog 22 #[.agg #[.int .i64 x, .int .i64 z]] w fun e w' => e = .returned (.agg #[.int .i64 (-x), .int .i64 (-z)]) ∧ New w w' := by
  unfold Nr at *
  exact lback_any x z w (by omega) (by omega)

end Go.Proofs.Ytgpjeijhbikjaaa
