/- Package tri: Normal of whatever comes, Check, Walk. -/
import Derived.Test.YtljcebahjfifhaaDoorTriC
import Derived.Test.YtljcebahjfifhaaDoorWholeI
namespace Go.Proofs.YtljcebahjfifhaaDoor
open Go.RowKit
set_option linter.unusedVariables false

def tCheckE (cl cb ht ri ru wd dp i x0 y0 z0 x1 y1 z1 x2 y2 z2 : Int) : Int := if checkE cl cb ht ri ru wd dp ≠ 0 then 20 else if (1 ≤ i ∧ i ≤ 1073741824) ∧ stB wd dp x0 y0 z0 x1 y1 z1 x2 y2 z2 = true ∧ okB x0 y0 z0 x1 y1 z1 x2 y2 z2 = true then 0 else 40

theorem checkE_two (cl cb ht ri ru wd dp : Int) : checkE cl cb ht ri ru wd dp = 0 ∨ checkE cl cb ht ri ru wd dp = 20 := by unfold checkE; split <;> simp

end Go.Proofs.YtljcebahjfifhaaDoor
