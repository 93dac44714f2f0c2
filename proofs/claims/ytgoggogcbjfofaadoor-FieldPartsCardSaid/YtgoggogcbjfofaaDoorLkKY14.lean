import Derived.Test.YtgoggogcbjfofaaDoorLkJY14

/- Package links: Eight. -/
namespace Go.Proofs.YtgoggogcbjfofaaDoor
open Go.RowKit
set_option linter.unusedVariables false

def eiT (C : CfgR) (G : Gd) (s : Sd) : Int := cntE (grC C G) (grG C G) s 4
theorem eiT_fine {C : CfgR} {G : Gd} (h : lkE C G = 0) (s : Sd) : eiT C G s = cntE C G s 4 := by unfold eiT grC grG; rw [if_pos h, if_pos h]
theorem eiT_bad {C : CfgR} {G : Gd} (h : lkE C G ≠ 0) (s : Sd) : eiT C G s = 0 := by unfold eiT grC grG; rw [if_neg h, if_neg h, cntE_zero]
theorem next_of {i : Nat} (h : i < 4) : nextD (i : Int) = (((i + 1) % 4 : Nat) : Int) := by
  rcases (show i = 0 ∨ i = 1 ∨ i = 2 ∨ i = 3 by omega) with rfl | rfl | rfl | rfl <;> rfl

end Go.Proofs.YtgoggogcbjfofaaDoor
