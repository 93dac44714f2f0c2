import Derived.Test.YteoongcajfcgcaaSoDZ6

/- The document's package of soups: whether a box, a triangle, a hop may be. -/
namespace Go.Proofs.Yteoongcajfcgcaa
open Go.RowKit
set_option linter.unusedVariables false
set_option maxRecDepth 100000

def heiB (y : Int) : Bool := decide (-2048 ≤ y ∧ y ≤ 2048)
def idB (i : Int) : Bool := decide (1 ≤ i ∧ i ≤ 1073741824)

theorem u_height (y : Int) (w : World) : Calls Try.prog 37 #[.int .i64 y] w fun e w' => e = .returned (.bool (heiB y)) ∧ New w w' := by
  unfold heiB
  go_enter Try.func37, Try.ntmps37
  go_wp2_with fail
  all_goals
    go_ret
    refine ⟨congrArg (fun b => Ending.returned (.bool b)) ?_, New.refl _⟩
    rw [Bool.eq_iff_iff]
    simp only [Bool.and_eq_true, decide_eq_true_eq, Bool.false_eq_true, false_iff]
    omega

theorem BoxR.tests_iff (C : CfgR) (X : BoxR) : X.tests C = true ↔ 0 ≤ X.x0 ∧ X.x0 ≤ X.x1 ∧ X.x1 < C.wd ∧ 0 ≤ X.z0 ∧ X.z0 ≤ X.z1 ∧ X.z1 < C.dp ∧ heiB X.y0 = true ∧ X.y0 ≤ X.y1 ∧ heiB X.y1 = true ∧ 0 ≤ X.ar ∧ X.ar ≤ 7 := by
  simp only [BoxR.tests, ordB, heiB, Bool.and_eq_true, decide_eq_true_eq, Bool.and_true]
  omega
theorem notTrue {b : Bool} (h : ¬ b = true) : b = false := by cases b <;> simp_all

end Go.Proofs.Yteoongcajfcgcaa
