/- The document's own tests of pieces; what two pieces are together. -/
import Derived.Test.YtklopjbpfddgfaaSpB
namespace Go.Proofs.Ytklopjbpfddgfaa
open Go.RowKit
set_option linter.unusedVariables false
set_option linter.unusedSimpArgs false

theorem retBo2 {b b' : Bool} (h : b = b') : Ending.returned (.bool b) = Ending.returned (.bool b') := by rw [h]

set_option maxHeartbeats 1000000 in
theorem r_may (p : Sn) (w : World) : Calls Try.prog 31 #[.agg #[.int .i64 p.lo, .int .i64 p.hi, .bool p.wk]] w fun e w' => e = .returned (.bool (!badS p)) ∧ New w w' := by
  have e : (!badS p) = (decide (p.lo ≤ p.hi) && decide (-2048 ≤ p.lo) && decide (p.hi ≤ 2048)) := by
    rw [Bool.eq_iff_iff]
    have := badS_not p
    simp only [Bool.not_eq_true', this, Bool.and_eq_true, decide_eq_true_eq]
    omega
  rw [e]
  clear e
  obtain ⟨a, b, c⟩ := p
  simp only
  go_enter Try.func31, Try.ntmps31
  go_wp2_with fail
  all_goals
    go_ret
    exact ⟨retBo2 (by first | rfl | (rw [Bool.eq_iff_iff]; simp; omega)), by (repeat (first | (with_reducible exact New.refl _) | (with_reducible assumption) | ((with_reducible refine New.setB ?_ ?_ _); focus (first | omega | (simp; omega) | (simp; done))) | (with_reducible refine New.alloc ?_ _) | (with_reducible refine New.drew ?_) | (with_reducible refine New.drewN ?_ _) | (with_reducible refine New.hat ?_ _) | ((with_reducible apply New.snart); (with_reducible assumption))))⟩

end Go.Proofs.Ytklopjbpfddgfaa
