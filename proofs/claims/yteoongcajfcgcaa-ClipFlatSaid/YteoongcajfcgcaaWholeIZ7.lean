import Derived.Test.YteoongcajfcgcaaWholeEZ7

/- Contracts of Check of package whole and of the document's own. -/
namespace Go.Proofs.Yteoongcajfcgcaa
open Go.RowKit

def checkB (cl cb ht ri ru wd dp : Int) : Bool := decide (0 ≤ cl ∧ cl ≤ 3) && decide (0 ≤ cb ∧ cb ≤ 8) && decide (cb + 1 ≤ ht ∧ ht ≤ 32) && decide (0 ≤ ri ∧ ri ≤ 100) && decide (1 ≤ ru ∧ ru ≤ 100) && decide (1 ≤ wd ∧ wd ≤ 32) && decide (1 ≤ dp ∧ dp ≤ 32)
def checkE (cl cb ht ri ru wd dp : Int) : Int := if checkB cl cb ht ri ru wd dp then 0 else 20

theorem within_iff {n lo hi : Int} (h : lo ≤ hi) : withinB n lo hi = decide (lo ≤ n ∧ n ≤ hi) := by
  unfold withinB clampI
  rw [Bool.eq_iff_iff]; simp; omega

end Go.Proofs.Yteoongcajfcgcaa
