import Derived.Test.YteoongcajfcgcaaTriDZ7

/- Package tri: Walk. -/
namespace Go.Proofs.Yteoongcajfcgcaa
open Go.RowKit
set_option linter.unusedVariables false

def slopeB (ri ru nx ny nz : Int) : Bool := decide ((nx * nx + nz * nz) * ru * ru ≤ ny * ny * ri * ri)
def walkE (cl cb ht ri ru wd dp x0 y0 z0 x1 y1 z1 x2 y2 z2 : Int) : Int := if checkE cl cb ht ri ru wd dp ≠ 0 then 20 else normE x0 y0 z0 x1 y1 z1 x2 y2 z2
def walkB (cl cb ht ri ru wd dp x0 y0 z0 x1 y1 z1 x2 y2 z2 : Int) : Bool := decide (checkE cl cb ht ri ru wd dp = 0) && okB x0 y0 z0 x1 y1 z1 x2 y2 z2 && slopeB ri ru (nxI x0 y0 z0 x1 y1 z1 x2 y2 z2) (nyI x0 y0 z0 x1 y1 z1 x2 y2 z2) (nzI x0 y0 z0 x1 y1 z1 x2 y2 z2)

theorem checkE_ok {cl cb ht ri ru wd dp : Int} (h : checkE cl cb ht ri ru wd dp = 0) : (0 ≤ ri ∧ ri ≤ 100) ∧ (1 ≤ ru ∧ ru ≤ 100) ∧ (1 ≤ wd ∧ wd ≤ 32) ∧ (1 ≤ dp ∧ dp ≤ 32) := by
  unfold checkE at h
  split at h
  · rename_i hb
    simp only [checkB, Bool.and_eq_true, decide_eq_true_eq] at hb
    omega
  · omega

theorem sq_in {a A : Int} (h : -A ≤ a ∧ a ≤ A) : 0 ≤ a * a ∧ a * a ≤ A * A := by
  have h1 := mul_bd h h
  refine ⟨?_, h1.2⟩
  rcases Int.le_total 0 a with k | k
  · exact Int.mul_nonneg k k
  · exact Int.mul_nonneg_of_nonpos_of_nonpos k k

theorem pos_mul {a b A B : Int} (ha : 0 ≤ a ∧ a ≤ A) (hb : 0 ≤ b ∧ b ≤ B) : 0 ≤ a * b ∧ a * b ≤ A * B := by
  refine ⟨Int.mul_nonneg ha.1 hb.1, ?_⟩
  exact Int.mul_le_mul ha.2 hb.2 hb.1 (by omega)

end Go.Proofs.Yteoongcajfcgcaa
