/- Package tri: stands, Normal. -/
import Derived.Test.YtljcebahjfifhaaDoorTriB
namespace Go.Proofs.YtljcebahjfifhaaDoor
open Go.RowKit
set_option linter.unusedVariables false

theorem st_eq (wd dp x0 y0 z0 x1 y1 z1 x2 y2 z2 : Int) : stB wd dp x0 y0 z0 x1 y1 z1 x2 y2 z2 = (decide (0 ≤ minI x0 x1 x2) && decide (maxI x0 x1 x2 ≤ wd) && decide (0 ≤ minI z0 z1 z2) && decide (maxI z0 z1 z2 ≤ dp) && decide (-2048 ≤ minI y0 y1 y2) && decide (maxI y0 y1 y2 ≤ 2048)) := by
  rw [Bool.eq_iff_iff, stB_iff]
  unfold StP StV minI maxI
  simp only [Bool.and_eq_true, decide_eq_true_eq]
  omega

theorem kb {a b c d A B : Int} (ha : -A ≤ a ∧ a ≤ A) (hd : -B ≤ d ∧ d ≤ B) (hb : -B ≤ b ∧ b ≤ B) (hc : -A ≤ c ∧ c ≤ A) : ∃ k, a * d - b * c = k ∧ -(2 * (A * B)) ≤ k ∧ k ≤ 2 * (A * B) := by
  have h1 := mul_bd ha hd
  have h2 := mul_bd hb hc
  have h3 : B * A = A * B := Int.mul_comm _ _
  exact ⟨_, rfl, by omega, by omega⟩

end Go.Proofs.YtljcebahjfifhaaDoor
