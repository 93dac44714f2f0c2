/- Plain facts for the stage's theorem: a number's floor and ceiling, what is left. No program in sight. -/
import Derived.Test.YtllfjdjihkaadaaWholeF
namespace Go.Proofs.Ytllfjdjihkaadaa
open Go.RowKit

theorem tame_in {n : Int} (h : -2305843009213693952 ≤ n ∧ n ≤ 2305843009213693952) : tameI n = n := by unfold tameI clampI; omega

theorem fdiv_in {a b : Int} (ha : -1152921504606846976 ≤ a ∧ a ≤ 1152921504606846976) (hb : 1 ≤ b) :
    -1152921504606846976 ≤ a.fdiv b ∧ a.fdiv b ≤ 1152921504606846976 := by
  have h1 := Int.mul_fdiv_add_fmod a b
  have h2 := Int.fmod_nonneg_of_pos a (b := b) (by omega)
  have h3 := Int.fmod_lt_of_pos a (b := b) (by omega)
  constructor
  · apply Decidable.byContradiction
    intro hlt
    have h4 : b * a.fdiv b ≤ b * (-1152921504606846977) := Int.mul_le_mul_of_nonneg_left (by omega) (by omega)
    have h5 : b * (-1152921504606846977) + b ≤ -1152921504606846976 := by omega
    omega
  · apply Decidable.byContradiction
    intro hlt
    have h4 : b * 1152921504606846977 ≤ b * a.fdiv b := Int.mul_le_mul_of_nonneg_left (by omega) (by omega)
    omega

/-- The quotient of the number turned about: the ceiling's. -/
theorem fdiv_neg_zero {a b : Int} (hb : 1 ≤ b) (hm : a.fmod b = 0) : (-a).fdiv b = - a.fdiv b := by
  have h := Int.mul_fdiv_add_fmod a b
  have k := Int.mul_fdiv_add_fmod (-a) b
  have k2 := Int.fmod_nonneg_of_pos (-a) (b := b) (by omega)
  have k3 := Int.fmod_lt_of_pos (-a) (b := b) (by omega)
  have e : b * ((-a).fdiv b + a.fdiv b) = - (-a).fmod b := by rw [Int.mul_add]; omega
  have e1 : (-a).fdiv b + a.fdiv b = 0 := by
    rcases Int.lt_trichotomy ((-a).fdiv b + a.fdiv b) 0 with h4 | h4 | h4
    · have : b * ((-a).fdiv b + a.fdiv b) ≤ b * (-1) := Int.mul_le_mul_of_nonneg_left (by omega) (by omega)
      omega
    · exact h4
    · have : b * 1 ≤ b * ((-a).fdiv b + a.fdiv b) := Int.mul_le_mul_of_nonneg_left (by omega) (by omega)
      omega
  omega

theorem fdiv_neg_pos {a b : Int} (hb : 1 ≤ b) (hm : ¬ a.fmod b = 0) : (-a).fdiv b = - (a.fdiv b + 1) := by
  have h := Int.mul_fdiv_add_fmod a b
  have h2 := Int.fmod_nonneg_of_pos a (b := b) (by omega)
  have h3 := Int.fmod_lt_of_pos a (b := b) (by omega)
  have k := Int.mul_fdiv_add_fmod (-a) b
  have k2 := Int.fmod_nonneg_of_pos (-a) (b := b) (by omega)
  have k3 := Int.fmod_lt_of_pos (-a) (b := b) (by omega)
  have e : b * ((-a).fdiv b + a.fdiv b) = - (-a).fmod b - a.fmod b := by rw [Int.mul_add]; omega
  have e1 : (-a).fdiv b + a.fdiv b = -1 := by
    rcases Int.lt_trichotomy ((-a).fdiv b + a.fdiv b) (-1) with h4 | h4 | h4
    · have : b * ((-a).fdiv b + a.fdiv b) ≤ b * (-2) := Int.mul_le_mul_of_nonneg_left (by omega) (by omega)
      omega
    · exact h4
    · have : b * 0 ≤ b * ((-a).fdiv b + a.fdiv b) := Int.mul_le_mul_of_nonneg_left (by omega) (by omega)
      omega
  omega

/-- All that the stage's theorem asks of a floor, told at once. -/
theorem floor_facts {a b : Int} (ha : -1152921504606846976 ≤ a ∧ a ≤ 1152921504606846976) (hb : 1 ≤ b) (hb2 : b ≤ 1152921504606846976) :
    ∃ q m : Int, floorI a b = q ∧ modI a b = m ∧ floorI (-a) b = (if m = 0 then -q else -(q + 1)) ∧ ceilI a b = (if m = 0 then q else q + 1) ∧
      0 ≤ m ∧ m < b ∧ q * b = a - m ∧ -1152921504606846976 ≤ q ∧ q ≤ 1152921504606846976 ∧ (0 ≤ a → q = a / b) ∧ (a < 0 → q = a.tdiv b ∨ q = a.tdiv b - 1) ∧
      (if m = 0 then q else q + 1) ≤ 1152921504606846976 := by
  have t0 : tameI a = a := tame_in (by omega)
  have t1 : tameI b = b := tame_in (by omega)
  have t2 : tameI (-a) = -a := tame_in (by omega)
  have h := Int.mul_fdiv_add_fmod a b
  have h2 := Int.fmod_nonneg_of_pos a (b := b) (by omega)
  have h3 := Int.fmod_lt_of_pos a (b := b) (by omega)
  have hq := fdiv_in ha hb
  have hf : floorI a b = a.fdiv b := by unfold floorI; rw [t0, t1, if_neg (by omega)]
  have hg : floorI (-a) b = (-a).fdiv b := by unfold floorI; rw [t2, t1, if_neg (by omega)]
  have hz : (-a).fdiv b = (if a.fmod b = 0 then - a.fdiv b else -(a.fdiv b + 1)) := by
    split
    · exact fdiv_neg_zero hb ‹_›
    · exact fdiv_neg_pos hb ‹_›
  have hn := fdiv_in (a := -a) (by omega) hb
  refine ⟨a.fdiv b, a.fmod b, hf, ?_, ?_, ?_, h2, h3, ?_, hq.1, hq.2, ?_, ?_, ?_⟩
  · unfold modI; rw [t0, t1, if_neg (by omega)]
  · rw [hg, hz]
  · unfold ceilI; rw [t0, hg, hz]; split <;> omega
  · rw [Int.mul_comm]; omega
  · intro h0; exact Int.fdiv_eq_ediv_of_nonneg a (by omega)
  · intro h0
    by_cases hm : a.tmod b = 0
    · exact .inl (fdiv_exact hm)
    · exact .inr (fdiv_down (by omega) hm (by
        have e1 : decide (a < 0) = true := by simpa using h0
        have e2 : decide (b < 0) = false := by simp; omega
        rw [e1, e2]; rfl))
  · rw [hz] at hn; split at hn <;> rename_i hm <;> simp [hm] <;> omega

end Go.Proofs.Ytllfjdjihkaadaa
