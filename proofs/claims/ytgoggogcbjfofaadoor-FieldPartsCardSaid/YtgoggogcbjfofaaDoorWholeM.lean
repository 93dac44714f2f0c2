/- Plain facts about whole numbers, no program in sight: division towards nought against division downwards. -/
import Derived.RowKit
namespace Go.Proofs.YtgoggogcbjfofaaDoor
open Go.RowKit

theorem wrap64_in {n : Int} (h : -9223372036854775808 ≤ n ∧ n ≤ 9223372036854775807) : wrap64 n = n := by
  unfold wrap64; omega

theorem tdiv_bd (a b : Int) (ha : -2305843009213693952 ≤ a ∧ a ≤ 2305843009213693952) :
    -2305843009213693952 ≤ a.tdiv b ∧ a.tdiv b ≤ 2305843009213693952 := by
  have := Int.natAbs_tdiv_le_natAbs a b
  omega

theorem fdiv_exact {a b : Int} (h : a.tmod b = 0) : a.fdiv b = a.tdiv b := by
  rw [Int.fdiv_eq_tdiv, if_pos (Int.dvd_of_tmod_eq_zero h)]; omega

theorem fdiv_down {a b : Int} (hb : b ≠ 0) (h : ¬ a.tmod b = 0) (hs : (!decide (a < 0) == decide (b < 0)) = true) :
    a.fdiv b = a.tdiv b - 1 := by
  rw [Int.fdiv_eq_tdiv, if_neg (fun h' => h (Int.dvd_iff_tmod_eq_zero.mp h'))]
  rcases Int.lt_trichotomy b 0 with hb' | hb' | hb'
  · rw [Int.sign_eq_neg_one_of_neg hb']
    have : 0 ≤ a := by simp at hs; omega
    simp [this]; omega
  · exact absurd hb' hb
  · rw [Int.sign_eq_one_of_pos hb']
    have : ¬ 0 ≤ a := by simp at hs; omega
    have hb2 : 0 ≤ b := by omega
    simp [this, hb2]

theorem fdiv_same {a b : Int} (hb : b ≠ 0) (hs : (!decide (a < 0) == decide (b < 0)) = false) :
    a.fdiv b = a.tdiv b := by
  by_cases h : a.tmod b = 0
  · exact fdiv_exact h
  rw [Int.fdiv_eq_tdiv, if_neg (fun h' => h (Int.dvd_iff_tmod_eq_zero.mp h'))]
  rcases Int.lt_trichotomy b 0 with hb' | hb' | hb'
  · rw [Int.sign_eq_neg_one_of_neg hb']
    have h1 : ¬ 0 ≤ a := by simp at hs; omega
    have h2 : ¬ 0 ≤ b := by omega
    simp [h1, h2]
  · exact absurd hb' hb
  · rw [Int.sign_eq_one_of_pos hb']
    have h1 : 0 ≤ a := by simp at hs; omega
    have hb2 : 0 ≤ b := by omega
    simp [h1, hb2]

theorem tdiv_exact_iff {a b : Int} : a.tdiv b * b = a ↔ a.tmod b = 0 := by
  have := Int.tmod_add_mul_tdiv a b
  rw [Int.mul_comm] at this
  constructor <;> intro h <;> omega

theorem tdiv_mul_bd (a b : Int) (ha : -2305843009213693952 ≤ a ∧ a ≤ 2305843009213693952) :
    -2305843009213693952 ≤ a.tdiv b * b ∧ a.tdiv b * b ≤ 2305843009213693952 := by
  have h1 : (a.tdiv b * b).natAbs ≤ a.natAbs := by
    rw [Int.natAbs_mul, Int.natAbs_tdiv]
    exact Nat.div_mul_le_self _ _
  omega

theorem fdiv_bd (a b : Int) (hb : b ≠ 0) (ha : -2305843009213693952 ≤ a ∧ a ≤ 2305843009213693952) :
    -2305843009213693953 ≤ a.fdiv b ∧ a.fdiv b ≤ 2305843009213693952 := by
  have ht := tdiv_bd a b ha
  by_cases h : a.tmod b = 0
  · rw [fdiv_exact h]; omega
  · by_cases hs : (!decide (a < 0) == decide (b < 0)) = true
    · rw [fdiv_down hb h hs]; omega
    · rw [fdiv_same hb (by simpa using hs)]; omega

theorem mul_fdiv_bd (a b : Int) (hb : 1 ≤ b) (h2 : b ≤ 2305843009213693952) (ha : -2305843009213693952 ≤ a ∧ a ≤ 2305843009213693952) :
    -4611686018427387904 ≤ b * a.fdiv b ∧ b * a.fdiv b ≤ 2305843009213693952 := by
  have h := Int.mul_fdiv_add_fmod a b
  have h0 := Int.fmod_nonneg_of_pos a (b := b) (by omega)
  have h1 := Int.fmod_lt_of_pos a (b := b) (by omega)
  omega

theorem fmod_of_tmod (a b : Int) (hb : 1 ≤ b) : a.fmod b = if a.tmod b < 0 then a.tmod b + b else a.tmod b := by
  have h := Int.mul_fdiv_add_fmod a b
  have h0 := Int.fmod_nonneg_of_pos a (b := b) (by omega)
  have h1 := Int.fmod_lt_of_pos a (b := b) (by omega)
  have k := Int.tmod_add_mul_tdiv a b
  by_cases hm : a.tmod b = 0
  · rw [if_neg (by omega)]
    rw [fdiv_exact hm] at h
    omega
  · by_cases hs : (!decide (a < 0) == decide (b < 0)) = true
    · rw [fdiv_down (by omega) hm hs, Int.mul_sub] at h
      rw [if_pos (by omega)]
      omega
    · rw [fdiv_same (by omega) (by simpa using hs)] at h
      rw [if_neg (by omega)]
      omega

end Go.Proofs.YtgoggogcbjfofaaDoor
