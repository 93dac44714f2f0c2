/- The law of points, walked: all ways together. -/
import Derived.Test.YtebpgefmilkioaaHoldA
import Derived.Test.YtebpgefmilkioaaHoldB
import Derived.Test.YtebpgefmilkioaaHoldC
namespace Go.Proofs.Ytebpgefmilkioaa
open Go.RowKit
set_option linter.unusedVariables false

theorem hold_bound {p0 p1 n k : Int} (h0 : 0 ≤ p0 ∧ p0 ≤ 64) (h1 : 0 ≤ p1 ∧ p1 ≤ 64) (hb : (1 ≤ n ∧ n ≤ 100) ∧ 0 ≤ k ∧ k ≤ n) : -6400 ≤ (p1 - p0) * k ∧ (p1 - p0) * k ≤ 6400 := by
  have a := Int.mul_le_mul_of_nonneg_right (show p1 - p0 ≤ 64 by omega) hb.2.1
  have b := Int.mul_le_mul_of_nonneg_right (show -64 ≤ p1 - p0 by omega) hb.2.1
  omega

theorem hold_mid {p0 p1 n k t : Int} (h0 : 0 ≤ p0 ∧ p0 ≤ 64) (h1 : 0 ≤ p1 ∧ p1 ≤ 64) (hb : (1 ≤ n ∧ n ≤ 100) ∧ 0 ≤ k ∧ k ≤ n) (ht : t * n = (p1 - p0) * k) : 0 ≤ p0 + t ∧ p0 + t ≤ 64 := by
  have a := Int.mul_le_mul_of_nonneg_left (show k ≤ n by omega) (show 0 ≤ p0 by omega)
  have b := Int.mul_nonneg h1.1 hb.2.1
  have c := Int.mul_le_mul_of_nonneg_right h1.2 hb.2.1
  have d := Int.mul_le_mul_of_nonneg_right h0.2 (show 0 ≤ n - k by omega)
  have e : (p0 + t) * n = p0 * (n - k) + p1 * k := by rw [Int.add_mul, ht, Int.mul_sub, Int.sub_mul]; omega
  have f : 0 ≤ p0 * (n - k) := Int.mul_nonneg h0.1 (by omega)
  constructor
  · exact Int.le_of_mul_le_mul_right (a := n) (by rw [e]; omega) (by omega)
  · exact Int.le_of_mul_le_mul_right (a := n) (by rw [e]; have : 64 * (n - k) = 64 * n - 64 * k := Int.mul_sub ..; omega) (by omega)

theorem hold_any (p0 q0 p1 q1 k n : Int) (w : World) :
    Calls Try.prog 5 #[.agg #[.int .i64 p0, .int .i64 q0], .agg #[.int .i64 p1, .int .i64 q1], .int .i64 k, .int .i64 n] w fun e w' => e = .returned (.bool true) ∧ New w w' := by
  cases hok : okB p0 q0 p1 q1 with
  | false => exact hold_no p0 q0 p1 q1 k n hok w
  | true =>
    have hok' := hok
    unfold okB at hok'
    rw [Bool.and_eq_true] at hok'
    have hA := ptB_iff.1 hok'.1
    have hB := ptB_iff.1 hok'.2
    have hp : (0 ≤ p0 ∧ p0 ≤ 64) ∧ (0 ≤ q0 ∧ q0 ≤ 64) ∧ (0 ≤ p1 ∧ p1 ≤ 64) ∧ (0 ≤ q1 ∧ q1 ≤ 64) := by omega
    by_cases h0 : n < 1
    · exact hold_no0 p0 q0 p1 q1 k n hok (decide_eq_true h0) w
    by_cases h1 : (100 : Int) < n
    · exact hold_no1 p0 q0 p1 q1 k n hok (decide_eq_false h0) (decide_eq_true h1) w
    by_cases h2 : k < 0
    · exact hold_no2 p0 q0 p1 q1 k n hok (decide_eq_false h0) (decide_eq_false h1) (decide_eq_true h2) w
    by_cases h3 : n < k
    · exact hold_no3 p0 q0 p1 q1 k n hok (decide_eq_false h0) (decide_eq_false h1) (decide_eq_false h2) (decide_eq_true h3) w
    have hb : (1 ≤ n ∧ n ≤ 100) ∧ 0 ≤ k ∧ k ≤ n := by omega
    have bx := hold_bound hp.1 hp.2.2.1 hb
    have bz := hold_bound hp.2.1 hp.2.2.2 hb
    cases rx : (((p1 - p0) * k).tmod n != 0) with
    | true => exact hold_rx p0 q0 p1 q1 k n hok hp hb bx bz rx w
    | false =>
      cases rz : (((q1 - q0) * k).tmod n != 0) with
      | true => exact hold_rz p0 q0 p1 q1 k n hok hp hb bx bz rx rz w
      | false =>
        have ex : ((p1 - p0) * k).tmod n = 0 := by simpa using rx
        have ez : ((q1 - q0) * k).tmod n = 0 := by simpa using rz
        have mx : ((p1 - p0) * k).tdiv n * n = (p1 - p0) * k := Int.tdiv_mul_cancel (Int.dvd_of_tmod_eq_zero ex)
        have mz : ((q1 - q0) * k).tdiv n * n = (q1 - q0) * k := Int.tdiv_mul_cancel (Int.dvd_of_tmod_eq_zero ez)
        exact hold_go p0 q0 p1 q1 k n hok hp hb bx bz _ _ rx rz rfl rfl mx mz (hold_mid hp.1 hp.2.2.1 hb mx) (hold_mid hp.2.1 hp.2.2.2 hb mz) w
end Go.Proofs.Ytebpgefmilkioaa
