/- Ways through the stage's theorem, one at a time (part D): the law's text walked with every test decided ahead. -/
import Derived.Test.YtllfjdjihkaadaaWholeK
import Derived.Test.YtllfjdjihkaadaaWholeL
namespace Go.Proofs.Ytllfjdjihkaadaa
open Go.RowKit

set_option linter.unusedVariables false in
set_option maxRecDepth 100000 in
set_option maxHeartbeats 4000000 in
theorem fl_pm_r (a b q m k : Int) (w : World)
    (a0 : -1152921504606846976 ≤ a) (a1 : a ≤ 1152921504606846976) (b0 : 1 ≤ b) (b1 : b ≤ 1152921504606846976) (q0 : -1152921504606846976 ≤ q) (q1 : q ≤ 1152921504606846976) (q2 : q + 1 ≤ 1152921504606846976 + 1)
    (g1 : decide (a < -1152921504606846976) = false) (g2 : decide (1152921504606846976 < a) = false) (g3 : decide (b < 1) = false) (g4 : decide (1152921504606846976 < b) = false)
    (g5 : decide (q < -1152921504606846976) = false) (g6 : decide (1152921504606846976 < q) = false)
    (g7 : decide (q + 1 < -1152921504606846976) = false) (g8 : decide (1152921504606846976 < q + 1) = false) (m0 : 0 ≤ m) (m1 : m < b) (g9 : decide (m < 0) = false) (g10 : decide (b ≤ m) = false) (z1 : (m == 0) = false) (z2 : (q + 1 != q) = true) (hp : q * b = a - m) (z3 : (a - m + m != a) = false)
    (p0 : 0 ≤ a) (s1 : decide (a < 0) = false) (x1 : (q != a / b) = false)
    (k0 : 0 ≤ k) (k1 : k ≤ 2147483648) (kk0 : 0 ≤ k * k) (kk1 : k * k ≤ 1152921504606846976) (kk2 : 0 ≤ (k + 1) * (k + 1)) (kk3 : (k + 1) * (k + 1) ≤ 4611686018427387904) (r1 : decide (k * k ≤ a) = true) (r2 : decide (a < (k + 1) * (k + 1)) = true) (f1 : decide (k < 0) = false) (f2 : decide (2147483648 < k) = false)
    (y1 : (k * k == a) = false) (y2 : (k + 1 == k) = false) (y3 : (k + 1 != k) = true) (HUP : Hid (upV a = k + 1))
    (HRE : Hid (rootE a = 0)) (HRV : Hid (rootV a = k))
    (HF : Hid (floorI a b = q)) (HE : Hid (errI (tameI b != 0) = 0)) (HC : Hid (ceilI a b = (q + 1))) (HG : Hid (floorI (-a) b = -(q + 1))) (HM : Hid (modI a b = m)) (HV : Hid (modE b = 0)) :
    Calls Try.prog 5 #[.int .i64 a, .int .i64 b] w fun e w' => e = .returned (.bool true) ∧ Grown w w' := by
  go_enter Try.func5, Try.ntmps5
  go_wp2_with fail
  refine (floor_any _ _ _).mono ?_; rw [HF.out, HE.out]; rintro e w' ⟨rfl, rfl⟩
  go_wp2_with fail
  refine (ceil_any _ _ _).mono ?_; rw [HC.out, HE.out]; rintro e w' ⟨rfl, rfl⟩
  go_wp2_with fail
  refine (floor_any _ _ _).mono ?_; rw [HG.out, HE.out]; rintro e w' ⟨rfl, rfl⟩
  go_wp2_with fail
  refine (mod_any _ _ _).mono ?_; rw [HM.out, HV.out]; rintro e w' ⟨rfl, rfl⟩
  go_wp2_with fail
  refine (root_any _ _).mono ?_; rw [HRV.out, HRE.out]; rintro e w2 ⟨rfl, c2⟩
  go_wp2_with fail
  refine (up_any _ _).mono ?_; rw [HUP.out, HRE.out]; rintro e w3 ⟨rfl, c3⟩
  go_wp2_with fail
  refine (wakes_any _).mono ?_; rintro e w1 ⟨rfl, c1⟩
  go_wp2_with fail
  go_ret
  exact ⟨rfl, (c2.trans (c3.trans c1)).2⟩

set_option linter.unusedVariables false in
set_option maxRecDepth 100000 in
set_option maxHeartbeats 4000000 in
theorem fl_pm_e (a b q m k : Int) (w : World)
    (a0 : -1152921504606846976 ≤ a) (a1 : a ≤ 1152921504606846976) (b0 : 1 ≤ b) (b1 : b ≤ 1152921504606846976) (q0 : -1152921504606846976 ≤ q) (q1 : q ≤ 1152921504606846976) (q2 : q + 1 ≤ 1152921504606846976 + 1)
    (g1 : decide (a < -1152921504606846976) = false) (g2 : decide (1152921504606846976 < a) = false) (g3 : decide (b < 1) = false) (g4 : decide (1152921504606846976 < b) = false)
    (g5 : decide (q < -1152921504606846976) = false) (g6 : decide (1152921504606846976 < q) = false)
    (g7 : decide (q + 1 < -1152921504606846976) = false) (g8 : decide (1152921504606846976 < q + 1) = false) (m0 : 0 ≤ m) (m1 : m < b) (g9 : decide (m < 0) = false) (g10 : decide (b ≤ m) = false) (z1 : (m == 0) = false) (z2 : (q + 1 != q) = true) (hp : q * b = a - m) (z3 : (a - m + m != a) = false)
    (p0 : 0 ≤ a) (s1 : decide (a < 0) = false) (x1 : (q != a / b) = false)
    (k0 : 0 ≤ k) (k1 : k ≤ 2147483648) (kk0 : 0 ≤ k * k) (kk1 : k * k ≤ 1152921504606846976) (kk2 : 0 ≤ (k + 1) * (k + 1)) (kk3 : (k + 1) * (k + 1) ≤ 4611686018427387904) (r1 : decide (k * k ≤ a) = true) (r2 : decide (a < (k + 1) * (k + 1)) = true) (f1 : decide (k < 0) = false) (f2 : decide (2147483648 < k) = false)
    (y1 : (k * k == a) = true) (HUP : Hid (upV a = k))
    (HRE : Hid (rootE a = 0)) (HRV : Hid (rootV a = k))
    (HF : Hid (floorI a b = q)) (HE : Hid (errI (tameI b != 0) = 0)) (HC : Hid (ceilI a b = (q + 1))) (HG : Hid (floorI (-a) b = -(q + 1))) (HM : Hid (modI a b = m)) (HV : Hid (modE b = 0)) :
    Calls Try.prog 5 #[.int .i64 a, .int .i64 b] w fun e w' => e = .returned (.bool true) ∧ Grown w w' := by
  go_enter Try.func5, Try.ntmps5
  go_wp2_with fail
  refine (floor_any _ _ _).mono ?_; rw [HF.out, HE.out]; rintro e w' ⟨rfl, rfl⟩
  go_wp2_with fail
  refine (ceil_any _ _ _).mono ?_; rw [HC.out, HE.out]; rintro e w' ⟨rfl, rfl⟩
  go_wp2_with fail
  refine (floor_any _ _ _).mono ?_; rw [HG.out, HE.out]; rintro e w' ⟨rfl, rfl⟩
  go_wp2_with fail
  refine (mod_any _ _ _).mono ?_; rw [HM.out, HV.out]; rintro e w' ⟨rfl, rfl⟩
  go_wp2_with fail
  refine (root_any _ _).mono ?_; rw [HRV.out, HRE.out]; rintro e w2 ⟨rfl, c2⟩
  go_wp2_with fail
  refine (up_any _ _).mono ?_; rw [HUP.out, HRE.out]; rintro e w3 ⟨rfl, c3⟩
  go_wp2_with fail
  refine (wakes_any _).mono ?_; rintro e w1 ⟨rfl, c1⟩
  go_wp2_with fail
  go_ret
  exact ⟨rfl, (c2.trans (c3.trans c1)).2⟩

end Go.Proofs.Ytllfjdjihkaadaa
