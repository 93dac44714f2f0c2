/- The contract of the statements' own first look ('wakes'): it is true. -/
import Derived.Test.YtllfjdjihkaadaaWholeF
namespace Go.Proofs.Ytllfjdjihkaadaa
open Go.RowKit

theorem k_floor : floorI (-7) 2 = -4 := by decide
theorem k_ceil : ceilI (-7) 2 = -3 := by decide
theorem k_floor0 : floorI 1 0 = 0 := by decide
theorem k_e2 : errI (tameI 2 != 0) = 0 := by decide
theorem k_e0 : errI (tameI 0 != 0) = 2 := by decide
theorem k_t17 : tameI 17 = 17 := by decide
theorem k_root : rootV 17 = 4 := by
  unfold rootV
  rw [k_t17, if_pos (by omega)]
  exact (rootI_eq ⟨by omega, by omega, by omega⟩).symm
theorem k_up : upV 17 = 5 := by
  unfold upV
  rw [k_t17, if_pos (by omega)]
  exact (upI_eq (by omega) (by omega) (by omega) (by omega)).symm
theorem k_re : rootE 17 = 0 := by decide

set_option maxHeartbeats 1000000 in
theorem wakes_any (w : World) :
    Calls Try.prog 22 #[] w fun e w' => e = .returned (.bool true) ∧ Calm w w' := by
  go_enter Try.func22, Try.ntmps22
  go_wp2_with fail
  refine (floor_any _ _ _).mono ?_; rw [k_floor, k_e2]; rintro e w' ⟨rfl, rfl⟩
  go_wp2_with fail
  refine (ceil_any _ _ _).mono ?_; rw [k_ceil, k_e2]; rintro e w' ⟨rfl, rfl⟩
  go_wp2_with fail
  refine (root_any _ _).mono ?_; rw [k_root, k_re]; rintro e w1 ⟨rfl, c1⟩
  go_wp2_with fail
  refine (up_any _ _).mono ?_; rw [k_up, k_re]; rintro e w2 ⟨rfl, c2⟩
  go_wp2_with fail
  refine (floor_any _ _ _).mono ?_; rw [k_floor0, k_e0]; rintro e w' ⟨rfl, rfl⟩
  go_wp2_with fail
  go_ret
  exact ⟨rfl, c1.trans c2⟩

end Go.Proofs.Ytllfjdjihkaadaa
