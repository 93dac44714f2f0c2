/- Plain facts: a segment that has a point in a square meets one of its sides, or begins within. No walk of the program. -/
import Derived.Test.YtgpjeijhbikjaaaGeomM
namespace Go.Proofs.Ytgpjeijhbikjaaa
open Go.RowKit
set_option linter.unusedVariables false

/-- Within reach. -/
def Rch (n : Int) : Prop := -1048576 ≤ n ∧ n ≤ 1048576
theorem Rch.inI {n : Int} (h : Rch n) : inI n = n := inI_small h
theorem inI_neg (n : Int) : inI (-n) = - inI n := by unfold inI clampI; omega
theorem Rch.neg {n : Int} (h : Rch n) : Rch (-n) := by unfold Rch at *; omega

theorem clamp0 (n : Int) : clampI n (-1) 1 = 0 ↔ n = 0 := by unfold clampI; omega
theorem clamp_opp (n m : Int) : clampI n (-1) 1 * clampI m (-1) 1 < 0 ↔ (n < 0 ∧ 0 < m) ∨ (0 < n ∧ m < 0) := by
  rcases Int.lt_trichotomy n 0 with h | h | h
  · have : clampI n (-1) 1 = -1 := by unfold clampI; omega
    rw [this]; unfold clampI; omega
  · have : clampI n (-1) 1 = 0 := by unfold clampI; omega
    rw [this]; omega
  · have : clampI n (-1) 1 = 1 := by unfold clampI; omega
    rw [this]; unfold clampI; omega

theorem on_iff {ax az bx bz px pz : Int} (h1 : Rch ax) (h2 : Rch az) (h3 : Rch bx) (h4 : Rch bz) (h5 : Rch px) (h6 : Rch pz) :
    onB ax az bx bz px pz = true ↔ crI ax az bx bz px pz = 0 ∧ min ax bx ≤ px ∧ px ≤ max ax bx ∧ min az bz ≤ pz ∧ pz ≤ max az bz := by
  unfold onB turnI insB
  rw [h1.inI, h2.inI, h3.inI, h4.inI, h5.inI, h6.inI]
  simp [clamp0, and_assoc]
theorem crosses_iff {ax az bx bz cx cz dx dz : Int} (h1 : Rch ax) (h2 : Rch az) (h3 : Rch bx) (h4 : Rch bz) (h5 : Rch cx) (h6 : Rch cz) (h7 : Rch dx) (h8 : Rch dz) :
    crossesB ax az bx bz cx cz dx dz = true ↔ (crI ax az bx bz cx cz < 0 ∧ 0 < crI ax az bx bz dx dz) ∨ (0 < crI ax az bx bz cx cz ∧ crI ax az bx bz dx dz < 0) := by
  unfold crossesB turnI
  rw [h1.inI, h2.inI, h3.inI, h4.inI, h5.inI, h6.inI, h7.inI, h8.inI]
  simp [clamp_opp]

/-! ### Turned about -/
theorem turn_swap (ax az bx bz cx cz : Int) : turnI az ax bz bx cz cx = - turnI ax az bx bz cx cz := by
  unfold turnI
  rw [← clamp_neg]
  congr 1
  unfold crI
  grind
theorem turn_refl (ax az bx bz cx cz : Int) : turnI ax (-az) bx (-bz) cx (-cz) = - turnI ax az bx bz cx cz := by
  unfold turnI
  rw [← clamp_neg, inI_neg, inI_neg, inI_neg]
  congr 1
  unfold crI
  grind
theorem on_swap (ax az bx bz px pz : Int) : onB az ax bz bx pz px = onB ax az bx bz px pz := by
  unfold onB insB
  rw [turn_swap]
  rw [Bool.eq_iff_iff]; simp; omega
theorem on_refl (ax az bx bz px pz : Int) : onB ax (-az) bx (-bz) px (-pz) = onB ax az bx bz px pz := by
  unfold onB insB
  rw [turn_refl, inI_neg, inI_neg, inI_neg]
  rw [Bool.eq_iff_iff]; simp; omega
theorem crosses_swap (ax az bx bz cx cz dx dz : Int) : crossesB az ax bz bx cz cx dz dx = crossesB ax az bx bz cx cz dx dz := by
  unfold crossesB
  rw [turn_swap ax az bx bz cx cz, turn_swap ax az bx bz dx dz, Int.neg_mul_neg]
theorem crosses_refl (ax az bx bz cx cz dx dz : Int) : crossesB ax (-az) bx (-bz) cx (-cz) dx (-dz) = crossesB ax az bx bz cx cz dx dz := by
  unfold crossesB
  rw [turn_refl ax az bx bz cx cz, turn_refl ax az bx bz dx dz, Int.neg_mul_neg]
theorem meet_swap (ax az bx bz cx cz dx dz : Int) : meetB az ax bz bx cz cx dz dx = meetB ax az bx bz cx cz dx dz := by
  unfold meetB
  rw [crosses_swap ax az bx bz cx cz dx dz, crosses_swap cx cz dx dz ax az bx bz, on_swap ax az bx bz cx cz, on_swap ax az bx bz dx dz, on_swap cx cz dx dz ax az, on_swap cx cz dx dz bx bz]
theorem meet_refl (ax az bx bz cx cz dx dz : Int) : meetB ax (-az) bx (-bz) cx (-cz) dx (-dz) = meetB ax az bx bz cx cz dx dz := by
  unfold meetB
  rw [crosses_refl ax az bx bz cx cz dx dz, crosses_refl cx cz dx dz ax az bx bz, on_refl ax az bx bz cx cz, on_refl ax az bx bz dx dz, on_refl cx cz dx dz ax az, on_refl cx cz dx dz bx bz]

theorem meet_of_on1 {ax az bx bz cx cz dx dz : Int} (h : onB ax az bx bz cx cz = true) : meetB ax az bx bz cx cz dx dz = true := by unfold meetB; simp [h]
theorem meet_of_on2 {ax az bx bz cx cz dx dz : Int} (h : onB ax az bx bz dx dz = true) : meetB ax az bx bz cx cz dx dz = true := by unfold meetB; simp [h]
theorem meet_of_on3 {ax az bx bz cx cz dx dz : Int} (h : onB cx cz dx dz ax az = true) : meetB ax az bx bz cx cz dx dz = true := by unfold meetB; simp [h]
theorem meet_of_on4 {ax az bx bz cx cz dx dz : Int} (h : onB cx cz dx dz bx bz = true) : meetB ax az bx bz cx cz dx dz = true := by unfold meetB; simp [h]
theorem meet_of_crosses {ax az bx bz cx cz dx dz : Int} (h : crossesB ax az bx bz cx cz dx dz = true) (k : crossesB cx cz dx dz ax az bx bz = true) : meetB ax az bx bz cx cz dx dz = true := by unfold meetB; simp [h, k]
theorem meet_cases {ax az bx bz cx cz dx dz : Int} (h : meetB ax az bx bz cx cz dx dz = true) :
    (crossesB ax az bx bz cx cz dx dz = true ∧ crossesB cx cz dx dz ax az bx bz = true) ∨ onB ax az bx bz cx cz = true ∨ onB ax az bx bz dx dz = true ∨ onB cx cz dx dz ax az = true ∨ onB cx cz dx dz bx bz = true := by
  unfold meetB at h
  simp only [Bool.or_eq_true, Bool.and_eq_true] at h
  rcases h with (((h | h) | h) | h) | h
  · exact Or.inl h
  · exact Or.inr (Or.inl h)
  · exact Or.inr (Or.inr (Or.inl h))
  · exact Or.inr (Or.inr (Or.inr (Or.inl h)))
  · exact Or.inr (Or.inr (Or.inr (Or.inr h)))

end Go.Proofs.Ytgpjeijhbikjaaa
