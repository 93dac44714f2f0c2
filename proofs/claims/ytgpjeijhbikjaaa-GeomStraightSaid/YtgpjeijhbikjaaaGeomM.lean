/- Plain facts of turns, of segments that meet. No walk of the program. -/
import Derived.Test.YtgpjeijhbikjaaaGeomF
namespace Go.Proofs.Ytgpjeijhbikjaaa
open Go.RowKit
set_option linter.unusedVariables false

theorem clamp_neg (n : Int) : clampI (-n) (-1) 1 = - clampI n (-1) 1 := by unfold clampI; omega

theorem turn_ba (ax az bx bz cx cz : Int) : turnI bx bz ax az cx cz = - turnI ax az bx bz cx cz := by
  unfold turnI
  rw [← clamp_neg]
  congr 1
  unfold crI
  grind
theorem turn_cb (ax az bx bz cx cz : Int) : turnI ax az cx cz bx bz = - turnI ax az bx bz cx cz := by
  unfold turnI
  rw [← clamp_neg]
  congr 1
  unfold crI
  grind
theorem turn_bca (ax az bx bz cx cz : Int) : turnI bx bz cx cz ax az = turnI ax az bx bz cx cz := by
  rw [turn_cb, turn_ba]; omega

/-- Near enough to be moved. -/
def Nr (n : Int) : Prop := -262144 < n ∧ n < 262144
theorem Nr.inI {n : Int} (h : Nr n) : inI n = n := inI_small (by unfold Nr at h; omega)
theorem Nr.inI_add {n m : Int} (h : Nr n) (k : Nr m) : Go.Proofs.Ytgpjeijhbikjaaa.inI (n + m) = n + m := inI_small (by unfold Nr at h k; omega)
theorem Nr.inI_neg {n : Int} (h : Nr n) : Go.Proofs.Ytgpjeijhbikjaaa.inI (-n) = -n := inI_small (by unfold Nr at h; omega)

theorem turn_add {ax az bx bz cx cz x z : Int} (h1 : Nr ax) (h2 : Nr az) (h3 : Nr bx) (h4 : Nr bz) (h5 : Nr cx) (h6 : Nr cz) (h7 : Nr x) (h8 : Nr z) :
    turnI (ax + x) (az + z) (bx + x) (bz + z) (cx + x) (cz + z) = turnI ax az bx bz cx cz := by
  unfold turnI
  rw [h1.inI_add h7, h2.inI_add h8, h3.inI_add h7, h4.inI_add h8, h5.inI_add h7, h6.inI_add h8, h1.inI, h2.inI, h3.inI, h4.inI, h5.inI, h6.inI]
  congr 1
  unfold crI
  grind
theorem turn_neg {ax az bx bz cx cz : Int} (h1 : Nr ax) (h2 : Nr az) (h3 : Nr bx) (h4 : Nr bz) (h5 : Nr cx) (h6 : Nr cz) :
    turnI (-ax) (-az) (-bx) (-bz) (-cx) (-cz) = turnI ax az bx bz cx cz := by
  unfold turnI
  rw [h1.inI_neg, h2.inI_neg, h3.inI_neg, h4.inI_neg, h5.inI_neg, h6.inI_neg, h1.inI, h2.inI, h3.inI, h4.inI, h5.inI, h6.inI]
  congr 1
  unfold crI
  grind

theorem on_ba (ax az bx bz px pz : Int) : onB bx bz ax az px pz = onB ax az bx bz px pz := by
  unfold onB
  rw [turn_ba, Int.min_comm (inI bx), Int.max_comm (inI bx), Int.min_comm (inI bz), Int.max_comm (inI bz)]
  congr 1
  rw [Bool.eq_iff_iff]; simp
theorem on_add {ax az bx bz px pz x z : Int} (h1 : Nr ax) (h2 : Nr az) (h3 : Nr bx) (h4 : Nr bz) (h5 : Nr px) (h6 : Nr pz) (h7 : Nr x) (h8 : Nr z) :
    onB (ax + x) (az + z) (bx + x) (bz + z) (px + x) (pz + z) = onB ax az bx bz px pz := by
  unfold onB
  rw [turn_add h1 h2 h3 h4 h5 h6 h7 h8]
  rw [h1.inI_add h7, h2.inI_add h8, h3.inI_add h7, h4.inI_add h8, h5.inI_add h7, h6.inI_add h8, h1.inI, h2.inI, h3.inI, h4.inI, h5.inI, h6.inI]
  congr 1
  unfold insB
  rw [Bool.eq_iff_iff]; simp
theorem on_a (ax az bx bz : Int) : onB ax az bx bz ax az = true := by
  unfold onB insB turnI crI
  have : (inI bx - inI ax) * (inI az - inI az) - (inI bz - inI az) * (inI ax - inI ax) = 0 := by grind
  rw [this]
  simp [clampI]
  omega
theorem on_b (ax az bx bz : Int) : onB ax az bx bz bx bz = true := by rw [← on_ba]; exact on_a _ _ _ _

theorem crosses_ba (ax az bx bz cx cz dx dz : Int) : crossesB bx bz ax az cx cz dx dz = crossesB ax az bx bz cx cz dx dz := by
  unfold crossesB
  rw [turn_ba ax az bx bz cx cz, turn_ba ax az bx bz dx dz, Int.neg_mul_neg]
theorem crosses_dc (ax az bx bz cx cz dx dz : Int) : crossesB ax az bx bz dx dz cx cz = crossesB ax az bx bz cx cz dx dz := by
  unfold crossesB
  rw [Int.mul_comm]
theorem crosses_add {ax az bx bz cx cz dx dz x z : Int} (h1 : Nr ax) (h2 : Nr az) (h3 : Nr bx) (h4 : Nr bz) (h5 : Nr cx) (h6 : Nr cz) (h9 : Nr dx) (h10 : Nr dz) (h7 : Nr x) (h8 : Nr z) :
    crossesB (ax + x) (az + z) (bx + x) (bz + z) (cx + x) (cz + z) (dx + x) (dz + z) = crossesB ax az bx bz cx cz dx dz := by
  unfold crossesB
  rw [turn_add h1 h2 h3 h4 h5 h6 h7 h8, turn_add h1 h2 h3 h4 h9 h10 h7 h8]

theorem meet_ba (ax az bx bz cx cz dx dz : Int) : meetB bx bz ax az cx cz dx dz = meetB ax az bx bz cx cz dx dz := by
  unfold meetB
  rw [crosses_ba, crosses_dc cx cz dx dz, on_ba ax az bx bz cx cz, on_ba ax az bx bz dx dz, Bool.or_assoc, Bool.or_comm (onB cx cz dx dz bx bz), ← Bool.or_assoc]
theorem meet_dc (ax az bx bz cx cz dx dz : Int) : meetB ax az bx bz dx dz cx cz = meetB ax az bx bz cx cz dx dz := by
  unfold meetB
  rw [crosses_dc ax az bx bz cx cz, crosses_ba cx cz dx dz, on_ba cx cz dx dz ax az, on_ba cx cz dx dz bx bz]
  cases onB ax az bx bz cx cz <;> cases onB ax az bx bz dx dz <;> simp
theorem meet_cd (ax az bx bz cx cz dx dz : Int) : meetB cx cz dx dz ax az bx bz = meetB ax az bx bz cx cz dx dz := by
  unfold meetB
  cases crossesB ax az bx bz cx cz dx dz <;> cases crossesB cx cz dx dz ax az bx bz <;> cases onB ax az bx bz cx cz <;> cases onB ax az bx bz dx dz <;> cases onB cx cz dx dz ax az <;> cases onB cx cz dx dz bx bz <;> rfl
theorem meet_add {ax az bx bz cx cz dx dz x z : Int} (h1 : Nr ax) (h2 : Nr az) (h3 : Nr bx) (h4 : Nr bz) (h5 : Nr cx) (h6 : Nr cz) (h9 : Nr dx) (h10 : Nr dz) (h7 : Nr x) (h8 : Nr z) :
    meetB (ax + x) (az + z) (bx + x) (bz + z) (cx + x) (cz + z) (dx + x) (dz + z) = meetB ax az bx bz cx cz dx dz := by
  unfold meetB
  rw [crosses_add h1 h2 h3 h4 h5 h6 h9 h10 h7 h8, crosses_add h5 h6 h9 h10 h1 h2 h3 h4 h7 h8, on_add h1 h2 h3 h4 h5 h6 h7 h8, on_add h1 h2 h3 h4 h9 h10 h7 h8, on_add h5 h6 h9 h10 h1 h2 h7 h8, on_add h5 h6 h9 h10 h3 h4 h7 h8]
theorem far_ba (ax az bx bz : Int) : farI bx bz ax az = farI ax az bx bz := by unfold farI; grind

end Go.Proofs.Ytgpjeijhbikjaaa
