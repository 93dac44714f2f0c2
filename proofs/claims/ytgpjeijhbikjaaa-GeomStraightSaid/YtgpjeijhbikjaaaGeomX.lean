/- The contract of the document's Same, of two rows that are the same. -/
import Derived.Test.YtgpjeijhbikjaaaGeomW
namespace Go.Proofs.Ytgpjeijhbikjaaa
open Go.RowKit
set_option linter.unusedVariables false

set_option maxHeartbeats 1000000 in
theorem rsame_any (at0 at1 : Option Addr) (R : List (Int × Int)) (c d : Nat) (w : World) (hl : R.length ≤ maxLen) (H : PtsIn w at0 R) (G : PtsIn w at1 R) :
    Calls Try.prog 17 #[.slice at0 R.length c, .slice at1 R.length d] w fun e w' => e = .returned (.bool true) ∧ New w w' := by
  have HP := Lib.hid H
  have GP := Lib.hid G
  clear H G
  unfold maxLen at hl
  go_enter Try.func17, Try.ntmps17
  go_wp2_with fail
  go_loopg [5] R.length (fun k i wr => ∃ j : Nat, j + k = R.length ∧ i = .int .i64 j ∧ New w wr)
  case atStart => exact ⟨0, by omega, rfl, New.refl _⟩
  case round =>
    obtain ⟨j, hj, rfl, hn⟩ := hrel
    by_cases hlt : j < R.length
    · obtain ⟨b, off, rfl, hp⟩ := HP.out (by omega)
      obtain ⟨b', off', rfl, gp⟩ := GP.out (by omega)
      have c1 := hn.keep (hp j hlt).1
      have c2 := hn.keep (hp j hlt).2
      have c3 := hn.keep (gp j hlt).1
      have c4 := hn.keep (gp j hlt).2
      clear hp gp
      have PN := pt_neq
      have hq : ptEq R[j].1 R[j].2 R[j].1 R[j].2 = true := ptEq_true rfl rfl
      go_wp2_with fail
      (refine wp_region_hat (by kernel_rfl) (by kernel_rfl) ?_; intro hatc hatf; (repeat (go_big_quiet_step ((fail)))); refine wpQuiet_nil ?_; rintro _ ⟨x, rfl⟩)
      clear PN c1 c2 c3 c4 hatc hatf
      replace hn := New.trans hn x.h
      generalize x.w = V at *
      go_wp2_with fail
      go_roundg (gk - 1)
      case measure => omega
      case rel => exact ⟨j + 1, by omega, by go_num, hn⟩
    · have hlt' : decide ((j : Int) < (R.length : Int)) = false := by simp; omega
      go_wp2_with fail
      go_ret
      exact ⟨rfl, hn⟩

end Go.Proofs.Ytgpjeijhbikjaaa
