import Derived.Test.YteoongcajfcgcaaTriCZ7
import Derived.Test.YteoongcajfcgcaaWholeIZ7

/- Package tri: Normal of whatever comes, Check, Walk. -/
namespace Go.Proofs.Yteoongcajfcgcaa
open Go.RowKit
set_option linter.unusedVariables false

set_option maxHeartbeats 2000000 in
set_option maxRecDepth 100000 in
theorem t_normal (i x0 y0 z0 x1 y1 z1 x2 y2 z2 : Int) (w : World) :
    Calls Try.prog 42 #[.agg #[.int .i64 i, .int .i64 x0, .int .i64 y0, .int .i64 z0, .int .i64 x1, .int .i64 y1, .int .i64 z1, .int .i64 x2, .int .i64 y2, .int .i64 z2]] w fun e w' => e = .returned (.tuple #[.int .i64 (normX x0 y0 z0 x1 y1 z1 x2 y2 z2), .int .i64 (normY x0 y0 z0 x1 y1 z1 x2 y2 z2), .int .i64 (normZ x0 y0 z0 x1 y1 z1 x2 y2 z2), .int .i64 (normE x0 y0 z0 x1 y1 z1 x2 y2 z2)]) ∧ New w w' := by
  cases hs : stB 32 32 x0 y0 z0 x1 y1 z1 x2 y2 z2
  · have hk : okB x0 y0 z0 x1 y1 z1 x2 y2 z2 = false := by unfold okB; rw [hs]; rfl
    obtain ⟨h1, h2, h3, h4⟩ := norm_no hk
    rw [h1, h2, h3, h4]
    have hst := fun W => t_stands i x0 y0 z0 x1 y1 z1 x2 y2 z2 32 32 W
    rw [hs] at hst
    clear h1 h2 h3 h4 hk hs
    go_enter Try.func42, Try.ntmps42
    go_wp2_with fail
    refine (hst _).mono ?_
    rintro e W0 ⟨rfl, n1⟩
    have hn : New w W0 := New.trans (by (repeat (first | (with_reducible exact New.refl _) | (with_reducible assumption) | ((with_reducible refine New.setB ?_ ?_ _); focus (first | omega | (simp; omega) | (simp; done))) | (with_reducible refine New.alloc ?_ _) | (with_reducible refine New.drew ?_) | (with_reducible refine New.drewN ?_ _) | (with_reducible refine New.hat ?_ _) | ((with_reducible apply New.snart); (with_reducible assumption))))) n1
    clear n1 hst
    go_wp2_with fail
    refine bodyPost_ret (v := .tuple #[.int .i64 0, .int .i64 0, .int .i64 0, .int .i64 40]) (by simp [results, Try.results42, go_sem]) rfl ?_
    exact ⟨rfl, hn⟩
  · exact t_normal_ok i _ _ _ _ _ _ _ _ _ w hs

def tCheckE (cl cb ht ri ru wd dp i x0 y0 z0 x1 y1 z1 x2 y2 z2 : Int) : Int := if checkE cl cb ht ri ru wd dp ≠ 0 then 20 else if (1 ≤ i ∧ i ≤ 1073741824) ∧ stB wd dp x0 y0 z0 x1 y1 z1 x2 y2 z2 = true ∧ okB x0 y0 z0 x1 y1 z1 x2 y2 z2 = true then 0 else 40

theorem checkE_two (cl cb ht ri ru wd dp : Int) : checkE cl cb ht ri ru wd dp = 0 ∨ checkE cl cb ht ri ru wd dp = 20 := by unfold checkE; split <;> simp

end Go.Proofs.Yteoongcajfcgcaa
