/- Contracts of the small functions of package whole: into, within, tame, and the document's In. -/
import Derived.Test.YtljcebahjfifhaaDoorRows
import Derived.WalkKit
import Derived.WalkSpells
import Derived.WalkLawsBesides
import Derived.IntWalk
namespace Go.Proofs.YtljcebahjfifhaaDoor
open Go.RowKit

def clampI (n lo hi : Int) : Int := max lo (min n hi)

theorem retI {k : IntKind} {a b : Int} (h : a = b) : Ending.returned (.int k a) = .returned (.int k b) := by rw [h]
theorem retB {a b : Bool} (h : a = b) : Ending.returned (.bool a) = .returned (.bool b) := by rw [h]

set_option maxHeartbeats 400000 in
theorem into_any (n lo hi : Int) (w : World) :
    Calls Tryd.prog 44 #[.int .i64 n, .int .i64 lo, .int .i64 hi] w fun e w' => e = .returned (.int .i64 (clampI n lo hi)) ∧ w = w' := by
  go_enter Tryd.func44, Tryd.ntmps44
  go_wp2
  all_goals
    go_ret
    refine ⟨retI ?_, rfl⟩
    unfold clampI
    first | omega | (simp_all; omega)

def withinB (n lo hi : Int) : Bool := clampI n lo hi == n

set_option maxHeartbeats 400000 in
theorem within_any (n lo hi : Int) (w : World) :
    Calls Tryd.prog 41 #[.int .i64 n, .int .i64 lo, .int .i64 hi] w fun e w' => e = .returned (.bool (withinB n lo hi)) ∧ w = w' := by
  go_enter Tryd.func41, Tryd.ntmps41
  go_wp2_with (go_at_call 44; refine (into_any _ _ _ _).mono ?_; rintro e w' ⟨rfl, rfl⟩)
  go_ret
  exact ⟨rfl, rfl⟩

def tameI (n : Int) : Int := clampI n (-2305843009213693952) 2305843009213693952

theorem in_tame (n : Int) : min (max n (-2305843009213693952)) 2305843009213693952 = tameI n := by
  unfold tameI clampI; omega

theorem tame_bd (n : Int) : -2305843009213693952 ≤ tameI n ∧ tameI n ≤ 2305843009213693952 := by
  unfold tameI clampI; omega

end Go.Proofs.YtljcebahjfifhaaDoor
