import Derived.Test.YtgoggogcbjfofaaDoorRows
import Derived.WalkKit
import Derived.WalkSpells
import Derived.WalkLawsBesides
import Derived.IntWalk
import Derived.Test.YtgoggogcbjfofaaDoorWholeM

/- Contracts of the small functions of package whole: into, within, tame, and the document's In. -/
namespace Go.Proofs.YtgoggogcbjfofaaDoor
open Go.RowKit

def clampI (n lo hi : Int) : Int := max lo (min n hi)

theorem retI {k : IntKind} {a b : Int} (h : a = b) : Ending.returned (.int k a) = .returned (.int k b) := by rw [h]
theorem retB {a b : Bool} (h : a = b) : Ending.returned (.bool a) = .returned (.bool b) := by rw [h]

set_option maxHeartbeats 400000 in
theorem into_any (n lo hi : Int) (w : World) :
    Calls Tryd.prog 59 #[.int .i64 n, .int .i64 lo, .int .i64 hi] w fun e w' => e = .returned (.int .i64 (clampI n lo hi)) ∧ w = w' := by
  go_enter Tryd.func59, Tryd.ntmps59
  go_wp2
  all_goals
    go_ret
    refine ⟨retI ?_, rfl⟩
    unfold clampI
    first | omega | (simp_all; omega)

def withinB (n lo hi : Int) : Bool := clampI n lo hi == n

set_option maxHeartbeats 400000 in
theorem within_any (n lo hi : Int) (w : World) :
    Calls Tryd.prog 47 #[.int .i64 n, .int .i64 lo, .int .i64 hi] w fun e w' => e = .returned (.bool (withinB n lo hi)) ∧ w = w' := by
  go_enter Tryd.func47, Tryd.ntmps47
  go_wp2_with (go_at_call 59; refine (into_any _ _ _ _).mono ?_; rintro e w' ⟨rfl, rfl⟩)
  go_ret
  exact ⟨rfl, rfl⟩

def tameI (n : Int) : Int := clampI n (-2305843009213693952) 2305843009213693952

theorem in_tame (n : Int) : min (max n (-2305843009213693952)) 2305843009213693952 = tameI n := by
  unfold tameI clampI; omega

theorem tame_bd (n : Int) : -2305843009213693952 ≤ tameI n ∧ tameI n ≤ 2305843009213693952 := by
  unfold tameI clampI; omega

end Go.Proofs.YtgoggogcbjfofaaDoor

/- Contracts of Floor, Ceil, Mod, Sign of package whole and of the document's own. -/
namespace Go.Proofs.YtgoggogcbjfofaaDoor
open Go.RowKit

def floorI (a b : Int) : Int := if tameI b = 0 then 0 else Int.fdiv (tameI a) (tameI b)
def errI (b : Bool) : Int := if b then 0 else 2

theorem retT {a b c d : Int} (h : a = b) (h' : c = d) : Ending.returned (.tuple #[.int .i64 a, .int .i64 c]) = .returned (.tuple #[.int .i64 b, .int .i64 d]) := by rw [h, h']

theorem floorI_zero {a b : Int} (h : (tameI b == 0) = true) : floorI a b = 0 := by unfold floorI; simp_all
theorem errI_zero {b : Int} (h : (tameI b == 0) = true) : errI (tameI b != 0) = 2 := by unfold errI; simp_all
theorem floorI_ok {a b : Int} (h : (tameI b == 0) = false) : floorI a b = Int.fdiv (tameI a) (tameI b) := by unfold floorI; simp_all
theorem errI_ok {b : Int} (h : (tameI b == 0) = false) : errI (tameI b != 0) = 0 := by unfold errI; simp_all

end Go.Proofs.YtgoggogcbjfofaaDoor

/- Contracts of Ceil, Mod, Sign of package whole and of the document's own. -/
namespace Go.Proofs.YtgoggogcbjfofaaDoor
open Go.RowKit

theorem tame_tame (n : Int) : tameI (tameI n) = tameI n := by unfold tameI clampI; omega
theorem tame_neg_tame (n : Int) : tameI (- tameI n) = - tameI n := by unfold tameI clampI; omega
theorem floorI_bd (a b : Int) : -2305843009213693953 ≤ floorI a b ∧ floorI a b ≤ 2305843009213693952 := by
  unfold floorI
  split
  · omega
  · exact fdiv_bd _ _ ‹_› (tame_bd a)
theorem floorI_tame (a b : Int) : floorI a (tameI b) = floorI a b := by unfold floorI; rw [tame_tame]
theorem floorI_tame' (a b : Int) : floorI (tameI a) b = floorI a b := by unfold floorI; rw [tame_tame]

def ceilI (a b : Int) : Int := - floorI (- tameI a) b

def modI (a b : Int) : Int := if tameI b < 1 then 0 else Int.fmod (tameI a) (tameI b)
def modE (b : Int) : Int := if tameI b < 1 then 2 else 0

end Go.Proofs.YtgoggogcbjfofaaDoor
