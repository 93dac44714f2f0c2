/- Contracts of Ceil, Mod, Sign of package whole and of the document's own. -/
import Derived.Test.YtmpkciidhopckaaWholeB
namespace Go.Proofs.Ytmpkciidhopckaa
open Go.RowKit

theorem tame_tame (n : Int) : tameI (tameI n) = tameI n := by unfold tameI clampI; omega
theorem tame_neg_tame (n : Int) : tameI (- tameI n) = - tameI n := by unfold tameI clampI; omega
theorem floorI_bd (a b : Int) : -2305843009213693953 ≤ floorI a b ∧ floorI a b ≤ 2305843009213693952 := by
  unfold floorI
  split
  · omega
  · exact fdiv_bd _ _ ‹_› (tame_bd a)
theorem floorI_tame (a b : Int) : floorI a (tameI b) = floorI a b := by unfold floorI; rw [tame_tame]
theorem floorI_tame' (a b : Int) : floorI (tameI a) b = floorI a b := by unfold floorI; rw [tame_tame]

def ceilI (a b : Int) : Int := - floorI (- tameI a) b

def modI (a b : Int) : Int := if tameI b < 1 then 0 else Int.fmod (tameI a) (tameI b)
def modE (b : Int) : Int := if tameI b < 1 then 2 else 0

set_option maxHeartbeats 400000 in
theorem sign_any (n : Int) (w : World) :
    Calls Try.prog 76 #[.int .i64 n] w fun e w' => e = .returned (.int .i64 (clampI n (-1) 1)) ∧ w = w' := by
  go_enter Try.func76, Try.ntmps76
  go_wp2_with (go_at_call 97; refine (into_any _ _ _ _).mono ?_; rintro e w' ⟨rfl, rfl⟩)
  go_ret
  exact ⟨rfl, rfl⟩

end Go.Proofs.Ytmpkciidhopckaa
