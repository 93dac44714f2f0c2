import Derived.Test.YteoongcajfcgcaaWholeBZ6

/- Contracts of Ceil, Mod, Sign of package whole and of the document's own. -/
namespace Go.Proofs.Yteoongcajfcgcaa
open Go.RowKit

theorem tame_tame (n : Int) : tameI (tameI n) = tameI n := by unfold tameI clampI; omega
theorem tame_neg_tame (n : Int) : tameI (- tameI n) = - tameI n := by unfold tameI clampI; omega
theorem floorI_bd (a b : Int) : -2305843009213693953 ≤ floorI a b ∧ floorI a b ≤ 2305843009213693952 := by
  unfold floorI
  split
  · omega
  · exact fdiv_bd _ _ ‹_› (tame_bd a)
theorem floorI_tame (a b : Int) : floorI a (tameI b) = floorI a b := by unfold floorI; rw [tame_tame]
theorem floorI_tame' (a b : Int) : floorI (tameI a) b = floorI a b := by unfold floorI; rw [tame_tame]

def ceilI (a b : Int) : Int := - floorI (- tameI a) b

set_option maxHeartbeats 400000 in
theorem ceil_any (a b : Int) (w : World) :
    Calls Try.prog 40 #[.int .i64 a, .int .i64 b] w fun e w' => e = .returned (.tuple #[.int .i64 (ceilI a b), .int .i64 (errI (tameI b != 0))]) ∧ w = w' := by
  have ha := tame_bd a
  have hf := floorI_bd (- tameI a) b
  go_enter Try.func40, Try.ntmps40
  go_wp2_with (first | (go_at_call 58; refine (tame_any _ _).mono ?_; rintro e w' ⟨rfl, rfl⟩) | (go_at_call 39; refine (floor_any _ _ _).mono ?_; rintro e w' ⟨rfl, rfl⟩))
  go_ret2
  exact ⟨rfl, rfl⟩

set_option maxHeartbeats 400000 in
theorem rceil_any (a b : Int) (w : World) :
    Calls Try.prog 20 #[.int .i64 a, .int .i64 b] w fun e w' => e = .returned (.tuple #[.int .i64 (ceilI a b), .int .i64 (errI (tameI b != 0))]) ∧ w = w' := by
  have ha := tame_bd a
  have hf := floorI_bd (- tameI a) b
  go_enter Try.func20, Try.ntmps20
  go_wp2_with (first | (go_at_call 41; refine (in_any _ _ _ _).mono ?_; rw [in_tame]; rintro e w' ⟨rfl, rfl⟩) | (go_at_call 19; refine (rfloor_any _ _ _).mono ?_; rw [floorI_tame, tame_tame]; rintro e w' ⟨rfl, rfl⟩))
  go_ret2
  exact ⟨rfl, rfl⟩

def modI (a b : Int) : Int := if tameI b < 1 then 0 else Int.fmod (tameI a) (tameI b)
def modE (b : Int) : Int := if tameI b < 1 then 2 else 0

set_option maxHeartbeats 400000 in
theorem sign_any (n : Int) (w : World) :
    Calls Try.prog 65 #[.int .i64 n] w fun e w' => e = .returned (.int .i64 (clampI n (-1) 1)) ∧ w = w' := by
  go_enter Try.func65, Try.ntmps65
  go_wp2_with (go_at_call 79; refine (into_any _ _ _ _).mono ?_; rintro e w' ⟨rfl, rfl⟩)
  go_ret
  exact ⟨rfl, rfl⟩

set_option maxHeartbeats 400000 in
theorem rsign_any (n : Int) (w : World) :
    Calls Try.prog 53 #[.int .i64 n] w fun e w' => e = .returned (.int .i64 (clampI n (-1) 1)) ∧ w = w' := by
  go_enter Try.func53, Try.ntmps53
  go_wp2
  all_goals
    go_ret
    exact ⟨retI (by unfold clampI; omega), rfl⟩

end Go.Proofs.Yteoongcajfcgcaa
