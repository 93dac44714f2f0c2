/- Contracts of Ceil, Mod, Sign of package whole and of the document's own. -/
import Derived.Test.YtllfjdjihkaadaaWholeB
namespace Go.Proofs.Ytllfjdjihkaadaa
open Go.RowKit

theorem tame_tame (n : Int) : tameI (tameI n) = tameI n := by unfold tameI clampI; omega
theorem tame_neg_tame (n : Int) : tameI (- tameI n) = - tameI n := by unfold tameI clampI; omega
theorem floorI_bd (a b : Int) : -2305843009213693953 ≤ floorI a b ∧ floorI a b ≤ 2305843009213693952 := by
  unfold floorI
  split
  · omega
  · exact fdiv_bd _ _ ‹_› (tame_bd a)
theorem floorI_tame (a b : Int) : floorI a (tameI b) = floorI a b := by unfold floorI; rw [tame_tame]
theorem floorI_tame' (a b : Int) : floorI (tameI a) b = floorI a b := by unfold floorI; rw [tame_tame]

def ceilI (a b : Int) : Int := - floorI (- tameI a) b

set_option maxHeartbeats 400000 in
theorem ceil_any (a b : Int) (w : World) :
    Calls Try.prog 10 #[.int .i64 a, .int .i64 b] w fun e w' => e = .returned (.tuple #[.int .i64 (ceilI a b), .int .i64 (errI (tameI b != 0))]) ∧ w = w' := by
  have ha := tame_bd a
  have hf := floorI_bd (- tameI a) b
  go_enter Try.func10, Try.ntmps10
  go_wp2_with (first | (go_at_call 25; refine (tame_any _ _).mono ?_; rintro e w' ⟨rfl, rfl⟩) | (go_at_call 8; refine (floor_any _ _ _).mono ?_; rintro e w' ⟨rfl, rfl⟩))
  go_ret2
  exact ⟨rfl, rfl⟩

set_option maxHeartbeats 400000 in
theorem rceil_any (a b : Int) (w : World) :
    Calls Try.prog 11 #[.int .i64 a, .int .i64 b] w fun e w' => e = .returned (.tuple #[.int .i64 (ceilI a b), .int .i64 (errI (tameI b != 0))]) ∧ w = w' := by
  have ha := tame_bd a
  have hf := floorI_bd (- tameI a) b
  go_enter Try.func11, Try.ntmps11
  go_wp2_with (first | (go_at_call 26; refine (in_any _ _ _ _).mono ?_; rw [in_tame]; rintro e w' ⟨rfl, rfl⟩) | (go_at_call 9; refine (rfloor_any _ _ _).mono ?_; rw [floorI_tame, tame_tame]; rintro e w' ⟨rfl, rfl⟩))
  go_ret2
  exact ⟨rfl, rfl⟩

def modI (a b : Int) : Int := if tameI b < 1 then 0 else Int.fmod (tameI a) (tameI b)
def modE (b : Int) : Int := if tameI b < 1 then 2 else 0

set_option maxHeartbeats 400000 in
theorem mod_any (a b : Int) (w : World) :
    Calls Try.prog 14 #[.int .i64 a, .int .i64 b] w fun e w' => e = .returned (.tuple #[.int .i64 (modI a b), .int .i64 (modE b)]) ∧ w = w' := by
  have ha := tame_bd a
  have hb := tame_bd b
  by_cases hz : tameI b < 1
  · have h1 : modI a b = 0 := by unfold modI; rw [if_pos hz]
    have h2 : modE b = 2 := by unfold modE; rw [if_pos hz]
    rw [h1, h2]
    clear h1 h2
    go_enter Try.func14, Try.ntmps14
    go_wp2_with (go_at_call 25; refine (tame_any _ _).mono ?_; rintro e w' ⟨rfl, rfl⟩)
    go_ret2
    exact ⟨rfl, rfl⟩
  · have hx := mul_fdiv_bd (tameI a) (tameI b) (by omega) (by omega) ha
    have h1 : modI a b = tameI a - tameI b * (tameI a).fdiv (tameI b) := by unfold modI; rw [if_neg hz, Int.fmod_def]
    have h2 : modE b = 0 := by unfold modE; rw [if_neg hz]
    have hf : floorI (tameI a) (tameI b) = (tameI a).fdiv (tameI b) := by rw [floorI_tame, floorI_tame', floorI_ok (by simp; omega)]
    have he : errI (tameI (tameI b) != 0) = 0 := by rw [tame_tame, errI_ok (by simp; omega)]
    rw [h1, h2]
    clear h1 h2
    go_enter Try.func14, Try.ntmps14
    go_wp2_with (first | (go_at_call 25; refine (tame_any _ _).mono ?_; rintro e w' ⟨rfl, rfl⟩) | (go_at_call 8; refine (floor_any _ _ _).mono ?_; rw [hf, he]; rintro e w' ⟨rfl, rfl⟩))
    go_ret2
    exact ⟨rfl, rfl⟩

set_option maxHeartbeats 400000 in
theorem rmod_any (a b : Int) (w : World) :
    Calls Try.prog 15 #[.int .i64 a, .int .i64 b] w fun e w' => e = .returned (.tuple #[.int .i64 (modI a b), .int .i64 (modE b)]) ∧ w = w' := by
  have ha := tame_bd a
  have hb := tame_bd b
  by_cases hz : tameI b < 1
  · have h1 : modI a b = 0 := by unfold modI; rw [if_pos hz]
    have h2 : modE b = 2 := by unfold modE; rw [if_pos hz]
    rw [h1, h2]
    clear h1 h2
    go_enter Try.func15, Try.ntmps15
    go_wp2_with (go_at_call 26; refine (in_any _ _ _ _).mono ?_; rw [in_tame]; rintro e w' ⟨rfl, rfl⟩)
    go_ret2
    exact ⟨rfl, rfl⟩
  · have h1 : modI a b = (tameI a).fmod (tameI b) := by unfold modI; rw [if_neg hz]
    have h2 : modE b = 0 := by unfold modE; rw [if_neg hz]
    have hm := fmod_of_tmod (tameI a) (tameI b) (by omega)
    have hl := Int.tmod_lt_of_pos (tameI a) (b := tameI b) (by omega)
    have hg : - tameI b < (tameI a).tmod (tameI b) := by
      have := Int.lt_tmod_of_pos (tameI a) (b := tameI b) (by omega)
      omega
    rw [h1, h2, hm]
    clear h1 h2 hm
    by_cases hs : (tameI a).tmod (tameI b) < 0
    · rw [if_pos hs]
      go_enter Try.func15, Try.ntmps15
      go_wp2_with (go_at_call 26; refine (in_any _ _ _ _).mono ?_; rw [in_tame]; rintro e w' ⟨rfl, rfl⟩)
      go_ret2
      exact ⟨rfl, rfl⟩
    · rw [if_neg hs]
      go_enter Try.func15, Try.ntmps15
      go_wp2_with (go_at_call 26; refine (in_any _ _ _ _).mono ?_; rw [in_tame]; rintro e w' ⟨rfl, rfl⟩)
      go_ret2
      exact ⟨rfl, rfl⟩

set_option maxHeartbeats 400000 in
theorem sign_any (n : Int) (w : World) :
    Calls Try.prog 12 #[.int .i64 n] w fun e w' => e = .returned (.int .i64 (clampI n (-1) 1)) ∧ w = w' := by
  go_enter Try.func12, Try.ntmps12
  go_wp2_with (go_at_call 27; refine (into_any _ _ _ _).mono ?_; rintro e w' ⟨rfl, rfl⟩)
  go_ret
  exact ⟨rfl, rfl⟩

set_option maxHeartbeats 400000 in
theorem rsign_any (n : Int) (w : World) :
    Calls Try.prog 13 #[.int .i64 n] w fun e w' => e = .returned (.int .i64 (clampI n (-1) 1)) ∧ w = w' := by
  go_enter Try.func13, Try.ntmps13
  go_wp2
  all_goals
    go_ret
    exact ⟨retI (by unfold clampI; omega), rfl⟩

end Go.Proofs.Ytllfjdjihkaadaa
