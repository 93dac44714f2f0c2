/- Contracts of Floor, Ceil, Mod, Sign of package whole and of the document's own. -/
import Derived.Test.YteoongcajfcgcaaWholeA
import Derived.Test.YteoongcajfcgcaaWholeM
namespace Go.Proofs.Yteoongcajfcgcaa
open Go.RowKit

def floorI (a b : Int) : Int := if tameI b = 0 then 0 else Int.fdiv (tameI a) (tameI b)
def errI (b : Bool) : Int := if b then 0 else 2

theorem retT {a b c d : Int} (h : a = b) (h' : c = d) : Ending.returned (.tuple #[.int .i64 a, .int .i64 c]) = .returned (.tuple #[.int .i64 b, .int .i64 d]) := by rw [h, h']

theorem floorI_zero {a b : Int} (h : (tameI b == 0) = true) : floorI a b = 0 := by unfold floorI; simp_all
theorem errI_zero {b : Int} (h : (tameI b == 0) = true) : errI (tameI b != 0) = 2 := by unfold errI; simp_all
theorem floorI_ok {a b : Int} (h : (tameI b == 0) = false) : floorI a b = Int.fdiv (tameI a) (tameI b) := by unfold floorI; simp_all
theorem errI_ok {b : Int} (h : (tameI b == 0) = false) : errI (tameI b != 0) = 0 := by unfold errI; simp_all

set_option maxHeartbeats 400000 in
theorem floor_any (a b : Int) (w : World) :
    Calls Try.prog 39 #[.int .i64 a, .int .i64 b] w fun e w' => e = .returned (.tuple #[.int .i64 (floorI a b), .int .i64 (errI (tameI b != 0))]) ∧ w = w' := by
  have ha := tame_bd a
  have hb' := tame_bd b
  have ht := tdiv_bd (tameI a) (tameI b) ha
  have hw : wrap64 ((tameI a).tdiv (tameI b)) = (tameI a).tdiv (tameI b) := wrap64_in (by omega)
  by_cases hz : (tameI b == 0) = true
  · rw [floorI_zero hz, errI_zero hz]
    go_enter Try.func39, Try.ntmps39
    go_wp2_with (go_at_call 58; refine (tame_any _ _).mono ?_; rintro e w' ⟨rfl, rfl⟩)
    go_ret2
    exact ⟨rfl, rfl⟩
  · replace hz : (tameI b == 0) = false := by simpa using hz
    have hb : tameI b ≠ 0 := by simpa using hz
    rw [floorI_ok hz, errI_ok hz]
    by_cases hm : (tameI a).tmod (tameI b) = 0
    · rw [fdiv_exact hm]
      go_enter Try.func39, Try.ntmps39
      go_wp2_with (go_at_call 58; refine (tame_any _ _).mono ?_; rintro e w' ⟨rfl, rfl⟩)
      go_ret2
      exact ⟨rfl, rfl⟩
    · have hm' : ((tameI a).tmod (tameI b) != 0) = true := by simpa using hm
      by_cases hs : (!decide (tameI a < 0) == decide (tameI b < 0)) = true
      · rw [fdiv_down hb hm hs]
        go_enter Try.func39, Try.ntmps39
        go_wp2_with (go_at_call 58; refine (tame_any _ _).mono ?_; rintro e w' ⟨rfl, rfl⟩)
        go_ret2
        exact ⟨rfl, rfl⟩
      · replace hs : (!decide (tameI a < 0) == decide (tameI b < 0)) = false := by simpa using hs
        rw [fdiv_same hb hs]
        go_enter Try.func39, Try.ntmps39
        go_wp2_with (go_at_call 58; refine (tame_any _ _).mono ?_; rintro e w' ⟨rfl, rfl⟩)
        go_ret2
        exact ⟨rfl, rfl⟩

set_option maxHeartbeats 400000 in
theorem rfloor_any (a b : Int) (w : World) :
    Calls Try.prog 19 #[.int .i64 a, .int .i64 b] w fun e w' => e = .returned (.tuple #[.int .i64 (floorI a b), .int .i64 (errI (tameI b != 0))]) ∧ w = w' := by
  have ha := tame_bd a
  have hb' := tame_bd b
  have ht := tdiv_bd (tameI a) (tameI b) ha
  have hw : wrap64 ((tameI a).tdiv (tameI b)) = (tameI a).tdiv (tameI b) := wrap64_in (by omega)
  have hx := tdiv_mul_bd (tameI a) (tameI b) ha
  have hw2 : wrap64 ((tameI a).tdiv (tameI b) * tameI b) = (tameI a).tdiv (tameI b) * tameI b := wrap64_in (by omega)
  clear hx
  by_cases hz : (tameI b == 0) = true
  · rw [floorI_zero hz, errI_zero hz]
    go_enter Try.func19, Try.ntmps19
    go_wp2_with (go_at_call 41; refine (in_any _ _ _ _).mono ?_; rw [in_tame]; rintro e w' ⟨rfl, rfl⟩)
    go_ret2
    exact ⟨rfl, rfl⟩
  · replace hz : (tameI b == 0) = false := by simpa using hz
    have hb : tameI b ≠ 0 := by simpa using hz
    rw [floorI_ok hz, errI_ok hz]
    by_cases hm : (tameI a).tmod (tameI b) = 0
    · rw [fdiv_exact hm]
      have hm' : ((tameI a).tdiv (tameI b) * tameI b != tameI a) = false := by simpa using tdiv_exact_iff.mpr hm
      clear hm
      go_enter Try.func19, Try.ntmps19
      go_wp2_with (go_at_call 41; refine (in_any _ _ _ _).mono ?_; rw [in_tame]; rintro e w' ⟨rfl, rfl⟩)
      go_ret2
      exact ⟨rfl, rfl⟩
    · have hm' : ((tameI a).tdiv (tameI b) * tameI b != tameI a) = true := by simpa using fun h => hm (tdiv_exact_iff.mp h)
      by_cases hs : (!decide (tameI a < 0) == decide (tameI b < 0)) = true
      · rw [fdiv_down hb hm hs]
        clear hm
        go_enter Try.func19, Try.ntmps19
        go_wp2_with (go_at_call 41; refine (in_any _ _ _ _).mono ?_; rw [in_tame]; rintro e w' ⟨rfl, rfl⟩)
        go_ret2
        exact ⟨rfl, rfl⟩
      · replace hs : (!decide (tameI a < 0) == decide (tameI b < 0)) = false := by simpa using hs
        rw [fdiv_same hb hs]
        clear hm
        go_enter Try.func19, Try.ntmps19
        go_wp2_with (go_at_call 41; refine (in_any _ _ _ _).mono ?_; rw [in_tame]; rintro e w' ⟨rfl, rfl⟩)
        go_ret2
        exact ⟨rfl, rfl⟩

end Go.Proofs.Yteoongcajfcgcaa
