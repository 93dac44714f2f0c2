/- Contracts of the roots: the library's binary search over the closure that package whole hands it, and what is found. -/
import Derived.Test.YtllfjdjihkaadaaWholeC
import Derived.Handy
import Derived.Lib.Hide
namespace Go.Proofs.Ytllfjdjihkaadaa
open Go.RowKit

def SearchPost (p : Int → Bool) (n : Int) (w : World) (e : Ending) (w' : World) : Prop :=
  ∃ i : Int, 0 ≤ i ∧ i ≤ n ∧ (0 < i → p (i - 1) = false) ∧ (i < n → p i = true) ∧ e = .returned (.int .i64 i) ∧ w = w'

def SearchRel (p : Int → Bool) (n : Int) (x y : Value) : Prop :=
  ∃ i j : Int, 0 ≤ i ∧ i ≤ j ∧ j ≤ n ∧ (0 < i → p (i - 1) = false) ∧ (j < n → p j = true) ∧ x = .int .i64 i ∧ y = .int .i64 j

set_option maxHeartbeats 1000000 in
theorem search_loop (n : Int) (h0 : 0 ≤ n) (hn : n ≤ 2147483648) (A B : Value) (p : Int → Bool) (w : World)
    (hp : ∀ k : Int, 0 ≤ k → k < n → Calls Try.prog 33 #[.int .i64 k, A, B] w fun e w' => e = .returned (.bool (p k)) ∧ w = w') :
    Calls Try.prog 32 #[.int .i64 n, .func (.func 33) #[] #[A, B]] w (SearchPost p n w) := by
  have HP := Lib.hid hp
  clear hp
  go_enter Try.func32, Try.ntmps32
  go_wp2
  go_loop [5, 6] (fun x y => SearchRel p n x y) (fun x y => (intOf y - intOf x).toNat)
  case atStart => exact ⟨0, n, by omega, by omega, by omega, fun h => by omega, fun h => by omega, rfl, rfl⟩
  case round =>
    obtain ⟨i, j, hi, hij, hj, hfi, hfj, rfl, rfl⟩ := hrel
    by_cases hlt : i < j
    · have hm1 : i ≤ (i + j) / 2 := by omega
      have hm2 : (i + j) / 2 < j := by omega
      cases hpm : p ((i + j) / 2)
      · have HPM := Lib.hid hpm
        clear hpm
        go_wp2_with (go_at_call 33; refine (HP.out _ (by omega) (by omega)).mono ?_; rw [HPM.out]; rintro e w' ⟨rfl, rfl⟩)
        go_round
        case rel => exact ⟨(i + j) / 2 + 1, j, by omega, by omega, by omega, fun _ => by rw [Int.add_sub_cancel]; exact HPM.out, hfj, rfl, rfl⟩
        case measure => simp [intOf]; omega
      · have HPM := Lib.hid hpm
        clear hpm
        go_wp2_with (go_at_call 33; refine (HP.out _ (by omega) (by omega)).mono ?_; rw [HPM.out]; rintro e w' ⟨rfl, rfl⟩)
        go_round
        case rel => exact ⟨i, (i + j) / 2, by omega, by omega, by omega, hfi, fun _ => HPM.out, rfl, rfl⟩
        case measure => simp [intOf]; omega
    · obtain rfl : i = j := by omega
      go_wp2
      go_ret
      exact ⟨i, by omega, by omega, hfi, hfj, rfl, rfl⟩

end Go.Proofs.Ytllfjdjihkaadaa
