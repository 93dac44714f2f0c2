/- Contracts of search, Root and RootUp of package whole. -/
import Derived.Test.YtllfjdjihkaadaaWholeE
namespace Go.Proofs.Ytllfjdjihkaadaa
open Go.RowKit

def FoundPost (p : Int → Bool) (w : World) (e : Ending) (w' : World) : Prop :=
  ∃ i : Int, 0 ≤ i ∧ i ≤ 2147483648 ∧ (0 < i → p (i - 1) = false) ∧ (i < 2147483648 → p i = true) ∧ e = .returned (.tuple #[.int .i64 i, .int .i64 0]) ∧ Calm w w'

set_option maxHeartbeats 400000 in
theorem search_root (n : Int) (w : World) (hn : 0 ≤ tameI n) :
    Calls Try.prog 29 #[.int .i64 n, .func (.func 30) #[] #[]] w (FoundPost (pRoot (tameI n)) w) := by
  go_enter Try.func29, Try.ntmps29
  go_wp2_with (go_at_call 25; refine (tame_any _ _).mono ?_; rintro e w' ⟨rfl, rfl⟩)
  refine (search_loop 2147483648 (by omega) (by omega) _ _ (pRoot (tameI n)) _ (fun k h0 h1 => clo_root _ _ _ _ _ h0 h1 (by simp) (by simp))).mono ?_
  rintro e w' ⟨i, h1, h2, h3, h4, rfl, rfl⟩
  have H3 := Lib.hid h3
  have H4 := Lib.hid h4
  clear h3 h4
  go_wp2
  go_ret2
  exact ⟨i, h1, h2, H3.out, H4.out, rfl, by go_grown, by go_grown⟩

set_option maxHeartbeats 400000 in
theorem search_up (n : Int) (w : World) (hn : 0 ≤ tameI n) :
    Calls Try.prog 29 #[.int .i64 n, .func (.func 31) #[] #[]] w (FoundPost (pUp (tameI n)) w) := by
  go_enter Try.func29, Try.ntmps29
  go_wp2_with (go_at_call 25; refine (tame_any _ _).mono ?_; rintro e w' ⟨rfl, rfl⟩)
  refine (search_loop 2147483648 (by omega) (by omega) _ _ (pUp (tameI n)) _ (fun k h0 h1 => clo_up _ _ _ _ _ h0 h1 (by simp) (by simp))).mono ?_
  rintro e w' ⟨i, h1, h2, h3, h4, rfl, rfl⟩
  have H3 := Lib.hid h3
  have H4 := Lib.hid h4
  clear h3 h4
  go_wp2
  go_ret2
  exact ⟨i, h1, h2, H3.out, H4.out, rfl, by go_grown, by go_grown⟩

set_option maxHeartbeats 400000 in
theorem search_no (n : Int) (f : Fn) (w : World) (hn : ¬ 0 ≤ tameI n) :
    Calls Try.prog 29 #[.int .i64 n, .func f #[] #[]] w fun e w' => e = .returned (.tuple #[.int .i64 0, .int .i64 2]) ∧ Calm w w' := by
  have hn' : tameI n < 0 := by omega
  clear hn
  go_enter Try.func29, Try.ntmps29
  go_wp2_with (go_at_call 25; refine (tame_any _ _).mono ?_; rintro e w' ⟨rfl, rfl⟩)
  go_ret2
  exact ⟨rfl, by go_grown, by go_grown⟩

noncomputable def rootV (n : Int) : Int := if 0 ≤ tameI n then rootI (tameI n) else 0
noncomputable def upV (n : Int) : Int := if 0 ≤ tameI n then upI (tameI n) else 0
def rootE (n : Int) : Int := if 0 ≤ tameI n then 0 else 2

theorem found_root {n i : Int} (hn : 0 ≤ n ∧ n ≤ 2305843009213693952) (h0 : 0 ≤ i) (h2 : i ≤ 2147483648) (h3 : 0 < i → pRoot n (i - 1) = false) (h4 : i < 2147483648 → pRoot n i = true) :
    i = rootI n := by
  refine rootI_eq ⟨h0, ?_, ?_⟩
  · by_cases hi : 0 < i
    · have := h3 hi
      simp only [pRoot, Int.sub_add_cancel, decide_eq_false_iff_not] at this
      omega
    · obtain rfl : i = 0 := by omega
      omega
  · by_cases hi : i < 2147483648
    · simpa [pRoot] using h4 hi
    · obtain rfl : i = 2147483648 := by omega
      omega

theorem found_up {n i : Int} (hn : 0 ≤ n ∧ n ≤ 2305843009213693952) (h0 : 0 ≤ i) (h2 : i ≤ 2147483648) (h3 : 0 < i → pUp n (i - 1) = false) (h4 : i < 2147483648 → pUp n i = true) :
    i = upI n := by
  refine upI_eq hn.1 h0 ?_ ?_
  · by_cases hi : i < 2147483648
    · simpa [pUp] using h4 hi
    · obtain rfl : i = 2147483648 := by omega
      omega
  · intro hi
    have := h3 hi
    simp only [pUp, decide_eq_false_iff_not] at this
    omega

set_option maxHeartbeats 400000 in
theorem root_any (n : Int) (w : World) :
    Calls Try.prog 18 #[.int .i64 n] w fun e w' => e = .returned (.tuple #[.int .i64 (rootV n), .int .i64 (rootE n)]) ∧ Calm w w' := by
  have hb := tame_bd n
  by_cases hn : 0 ≤ tameI n
  · have e1 : rootV n = rootI (tameI n) := if_pos hn
    have e2 : rootE n = 0 := if_pos hn
    rw [e1, e2]
    clear e1 e2
    go_enter Try.func18, Try.ntmps18
    go_wp2_with (go_at_call 29; refine (search_root _ _ hn).mono ?_; rintro e w' ⟨i, h1, h2, h3, h4, rfl, hc⟩; rw [found_root ⟨hn, hb.2⟩ h1 h2 h3 h4]; clear h1 h2 h3 h4)
    go_ret2
    exact ⟨rfl, ‹_›⟩
  · have e1 : rootV n = 0 := if_neg hn
    have e2 : rootE n = 2 := if_neg hn
    rw [e1, e2]
    clear e1 e2
    go_enter Try.func18, Try.ntmps18
    go_wp2_with (go_at_call 29; refine (search_no _ _ _ hn).mono ?_; rintro e w' ⟨rfl, hc⟩)
    go_ret2
    exact ⟨rfl, ‹_›⟩

set_option maxHeartbeats 400000 in
theorem up_any (n : Int) (w : World) :
    Calls Try.prog 20 #[.int .i64 n] w fun e w' => e = .returned (.tuple #[.int .i64 (upV n), .int .i64 (rootE n)]) ∧ Calm w w' := by
  have hb := tame_bd n
  by_cases hn : 0 ≤ tameI n
  · have e1 : upV n = upI (tameI n) := if_pos hn
    have e2 : rootE n = 0 := if_pos hn
    rw [e1, e2]
    clear e1 e2
    go_enter Try.func20, Try.ntmps20
    go_wp2_with (go_at_call 29; refine (search_up _ _ hn).mono ?_; rintro e w' ⟨i, h1, h2, h3, h4, rfl, hc⟩; rw [found_up ⟨hn, hb.2⟩ h1 h2 h3 h4]; clear h1 h2 h3 h4)
    go_ret2
    exact ⟨rfl, ‹_›⟩
  · have e1 : upV n = 0 := if_neg hn
    have e2 : rootE n = 2 := if_neg hn
    rw [e1, e2]
    clear e1 e2
    go_enter Try.func20, Try.ntmps20
    go_wp2_with (go_at_call 29; refine (search_no _ _ _ hn).mono ?_; rintro e w' ⟨rfl, hc⟩)
    go_ret2
    exact ⟨rfl, ‹_›⟩

end Go.Proofs.Ytllfjdjihkaadaa
