/- Contracts of the document's own Root and RootUp. -/
import Derived.Test.YtllfjdjihkaadaaWholeF
namespace Go.Proofs.Ytllfjdjihkaadaa
open Go.RowKit

def HalfRel (n : Int) (x y : Value) : Prop :=
  ∃ i j : Int, 0 ≤ i ∧ i < j ∧ j ≤ 2147483648 ∧ i * i ≤ n ∧ n < j * j ∧ x = .int .i64 i ∧ y = .int .i64 j

set_option maxHeartbeats 1000000 in
theorem rroot_any (n : Int) (w : World) :
    Calls Try.prog 19 #[.int .i64 n] w fun e w' => e = .returned (.tuple #[.int .i64 (rootV n), .int .i64 (rootE n)]) ∧ w = w' := by
  have hb := tame_bd n
  by_cases hn : 0 ≤ tameI n
  · have e1 : rootV n = rootI (tameI n) := if_pos hn
    have e2 : rootE n = 0 := if_pos hn
    rw [e1, e2]
    clear e1 e2
    go_enter Try.func19, Try.ntmps19
    go_wp2_with (go_at_call 26; refine (in_any _ _ _ _).mono ?_; rw [in_tame]; rintro e w' ⟨rfl, rfl⟩)
    go_loop [4, 5] (fun x y => HalfRel (tameI n) x y) (fun x y => (intOf y - intOf x).toNat)
    case atStart => exact ⟨0, 2147483648, by omega, by omega, by omega, by omega, by omega, rfl, rfl⟩
    case round =>
      obtain ⟨i, j, hi, hij, hj, hfi, hfj, rfl, rfl⟩ := hrel
      by_cases hlt : 1 < j - i
      · have hs := sq_bd (k := (i + j) / 2) (by omega) (by omega)
        by_cases hc : (i + j) / 2 * ((i + j) / 2) ≤ tameI n
        · go_wp2
          go_round
          case rel => exact ⟨(i + j) / 2, j, by omega, by omega, by omega, hc, hfj, rfl, rfl⟩
          case measure => simp [intOf]; omega
        · go_wp2
          go_round
          case rel => exact ⟨i, (i + j) / 2, by omega, by omega, by omega, hfi, by omega, rfl, rfl⟩
          case measure => simp [intOf]; omega
      · have hr : i = rootI (tameI n) := rootI_eq ⟨hi, hfi, by rw [show i + 1 = j by omega]; exact hfj⟩
        have HR := Lib.hid hr
        clear hr hfi hfj
        go_wp2
        go_ret2
        exact ⟨retT HR.out rfl, rfl⟩
  · have hn' : tameI n < 0 := by omega
    have e1 : rootV n = 0 := if_neg hn
    have e2 : rootE n = 2 := if_neg hn
    rw [e1, e2]
    clear e1 e2 hn
    go_enter Try.func19, Try.ntmps19
    go_wp2_with (go_at_call 26; refine (in_any _ _ _ _).mono ?_; rw [in_tame]; rintro e w' ⟨rfl, rfl⟩)
    go_ret2
    exact ⟨rfl, rfl⟩

theorem rootV_tame (n : Int) : rootV (tameI n) = rootV n := by unfold rootV; rw [tame_tame]
theorem rootE_tame (n : Int) : rootE (tameI n) = rootE n := by unfold rootE; rw [tame_tame]

set_option maxHeartbeats 400000 in
theorem rup_any (n : Int) (w : World) :
    Calls Try.prog 21 #[.int .i64 n] w fun e w' => e = .returned (.tuple #[.int .i64 (upV n), .int .i64 (rootE n)]) ∧ w = w' := by
  have hb := tame_bd n
  by_cases hn : 0 ≤ tameI n
  · have e1 : upV n = upI (tameI n) := if_pos hn
    have e2 : rootE n = 0 := if_pos hn
    have e3 : rootV n = rootI (tameI n) := if_pos hn
    rw [e1, e2]
    have hr := rootI_bd hn hb.2
    have hs := sq_bd hr.1 (by omega)
    unfold upI
    by_cases hlt : rootI (tameI n) * rootI (tameI n) < tameI n
    · rw [if_pos hlt]
      clear e1
      go_enter Try.func21, Try.ntmps21
      go_wp2_with (first | (go_at_call 26; refine (in_any _ _ _ _).mono ?_; rw [in_tame]; rintro e w' ⟨rfl, rfl⟩) | (go_at_call 19; refine (rroot_any _ _).mono ?_; rw [rootV_tame, rootE_tame, e3, e2]; rintro e w' ⟨rfl, rfl⟩))
      go_ret2
      exact ⟨rfl, rfl⟩
    · rw [if_neg hlt]
      clear e1
      go_enter Try.func21, Try.ntmps21
      go_wp2_with (first | (go_at_call 26; refine (in_any _ _ _ _).mono ?_; rw [in_tame]; rintro e w' ⟨rfl, rfl⟩) | (go_at_call 19; refine (rroot_any _ _).mono ?_; rw [rootV_tame, rootE_tame, e3, e2]; rintro e w' ⟨rfl, rfl⟩))
      go_ret2
      exact ⟨rfl, rfl⟩
  · have e1 : upV n = 0 := if_neg hn
    have e2 : rootE n = 2 := if_neg hn
    have e3 : rootV n = 0 := if_neg hn
    rw [e1, e2]
    clear e1
    go_enter Try.func21, Try.ntmps21
    go_wp2_with (first | (go_at_call 26; refine (in_any _ _ _ _).mono ?_; rw [in_tame]; rintro e w' ⟨rfl, rfl⟩) | (go_at_call 19; refine (rroot_any _ _).mono ?_; rw [rootV_tame, rootE_tame, e3, e2]; rintro e w' ⟨rfl, rfl⟩))
    go_ret2
    exact ⟨rfl, rfl⟩

end Go.Proofs.Ytllfjdjihkaadaa
