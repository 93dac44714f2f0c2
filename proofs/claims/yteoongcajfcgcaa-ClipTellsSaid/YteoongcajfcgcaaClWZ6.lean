import Derived.Test.YteoongcajfcgcaaClVZ6
import Derived.Test.YteoongcajfcgcaaClKZ6

/- The document's own corners over a column: plane, corner, crossing, within. -/
namespace Go.Proofs.Yteoongcajfcgcaa
open Go.RowKit
set_option linter.unusedVariables false

/-- A triangle's corners as a value. -/
theorem k_may (T : TriR) (w : World) : Calls Try.prog 29 #[.agg #[.int .i64 T.i, .int .i64 T.x0, .int .i64 T.y0, .int .i64 T.z0, .int .i64 T.x1, .int .i64 T.y1, .int .i64 T.z1, .int .i64 T.x2, .int .i64 T.y2, .int .i64 T.z2]] w fun e w' => e = .returned (.bool (okT T)) ∧ New w w' := by
  have K := fun W => u_mayTri 32 32 (by omega) (by omega) T W
  rw [may_ok] at K
  generalize okT T = b at *
  replace K := Lib.hid K
  go_enter Try.func29, Try.ntmps29
  go_wp2_with fail
  refine (K.out _).mono ?_
  rintro e W1 ⟨rfl, n1⟩
  go_wp2_with fail
  go_ret
  exact ⟨rfl, New.trans (by (repeat (first | (with_reducible exact New.refl _) | (with_reducible assumption) | ((with_reducible refine New.setB ?_ ?_ _); focus (first | omega | (simp; omega) | (simp; done))) | (with_reducible refine New.alloc ?_ _) | (with_reducible refine New.drew ?_) | (with_reducible refine New.drewN ?_ _) | (with_reducible refine New.hat ?_ _) | ((with_reducible apply New.snart); (with_reducible assumption))))) n1⟩

set_option maxHeartbeats 400000 in
theorem r_within (n den lo hi : Int) (w : World) (hd : 1 ≤ den ∧ den ≤ 1024) (hl : -64 ≤ lo ∧ lo ≤ 64) (hh : -64 ≤ hi ∧ hi ≤ 64) :
    Calls Try.prog 33 #[.int .i64 n, .int .i64 den, .int .i64 lo, .int .i64 hi] w fun e w' => e = .returned (.bool (inR n den lo hi)) ∧ w = w' := by
  have h1 := mul_bd (a := lo) (b := den) (A := 64) (B := 1024) hl (by omega)
  have h2 := mul_bd (a := hi) (b := den) (A := 64) (B := 1024) hh (by omega)
  unfold inR
  cases t1 : decide (lo * den ≤ n)
  · go_enter Try.func33, Try.ntmps33
    go_wp2_with fail
    go_ret
    exact ⟨rfl, rfl⟩
  · go_enter Try.func33, Try.ntmps33
    go_wp2_with fail
    go_ret
    exact ⟨rfl, rfl⟩

set_option maxHeartbeats 1000000 in
theorem r_crossing (a b n : Int) (w : World) (ha : 0 ≤ a ∧ a ≤ 32) (hb : 0 ≤ b ∧ b ≤ 32) (hn : -64 ≤ n ∧ n ≤ 64) (r : Option (Int × Int)) (hr : rcr a b n = r) :
    Calls Try.prog 34 #[.int .i64 a, .int .i64 b, .int .i64 n] w fun e w' => e = .returned (.tuple #[.int .i64 (r.elim 0 Prod.fst), .int .i64 (r.elim 0 Prod.snd), .bool r.isSome]) ∧ w = w' := by
  unfold rcr at hr
  by_cases h1 : a = b
  · subst h1
    have e : r = none := by rw [← hr, if_pos (.inl rfl)]
    subst e
    have q1 : (a == a) = true := by simp
    clear hr
    go_enter Try.func34, Try.ntmps34
    go_wp2_with fail
    go_ret3
    exact ⟨rfl, rfl⟩
  have q1 : (a == b) = false := by rw [beq_eq_false_iff_ne]; exact h1
  by_cases h2 : n < min a b
  · have e : r = none := by rw [← hr, if_pos (.inr (.inl h2))]
    subst e
    have q2 : decide (n < min a b) = true := decide_eq_true h2
    clear hr h1 h2
    go_enter Try.func34, Try.ntmps34
    go_wp2_with fail
    all_goals
      go_ret3
      exact ⟨rfl, rfl⟩
  have q2 : decide (n < min a b) = false := decide_eq_false h2
  by_cases h3 : max a b < n
  · have e : r = none := by rw [← hr, if_pos (.inr (.inr h3))]
    subst e
    have q3 : decide (max a b < n) = true := decide_eq_true h3
    clear hr h1 h2 h3
    go_enter Try.func34, Try.ntmps34
    go_wp2_with fail
    all_goals
      go_ret3
      exact ⟨rfl, rfl⟩
  have q3 : decide (max a b < n) = false := decide_eq_false h3
  by_cases h4 : a < b
  · have e : r = some (n - a, b - a) := by rw [← hr, if_neg (by omega), if_pos h4]
    subst e
    have q4 : decide (a < b) = true := decide_eq_true h4
    clear hr h1 h2 h3 h4
    go_enter Try.func34, Try.ntmps34
    go_wp2_with fail
    go_ret3
    exact ⟨rfl, rfl⟩
  · have e : r = some (a - n, a - b) := by rw [← hr, if_neg (by omega), if_neg h4]
    subst e
    have q4 : decide (a < b) = false := decide_eq_false h4
    clear hr h1 h2 h3 h4
    go_enter Try.func34, Try.ntmps34
    go_wp2_with fail
    go_ret3
    exact ⟨rfl, rfl⟩

/-- Bounds of the numbers on the way to a corner. -/
theorem rcY_bd {T : TriR} (hk : okT T = true) {px pz den : Int} (hx : -4096 ≤ px ∧ px ≤ 4096) (hz : -4096 ≤ pz ∧ pz ≤ 4096) (hd : 1 ≤ den ∧ den ≤ 64) :
    (-2048 ≤ flatI T ∧ flatI T ≤ 2048) ∧ (-4294967296 ≤ T.y0 * flatI T ∧ T.y0 * flatI T ≤ 4294967296) ∧ (-549755813888 ≤ T.y0 * flatI T * den ∧ T.y0 * flatI T * den ≤ 549755813888) ∧ (-4096 ≤ T.x0 * den ∧ T.x0 * den ≤ 4096) ∧ (-4096 ≤ T.z0 * den ∧ T.z0 * den ≤ 4096) ∧
      (-2147483648 ≤ tnx T * (px - T.x0 * den) ∧ tnx T * (px - T.x0 * den) ≤ 2147483648) ∧ (-2147483648 ≤ tnz T * (pz - T.z0 * den) ∧ tnz T * (pz - T.z0 * den) ≤ 2147483648) ∧ (-1000000000000 ≤ rcY T px pz den ∧ rcY T px pz den ≤ 1000000000000) := by
  have hs := ok_in hk
  obtain ⟨bx, by', bz⟩ := nI_bd hs
  have h0 : -2048 ≤ flatI T ∧ flatI T ≤ 2048 := by
    have h3 : -2048 ≤ tny T ∧ tny T ≤ 2048 := by'
    rw [flat_ny]; omega
  unfold StP StV at hs
  have h1 := mul_bd (a := T.y0) (b := flatI T) (A := 2048) (B := 2048) (by omega) h0
  have h2 := mul_bd (a := T.y0 * flatI T) (b := den) (A := 4294967296) (B := 64) (by omega) (by omega)
  have h3 := mul_bd (a := T.x0) (b := den) (A := 32) (B := 64) (by omega) (by omega)
  have h4 := mul_bd (a := T.z0) (b := den) (A := 32) (B := 64) (by omega) (by omega)
  have h5 := mul_bd (a := tnx T) (b := px - T.x0 * den) (A := 262144) (B := 8192) bx (by omega)
  have h6 := mul_bd (a := tnz T) (b := pz - T.z0 * den) (A := 262144) (B := 8192) bz (by omega)
  refine ⟨h0, by omega, by omega, by omega, by omega, by omega, by omega, ?_⟩
  unfold rcY
  split <;> omega

end Go.Proofs.Yteoongcajfcgcaa
