/- The document's own tests of pieces; what two pieces are together. -/
import Derived.Test.YtajigioibkhhmaaSpB
namespace Go.Proofs.Ytajigioibkhhmaa
open Go.RowKit
set_option linter.unusedVariables false
set_option linter.unusedSimpArgs false

set_option maxHeartbeats 2000000 in
theorem r_join (p q : Sn) (w : World) : Calls Try.prog 34 #[.agg #[.int .i64 p.lo, .int .i64 p.hi, .bool p.wk], .agg #[.int .i64 q.lo, .int .i64 q.hi, .bool q.wk]] w fun e w' => e = .returned (.agg #[.int .i64 (un p q).lo, .int .i64 (un p q).hi, .bool (un p q).wk]) ∧ New w w' := by
  unfold un
  obtain ⟨a, b, c⟩ := p
  obtain ⟨d, e, f⟩ := q
  simp only
  obtain ⟨t1, h1⟩ : ∃ t, decide (e ≤ b) = t := ⟨_, rfl⟩
  obtain ⟨t2, h2⟩ : ∃ t, decide (b ≤ e) = t := ⟨_, rfl⟩
  rw [h1, h2]
  have e1 : (b == max b e) = t1 := by rw [← h1, Bool.eq_iff_iff]; simp; omega
  have e2 : (e == max b e) = t2 := by rw [← h2, Bool.eq_iff_iff]; simp; omega
  clear h1 h2
  go_enter Try.func34, Try.ntmps34
  cases c <;> cases f <;> cases t1 <;> cases t2
  all_goals
    go_wp2_with fail
    simp only [Bool.false_and, Bool.true_and, Bool.and_false, Bool.and_true, Bool.false_or, Bool.true_or, Bool.or_false, Bool.or_true]
    first
    | (refine bodyPost_ret (v := .agg #[.int .i64 (min a d), .int .i64 (max b e), .bool true]) (by simp [results, Try.results34, go_sem, *]) rfl ?_; exact ⟨rfl, by (repeat (first | (with_reducible exact New.refl _) | (with_reducible assumption) | ((with_reducible refine New.setB ?_ ?_ _); focus (first | omega | (simp; omega) | (simp; done))) | (with_reducible refine New.alloc ?_ _) | (with_reducible refine New.drew ?_) | (with_reducible refine New.drewN ?_ _) | (with_reducible refine New.hat ?_ _) | ((with_reducible apply New.snart); (with_reducible assumption))))⟩)
    | (refine bodyPost_ret (v := .agg #[.int .i64 (min a d), .int .i64 (max b e), .bool false]) (by simp [results, Try.results34, go_sem, *]) rfl ?_; exact ⟨rfl, by (repeat (first | (with_reducible exact New.refl _) | (with_reducible assumption) | ((with_reducible refine New.setB ?_ ?_ _); focus (first | omega | (simp; omega) | (simp; done))) | (with_reducible refine New.alloc ?_ _) | (with_reducible refine New.drew ?_) | (with_reducible refine New.drewN ?_ _) | (with_reducible refine New.hat ?_ _) | ((with_reducible apply New.snart); (with_reducible assumption))))⟩)

theorem retBo2 {b b' : Bool} (h : b = b') : Ending.returned (.bool b) = Ending.returned (.bool b') := by rw [h]

set_option maxHeartbeats 1000000 in
theorem r_may (p : Sn) (w : World) : Calls Try.prog 24 #[.agg #[.int .i64 p.lo, .int .i64 p.hi, .bool p.wk]] w fun e w' => e = .returned (.bool (!badS p)) ∧ New w w' := by
  have e : (!badS p) = (decide (p.lo ≤ p.hi) && decide (-2048 ≤ p.lo) && decide (p.hi ≤ 2048)) := by
    rw [Bool.eq_iff_iff]
    have := badS_not p
    simp only [Bool.not_eq_true', this, Bool.and_eq_true, decide_eq_true_eq]
    omega
  rw [e]
  clear e
  obtain ⟨a, b, c⟩ := p
  simp only
  go_enter Try.func24, Try.ntmps24
  go_wp2_with fail
  all_goals
    go_ret
    exact ⟨retBo2 (by first | rfl | (rw [Bool.eq_iff_iff]; simp; omega)), by (repeat (first | (with_reducible exact New.refl _) | (with_reducible assumption) | ((with_reducible refine New.setB ?_ ?_ _); focus (first | omega | (simp; omega) | (simp; done))) | (with_reducible refine New.alloc ?_ _) | (with_reducible refine New.drew ?_) | (with_reducible refine New.drewN ?_ _) | (with_reducible refine New.hat ?_ _) | ((with_reducible apply New.snart); (with_reducible assumption))))⟩

set_option maxHeartbeats 1000000 in
theorem r_meet (p q : Sn) (w : World) : Calls Try.prog 33 #[.agg #[.int .i64 p.lo, .int .i64 p.hi, .bool p.wk], .agg #[.int .i64 q.lo, .int .i64 q.hi, .bool q.wk]] w fun e w' => e = .returned (.bool (meets p q)) ∧ New w w' := by
  unfold meets
  obtain ⟨a, b, c⟩ := p
  obtain ⟨d, e, f⟩ := q
  simp only
  go_enter Try.func33, Try.ntmps33
  go_wp2_with fail
  all_goals
    go_ret
    exact ⟨retBo2 (by first | rfl | (rw [Bool.eq_iff_iff]; simp; omega)), by (repeat (first | (with_reducible exact New.refl _) | (with_reducible assumption) | ((with_reducible refine New.setB ?_ ?_ _); focus (first | omega | (simp; omega) | (simp; done))) | (with_reducible refine New.alloc ?_ _) | (with_reducible refine New.drew ?_) | (with_reducible refine New.drewN ?_ _) | (with_reducible refine New.hat ?_ _) | ((with_reducible apply New.snart); (with_reducible assumption))))⟩

end Go.Proofs.Ytajigioibkhhmaa
