import Derived.Test.YtccikeagbillgaaGreatSpBZ5

/- Package spans: what two pieces are together. -/
namespace Go.Proofs.YtccikeagbillgaaGreat
open Go.RowKit
set_option linter.unusedVariables false
set_option linter.unusedSimpArgs false

set_option maxHeartbeats 2000000 in
theorem k_union (p q : Sn) (w : World) : Calls Tryz.prog 87 #[.agg #[.int .i64 p.lo, .int .i64 p.hi, .bool p.wk], .agg #[.int .i64 q.lo, .int .i64 q.hi, .bool q.wk]] w fun e w' => e = .returned (.agg #[.int .i64 (un p q).lo, .int .i64 (un p q).hi, .bool (un p q).wk]) ∧ New w w' := by
  unfold un
  obtain ⟨a, b, c⟩ := p
  obtain ⟨d, e, f⟩ := q
  simp only
  obtain ⟨t1, ht1⟩ : ∃ t, t = decide (e ≤ b) := ⟨_, rfl⟩
  obtain ⟨t2, ht2⟩ : ∃ t, t = decide (b ≤ e) := ⟨_, rfl⟩
  have h1 := ht1.symm
  have h2 := ht2.symm
  rw [h1, h2]
  clear ht1 ht2
  go_enter Tryz.func87, Tryz.ntmps87
  cases c <;> cases f <;> cases t1 <;> cases t2
  all_goals
    go_wp2_with fail
    simp only [Bool.false_and, Bool.true_and, Bool.and_false, Bool.and_true, Bool.false_or, Bool.true_or, Bool.or_false, Bool.or_true]
    first
    | (refine bodyPost_ret (v := .agg #[.int .i64 (min a d), .int .i64 (max b e), .bool true]) (by simp [results, Tryz.results87, go_sem, *]) rfl ?_; exact ⟨rfl, by (repeat (first | (with_reducible exact New.refl _) | (with_reducible assumption) | ((with_reducible refine New.setB ?_ ?_ _); focus (first | omega | (simp; omega) | (simp; done))) | (with_reducible refine New.alloc ?_ _) | (with_reducible refine New.drew ?_) | (with_reducible refine New.drewN ?_ _) | (with_reducible refine New.hat ?_ _) | ((with_reducible apply New.snart); (with_reducible assumption))))⟩)
    | (refine bodyPost_ret (v := .agg #[.int .i64 (min a d), .int .i64 (max b e), .bool false]) (by simp [results, Tryz.results87, go_sem, *]) rfl ?_; exact ⟨rfl, by (repeat (first | (with_reducible exact New.refl _) | (with_reducible assumption) | ((with_reducible refine New.setB ?_ ?_ _); focus (first | omega | (simp; omega) | (simp; done))) | (with_reducible refine New.alloc ?_ _) | (with_reducible refine New.drew ?_) | (with_reducible refine New.drewN ?_ _) | (with_reducible refine New.hat ?_ _) | ((with_reducible apply New.snart); (with_reducible assumption))))⟩)

end Go.Proofs.YtccikeagbillgaaGreat
