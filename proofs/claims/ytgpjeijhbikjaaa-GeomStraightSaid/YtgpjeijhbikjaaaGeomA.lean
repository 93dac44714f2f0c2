/- Contracts of the small functions of package geom: into, tame, inside; and the document's In. -/
import Derived.Test.YtgpjeijhbikjaaaWholeH
import Derived.Test.YtgpjeijhbikjaaaSteady
namespace Go.Proofs.Ytgpjeijhbikjaaa
open Go.RowKit
set_option linter.unusedVariables false

def inI (n : Int) : Int := clampI n (-1048576) 1048576
theorem inI_bd (n : Int) : -1048576 ≤ inI n ∧ inI n ≤ 1048576 := by unfold inI clampI; omega
theorem inI_in (n : Int) : inI (inI n) = inI n := by unfold inI clampI; omega
theorem inI_small {n : Int} (h : -1048576 ≤ n ∧ n ≤ 1048576) : inI n = n := by unfold inI clampI; omega

set_option maxHeartbeats 400000 in
theorem ginto_any (n : Int) (w : World) :
    Calls Try.prog 33 #[.int .i64 n] w fun e w' => e = .returned (.int .i64 (inI n)) ∧ w = w' := by
  go_enter Try.func33, Try.ntmps33
  go_wp2
  all_goals
    go_ret
    refine ⟨retI ?_, rfl⟩
    unfold inI clampI
    first | omega | (simp_all; omega)

/-- A point as a value. -/
abbrev ptV (x z : Int) : Value := .agg #[.int .i64 x, .int .i64 z]

set_option maxHeartbeats 400000 in
theorem gtame_any (x z : Int) (w : World) :
    Calls Try.prog 26 #[.agg #[.int .i64 x, .int .i64 z]] w fun e w' => e = .returned (.agg #[.int .i64 (inI x), .int .i64 (inI z)]) ∧ New w w' := by
  go_enter Try.func26, Try.ntmps26
  go_wp2_with fail
  refine Code.at (fun W hW => ?_)
  have c1 : W.cell? ⟨w.heap.size, 0, none⟩ = some (.int .i64 x) := by subst hW; go_simp
  have c2 : W.cell? ⟨w.heap.size, 1, none⟩ = some (.int .i64 z) := by subst hW; go_simp
  have c3 : W.cell? ⟨w.heap.size + 1, 0, none⟩ = some (.int .i64 0) := by subst hW; go_simp
  have c4 : W.cell? ⟨w.heap.size + 1, 1, none⟩ = some (.int .i64 0) := by subst hW; go_simp
  have g3 : W.frozen? ⟨w.heap.size + 1, 0, none⟩ = false := by subst hW; go_simp
  have g4 : W.frozen? ⟨w.heap.size + 1, 1, none⟩ = false := by subst hW; go_simp
  have hn : New w W := by subst hW; (repeat (first | (with_reducible exact New.refl _) | (with_reducible assumption) | ((with_reducible refine New.setB ?_ ?_ _); focus (first | omega | (simp; omega) | (simp; done))) | (with_reducible refine New.alloc ?_ _) | (with_reducible refine New.drew ?_) | (with_reducible refine New.drewN ?_ _) | (with_reducible refine New.hat ?_ _) | ((with_reducible apply New.snart); (with_reducible assumption))))
  clear hW
  (refine wp_region_steady 7 (by kernel_rfl) (by kernel_rfl) ?_; (intro hatc hatf; simp only [List.take_succ_cons, List.take_zero, List.drop_succ_cons, List.drop_zero]; (repeat (first | (refine mildWalk_made (by decide) ?_; simp only [Act.put, List.setIfInBounds_toArray, List.set_cons_zero, List.set_cons_succ]) | (refine mildWalk_step (by decide) (fun K hK => ?_); go_simp; first | (refine hK _ ?_; clear hK K) | (apply Exists.intro; refine ⟨fun _ => ?_, hK _ ?_⟩; (go_at_call 33; exact Calls.mild_same (ginto_any _ _)); clear hK K)))); refine mildWalk_nil ?_; (try simp only [List.setIfInBounds_toArray, List.set_cons_zero, List.set_cons_succ])))
  intro y
  go_wp2_with fail
  refine bodyPost_ret (v := .agg #[.int .i64 (inI x), .int .i64 (inI z)]) (by simp [results, Try.results26, go_sem, *]) rfl ⟨rfl, ?_⟩
  (repeat (first | (with_reducible exact New.refl _) | (with_reducible assumption) | ((with_reducible refine New.setB ?_ ?_ _); focus (first | omega | (simp; omega) | (simp; done))) | (with_reducible refine New.alloc ?_ _) | (with_reducible refine New.drew ?_) | (with_reducible refine New.drewN ?_ _) | (with_reducible refine New.hat ?_ _) | ((with_reducible apply New.snart); (with_reducible assumption))))

end Go.Proofs.Ytgpjeijhbikjaaa
