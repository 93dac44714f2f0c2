/- Layer 4's statement of triangles that are the same: walked. -/
import Derived.Test.YtmpkciidhopckaaTriK
import Derived.Test.YtmpkciidhopckaaTriT
namespace Go.Proofs.Ytmpkciidhopckaa
open Go.RowKit
set_option linter.unusedVariables false

theorem vEq_refl (x y z : Int) : vEq x y z x y z = true := by unfold vEq; simp
theorem vEq_comm (x y z x' y' z' : Int) : vEq x y z x' y' z' = vEq x' y' z' x y z := by
  rw [Bool.eq_iff_iff]; unfold vEq; simp only [Bool.and_eq_true, beq_iff_eq]; omega
theorem perm_t : ∀ a b c d e f g h i : Bool, (turnB a e i f h || (turnB b f g d i || turnB c d h e g)) = (turnB a e i h f || (turnB d h c b i || turnB g b f e c)) := by decide
theorem same_comm (i x0 y0 z0 x1 y1 z1 x2 y2 z2 j u0 v0 s0 u1 v1 s1 u2 v2 s2 : Int) : sameB i x0 y0 z0 x1 y1 z1 x2 y2 z2 j u0 v0 s0 u1 v1 s1 u2 v2 s2 = sameB j u0 v0 s0 u1 v1 s1 u2 v2 s2 i x0 y0 z0 x1 y1 z1 x2 y2 z2 := by
  unfold sameB
  rw [vEq_comm u0 v0 s0 x0 y0 z0, vEq_comm u0 v0 s0 x1 y1 z1, vEq_comm u0 v0 s0 x2 y2 z2, vEq_comm u1 v1 s1 x0 y0 z0, vEq_comm u1 v1 s1 x1 y1 z1, vEq_comm u1 v1 s1 x2 y2 z2, vEq_comm u2 v2 s2 x0 y0 z0, vEq_comm u2 v2 s2 x1 y1 z1, vEq_comm u2 v2 s2 x2 y2 z2]
  rw [perm_t, show (j == i) = (i == j) from by rw [Bool.eq_iff_iff]; simp only [beq_iff_eq]; omega]
theorem same_refl (i x0 y0 z0 x1 y1 z1 x2 y2 z2 : Int) : sameB i x0 y0 z0 x1 y1 z1 x2 y2 z2 i x0 y0 z0 x1 y1 z1 x2 y2 z2 = true := by
  unfold sameB; simp [vEq_refl, turnB]

set_option maxHeartbeats 2000000 in
set_option maxRecDepth 100000 in
theorem l_same (i x0 y0 z0 x1 y1 z1 x2 y2 z2 j u0 v0 s0 u1 v1 s1 u2 v2 s2 : Int) (w : World) :
    Calls Try.prog 7 #[.agg #[.int .i64 i, .int .i64 x0, .int .i64 y0, .int .i64 z0, .int .i64 x1, .int .i64 y1, .int .i64 z1, .int .i64 x2, .int .i64 y2, .int .i64 z2], .agg #[.int .i64 j, .int .i64 u0, .int .i64 v0, .int .i64 s0, .int .i64 u1, .int .i64 v1, .int .i64 s1, .int .i64 u2, .int .i64 v2, .int .i64 s2]] w fun e w' => e = .returned (.bool true) ∧ New w w' := by
  have T1 := fun W => t_same i x0 y0 z0 x1 y1 z1 x2 y2 z2 j u0 v0 s0 u1 v1 s1 u2 v2 s2 W
  have T2 := fun W => r_same i x0 y0 z0 x1 y1 z1 x2 y2 z2 j u0 v0 s0 u1 v1 s1 u2 v2 s2 W
  have T3 := fun W => t_same j u0 v0 s0 u1 v1 s1 u2 v2 s2 i x0 y0 z0 x1 y1 z1 x2 y2 z2 W
  have T4 := fun W => t_same i x0 y0 z0 x1 y1 z1 x2 y2 z2 i x0 y0 z0 x1 y1 z1 x2 y2 z2 W
  rw [same_comm i x0 y0 z0 x1 y1 z1 x2 y2 z2 j] at T1 T2
  rw [same_refl] at T4
  generalize sameB j u0 v0 s0 u1 v1 s1 u2 v2 s2 i x0 y0 z0 x1 y1 z1 x2 y2 z2 = A at *
  replace T1 := Lib.hid T1
  replace T2 := Lib.hid T2
  replace T3 := Lib.hid T3
  replace T4 := Lib.hid T4
  go_enter Try.func7, Try.ntmps7
  go_wp2_with fail
  generalize hW : World.alloc _ _ = W
  (have c0 : (W).cell? ⟨w.heap.size, 0, none⟩ = some (.int .i64 i) := (by subst hW; go_simp)); (have c1 : (W).cell? ⟨w.heap.size, 1, none⟩ = some (.int .i64 x0) := (by subst hW; go_simp)); (have c2 : (W).cell? ⟨w.heap.size, 2, none⟩ = some (.int .i64 y0) := (by subst hW; go_simp)); (have c3 : (W).cell? ⟨w.heap.size, 3, none⟩ = some (.int .i64 z0) := (by subst hW; go_simp)); (have c4 : (W).cell? ⟨w.heap.size, 4, none⟩ = some (.int .i64 x1) := (by subst hW; go_simp)); (have c5 : (W).cell? ⟨w.heap.size, 5, none⟩ = some (.int .i64 y1) := (by subst hW; go_simp)); (have c6 : (W).cell? ⟨w.heap.size, 6, none⟩ = some (.int .i64 z1) := (by subst hW; go_simp)); (have c7 : (W).cell? ⟨w.heap.size, 7, none⟩ = some (.int .i64 x2) := (by subst hW; go_simp)); (have c8 : (W).cell? ⟨w.heap.size, 8, none⟩ = some (.int .i64 y2) := (by subst hW; go_simp)); (have c9 : (W).cell? ⟨w.heap.size, 9, none⟩ = some (.int .i64 z2) := (by subst hW; go_simp))
  (have d0 : (W).cell? ⟨w.heap.size + 1, 0, none⟩ = some (.int .i64 j) := (by subst hW; go_simp)); (have d1 : (W).cell? ⟨w.heap.size + 1, 1, none⟩ = some (.int .i64 u0) := (by subst hW; go_simp)); (have d2 : (W).cell? ⟨w.heap.size + 1, 2, none⟩ = some (.int .i64 v0) := (by subst hW; go_simp)); (have d3 : (W).cell? ⟨w.heap.size + 1, 3, none⟩ = some (.int .i64 s0) := (by subst hW; go_simp)); (have d4 : (W).cell? ⟨w.heap.size + 1, 4, none⟩ = some (.int .i64 u1) := (by subst hW; go_simp)); (have d5 : (W).cell? ⟨w.heap.size + 1, 5, none⟩ = some (.int .i64 v1) := (by subst hW; go_simp)); (have d6 : (W).cell? ⟨w.heap.size + 1, 6, none⟩ = some (.int .i64 s1) := (by subst hW; go_simp)); (have d7 : (W).cell? ⟨w.heap.size + 1, 7, none⟩ = some (.int .i64 u2) := (by subst hW; go_simp)); (have d8 : (W).cell? ⟨w.heap.size + 1, 8, none⟩ = some (.int .i64 v2) := (by subst hW; go_simp)); (have d9 : (W).cell? ⟨w.heap.size + 1, 9, none⟩ = some (.int .i64 s2) := (by subst hW; go_simp))
  have hn : New w W := by subst hW; (repeat (first | (with_reducible exact New.refl _) | (with_reducible assumption) | ((with_reducible refine New.setB ?_ ?_ _); focus (first | omega | (simp; omega) | (simp; done))) | (with_reducible refine New.alloc ?_ _) | (with_reducible refine New.drew ?_) | (with_reducible refine New.drewN ?_ _) | (with_reducible refine New.hat ?_ _) | ((with_reducible apply New.snart); (with_reducible assumption))))
  clear hW
  (refine wp_region_hat (by kernel_rfl) (by kernel_rfl) ?_; intro hatc hatf; (repeat (go_big_quiet_step ((first | (go_at_call 33; first | (with_reducible exact Calls.hat (T1.out _)) | (with_reducible exact Calls.hat (T3.out _)) | (with_reducible exact Calls.hat (T4.out _))) | (go_at_call 34; exact Calls.hat (T2.out _)) | (go_at_call 28; exact Calls.hat (t_wakes _)))))); refine wpQuiet_nil ?_; rintro _ ⟨x, rfl⟩)
  replace hn := hn.trans x.h
  generalize x.w = W5 at *
  go_wp2_with fail
  go_ret
  exact ⟨rfl, hn⟩

end Go.Proofs.Ytmpkciidhopckaa
