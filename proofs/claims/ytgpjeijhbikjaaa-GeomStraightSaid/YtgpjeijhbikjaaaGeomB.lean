/- Contracts of Turn and inside of package geom. -/
import Derived.Test.YtgpjeijhbikjaaaGeomA
import Derived.Test.YtgpjeijhbikjaaaSteady
namespace Go.Proofs.Ytgpjeijhbikjaaa
open Go.RowKit
set_option linter.unusedVariables false

def insB (x z x0 z0 x1 z1 : Int) : Bool := decide (x0 ≤ x) && decide (x ≤ x1) && decide (z0 ≤ z) && decide (z ≤ z1)

set_option maxHeartbeats 400000 in
theorem ginside_any (x z x0 z0 x1 z1 : Int) (w : World) :
    Calls Try.prog 30 #[.agg #[.int .i64 x, .int .i64 z], .int .i64 x0, .int .i64 z0, .int .i64 x1, .int .i64 z1] w fun e w' => e = .returned (.bool (insB x z x0 z0 x1 z1)) ∧ New w w' := by
  go_enter Try.func30, Try.ntmps30
  go_wp2
  all_goals
    go_ret
    refine ⟨retB ?_, ?_⟩
    · unfold insB; simp [*] <;> omega
    (repeat (first | (with_reducible exact New.refl _) | (with_reducible assumption) | ((with_reducible refine New.setB ?_ ?_ _); focus (first | omega | (simp; omega) | (simp; done))) | (with_reducible refine New.alloc ?_ _) | (with_reducible refine New.drew ?_) | (with_reducible refine New.drewN ?_ _) | (with_reducible refine New.hat ?_ _) | ((with_reducible apply New.snart); (with_reducible assumption))))

def crI (ax az bx bz cx cz : Int) : Int := (bx - ax) * (cz - az) - (bz - az) * (cx - ax)
def turnI (ax az bx bz cx cz : Int) : Int := clampI (crI (inI ax) (inI az) (inI bx) (inI bz) (inI cx) (inI cz)) (-1) 1

theorem turnI_def (ax az bx bz cx cz : Int) : clampI (crI (inI ax) (inI az) (inI bx) (inI bz) (inI cx) (inI cz)) (-1) 1 = turnI ax az bx bz cx cz := rfl

theorem cross_near {a b c d : Int} (ha : -1073741824 ≤ a ∧ a ≤ 1073741824) (hb : -1073741824 ≤ b ∧ b ≤ 1073741824) (hc : -1073741824 ≤ c ∧ c ≤ 1073741824) (hd : -1073741824 ≤ d ∧ d ≤ 1073741824) : crossB a b c d = true := by
  unfold crossB; simp only [nearB_iff]; simp; omega
theorem cross_tame (ax az bx bz cx cz : Int) : crossI (inI bx - inI ax) (inI bz - inI az) (inI cx - inI ax) (inI cz - inI az) = crI (inI ax) (inI az) (inI bx) (inI bz) (inI cx) (inI cz) ∧ crossB (inI bx - inI ax) (inI bz - inI az) (inI cx - inI ax) (inI cz - inI az) = true := by
  have h1 := inI_bd ax
  have h2 := inI_bd az
  have h3 := inI_bd bx
  have h4 := inI_bd bz
  have h5 := inI_bd cx
  have h6 := inI_bd cz
  have hb : crossB (inI bx - inI ax) (inI bz - inI az) (inI cx - inI ax) (inI cz - inI az) = true := cross_near (by omega) (by omega) (by omega) (by omega)
  refine ⟨?_, hb⟩
  unfold crossI crI
  rw [if_pos hb]

set_option maxHeartbeats 1000000 in
theorem gturn_any (ax az bx bz cx cz : Int) (w : World) :
    Calls Try.prog 10 #[.agg #[.int .i64 ax, .int .i64 az], .agg #[.int .i64 bx, .int .i64 bz], .agg #[.int .i64 cx, .int .i64 cz]] w fun e w' => e = .returned (.int .i64 (turnI ax az bx bz cx cz)) ∧ New w w' := by
  have h1 := inI_bd ax
  have h2 := inI_bd az
  have h3 := inI_bd bx
  have h4 := inI_bd bz
  have h5 := inI_bd cx
  have h6 := inI_bd cz
  go_enter Try.func10, Try.ntmps10
  go_wp2_with fail
  generalize hW : World.alloc _ _ = W
  have c1 : W.cell? ⟨w.heap.size, 0, none⟩ = some (.int .i64 ax) := by subst hW; go_simp
  have c2 : W.cell? ⟨w.heap.size, 1, none⟩ = some (.int .i64 az) := by subst hW; go_simp
  have c3 : W.cell? ⟨w.heap.size + 1, 0, none⟩ = some (.int .i64 bx) := by subst hW; go_simp
  have c4 : W.cell? ⟨w.heap.size + 1, 1, none⟩ = some (.int .i64 bz) := by subst hW; go_simp
  have c5 : W.cell? ⟨w.heap.size + 1 + 1, 0, none⟩ = some (.int .i64 cx) := by subst hW; go_simp
  have c6 : W.cell? ⟨w.heap.size + 1 + 1, 1, none⟩ = some (.int .i64 cz) := by subst hW; go_simp
  have hn : New w W := by subst hW; (repeat (first | (with_reducible exact New.refl _) | (with_reducible assumption) | ((with_reducible refine New.setB ?_ ?_ _); focus (first | omega | (simp; omega) | (simp; done))) | (with_reducible refine New.alloc ?_ _) | (with_reducible refine New.drew ?_) | (with_reducible refine New.drewN ?_ _) | (with_reducible refine New.hat ?_ _) | ((with_reducible apply New.snart); (with_reducible assumption))))
  clear hW
  (refine wp_region_steady1 8 7 7 (ob := .cells #[.int .i64 0, .int .i64 0, .int .i64 0, .int .i64 0, .int .i64 0, .int .i64 0] 42) (by kernel_rfl) (by kernel_rfl) rfl rfl rfl (fun _ _ => by kernel_rfl) (by kernel_rfl) (by simp) ?_; (intro hatc hatf; simp only [List.take_succ_cons, List.take_zero, List.drop_succ_cons, List.drop_zero]; (repeat (first | (refine mildWalk_made (by decide) ?_; simp only [Act.put, List.setIfInBounds_toArray, List.set_cons_zero, List.set_cons_succ]) | (refine mildWalk_step (by decide) (fun K hK => ?_); go_simp; first | (refine hK _ ?_; clear hK K) | (apply Exists.intro; refine ⟨fun _ => ?_, hK _ ?_⟩; (go_at_call 26; exact gtame_any _ _ _); clear hK K)))); refine mildWalk_nil ?_; (try simp only [List.setIfInBounds_toArray, List.set_cons_zero, List.set_cons_succ])))
  intro x b hb hh
  have hx : New w x.w := New.hat hn x
  have d0 := cell_of_heap (o := 0) hh rfl
  have d1 := cell_of_heap (o := 1) hh rfl
  have d2 := cell_of_heap (o := 2) hh rfl
  have d3 := cell_of_heap (o := 3) hh rfl
  have d4 := cell_of_heap (o := 4) hh rfl
  have d5 := cell_of_heap (o := 5) hh rfl
  have f0 := fun o => frozen_of_heap (o := o) hh
  clear hh hatc hatf
  go_wp2_with (first | (go_at_call 27; refine (cross_any _ _ _ _ _).mono ?_; rw [(cross_tame ax az bx bz cx cz).1, (cross_tame ax az bx bz cx cz).2]; rintro e w' ⟨rfl, rfl⟩) | (go_at_call 28; refine (sign_any _ _).mono ?_; rw [turnI_def]; rintro e w' ⟨rfl, rfl⟩))
  go_ret
  have hz := hn.size
  exact ⟨rfl, by (repeat (first | (with_reducible exact New.refl _) | (with_reducible assumption) | ((with_reducible refine New.setB ?_ ?_ _); focus (first | omega | (simp; omega) | (simp; done))) | (with_reducible refine New.alloc ?_ _) | (with_reducible refine New.drew ?_) | (with_reducible refine New.drewN ?_ _) | (with_reducible refine New.hat ?_ _) | ((with_reducible apply New.snart); (with_reducible assumption))))⟩

end Go.Proofs.Ytgpjeijhbikjaaa
