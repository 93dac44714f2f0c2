/- Package cells: meeting, walked. -/
import Derived.Test.YtmpkciidhopckaaCellsE
namespace Go.Proofs.Ytmpkciidhopckaa
open Go.RowKit
set_option linter.unusedVariables false

set_option maxHeartbeats 4000000 in
set_option maxRecDepth 100000 in
theorem c_meeting_no (ax az bx bz x z : Int) (w : World) (h : validB ax az bx bz x z = false) :
    Calls Try.prog 42 #[.agg #[.int .i64 ax, .int .i64 az], .agg #[.int .i64 bx, .int .i64 bz], .int .i64 x, .int .i64 z] w fun e w' => e = .returned (metV x z none) ∧ New w w' := by
  have h1 := fun w => c_point ax az w
  have h2 := fun w => c_point bx bz w
  have h3 := fun w => c_column x w
  have h4 := fun w => c_column z w
  unfold metV cellV
  cases e1 : ptB ax az with
  | false =>
    simp only [e1] at h1
    go_enter Try.func42, Try.ntmps42
    go_wp2_with fail
    generalize hW : World.alloc _ _ = W
    have d0 : W.cell? ⟨w.heap.size + 1 + 1, 0, none⟩ = some (.int .i64 0) := by subst hW; go_simp
    have d1 : W.cell? ⟨w.heap.size + 1 + 1, 1, none⟩ = some (.int .i64 0) := by subst hW; go_simp
    have d2 : W.cell? ⟨w.heap.size + 1 + 1, 2, none⟩ = some (.int .i64 0) := by subst hW; go_simp
    have d3 : W.cell? ⟨w.heap.size + 1 + 1, 3, none⟩ = some (.int .i64 0) := by subst hW; go_simp
    have d4 : W.cell? ⟨w.heap.size + 1 + 1, 4, none⟩ = some (.int .i64 0) := by subst hW; go_simp
    have d5 : W.cell? ⟨w.heap.size + 1 + 1, 5, none⟩ = some (.int .i64 0) := by subst hW; go_simp
    have fz : ∀ o, W.frozen? ⟨w.heap.size + 1 + 1, o, none⟩ = false := fun o => by subst hW; go_simp
    have hn : New w W := by subst hW; (repeat (first | (with_reducible exact New.refl _) | (with_reducible assumption) | ((with_reducible refine New.setB ?_ ?_ _); focus (first | omega | (simp; omega) | (simp; done))) | (with_reducible refine New.alloc ?_ _) | (with_reducible refine New.drew ?_) | (with_reducible refine New.drewN ?_ _) | (with_reducible refine New.hat ?_ _) | ((with_reducible apply New.snart); (with_reducible assumption))))
    clear hW
    refine (h1 _).mono ?_
    rintro e w1 ⟨rfl, n1⟩
    ((have fz0 := n1.keepF d0 (fz 0)); (have fz1 := n1.keepF d1 (fz 1)); (have fz2 := n1.keepF d2 (fz 2)); (have fz3 := n1.keepF d3 (fz 3)); (have fz4 := n1.keepF d4 (fz 4)); (have fz5 := n1.keepF d5 (fz 5)); (replace d0 := n1.keep d0); (replace d1 := n1.keep d1); (replace d2 := n1.keep d2); (replace d3 := n1.keep d3); (replace d4 := n1.keep d4); (replace d5 := n1.keep d5); clear fz)
    have hz := hn.size
    have hn1 := hn.trans n1
    go_wp2_with fail
    refine bodyPost_ret (v := .tuple #[.agg #[.int .i64 0, .int .i64 0, .int .i64 0, .int .i64 0, .int .i64 0, .int .i64 0], .bool false]) (by simp [results, Try.results42, go_sem, *]) rfl ?_
    exact ⟨rfl, by (repeat (first | (with_reducible exact New.refl _) | (with_reducible assumption) | ((with_reducible refine New.setB ?_ ?_ _); focus (first | omega | (simp; omega) | (simp; done))) | (with_reducible refine New.alloc ?_ _) | (with_reducible refine New.drew ?_) | (with_reducible refine New.drewN ?_ _) | (with_reducible refine New.hat ?_ _) | ((with_reducible apply New.snart); (with_reducible assumption))))⟩
  | true =>
    simp only [e1] at h1
    cases e2 : ptB bx bz with
    | false =>
      simp only [e2] at h2
      ((go_enter Try.func42, Try.ntmps42); go_wp2_with fail; (generalize hW : World.alloc _ _ = W); (have c0 : W.cell? ⟨w.heap.size, 0, none⟩ = some (.int .i64 ax) := by subst hW; go_simp); (have c1 : W.cell? ⟨w.heap.size, 1, none⟩ = some (.int .i64 az) := by subst hW; go_simp); (have c2 : W.cell? ⟨w.heap.size + 1, 0, none⟩ = some (.int .i64 bx) := by subst hW; go_simp); (have c3 : W.cell? ⟨w.heap.size + 1, 1, none⟩ = some (.int .i64 bz) := by subst hW; go_simp); (have d0 : W.cell? ⟨w.heap.size + 1 + 1, 0, none⟩ = some (.int .i64 0) := by subst hW; go_simp); (have d1 : W.cell? ⟨w.heap.size + 1 + 1, 1, none⟩ = some (.int .i64 0) := by subst hW; go_simp); (have d2 : W.cell? ⟨w.heap.size + 1 + 1, 2, none⟩ = some (.int .i64 0) := by subst hW; go_simp); (have d3 : W.cell? ⟨w.heap.size + 1 + 1, 3, none⟩ = some (.int .i64 0) := by subst hW; go_simp); (have d4 : W.cell? ⟨w.heap.size + 1 + 1, 4, none⟩ = some (.int .i64 0) := by subst hW; go_simp); (have d5 : W.cell? ⟨w.heap.size + 1 + 1, 5, none⟩ = some (.int .i64 0) := by subst hW; go_simp); (have fz : ∀ o, W.frozen? ⟨w.heap.size + 1 + 1, o, none⟩ = false := fun o => by (subst hW; go_simp)); (have hn : New w W := by (subst hW; (repeat (first | (with_reducible exact New.refl _) | (with_reducible assumption) | ((with_reducible refine New.setB ?_ ?_ _); focus (first | omega | (simp; omega) | (simp; done))) | (with_reducible refine New.alloc ?_ _) | (with_reducible refine New.drew ?_) | (with_reducible refine New.drewN ?_ _) | (with_reducible refine New.hat ?_ _) | ((with_reducible apply New.snart); (with_reducible assumption)))))); clear hW; (have fz0 := fz 0); (have fz1 := fz 1); (have fz2 := fz 2); (have fz3 := fz 3); (have fz4 := fz 4); (have fz5 := fz 5); clear fz; (have hz := hn.size))
      (refine (h1 _).mono ?_; rintro e w1 ⟨rfl, n1⟩; ((replace fz0 := n1.keepF d0 fz0); (replace fz1 := n1.keepF d1 fz1); (replace fz2 := n1.keepF d2 fz2); (replace fz3 := n1.keepF d3 fz3); (replace fz4 := n1.keepF d4 fz4); (replace fz5 := n1.keepF d5 fz5); (replace d0 := n1.keep d0); (replace d1 := n1.keep d1); (replace d2 := n1.keep d2); (replace d3 := n1.keep d3); (replace d4 := n1.keep d4); (replace d5 := n1.keep d5); (replace c0 := n1.keep c0); (replace c1 := n1.keep c1); (replace c2 := n1.keep c2); (replace c3 := n1.keep c3)); go_wp2_with fail)
      (refine (h2 _).mono ?_; rintro e w1 ⟨rfl, n2⟩; ((replace fz0 := n2.keepF d0 fz0); (replace fz1 := n2.keepF d1 fz1); (replace fz2 := n2.keepF d2 fz2); (replace fz3 := n2.keepF d3 fz3); (replace fz4 := n2.keepF d4 fz4); (replace fz5 := n2.keepF d5 fz5); (replace d0 := n2.keep d0); (replace d1 := n2.keep d1); (replace d2 := n2.keep d2); (replace d3 := n2.keep d3); (replace d4 := n2.keep d4); (replace d5 := n2.keep d5); (replace c0 := n2.keep c0); (replace c1 := n2.keep c1); (replace c2 := n2.keep c2); (replace c3 := n2.keep c3)); go_wp2_with fail)
      have hn1 := (hn.trans n1).trans n2
      (go_wp2_with fail; refine bodyPost_ret (v := .tuple #[.agg #[.int .i64 0, .int .i64 0, .int .i64 0, .int .i64 0, .int .i64 0, .int .i64 0], .bool false]) (by simp [results, Try.results42, go_sem, *]) rfl ?_; exact ⟨rfl, by (repeat (first | (with_reducible exact New.refl _) | (with_reducible assumption) | ((with_reducible refine New.setB ?_ ?_ _); focus (first | omega | (simp; omega) | (simp; done))) | (with_reducible refine New.alloc ?_ _) | (with_reducible refine New.drew ?_) | (with_reducible refine New.drewN ?_ _) | (with_reducible refine New.hat ?_ _) | ((with_reducible apply New.snart); (with_reducible assumption))))⟩)
    | true =>
      simp only [e2] at h2
      cases e3 : witB x (-1) 32 with
      | false =>
        simp only [e3] at h3
        ((go_enter Try.func42, Try.ntmps42); go_wp2_with fail; (generalize hW : World.alloc _ _ = W); (have c0 : W.cell? ⟨w.heap.size, 0, none⟩ = some (.int .i64 ax) := by subst hW; go_simp); (have c1 : W.cell? ⟨w.heap.size, 1, none⟩ = some (.int .i64 az) := by subst hW; go_simp); (have c2 : W.cell? ⟨w.heap.size + 1, 0, none⟩ = some (.int .i64 bx) := by subst hW; go_simp); (have c3 : W.cell? ⟨w.heap.size + 1, 1, none⟩ = some (.int .i64 bz) := by subst hW; go_simp); (have d0 : W.cell? ⟨w.heap.size + 1 + 1, 0, none⟩ = some (.int .i64 0) := by subst hW; go_simp); (have d1 : W.cell? ⟨w.heap.size + 1 + 1, 1, none⟩ = some (.int .i64 0) := by subst hW; go_simp); (have d2 : W.cell? ⟨w.heap.size + 1 + 1, 2, none⟩ = some (.int .i64 0) := by subst hW; go_simp); (have d3 : W.cell? ⟨w.heap.size + 1 + 1, 3, none⟩ = some (.int .i64 0) := by subst hW; go_simp); (have d4 : W.cell? ⟨w.heap.size + 1 + 1, 4, none⟩ = some (.int .i64 0) := by subst hW; go_simp); (have d5 : W.cell? ⟨w.heap.size + 1 + 1, 5, none⟩ = some (.int .i64 0) := by subst hW; go_simp); (have fz : ∀ o, W.frozen? ⟨w.heap.size + 1 + 1, o, none⟩ = false := fun o => by (subst hW; go_simp)); (have hn : New w W := by (subst hW; (repeat (first | (with_reducible exact New.refl _) | (with_reducible assumption) | ((with_reducible refine New.setB ?_ ?_ _); focus (first | omega | (simp; omega) | (simp; done))) | (with_reducible refine New.alloc ?_ _) | (with_reducible refine New.drew ?_) | (with_reducible refine New.drewN ?_ _) | (with_reducible refine New.hat ?_ _) | ((with_reducible apply New.snart); (with_reducible assumption)))))); clear hW; (have fz0 := fz 0); (have fz1 := fz 1); (have fz2 := fz 2); (have fz3 := fz 3); (have fz4 := fz 4); (have fz5 := fz 5); clear fz; (have hz := hn.size))
        (refine (h1 _).mono ?_; rintro e w1 ⟨rfl, n1⟩; ((replace fz0 := n1.keepF d0 fz0); (replace fz1 := n1.keepF d1 fz1); (replace fz2 := n1.keepF d2 fz2); (replace fz3 := n1.keepF d3 fz3); (replace fz4 := n1.keepF d4 fz4); (replace fz5 := n1.keepF d5 fz5); (replace d0 := n1.keep d0); (replace d1 := n1.keep d1); (replace d2 := n1.keep d2); (replace d3 := n1.keep d3); (replace d4 := n1.keep d4); (replace d5 := n1.keep d5); (replace c0 := n1.keep c0); (replace c1 := n1.keep c1); (replace c2 := n1.keep c2); (replace c3 := n1.keep c3)); go_wp2_with fail)
        (refine (h2 _).mono ?_; rintro e w1 ⟨rfl, n2⟩; ((replace fz0 := n2.keepF d0 fz0); (replace fz1 := n2.keepF d1 fz1); (replace fz2 := n2.keepF d2 fz2); (replace fz3 := n2.keepF d3 fz3); (replace fz4 := n2.keepF d4 fz4); (replace fz5 := n2.keepF d5 fz5); (replace d0 := n2.keep d0); (replace d1 := n2.keep d1); (replace d2 := n2.keep d2); (replace d3 := n2.keep d3); (replace d4 := n2.keep d4); (replace d5 := n2.keep d5); (replace c0 := n2.keep c0); (replace c1 := n2.keep c1); (replace c2 := n2.keep c2); (replace c3 := n2.keep c3)); go_wp2_with fail)
        refine (h3 _).mono ?_
        rintro e w3 ⟨rfl, rfl⟩
        have hn1 := (hn.trans n1).trans n2
        (go_wp2_with fail; refine bodyPost_ret (v := .tuple #[.agg #[.int .i64 0, .int .i64 0, .int .i64 0, .int .i64 0, .int .i64 0, .int .i64 0], .bool false]) (by simp [results, Try.results42, go_sem, *]) rfl ?_; exact ⟨rfl, by (repeat (first | (with_reducible exact New.refl _) | (with_reducible assumption) | ((with_reducible refine New.setB ?_ ?_ _); focus (first | omega | (simp; omega) | (simp; done))) | (with_reducible refine New.alloc ?_ _) | (with_reducible refine New.drew ?_) | (with_reducible refine New.drewN ?_ _) | (with_reducible refine New.hat ?_ _) | ((with_reducible apply New.snart); (with_reducible assumption))))⟩)
      | true =>
        simp only [e3] at h3
        have e4 : witB z (-1) 32 = false := by
          unfold validB at h
          rw [e1, e2, e3] at h
          simpa using h
        simp only [e4] at h4
        ((go_enter Try.func42, Try.ntmps42); go_wp2_with fail; (generalize hW : World.alloc _ _ = W); (have c0 : W.cell? ⟨w.heap.size, 0, none⟩ = some (.int .i64 ax) := by subst hW; go_simp); (have c1 : W.cell? ⟨w.heap.size, 1, none⟩ = some (.int .i64 az) := by subst hW; go_simp); (have c2 : W.cell? ⟨w.heap.size + 1, 0, none⟩ = some (.int .i64 bx) := by subst hW; go_simp); (have c3 : W.cell? ⟨w.heap.size + 1, 1, none⟩ = some (.int .i64 bz) := by subst hW; go_simp); (have d0 : W.cell? ⟨w.heap.size + 1 + 1, 0, none⟩ = some (.int .i64 0) := by subst hW; go_simp); (have d1 : W.cell? ⟨w.heap.size + 1 + 1, 1, none⟩ = some (.int .i64 0) := by subst hW; go_simp); (have d2 : W.cell? ⟨w.heap.size + 1 + 1, 2, none⟩ = some (.int .i64 0) := by subst hW; go_simp); (have d3 : W.cell? ⟨w.heap.size + 1 + 1, 3, none⟩ = some (.int .i64 0) := by subst hW; go_simp); (have d4 : W.cell? ⟨w.heap.size + 1 + 1, 4, none⟩ = some (.int .i64 0) := by subst hW; go_simp); (have d5 : W.cell? ⟨w.heap.size + 1 + 1, 5, none⟩ = some (.int .i64 0) := by subst hW; go_simp); (have fz : ∀ o, W.frozen? ⟨w.heap.size + 1 + 1, o, none⟩ = false := fun o => by (subst hW; go_simp)); (have hn : New w W := by (subst hW; (repeat (first | (with_reducible exact New.refl _) | (with_reducible assumption) | ((with_reducible refine New.setB ?_ ?_ _); focus (first | omega | (simp; omega) | (simp; done))) | (with_reducible refine New.alloc ?_ _) | (with_reducible refine New.drew ?_) | (with_reducible refine New.drewN ?_ _) | (with_reducible refine New.hat ?_ _) | ((with_reducible apply New.snart); (with_reducible assumption)))))); clear hW; (have fz0 := fz 0); (have fz1 := fz 1); (have fz2 := fz 2); (have fz3 := fz 3); (have fz4 := fz 4); (have fz5 := fz 5); clear fz; (have hz := hn.size))
        (refine (h1 _).mono ?_; rintro e w1 ⟨rfl, n1⟩; ((replace fz0 := n1.keepF d0 fz0); (replace fz1 := n1.keepF d1 fz1); (replace fz2 := n1.keepF d2 fz2); (replace fz3 := n1.keepF d3 fz3); (replace fz4 := n1.keepF d4 fz4); (replace fz5 := n1.keepF d5 fz5); (replace d0 := n1.keep d0); (replace d1 := n1.keep d1); (replace d2 := n1.keep d2); (replace d3 := n1.keep d3); (replace d4 := n1.keep d4); (replace d5 := n1.keep d5); (replace c0 := n1.keep c0); (replace c1 := n1.keep c1); (replace c2 := n1.keep c2); (replace c3 := n1.keep c3)); go_wp2_with fail)
        (refine (h2 _).mono ?_; rintro e w1 ⟨rfl, n2⟩; ((replace fz0 := n2.keepF d0 fz0); (replace fz1 := n2.keepF d1 fz1); (replace fz2 := n2.keepF d2 fz2); (replace fz3 := n2.keepF d3 fz3); (replace fz4 := n2.keepF d4 fz4); (replace fz5 := n2.keepF d5 fz5); (replace d0 := n2.keep d0); (replace d1 := n2.keep d1); (replace d2 := n2.keep d2); (replace d3 := n2.keep d3); (replace d4 := n2.keep d4); (replace d5 := n2.keep d5); (replace c0 := n2.keep c0); (replace c1 := n2.keep c1); (replace c2 := n2.keep c2); (replace c3 := n2.keep c3)); go_wp2_with fail)
        refine (h3 _).mono ?_
        rintro e w3 ⟨rfl, rfl⟩
        go_wp2_with fail
        refine (h4 _).mono ?_
        rintro e w4 ⟨rfl, rfl⟩
        have hn1 := (hn.trans n1).trans n2
        (go_wp2_with fail; refine bodyPost_ret (v := .tuple #[.agg #[.int .i64 0, .int .i64 0, .int .i64 0, .int .i64 0, .int .i64 0, .int .i64 0], .bool false]) (by simp [results, Try.results42, go_sem, *]) rfl ?_; exact ⟨rfl, by (repeat (first | (with_reducible exact New.refl _) | (with_reducible assumption) | ((with_reducible refine New.setB ?_ ?_ _); focus (first | omega | (simp; omega) | (simp; done))) | (with_reducible refine New.alloc ?_ _) | (with_reducible refine New.drew ?_) | (with_reducible refine New.drewN ?_ _) | (with_reducible refine New.hat ?_ _) | ((with_reducible apply New.snart); (with_reducible assumption))))⟩)

end Go.Proofs.Ytmpkciidhopckaa
