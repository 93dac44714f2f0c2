/- Layer 4's statements: their examples. -/
import Derived.Test.YtmpkciidhopckaaTriG
namespace Go.Proofs.Ytmpkciidhopckaa
open Go.RowKit
set_option linter.unusedVariables false

theorem tw_b1 : walkB 0 1 3 1 1 8 8 0 0 0 1 1 0 0 0 1 = true := by decide +kernel
theorem tw_e1 : walkE 0 1 3 1 1 8 8 0 0 0 1 1 0 0 0 1 = 0 := by decide +kernel
theorem tw_b2 : walkB 0 1 3 1 1 8 8 0 0 0 1 2 0 0 0 1 = false := by decide +kernel
theorem tw_e2 : walkE 0 1 3 1 1 8 8 0 0 0 1 2 0 0 0 1 = 0 := by decide +kernel
theorem tw_hn : heightN 3 0 0 0 0 1 2 0 0 0 1 = 6 := by decide +kernel
theorem tw_hd : heightD 3 0 0 0 0 1 2 0 0 0 1 = 1 := by decide +kernel
theorem tw_he : heightE 3 0 0 0 0 1 2 0 0 0 1 = 0 := by decide +kernel
theorem tw_ch : tCheckE 0 1 3 1 1 8 8 1 0 0 0 1 1 0 0 0 1 = 0 := by decide +kernel

set_option maxHeartbeats 400000 in
theorem t_config (w : World) : Calls Try.prog 53 #[] w fun e w' => e = .returned (.agg #[.int .i64 0, .int .i64 1, .int .i64 3, .int .i64 1, .int .i64 1, .int .i64 8, .int .i64 8]) ∧ New w w' := by
  go_enter Try.func53, Try.ntmps53
  go_wp2
  refine bodyPost_ret (v := .agg #[.int .i64 0, .int .i64 1, .int .i64 3, .int .i64 1, .int .i64 1, .int .i64 8, .int .i64 8]) (by simp [results, Try.results53, go_sem, *]) rfl ?_
  exact ⟨rfl, by (repeat (first | (with_reducible exact New.refl _) | (with_reducible assumption) | ((with_reducible refine New.setB ?_ ?_ _); focus (first | omega | (simp; omega) | (simp; done))) | (with_reducible refine New.alloc ?_ _) | (with_reducible refine New.drew ?_) | (with_reducible refine New.drewN ?_ _) | (with_reducible refine New.hat ?_ _) | ((with_reducible apply New.snart); (with_reducible assumption))))⟩

set_option maxHeartbeats 400000 in
theorem t_sample (w : World) : Calls Try.prog 54 #[] w fun e w' => e = .returned (.agg #[.int .i64 1, .int .i64 0, .int .i64 0, .int .i64 0, .int .i64 1, .int .i64 1, .int .i64 0, .int .i64 0, .int .i64 0, .int .i64 1]) ∧ New w w' := by
  go_enter Try.func54, Try.ntmps54
  go_wp2
  refine bodyPost_ret (v := .agg #[.int .i64 1, .int .i64 0, .int .i64 0, .int .i64 0, .int .i64 1, .int .i64 1, .int .i64 0, .int .i64 0, .int .i64 0, .int .i64 1]) (by simp [results, Try.results54, go_sem, *]) rfl ?_
  exact ⟨rfl, by (repeat (first | (with_reducible exact New.refl _) | (with_reducible assumption) | ((with_reducible refine New.setB ?_ ?_ _); focus (first | omega | (simp; omega) | (simp; done))) | (with_reducible refine New.alloc ?_ _) | (with_reducible refine New.drew ?_) | (with_reducible refine New.drewN ?_ _) | (with_reducible refine New.hat ?_ _) | ((with_reducible apply New.snart); (with_reducible assumption))))⟩

set_option maxHeartbeats 2000000 in
set_option maxRecDepth 100000 in
theorem t_wakes (w : World) :
    Calls Try.prog 28 #[] w fun e w' => e = .returned (.bool true) ∧ New w w' := by
  have T1 := Lib.hid (fun W => by have q := t_walk 0 1 3 1 1 8 8 1 0 0 0 1 1 0 0 0 1 W; rw [tw_b1, tw_e1] at q; exact q : ∀ W, Calls Try.prog 29 #[.agg #[.int .i64 0, .int .i64 1, .int .i64 3, .int .i64 1, .int .i64 1, .int .i64 8, .int .i64 8], .agg #[.int .i64 1, .int .i64 0, .int .i64 0, .int .i64 0, .int .i64 1, .int .i64 1, .int .i64 0, .int .i64 0, .int .i64 0, .int .i64 1]] W fun e w' => e = .returned (.tuple #[.bool true, .int .i64 0]) ∧ New W w')
  have T2 := Lib.hid (fun W => by have q := t_walk 0 1 3 1 1 8 8 1 0 0 0 1 2 0 0 0 1 W; rw [tw_b2, tw_e2] at q; exact q : ∀ W, Calls Try.prog 29 #[.agg #[.int .i64 0, .int .i64 1, .int .i64 3, .int .i64 1, .int .i64 1, .int .i64 8, .int .i64 8], .agg #[.int .i64 1, .int .i64 0, .int .i64 0, .int .i64 0, .int .i64 1, .int .i64 2, .int .i64 0, .int .i64 0, .int .i64 0, .int .i64 1]] W fun e w' => e = .returned (.tuple #[.bool false, .int .i64 0]) ∧ New W w')
  have T3 := Lib.hid (fun W => by have q := t_height 1 0 0 0 1 2 0 0 0 1 3 0 W; rw [tw_hn, tw_hd, tw_he] at q; exact q : ∀ W, Calls Try.prog 31 #[.agg #[.int .i64 1, .int .i64 0, .int .i64 0, .int .i64 0, .int .i64 1, .int .i64 2, .int .i64 0, .int .i64 0, .int .i64 0, .int .i64 1], .int .i64 3, .int .i64 0] W fun e w' => e = .returned (.tuple #[.int .i64 6, .int .i64 1, .int .i64 0]) ∧ New W w')
  have T4 := Lib.hid (fun W => by have q := t_check 0 1 3 1 1 8 8 1 0 0 0 1 1 0 0 0 1 W; rw [tw_ch] at q; exact q : ∀ W, Calls Try.prog 26 #[.agg #[.int .i64 0, .int .i64 1, .int .i64 3, .int .i64 1, .int .i64 1, .int .i64 8, .int .i64 8], .agg #[.int .i64 1, .int .i64 0, .int .i64 0, .int .i64 0, .int .i64 1, .int .i64 1, .int .i64 0, .int .i64 0, .int .i64 0, .int .i64 1]] W fun e w' => e = .returned (.int .i64 0) ∧ New W w')
  go_enter Try.func28, Try.ntmps28
  go_wp2_with fail
  refine (t_config _).mono ?_
  rintro e W1 ⟨rfl, n1⟩
  go_wp2_with fail
  refine (t_sample _).mono ?_
  rintro e W2 ⟨rfl, n2⟩
  replace n1 := n1.trans n2
  clear n2
  go_wp2_with fail
  refine (T1.out _).mono ?_
  rintro e W3 ⟨rfl, n2⟩
  replace n1 := n1.trans n2
  clear n2
  go_wp2_with fail
  refine (t_sample _).mono ?_
  rintro e W4 ⟨rfl, n2⟩
  replace n1 := n1.trans n2
  have zz := n1.size
  have zz2 := n2.size
  clear n2
  go_wp2_with fail
  generalize hW : World.alloc _ _ = W
  have c0 : W.cell? ⟨W4.heap.size, 0, none⟩ = some (.int .i64 1) := by subst hW; go_simp
  have c1 : W.cell? ⟨W4.heap.size, 1, none⟩ = some (.int .i64 0) := by subst hW; go_simp
  have c2 : W.cell? ⟨W4.heap.size, 2, none⟩ = some (.int .i64 0) := by subst hW; go_simp
  have c3 : W.cell? ⟨W4.heap.size, 3, none⟩ = some (.int .i64 0) := by subst hW; go_simp
  have c4 : W.cell? ⟨W4.heap.size, 4, none⟩ = some (.int .i64 1) := by subst hW; go_simp
  have c5 : W.cell? ⟨W4.heap.size, 5, none⟩ = some (.int .i64 2) := by subst hW; go_simp
  have c6 : W.cell? ⟨W4.heap.size, 6, none⟩ = some (.int .i64 0) := by subst hW; go_simp
  have c7 : W.cell? ⟨W4.heap.size, 7, none⟩ = some (.int .i64 0) := by subst hW; go_simp
  have c8 : W.cell? ⟨W4.heap.size, 8, none⟩ = some (.int .i64 0) := by subst hW; go_simp
  have c9 : W.cell? ⟨W4.heap.size, 9, none⟩ = some (.int .i64 1) := by subst hW; go_simp
  have hn : New w W := by subst hW; (repeat (first | (with_reducible exact New.refl _) | (with_reducible assumption) | ((with_reducible refine New.setB ?_ ?_ _); focus (first | omega | (simp; omega) | (simp; done))) | (with_reducible refine New.alloc ?_ _) | (with_reducible refine New.drew ?_) | (with_reducible refine New.drewN ?_ _) | (with_reducible refine New.hat ?_ _) | ((with_reducible apply New.snart); (with_reducible assumption))))
  clear hW n1 zz zz2
  (refine wp_region_hat (by kernel_rfl) (by kernel_rfl) ?_; intro hatc hatf; (repeat (go_big_quiet_step ((first | (go_at_call 53; exact Calls.hat (t_config _)) | (go_at_call 29; exact Calls.hat (T2.out _)))))); refine wpQuiet_nil ?_; rintro _ ⟨x, rfl⟩)
  have n1 := x.h
  ((replace c0 := New.keep n1 c0); (replace c1 := New.keep n1 c1); (replace c2 := New.keep n1 c2); (replace c3 := New.keep n1 c3); (replace c4 := New.keep n1 c4); (replace c5 := New.keep n1 c5); (replace c6 := New.keep n1 c6); (replace c7 := New.keep n1 c7); (replace c8 := New.keep n1 c8); (replace c9 := New.keep n1 c9))
  replace hn := hn.trans n1
  clear n1 hatc hatf
  generalize x.w = W5 at *
  go_wp2_with fail
  refine (T3.out _).mono ?_
  rintro e W6 ⟨rfl, n1⟩
  replace hn := hn.trans n1
  clear n1 c0 c1 c2 c3 c4 c5 c6 c7 c8 c9
  go_wp2_with fail
  refine (t_config _).mono ?_
  rintro e W7 ⟨rfl, n1⟩
  replace hn := hn.trans n1
  clear n1
  go_wp2_with fail
  refine (t_sample _).mono ?_
  rintro e W8 ⟨rfl, n1⟩
  replace hn := hn.trans n1
  clear n1
  go_wp2_with fail
  refine (T4.out _).mono ?_
  rintro e W9 ⟨rfl, n1⟩
  replace hn := hn.trans n1
  clear n1
  go_wp2_with fail
  go_ret
  exact ⟨rfl, hn⟩

end Go.Proofs.Ytmpkciidhopckaa
