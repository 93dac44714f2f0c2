/- The library's SortFunc and joined of no pieces at all. -/
import Derived.Test.YtekdajoglekejaaSpA
import Derived.Test.YtekdajoglekejaaSteady
import Derived.Deep.LoopGhost
import Derived.Deep.DeepCutAuto
namespace Go.Proofs.Ytekdajoglekejaa
open Go.RowKit
set_option linter.unusedVariables false

set_option maxRecDepth 100000 in
set_option maxHeartbeats 1000000 in
theorem l_len64 (w : World) : Calls Try.prog 48 #[.int .u64 0] w fun e w' => e = .returned (.int .i64 0) ∧ w = w' := by
  go_enter Try.func48, Try.ntmps48
  go_wp2_with fail
  go_ret
  exact ⟨by kernel_rfl, rfl⟩

set_option maxHeartbeats 1000000 in
theorem l_len (w : World) : Calls Try.prog 34 #[.int .u64 0] w fun e w' => e = .returned (.int .i64 0) ∧ w = w' := by
  have K := Lib.hid (fun W => l_len64 W)
  go_enter Try.func34, Try.ntmps34
  go_wp2_with fail
  refine (K.out _).mono ?_
  rintro e w' ⟨rfl, rfl⟩
  go_wp2_with fail
  go_ret
  exact ⟨rfl, rfl⟩

set_option maxHeartbeats 1000000 in
theorem s_ins_nil (w : World) (v f : Value) : Calls Try.prog 39 #[v, .int .i64 0, .int .i64 0, f] w fun e w' => e = .returned (.tuple #[]) ∧ New w w' := by
  go_enter Try.func39, Try.ntmps39
  go_wp2_with fail
  refine wp_loop_rounds 1 ?_
  repeat (rw [rounds_succ]; go_wp2_with fail)
  refine bodyPost_end (v := .tuple #[]) (by simp [results, Try.results39, go_sem, *]) rfl ?_
  exact ⟨rfl, New.refl _⟩

set_option maxHeartbeats 1000000 in
theorem s_pdq_nil (w : World) (v f : Value) : Calls Try.prog 33 #[v, .int .i64 0, .int .i64 0, .int .i64 0, f] w fun e w' => e = .returned (.tuple #[]) ∧ New w w' := by
  have K := Lib.hid (fun W => s_ins_nil W v f)
  go_enter Try.func33, Try.ntmps33
  go_wp2_with fail
  refine wp_loop_rounds 1 ?_
  rw [rounds_succ]
  go_wp2_with fail
  refine (K.out _).mono ?_
  rintro e w1 ⟨rfl, n1⟩
  go_wp2_with fail
  refine bodyPost_ret (v := .tuple #[]) (by simp [results, Try.results33, go_sem, *]) rfl ?_
  exact ⟨rfl, n1⟩

set_option maxHeartbeats 1000000 in
theorem k_sort_nil (w : World) (f : Value) : Calls Try.prog 22 #[.slice none 0 0, f] w fun e w' => e = .returned (.tuple #[]) ∧ New w w' := by
  have K := Lib.hid (fun W => s_pdq_nil W (.slice none 0 0) f)
  have L := Lib.hid (fun W => l_len W)
  go_enter Try.func22, Try.ntmps22
  go_wp2_with fail
  refine (L.out _).mono ?_
  rintro e w1 ⟨rfl, rfl⟩
  go_wp2_with fail
  refine (K.out _).mono ?_
  rintro e w1 ⟨rfl, n1⟩
  go_wp2_with fail
  refine bodyPost_end (v := .tuple #[]) (by simp [results, Try.results22, go_sem, *]) rfl ?_
  exact ⟨rfl, n1⟩

set_option maxHeartbeats 1000000 in
theorem k_joined_nil (w : World) : Calls Try.prog 25 #[.slice none 0 0] w fun e w' => e = .returned (.slice none 0 0) ∧ w = w' := by
  go_enter Try.func25, Try.ntmps25
  go_wp2_with fail
  refine wp_loop_rounds 1 ?_
  repeat (rw [rounds_succ]; go_wp2_with fail)
  go_ret
  exact ⟨rfl, rfl⟩

end Go.Proofs.Ytekdajoglekejaa
