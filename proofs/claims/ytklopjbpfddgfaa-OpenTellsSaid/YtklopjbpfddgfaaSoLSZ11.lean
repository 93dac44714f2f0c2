import Derived.Test.YtklopjbpfddgfaaSoWZ11
import Derived.Test.YtklopjbpfddgfaaSpAZ11
import Derived.Test.YtklopjbpfddgfaaSteady
import Derived.Deep.LoopGhost

/- The library's Grow of nothing and Concat, of slices of a kind. -/
namespace Go.Proofs.Ytklopjbpfddgfaa
open Go.RowKit
set_option linter.unusedVariables false

theorem sn_info : (Try.prog.info? 54).map (fun i => (i.zero, i.size, i.bytes)) = some (some (.agg #[.int .i64 Sn.zero.lo, .int .i64 Sn.zero.hi, .bool Sn.zero.wk]), 3, 24) := by kernel_rfl

def sn_Grown (n : Nat) (w : World) (e : Ending) (w' : World) : Prop := ∃ v, e = .returned v ∧ w'.ownsRow w.heap.size 54 3 v 0 [] ∧ New w w'

theorem sn_some {snr : Option Addr} (h : ¬ snr = none) : ∃ a, snr = some a := by
  cases snr with
  | none => exact absurd rfl h
  | some a => exact ⟨a, rfl⟩

end Go.Proofs.Ytklopjbpfddgfaa
