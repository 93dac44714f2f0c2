/- Points compared. -/
import Derived.Test.YtmpkciidhopckaaHat
namespace Go.Proofs.Ytmpkciidhopckaa
open Go.RowKit
set_option linter.unusedVariables false

def ptEq (x z x' z' : Int) : Bool := x == x' && z == z'

theorem pt_neq (w : World) (x z x' z' : Int) : (binOp .neq 23 (.agg #[.int .i64 x, .int .i64 z]) (.agg #[.int .i64 x', .int .i64 z'])).run Try.prog w = .ok (.bool (!ptEq x z x' z')) w := by
  unfold ptEq
  cases h1 : (x == x') <;> cases h2 : (z == z') <;> (go_simp)

theorem pt_eql (w : World) (x z x' z' : Int) : (binOp .eql 23 (.agg #[.int .i64 x, .int .i64 z]) (.agg #[.int .i64 x', .int .i64 z'])).run Try.prog w = .ok (.bool (ptEq x z x' z')) w := by
  unfold ptEq
  cases h1 : (x == x') <;> cases h2 : (z == z') <;> (go_simp)

theorem ptEq_true {x z x' z' : Int} (h : x = x') (k : z = z') : ptEq x z x' z' = true := by unfold ptEq; simp [h, k]
theorem ptEq_iff {x z x' z' : Int} : ptEq x z x' z' = true ↔ x = x' ∧ z = z' := by unfold ptEq; simp

end Go.Proofs.Ytmpkciidhopckaa
