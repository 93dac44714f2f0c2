/- The library's Equal, of slices of a kind. -/
import Derived.Test.YtklopjbpfddgfaaSpA
import Derived.Test.YtklopjbpfddgfaaHatS
import Derived.Deep.LoopGhost
namespace Go.Proofs.Ytklopjbpfddgfaa
open Go.RowKit
set_option linter.unusedVariables false

def Sn.allEq : List Sn → List Sn → Bool
  | [], [] => true
  | a :: l, b :: m => a.eqB b && Sn.allEq l m
  | _, _ => false
theorem Sn.allEq_iff : ∀ l m : List Sn, Sn.allEq l m = true ↔ l = m
  | [], [] => by simp [Sn.allEq]
  | [], _ :: _ => by simp [Sn.allEq]
  | _ :: _, [] => by simp [Sn.allEq]
  | a :: l, b :: m => by simp [Sn.allEq, Sn.eqB_iff, Sn.allEq_iff l m]

set_option maxHeartbeats 4000000 in
theorem sn_neq (w : World) (a b : Sn) : (binOp .neq 54 (.agg #[.int .i64 a.lo, .int .i64 a.hi, .bool a.wk]) (.agg #[.int .i64 b.lo, .int .i64 b.hi, .bool b.wk])).run Try.prog w = .ok (.bool (!a.eqB b)) w := by
  obtain ⟨a0, a1, a2⟩ := a
  obtain ⟨b0, b1, b2⟩ := b
  unfold Sn.eqB
  cases h0 : (a0 == b0)
  · go_simp
  · skip
    cases h1 : (a1 == b1)
    · go_simp
    · skip
      cases h2 : (a2 == b2)
      · go_simp
      · go_simp

end Go.Proofs.Ytklopjbpfddgfaa
