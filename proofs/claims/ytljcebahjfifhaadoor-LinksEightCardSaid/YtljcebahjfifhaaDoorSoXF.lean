/- The library's Equal, of slices of a kind. -/
import Derived.Test.YtljcebahjfifhaaDoorOgA
import Derived.Test.YtljcebahjfifhaaDoorHatS
import Derived.Deep.LoopGhost
namespace Go.Proofs.YtljcebahjfifhaaDoor
open Go.RowKit
set_option linter.unusedVariables false

def Fl.allEq : List Fl → List Fl → Bool
  | [], [] => true
  | a :: l, b :: m => a.eqB b && Fl.allEq l m
  | _, _ => false
theorem Fl.allEq_iff : ∀ l m : List Fl, Fl.allEq l m = true ↔ l = m
  | [], [] => by simp [Fl.allEq]
  | [], _ :: _ => by simp [Fl.allEq]
  | _ :: _, [] => by simp [Fl.allEq]
  | a :: l, b :: m => by simp [Fl.allEq, Fl.eqB_iff, Fl.allEq_iff l m]

set_option maxHeartbeats 4000000 in
theorem fl_neq (w : World) (a b : Fl) : (binOp .neq 28 (.agg #[.int .i64 a.y, .int .i64 a.top, .int .i64 a.area]) (.agg #[.int .i64 b.y, .int .i64 b.top, .int .i64 b.area])).run Tryd.prog w = .ok (.bool (!a.eqB b)) w := by
  obtain ⟨a0, a1, a2⟩ := a
  obtain ⟨b0, b1, b2⟩ := b
  unfold Fl.eqB
  cases h0 : (a0 == b0)
  · go_simp
  · skip
    cases h1 : (a1 == b1)
    · go_simp
    · skip
      cases h2 : (a2 == b2)
      · go_simp
      · go_simp

end Go.Proofs.YtljcebahjfifhaaDoor
