import Derived.Test.YtdbhlepbaepngaaGreatDoorOgAZ15
import Derived.Test.YtdbhlepbaepngaaGreatDoorHatS
import Derived.Deep.LoopGhost
import Derived.Test.YtdbhlepbaepngaaGreatDoorOgIZ15

/- The library's Equal, of slices of a kind. -/
namespace Go.Proofs.YtdbhlepbaepngaaGreatDoor
open Go.RowKit
set_option linter.unusedVariables false

def Fl.allEq : List Fl → List Fl → Bool
  | [], [] => true
  | a :: l, b :: m => a.eqB b && Fl.allEq l m
  | _, _ => false
theorem Fl.allEq_iff : ∀ l m : List Fl, Fl.allEq l m = true ↔ l = m
  | [], [] => by simp [Fl.allEq]
  | [], _ :: _ => by simp [Fl.allEq]
  | _ :: _, [] => by simp [Fl.allEq]
  | a :: l, b :: m => by simp [Fl.allEq, Fl.eqB_iff, Fl.allEq_iff l m]

set_option maxHeartbeats 4000000 in
theorem fl_neq (w : World) (a b : Fl) : (binOp .neq 39 (.agg #[.int .i64 a.y, .int .i64 a.top, .int .i64 a.area]) (.agg #[.int .i64 b.y, .int .i64 b.top, .int .i64 b.area])).run Tryz.prog w = .ok (.bool (!a.eqB b)) w := by
  obtain ⟨a0, a1, a2⟩ := a
  obtain ⟨b0, b1, b2⟩ := b
  unfold Fl.eqB
  cases h0 : (a0 == b0)
  · go_simp
  · skip
    cases h1 : (a1 == b1)
    · go_simp
    · skip
      cases h2 : (a2 == b2)
      · go_simp
      · go_simp

end Go.Proofs.YtdbhlepbaepngaaGreatDoor

/- Package open: Same. -/
namespace Go.Proofs.YtdbhlepbaepngaaGreatDoor
open Go.RowKit
set_option linter.unusedVariables false

/-- The same rows? -/
def eqR (L M : List (List Fl)) : Bool := decide (L = M)
theorem eqR_len {L M : List (List Fl)} (h : L.length ≠ M.length) : eqR L M = false := decide_eq_false (fun e => h (by rw [e]))
theorem eqR_at {L M : List (List Fl)} (j : Nat) (h1 : j < L.length) (h2 : j < M.length) (h : L[j] ≠ M[j]) : eqR L M = false := decide_eq_false (fun e => by subst e; exact h rfl)
theorem eqR_all {L M : List (List Fl)} (hl : L.length = M.length) (h : ∀ j (h1 : j < L.length) (h2 : j < M.length), L[j] = M[j]) : eqR L M = true := decide_eq_true (List.ext_getElem hl h)
def smallL (L : List (List Fl)) : Prop := ∀ j (h : j < L.length), L[j].length ≤ 1000

/-- The same grids? -/
def sameG (G O : Gd) : Bool := G.x == O.x && (G.z == O.z && (G.w == O.w && (G.d == O.d && eqR G.L O.L)))

end Go.Proofs.YtdbhlepbaepngaaGreatDoor
