/- Package open: Same. -/
import Derived.Test.YtljcebahjfifhaaDoorOgI
import Derived.Test.YtljcebahjfifhaaDoorSoXF
namespace Go.Proofs.YtljcebahjfifhaaDoor
open Go.RowKit
set_option linter.unusedVariables false

/-- The same rows? -/
def eqR (L M : List (List Fl)) : Bool := decide (L = M)
theorem eqR_len {L M : List (List Fl)} (h : L.length ≠ M.length) : eqR L M = false := decide_eq_false (fun e => h (by rw [e]))
theorem eqR_at {L M : List (List Fl)} (j : Nat) (h1 : j < L.length) (h2 : j < M.length) (h : L[j] ≠ M[j]) : eqR L M = false := decide_eq_false (fun e => by subst e; exact h rfl)
theorem eqR_all {L M : List (List Fl)} (hl : L.length = M.length) (h : ∀ j (h1 : j < L.length) (h2 : j < M.length), L[j] = M[j]) : eqR L M = true := decide_eq_true (List.ext_getElem hl h)
def smallL (L : List (List Fl)) : Prop := ∀ j (h : j < L.length), L[j].length ≤ 1000

/-- The same grids? -/
def sameG (G O : Gd) : Bool := G.x == O.x && (G.z == O.z && (G.w == O.w && (G.d == O.d && eqR G.L O.L)))

end Go.Proofs.YtljcebahjfifhaaDoor
