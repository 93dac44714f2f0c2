/- Contracts of the roots: the library's binary search over the closure that package whole hands it, and what is found. -/
import Derived.Test.YtljcebahjfifhaaDoorWholeC
import Derived.Handy
import Derived.Lib.Hide
namespace Go.Proofs.YtljcebahjfifhaaDoor
open Go.RowKit

def SearchPost (p : Int → Bool) (n : Int) (w : World) (e : Ending) (w' : World) : Prop :=
  ∃ i : Int, 0 ≤ i ∧ i ≤ n ∧ (0 < i → p (i - 1) = false) ∧ (i < n → p i = true) ∧ e = .returned (.int .i64 i) ∧ w = w'

def SearchRel (p : Int → Bool) (n : Int) (x y : Value) : Prop :=
  ∃ i j : Int, 0 ≤ i ∧ i ≤ j ∧ j ≤ n ∧ (0 < i → p (i - 1) = false) ∧ (j < n → p j = true) ∧ x = .int .i64 i ∧ y = .int .i64 j

end Go.Proofs.YtljcebahjfifhaaDoor
