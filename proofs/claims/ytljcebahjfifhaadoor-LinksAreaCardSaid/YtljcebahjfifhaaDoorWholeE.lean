/- Contracts of Root and RootUp of package whole. -/
import Derived.Test.YtljcebahjfifhaaDoorWholeD
import Derived.Test.YtljcebahjfifhaaDoorWholeR
namespace Go.Proofs.YtljcebahjfifhaaDoor
open Go.RowKit

/-- New blocks alone: all that was there stands as it stood. -/
def Calm (w w' : World) : Prop := Below w.heap.size w w' ∧ Grown w w'
theorem Calm.refl (w : World) : Calm w w := ⟨Below.refl _ _, Grown.refl _⟩
theorem grown_trans {a b c : World} (h : Grown a b) (k : Grown b c) : Grown a c :=
  ⟨World.keptBut_trans h.1 k.1, fun x => (k.2.1 x).trans (h.2.1 x), Nat.le_trans h.2.2 k.2.2⟩
theorem Calm.trans {a b c : World} (h : Calm a b) (k : Calm b c) : Calm a c :=
  ⟨h.1.trans (k.1.mono h.1.size), grown_trans h.2 k.2⟩

def pRoot (n k : Int) : Bool := decide (n < (k + 1) * (k + 1))
def pUp (n k : Int) : Bool := decide (n ≤ k * k)

end Go.Proofs.YtljcebahjfifhaaDoor
