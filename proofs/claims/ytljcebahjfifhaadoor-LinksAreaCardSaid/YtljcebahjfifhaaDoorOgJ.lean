/- Package open: columnsOf, at. -/
import Derived.Test.YtljcebahjfifhaaDoorOgI
import Derived.RangeFuncNested
namespace Go.Proofs.YtljcebahjfifhaaDoor
open Go.RowKit
set_option linter.unusedVariables false

def Gd.zero : Gd := ⟨0, 0, 0, 0, [], none, 0⟩
theorem Gd.zero_ok (w : World) : Gd.zero.ok w := RowsK.nil
theorem Gd.zero_E : gE Gd.zero = 0 := by kernel_rfl
theorem Gd.ok.keep {G : Gd} {w w' : World} (h : G.ok w) (n : New w w') : G.ok w' := RowsK.keep h n
/-- A grid's columns: of one that may not be there are none. -/
def colG (G : Gd) : Gd := if gE G = 0 then G else Gd.zero
theorem colG_ok {G : Gd} {w : World} (h : G.ok w) : (colG G).ok w := by
  unfold colG
  split
  · exact h
  · exact Gd.zero_ok w
theorem colG_E (G : Gd) : gE (colG G) = 0 := by
  unfold colG
  split
  · rename_i h; exact h
  · exact Gd.zero_E

end Go.Proofs.YtljcebahjfifhaaDoor
