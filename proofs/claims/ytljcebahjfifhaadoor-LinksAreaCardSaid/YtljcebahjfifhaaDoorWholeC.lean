/- Contracts of Ceil, Mod, Sign of package whole and of the document's own. -/
import Derived.Test.YtljcebahjfifhaaDoorWholeB
namespace Go.Proofs.YtljcebahjfifhaaDoor
open Go.RowKit

theorem tame_tame (n : Int) : tameI (tameI n) = tameI n := by unfold tameI clampI; omega
theorem tame_neg_tame (n : Int) : tameI (- tameI n) = - tameI n := by unfold tameI clampI; omega
theorem floorI_bd (a b : Int) : -2305843009213693953 ≤ floorI a b ∧ floorI a b ≤ 2305843009213693952 := by
  unfold floorI
  split
  · omega
  · exact fdiv_bd _ _ ‹_› (tame_bd a)
theorem floorI_tame (a b : Int) : floorI a (tameI b) = floorI a b := by unfold floorI; rw [tame_tame]
theorem floorI_tame' (a b : Int) : floorI (tameI a) b = floorI a b := by unfold floorI; rw [tame_tame]

def ceilI (a b : Int) : Int := - floorI (- tameI a) b

def modI (a b : Int) : Int := if tameI b < 1 then 0 else Int.fmod (tameI a) (tameI b)
def modE (b : Int) : Int := if tameI b < 1 then 2 else 0

end Go.Proofs.YtljcebahjfifhaaDoor
