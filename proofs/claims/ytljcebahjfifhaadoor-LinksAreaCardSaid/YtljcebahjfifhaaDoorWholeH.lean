/- Contracts of Cross of package whole and of the document's own. -/
import Derived.Test.YtljcebahjfifhaaDoorWholeC
import Derived.Handy
namespace Go.Proofs.YtljcebahjfifhaaDoor
open Go.RowKit

def nearB (n : Int) : Bool := withinB n (-1073741824) 1073741824
def crossB (a b c d : Int) : Bool := nearB a && nearB b && nearB c && nearB d
def crossI (a b c d : Int) : Int := if crossB a b c d then a * d - b * c else 0

theorem nearB_iff (n : Int) : nearB n = decide (-1073741824 ≤ n ∧ n ≤ 1073741824) := by
  unfold nearB withinB clampI
  rw [Bool.eq_iff_iff]; simp; omega

theorem near_mul {a b : Int} (ha : nearB a = true) (hb : nearB b = true) : -1152921504606846976 ≤ a * b ∧ a * b ≤ 1152921504606846976 := by
  rw [nearB_iff] at ha hb
  simp at ha hb
  have h : (a * b).natAbs ≤ 1073741824 * 1073741824 := by
    rw [Int.natAbs_mul]
    exact Nat.mul_le_mul (by omega) (by omega)
  omega

end Go.Proofs.YtljcebahjfifhaaDoor
