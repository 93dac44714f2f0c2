/- Contracts of Floor, Ceil, Mod, Sign of package whole and of the document's own. -/
import Derived.Test.YtljcebahjfifhaaDoorWholeA
import Derived.Test.YtljcebahjfifhaaDoorWholeM
namespace Go.Proofs.YtljcebahjfifhaaDoor
open Go.RowKit

def floorI (a b : Int) : Int := if tameI b = 0 then 0 else Int.fdiv (tameI a) (tameI b)
def errI (b : Bool) : Int := if b then 0 else 2

theorem retT {a b c d : Int} (h : a = b) (h' : c = d) : Ending.returned (.tuple #[.int .i64 a, .int .i64 c]) = .returned (.tuple #[.int .i64 b, .int .i64 d]) := by rw [h, h']

theorem floorI_zero {a b : Int} (h : (tameI b == 0) = true) : floorI a b = 0 := by unfold floorI; simp_all
theorem errI_zero {b : Int} (h : (tameI b == 0) = true) : errI (tameI b != 0) = 2 := by unfold errI; simp_all
theorem floorI_ok {a b : Int} (h : (tameI b == 0) = false) : floorI a b = Int.fdiv (tameI a) (tameI b) := by unfold floorI; simp_all
theorem errI_ok {b : Int} (h : (tameI b == 0) = false) : errI (tameI b != 0) = 0 := by unfold errI; simp_all

end Go.Proofs.YtljcebahjfifhaaDoor
