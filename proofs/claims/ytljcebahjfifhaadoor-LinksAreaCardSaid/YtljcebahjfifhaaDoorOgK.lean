/- Package open: a column of a grid. -/
import Derived.Test.YtljcebahjfifhaaDoorOgJ
namespace Go.Proofs.YtljcebahjfifhaaDoor
open Go.RowKit
set_option linter.unusedVariables false

def inG (G : Gd) (x z : Int) : Bool := wiB x G.x (G.x + G.w - 1) && wiB z G.z (G.z + G.d - 1)
def ixG (G : Gd) (x z : Int) : Nat := ((z - G.z) * G.w + (x - G.x)).toNat
/-- A column's floors. -/
def atG (G : Gd) (x z : Int) : List Fl := if inG G x z = true then (G.L[ixG G x z]?).getD [] else []
theorem inG_iff {G : Gd} {x z : Int} : inG G x z = true ↔ (G.x ≤ x ∧ x ≤ G.x + G.w - 1) ∧ (G.z ≤ z ∧ z ≤ G.z + G.d - 1) := by
  unfold inG
  simp only [Bool.and_eq_true, wiB_iff]
/-- Where a column of the grid stands. -/
theorem ixG_is {G : Gd} (hE : gE G = 0) {x z : Int} (h : inG G x z = true) : 0 ≤ (z - G.z) * G.w ∧ (z - G.z) * G.w ≤ 4096 ∧ (ixG G x z : Int) = (z - G.z) * G.w + (x - G.x) ∧ ixG G x z < G.L.length := by
  obtain ⟨hp, hl, -⟩ := gd_is hE
  have hb := placeB_iff.1 hp
  have hi := inG_iff.1 h
  have h1 : 0 ≤ (z - G.z) * G.w := Int.mul_nonneg (by omega) (by omega)
  have h2 : (z - G.z) * G.w ≤ (G.d - 1) * G.w := Int.mul_le_mul_of_nonneg_right (by omega) (by omega)
  have h3 : (G.d - 1) * G.w = G.w * G.d - G.w := by rw [Int.sub_mul, Int.one_mul, Int.mul_comm]
  have h4 := mul_64 (show 0 ≤ G.w by omega) (show G.w ≤ 64 by omega) (show 0 ≤ G.d by omega) (show G.d ≤ 64 by omega)
  have h5 : (ixG G x z : Int) = (z - G.z) * G.w + (x - G.x) := by unfold ixG; omega
  exact ⟨h1, by omega, h5, by omega⟩
theorem atG_in {G : Gd} (hE : gE G = 0) {x z : Int} (h : inG G x z = true) : atG G x z = G.L[ixG G x z]'(ixG_is hE h).2.2.2 := by
  unfold atG
  rw [if_pos h, List.getElem?_eq_getElem (ixG_is hE h).2.2.2]
  rfl
theorem atG_out {G : Gd} {x z : Int} (h : inG G x z = false) : atG G x z = [] := by unfold atG; rw [if_neg (by rw [h]; simp)]
theorem atG_len {G : Gd} (hE : gE G = 0) (x z : Int) : (atG G x z).length ≤ 8 := by
  cases h : inG G x z
  · rw [atG_out h]; simp
  · rw [atG_in hE h]
    exact riseB_len ((gd_is hE).2.2 _ _)

end Go.Proofs.YtljcebahjfifhaaDoor
