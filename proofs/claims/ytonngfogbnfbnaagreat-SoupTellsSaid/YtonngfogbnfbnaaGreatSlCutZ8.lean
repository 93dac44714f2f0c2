import Derived.Test.YtonngfogbnfbnaaGreatSlAppZ8

/- A row on its way to having one taken out. No function of the program in sight. -/
namespace Go.Proofs.YtonngfogbnfbnaaGreat
open Go.RowKit
set_option linter.unusedVariables false

section
variable {α : Type}
def cutl (l : List α) (j m : Nat) : List α := if m ≤ j then l.take m else l.take j ++ (l.drop (j + 1)).take (m - (j + 1))
theorem cutl_zero (l : List α) (j : Nat) : cutl l j 0 = [] := by unfold cutl; simp
theorem cutl_lo {l : List α} {j m : Nat} (h : m < j) (hl : m < l.length) : cutl l j (m + 1) = cutl l j m ++ [l[m]] := by
  unfold cutl
  rw [if_pos (by omega), if_pos (by omega), List.take_succ_eq_append_getElem hl]
theorem cutl_at {l : List α} {j : Nat} : cutl l j (j + 1) = cutl l j j := by
  unfold cutl
  rw [if_neg (by omega), if_pos (Nat.le_refl _)]
  simp
theorem cutl_hi {l : List α} {j m : Nat} (h : j < m) (hl : m < l.length) : cutl l j (m + 1) = cutl l j m ++ [l[m]] := by
  unfold cutl
  rw [if_neg (by omega), if_neg (by omega), show m + 1 - (j + 1) = (m - (j + 1)) + 1 by omega, List.take_succ_eq_append_getElem (by simp; omega)]
  simp only [List.append_assoc]
  congr 3
  rw [List.getElem_drop]
  congr 2
  omega
theorem cutl_end {l : List α} {j : Nat} (hl : j < l.length) : cutl l j l.length = l.take j ++ l.drop (j + 1) := by
  unfold cutl
  rw [if_neg (by omega)]
  congr 1
  exact List.take_of_length_le (by simp)
theorem cutl_len {l : List α} {j m : Nat} : (cutl l j m).length ≤ m := by
  unfold cutl
  split
  · simp; omega
  · simp; omega
end

end Go.Proofs.YtonngfogbnfbnaaGreat
