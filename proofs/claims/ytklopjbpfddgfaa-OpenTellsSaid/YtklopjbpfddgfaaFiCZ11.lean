import Derived.Test.YtklopjbpfddgfaaFiBZ11

/- Package filter: Room. -/
namespace Go.Proofs.Ytklopjbpfddgfaa
open Go.RowKit Go.Shelf Go.Sort
set_option linter.unusedVariables false
attribute [local go_sem] Oper.semAt_some

/-- Is there such a room? -/
def rOk (l : List Sn) (k : Int) : Bool := decide (spE l = 0) && (decide (0 ≤ k) && decide (k < l.length))
def rTop (l : List Sn) (k : Int) : Int := if rOk l k = true then roofF l k.toNat else 0
theorem rOk_iff (l : List Sn) (k : Int) : rOk l k = true ↔ spE l = 0 ∧ 0 ≤ k ∧ k < l.length := by unfold rOk; simp
theorem rTop_at {l : List Sn} (h : spE l = 0) {j : Nat} (hj : j < l.length) : rOk l j = true ∧ rTop l j = roofF l j := by
  have h1 : rOk l j = true := (rOk_iff l j).2 ⟨h, by omega, by omega⟩
  exact ⟨h1, by unfold rTop; rw [if_pos h1]; simp⟩
theorem rTop_no {l : List Sn} {k : Int} (h : ¬ (spE l = 0 ∧ 0 ≤ k ∧ k < l.length)) : rOk l k = false ∧ rTop l k = 0 := by
  have h1 : rOk l k = false := by
    cases hb : rOk l k
    · rfl
    · exact absurd ((rOk_iff l k).1 hb) h
  exact ⟨h1, by unfold rTop; rw [h1]; rfl⟩

end Go.Proofs.Ytklopjbpfddgfaa
