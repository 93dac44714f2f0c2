/- Package spans: what Put answers. -/
import Derived.Test.YtklopjbpfddgfaaSpP
namespace Go.Proofs.Ytklopjbpfddgfaa
open Go.RowKit
set_option linter.unusedVariables false

theorem not_bad {l : List Sn} (h : fstB badS l = false) : ∀ p ∈ l, -2048 ≤ p.lo ∧ p.lo ≤ p.hi ∧ p.hi ≤ 2048 := fun p hp => by
  unfold fstB at h
  rw [List.any_eq_false] at h
  have := h p hp
  exact (badS_not p).1 (by cases hb : badS p; rfl; exact absurd hb this)

/-- What Put answers. -/
def Putted (l : List Sn) (s : Sn) (w : World) (e : Ending) (w' : World) : Prop :=
  New w w' ∧ (((spE l = 2 ∨ badS s = true) ∧ e = .returned (.tuple #[.slice none 0 0, .int .i64 2])) ∨
    (spE l = 0 ∧ badS s = false ∧ ∃ R : List Sn, IsM (l ++ [s]) R ∧ ((8 < R.length ∧ e = .returned (.tuple #[.slice none 0 0, .int .i64 51])) ∨
      (R.length ≤ 8 ∧ ∃ (a : Option Addr) (c : Nat), e = .returned (.tuple #[.slice a R.length c, .int .i64 0]) ∧ Sl Sn.enc 3 w' (.slice a R.length c) R))))

end Go.Proofs.Ytklopjbpfddgfaa
