/- Rows of points in memory. No function of the program in sight. -/
import Derived.Test.YtljcebahjfifhaaDoorHat
namespace Go.Proofs.YtljcebahjfifhaaDoor
open Go.RowKit
set_option linter.unusedVariables false

/-- A row of points lies behind this address. -/
def PtsAt (w : World) (b off : Nat) (l : List (Int × Int)) : Prop :=
  ∀ j (h : j < l.length), w.cell? ⟨b, off + j * 2, none⟩ = some (.int .i64 l[j].1) ∧ w.cell? ⟨b, off + j * 2 + 1, none⟩ = some (.int .i64 l[j].2)
/-- A slice of points: nothing is asked where it has no point. -/
def PtsIn (w : World) (at0 : Option Addr) (l : List (Int × Int)) : Prop := 0 < l.length → ∃ b off, at0 = some ⟨b, off, none⟩ ∧ PtsAt w b off l

theorem PtsAt.keep {w w' : World} {b off : Nat} {l : List (Int × Int)} (h : PtsAt w b off l) (hn : New w w') : PtsAt w' b off l :=
  fun j hj => ⟨hn.keep (h j hj).1, hn.keep (h j hj).2⟩
theorem PtsIn.keep {w w' : World} {at0 : Option Addr} {l : List (Int × Int)} (h : PtsIn w at0 l) (hn : New w w') : PtsIn w' at0 l :=
  fun h0 => by obtain ⟨b, off, e, h1⟩ := h h0; exact ⟨b, off, e, h1.keep hn⟩

theorem drop_cons {α : Type} {l : List α} {j : Nat} (h : j < l.length) : l.drop j = l[j] :: l.drop (j + 1) := List.drop_eq_getElem_cons h

end Go.Proofs.YtljcebahjfifhaaDoor
