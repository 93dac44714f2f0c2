/- Floors of columns, plain and as they lie. No function of the program in sight. -/
import Derived.Test.YtljcebahjfifhaaDoorSpA
namespace Go.Proofs.YtljcebahjfifhaaDoor
open Go.RowKit
set_option linter.unusedVariables false

/-- A floor. -/
structure Fl where
  (y top area : Int)
instance : Inhabited Fl := ⟨⟨0, 0, 0⟩⟩
def Fl.zero : Fl := ⟨0, 0, 0⟩
def Fl.enc (x : Fl) : List Value := #[.int .i64 x.y, .int .i64 x.top, .int .i64 x.area].toList
theorem Fl.enc_len (x : Fl) : x.enc.length = 3 := rfl
theorem Fl.enc_one (x : Fl) : ∀ u ∈ x.enc, u.oneCell' = true := by
  intro u hu
  simp [Fl.enc] at hu
  rcases hu with rfl | rfl | rfl <;> rfl
def Fl.eqB (a b : Fl) : Bool := a.y == b.y && a.top == b.top && a.area == b.area
theorem Fl.eqB_iff (a b : Fl) : a.eqB b = true ↔ a = b := by
  obtain ⟨a0, a1, a2⟩ := a
  obtain ⟨b0, b1, b2⟩ := b
  simp [Fl.eqB, and_assoc]
instance : DecidableEq Fl := fun a b => decidable_of_iff _ (Fl.eqB_iff a b)
theorem Fl.cells {w : World} {b off : Nat} {l : List Fl} (H : RowAt Fl.enc 3 w b off l) (j : Nat) (h : j < l.length) :
    w.cell? ⟨b, off + j * 3, none⟩ = some (.int .i64 l[j].y) ∧ w.cell? ⟨b, off + j * 3 + 1, none⟩ = some (.int .i64 l[j].top) ∧ w.cell? ⟨b, off + j * 3 + 2, none⟩ = some (.int .i64 l[j].area) :=
  ⟨H j h 0 (by rw [Fl.enc_len]; omega), H j h 1 (by rw [Fl.enc_len]; omega), H j h 2 (by rw [Fl.enc_len]; omega)⟩

end Go.Proofs.YtljcebahjfifhaaDoor
