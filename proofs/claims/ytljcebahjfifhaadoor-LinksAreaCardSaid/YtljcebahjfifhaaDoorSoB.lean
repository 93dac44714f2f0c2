/- Package soup: what is in order; rows of tests. -/
import Derived.Test.YtljcebahjfifhaaDoorSoR
import Derived.Test.YtljcebahjfifhaaDoorHatS
import Derived.Deep.LoopGhost
import Derived.Shelf.Abstract
namespace Go.Proofs.YtljcebahjfifhaaDoor
open Go.RowKit
set_option linter.unusedVariables false

theorem retBo {a b : Bool} (h : a = b) : Ending.returned (.bool a) = .returned (.bool b) := by rw [h]

/-- None is above the one behind it. -/
def ordB : List Int → Bool
  | a :: b :: l => decide (a ≤ b) && ordB (b :: l)
  | _ => true
theorem ordB_drop : ∀ (l : List Int) (j : Nat), ordB l = true → ordB (l.drop j) = true
  | l, 0, h => h
  | [], _ + 1, _ => rfl
  | [a], j + 1, _ => by simp [ordB]
  | a :: b :: l, j + 1, h => by
    simp only [ordB, Bool.and_eq_true] at h
    exact ordB_drop (b :: l) j h.2
theorem ordB_step (l : List Int) (j : Nat) (h : j + 1 < l.length) : ordB (l.drop j) = (decide (l[j] ≤ l[j + 1]) && ordB (l.drop (j + 1))) := by
  rw [List.drop_eq_getElem_cons (show j < l.length by omega), List.drop_eq_getElem_cons h]
  rfl

/-- A row of numbers at a block's head. -/
def IntsAt (w : World) (b : Nat) (l : List Int) : Prop := ∀ j (h : j < l.length), w.cell? ⟨b, j, none⟩ = some (.int .i64 l[j])
theorem IntsAt.keep {w w' : World} {b : Nat} {l : List Int} (h : IntsAt w b l) (hn : New w w') : IntsAt w' b l := fun j hj => hn.keep (h j hj)

/-! Rows of tests. -/
structure Fn where
  g : Nat
  bnd : Array Value
  b : Bool
def FnAt (w : World) (b : Nat) (l : List Fn) : Prop := ∀ j (h : j < l.length), w.cell? ⟨b, j, none⟩ = some (.func (.func l[j].g) #[] l[j].bnd)
/-- A test: what it answers in every world above w0. -/
structure Good (w0 : World) (f : Fn) : Prop where
  eg : ∀ args w, (callFunc f.g args).run Tryd.prog w = .ok (.enter f.g args) w
  run : ∀ W, New w0 W → Calls Tryd.prog f.g f.bnd W fun e w' => e = .returned (.bool f.b) ∧ New W w'

def FnPost (l : List Fn) (w : World) (e : Ending) (w' : World) : Prop := ∃ i : Int, l.all (·.b) = decide (i < 0) ∧ e = .returned (.int .i64 i) ∧ New w w'

end Go.Proofs.YtljcebahjfifhaaDoor
