/- Package open: At, Find. -/
import Derived.Test.YtljcebahjfifhaaDoorOgK
import Derived.Test.YtljcebahjfifhaaDoorSoLF
namespace Go.Proofs.YtljcebahjfifhaaDoor
open Go.RowKit
set_option linter.unusedVariables false

/-- What a grid tells of a column. -/
def tellG (G : Gd) (x z : Int) : List Fl := atG (colG G) x z
theorem tellG_len (G : Gd) (x z : Int) : (tellG G x z).length ≤ 8 := atG_len (colG_E G) x z

/-- Is it this height? -/
def isY (y : Int) (f : Fl) : Bool := f.y == y
def findB (l : List Fl) (y : Int) : Bool := l.any (isY y)
def findI (l : List Fl) (y : Int) : Int := if findB l y = true then (l.findIdx (isY y) : Int) else 0
theorem find_hit {l : List Fl} {y : Int} {i : Nat} (h : i < l.length) (hf : isY y l[i] = true) (hb : ∀ k (hk : k < l.length), k < i → isY y l[k] = false) : findB l y = true ∧ findI l y = i := by
  have h1 : findB l y = true := List.any_eq_true.2 ⟨_, List.getElem_mem h, hf⟩
  have h2 : l.findIdx (isY y) = i := (List.findIdx_eq h).2 ⟨hf, fun j hj => hb j (by omega) hj⟩
  unfold findI
  rw [h1, h2]
  simp
theorem find_none {l : List Fl} {y : Int} (hb : ∀ k (hk : k < l.length), isY y l[k] = false) : findB l y = false ∧ findI l y = 0 := by
  have h1 : findB l y = false := by
    unfold findB
    rw [List.any_eq_false]
    intro x hx
    obtain ⟨i, hi, rfl⟩ := List.getElem_of_mem hx
    rw [hb i hi]; simp
  unfold findI
  rw [h1]
  simp

end Go.Proofs.YtljcebahjfifhaaDoor
