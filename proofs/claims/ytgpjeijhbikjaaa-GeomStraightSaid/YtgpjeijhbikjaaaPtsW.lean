/- Rows of points that a call makes for itself. No function of the program in sight. -/
import Derived.Test.YtgpjeijhbikjaaaPts
import Derived.OwnWalk
import Derived.OneCell
namespace Go.Proofs.Ytgpjeijhbikjaaa
open Go.RowKit
set_option linter.unusedVariables false

/-- The cells of a row of points. -/
def ptCells : List (Int × Int) → List Value
  | [] => []
  | p :: l => .int .i64 p.1 :: .int .i64 p.2 :: ptCells l
theorem ptCells_length : ∀ l : List (Int × Int), (ptCells l).length = l.length * 2
  | [] => rfl
  | p :: l => by simp [ptCells, ptCells_length l]; omega
theorem ptCells_append : ∀ l m : List (Int × Int), ptCells (l ++ m) = ptCells l ++ ptCells m
  | [], _ => rfl
  | p :: l, m => by simp [ptCells, ptCells_append l m]
theorem ptCells_get : ∀ (l : List (Int × Int)) (j : Nat) (h : j < l.length), (ptCells l)[j * 2]? = some (.int .i64 l[j].1) ∧ (ptCells l)[j * 2 + 1]? = some (.int .i64 l[j].2)
  | p :: l, 0, _ => ⟨rfl, rfl⟩
  | p :: l, j + 1, h => by
    have := ptCells_get l j (by simpa using h)
    rw [show (j + 1) * 2 = j * 2 + 1 + 1 by omega]
    simpa [ptCells] using this
theorem ptCells_one (l : List (Int × Int)) : ∀ u ∈ ptCells l, u.oneCell' = true := by
  induction l with
  | nil => intro u h; cases h
  | cons p l ih =>
    intro u h
    simp only [ptCells, List.mem_cons] at h
    rcases h with rfl | rfl | h
    · rfl
    · rfl
    · exact ih u h

/-- The row v, of the call's own (from block number base on), holds these points. -/
def Owns (w : World) (base : Nat) (e : TypeId) (v : Value) (l : List (Int × Int)) : Prop := w.ownsRow base e 2 v l.length (ptCells l)

theorem Owns.new {w w' : World} {base : Nat} {e : TypeId} {v : Value} {l : List (Int × Int)} (h : Owns w base e v l) (hn : New w w') : Owns w' base e v l := by
  obtain ⟨h1, h2⟩ := h
  refine ⟨h1, h2.imp id ?_⟩
  rintro ⟨g, cap, cur, rfl, hb, hg, r⟩
  exact ⟨g, cap, cur, rfl, hb, new_heap hn hg, r⟩
where
  new_heap {a w : World} (h : New a w) {b : Nat} {o : Obj} (hb : a.heap[b]? = some o) : w.heap[b]? = some o := by
    rw [h.block b (by rcases Nat.lt_or_ge b a.heap.size with q | q; exact q; rw [Array.getElem?_eq_none q] at hb; cases hb)]; exact hb

theorem Owns.at {w : World} {base : Nat} {e : TypeId} {g cap : Nat} {l : List (Int × Int)} {n : Nat} (h : Owns w base e (.slice (some ⟨g, 0, none⟩) n cap) l) : n = l.length ∧ base ≤ g ∧ l.length ≤ cap ∧ cap ≤ maxLen ∧ g < w.heap.size := by
  obtain ⟨h1, h2⟩ := h
  rcases h2 with ⟨h, _⟩ | ⟨g', cap', cur, h, hb, hg, hl, hc, _⟩
  · cases h
  · injection h with h1 h2 h3
    injection h1 with h1
    injection h1 with h1
    subst h1 h2 h3
    exact ⟨rfl, hb, hl, hc, by rcases Nat.lt_or_ge g w.heap.size with q | q; exact q; rw [Array.getElem?_eq_none q] at hg; cases hg⟩

theorem Owns.pts {w : World} {base : Nat} {e : TypeId} {g cap : Nat} {l : List (Int × Int)} {n : Nat} (h : Owns w base e (.slice (some ⟨g, 0, none⟩) n cap) l) : PtsAt w g 0 l := fun j hj => by
  obtain rfl := h.at.1
  have g1 := ptCells_get l j hj
  have hk := ptCells_length l
  have a := World.ownsRow.cellAt h (j * 2) (by omega)
  have b := World.ownsRow.cellAt h (j * 2 + 1) (by omega)
  rw [g1.1] at a
  rw [g1.2] at b
  exact ⟨by rw [Nat.zero_add]; exact a, by rw [Nat.zero_add]; exact b⟩

theorem Owns.frozen {w : World} {base : Nat} {e : TypeId} {g cap : Nat} {l : List (Int × Int)} {n : Nat} (h : Owns w base e (.slice (some ⟨g, 0, none⟩) n cap) l) (j : Nat) : w.frozen? ⟨g, j, none⟩ = false := by
  obtain rfl := h.at.1
  exact World.ownsRow.frozenAt h j

theorem New.grown {a w w' : World} {row : Option Nat} (h : New a w) (hg : w.grownBy w' row) (hr : ∀ k, row = some k → a.heap.size ≤ k) : New a w' := Below.grown h hg h.size hr

end Go.Proofs.Ytgpjeijhbikjaaa
