import Derived.Test.YtgoggogcbjfofaaDoorHat
import Derived.Test.YtgoggogcbjfofaaDoorFlat
import Derived.Deep.Slices

/- Rows of points in memory. No function of the program in sight. -/
namespace Go.Proofs.YtgoggogcbjfofaaDoor
open Go.RowKit
set_option linter.unusedVariables false

/-- A row of points lies behind this address. -/
def PtsAt (w : World) (b off : Nat) (l : List (Int × Int)) : Prop :=
  ∀ j (h : j < l.length), w.cell? ⟨b, off + j * 2, none⟩ = some (.int .i64 l[j].1) ∧ w.cell? ⟨b, off + j * 2 + 1, none⟩ = some (.int .i64 l[j].2)
/-- A slice of points: nothing is asked where it has no point. -/
def PtsIn (w : World) (at0 : Option Addr) (l : List (Int × Int)) : Prop := 0 < l.length → ∃ b off, at0 = some ⟨b, off, none⟩ ∧ PtsAt w b off l

theorem PtsAt.keep {w w' : World} {b off : Nat} {l : List (Int × Int)} (h : PtsAt w b off l) (hn : New w w') : PtsAt w' b off l :=
  fun j hj => ⟨hn.keep (h j hj).1, hn.keep (h j hj).2⟩
theorem PtsIn.keep {w w' : World} {at0 : Option Addr} {l : List (Int × Int)} (h : PtsIn w at0 l) (hn : New w w') : PtsIn w' at0 l :=
  fun h0 => by obtain ⟨b, off, e, h1⟩ := h h0; exact ⟨b, off, e, h1.keep hn⟩

theorem drop_cons {α : Type} {l : List α} {j : Nat} (h : j < l.length) : l.drop j = l[j] :: l.drop (j + 1) := List.drop_eq_getElem_cons h

end Go.Proofs.YtgoggogcbjfofaaDoor

/- A slice of structs of two integers that came in: what it holds. No function of the program in sight. -/
namespace Go.Proofs.YtgoggogcbjfofaaDoor
open Go.ChangeShapes Go.WideShapes Go.RowKit Go.Deep
set_option linter.unusedVariables false

theorem spot_none {w : World} {b o : Nat} {s : Option Nat} {v : Value} (h : w.cell? ⟨b, o, s⟩ = some v) : s = none := by
  cases s with
  | none => rfl
  | some x =>
    unfold World.cell? at h
    split at h <;> simp at h

theorem add_none (b o n : Nat) : (⟨b, o, none⟩ : Addr).add n = ⟨b, o + n, none⟩ := by
  unfold Addr.add
  split
  · simp_all
  · rfl

theorem open_pts {H : Type} {enc : TypeId × Value → H} {P : Program} {w : World} {base : Nat} {spare : Nat → Bool} {held : Bool} {r : Reach} {b0 : Nat} {t e : TypeId} {v : Value} {d : DataW H} {p : List MemPlace} (ht : P.underlying t = some (.slice e)) (hce : P.cellsOf e = 2) (hk : flat P 64 e = some [.num .i64, .num .i64])
    (hv : Value.okWide P w r b0 t v) (h : DataW.Trod enc P w base spare held t v d p) : ∃ (at0 : Option Addr) (l : List (Int × Int)) (c : Nat), v = .slice at0 l.length c ∧ l.length ≤ maxLen ∧ PtsIn w at0 l := by
  obtain ⟨a, len, cap, rfl⟩ := okWide_slice ht hv
  obtain ⟨fuel, hf⟩ := h
  rcases open_slice ht hf with ⟨hc, _⟩ | ⟨a', len', cap', m, n', D, Pl, hc, hb, hl, hm, hmm, _, hx⟩
  · injection hc with hc
    injection hc with h1 h2 h3
    subst h1 h2 h3
    exact ⟨none, [], 0, rfl, Nat.zero_le _, fun h => absurd h (by simp)⟩
  · injection hc with hc
    injection hc with h1 h2 h3
    subst h1 h2 h3
    have hlm : len ≤ m := by rw [hmm]; split <;> omega
    have each : ∀ i, i < len → ∃ q : Int × Int, w.cell? (a'.add (i * 2)) = some (.int .i64 q.1) ∧ w.cell? ((a'.add (i * 2)).add 1) = some (.int .i64 q.2) := fun i hi => by
      obtain ⟨cs', g1, g2⟩ := hx i (by omega)
      rw [hce] at g1
      obtain ⟨_, hlen, hcell⟩ := World.cells?_some g1
      have hfit := fits_flat 64 hk g2
      obtain ⟨_, _, e1, ⟨x, rfl, _⟩, hfit⟩ := hfit.cons
      obtain ⟨_, _, e2, ⟨z, rfl, _⟩, hfit⟩ := hfit.cons
      have e3 := hfit.nil
      subst e3 e2 e1
      have c0 := hcell 0 (by omega)
      have c1 := hcell 1 (by omega)
      exact ⟨(x, z), by simpa [Addr.add] using c0, by simpa using c1⟩
    obtain ⟨f, hf⟩ := choose_lt each
    obtain ⟨ab, ao, as'⟩ := a'
    refine ⟨some ⟨ab, ao, as'⟩, (List.range len).map f, cap, by simp, by simp; omega, fun h0 => ?_⟩
    simp only [List.length_map, List.length_range] at h0
    have hs : as' = none := spot_none (hf 0 h0).1
    subst hs
    refine ⟨ab, ao, rfl, fun j hj => ?_⟩
    simp only [List.length_map, List.length_range] at hj
    simp only [List.getElem_map, List.getElem_range]
    have := hf j hj
    simp only [add_none] at this
    exact this

end Go.Proofs.YtgoggogcbjfofaaDoor

/- Rows of structs that are read: what holds of them in memory. No function of the program in sight. -/
namespace Go.Proofs.YtgoggogcbjfofaaDoor
open Go.ChangeShapes Go.WideShapes Go.RowKit Go.Deep
set_option linter.unusedVariables false

/-- The cells from this address on. -/
def CellsAt (w : World) (b o : Nat) (vs : List Value) : Prop := ∀ i (h : i < vs.length), w.cell? ⟨b, o + i, none⟩ = some vs[i]
theorem CellsAt.keep {w w' : World} {b o : Nat} {vs : List Value} (h : CellsAt w b o vs) (hn : New w w') : CellsAt w' b o vs := fun i hi => hn.keep (h i hi)

section
variable {α : Type}
/-- A row of elements of k cells each. -/
def RowAt (enc : α → List Value) (k : Nat) (w : World) (b off : Nat) (l : List α) : Prop := ∀ j (h : j < l.length), CellsAt w b (off + j * k) (enc l[j])
theorem RowAt.keep {enc : α → List Value} {k : Nat} {w w' : World} {b off : Nat} {l : List α} (h : RowAt enc k w b off l) (hn : New w w') : RowAt enc k w' b off l := fun j hj => (h j hj).keep hn
/-- A slice: nothing is asked where it has no element. -/
def RowIn (enc : α → List Value) (k : Nat) (w : World) (at0 : Option Addr) (l : List α) : Prop := 0 < l.length → ∃ b off, at0 = some ⟨b, off, none⟩ ∧ RowAt enc k w b off l
theorem RowIn.keep {enc : α → List Value} {k : Nat} {w w' : World} {at0 : Option Addr} {l : List α} (h : RowIn enc k w at0 l) (hn : New w w') : RowIn enc k w' at0 l :=
  fun h0 => by obtain ⟨b, off, e, h1⟩ := h h0; exact ⟨b, off, e, h1.keep hn⟩
theorem RowIn.nil {enc : α → List Value} {k : Nat} {w : World} {at0 : Option Addr} : RowIn enc k w at0 ([] : List α) := fun h => absurd h (by simp)
theorem RowAt.take {enc : α → List Value} {k : Nat} {w : World} {b off : Nat} {l : List α} (h : RowAt enc k w b off l) (n : Nat) : RowAt enc k w b off (l.take n) := fun j hj => by
  have hj' : j < l.length := by simp at hj; omega
  rw [List.getElem_take]
  exact h j hj'
theorem RowIn.take {enc : α → List Value} {k : Nat} {w : World} {at0 : Option Addr} {l : List α} (h : RowIn enc k w at0 l) (n : Nat) : RowIn enc k w at0 (l.take n) := fun h0 => by
  obtain ⟨b, off, e, h1⟩ := h (by simp at h0; omega)
  exact ⟨b, off, e, h1.take n⟩
theorem RowAt.drop {enc : α → List Value} {k : Nat} {w : World} {b off : Nat} {l : List α} (h : RowAt enc k w b off l) (n : Nat) : RowAt enc k w b (off + n * k) (l.drop n) := fun j hj => by
  have hj' : n + j < l.length := by simp at hj; omega
  rw [List.getElem_drop]
  have := h (n + j) hj'
  rwa [Nat.add_mul, ← Nat.add_assoc] at this

/-- A value that is such a slice. -/
def Sl (enc : α → List Value) (k : Nat) (w : World) (v : Value) (l : List α) : Prop := ∃ at0 c, v = .slice at0 l.length c ∧ l.length ≤ c ∧ c ≤ maxLen ∧ (at0 = none → c = 0) ∧ RowIn enc k w at0 l
theorem Sl.keep {enc : α → List Value} {k : Nat} {w w' : World} {v : Value} {l : List α} (h : Sl enc k w v l) (hn : New w w') : Sl enc k w' v l := by
  obtain ⟨a, c, e, h1, h2, h3, h4⟩ := h
  exact ⟨a, c, e, h1, h2, h3, h4.keep hn⟩
theorem Sl.nil {enc : α → List Value} {k : Nat} {w : World} : Sl enc k w (.slice none 0 0) ([] : List α) := ⟨none, 0, rfl, Nat.le_refl _, Nat.zero_le _, fun _ => rfl, RowIn.nil⟩

theorem list_map_of {β : Type} (f : α → β) (P : β → Prop) (l : List β) (h : ∀ x ∈ l, P x) (hp : ∀ y, P y → ∃ x, f x = y) : ∃ l' : List α, l'.map f = l := by
  induction l with
  | nil => exact ⟨[], rfl⟩
  | cons y l ih =>
    obtain ⟨x, hx⟩ := hp y (h y List.mem_cons_self)
    obtain ⟨l', hl'⟩ := ih fun z hz => h z (List.mem_cons_of_mem _ hz)
    exact ⟨x :: l', by rw [List.map_cons, hx, hl']⟩

/-- A slice of structs that came in. -/
theorem open_row [Inhabited α] {H : Type} {enc : TypeId × Value → H} {P : Program} {w : World} {base : Nat} {spare : Nat → Bool} {held : Bool} {t e : TypeId} {cs : List Value} {x : DataW H × List MemPlace} {fuel : Nat} {ks : List Kd} (en : α → List Value) (k : Nat) (hkl : ∀ a, (en a).length = k) (hk0 : 0 < k)
    (ht : P.underlying t = some (.slice e)) (hce : P.cellsOf e = k) (hk : flat P 64 e = some ks) (hen : ∀ vs, Fits ks vs → ∃ a, en a = vs) (h : DataW.trod enc P w base spare held fuel t cs = some x) : ∃ (v : Value) (l : List α), cs = [v] ∧ Sl en k w v l := by
  rcases open_slice ht h with ⟨hc, _⟩ | ⟨a', len', cap', m, n', D, Pl, hc, hb, hl, hm, hmm, _, hx⟩
  · exact ⟨_, [], hc, Sl.nil⟩
  · have hlm : len' ≤ m := by rw [hmm]; split <;> omega
    have each : ∀ i, i < len' → ∃ q : α, ∀ j (hj : j < (en q).length), w.cell? ((a'.add (i * k)).add j) = some (en q)[j] := fun i hi => by
      obtain ⟨cs', g1, g2⟩ := hx i (by omega)
      rw [hce] at g1
      obtain ⟨_, hlen, hcell⟩ := World.cells?_some g1
      have hfit := fits_flat 64 hk g2
      obtain ⟨q, hq⟩ := hen _ hfit
      refine ⟨q, fun j hj => ?_⟩
      subst hq
      rw [hcell j (by rw [← hlen]; exact hj), List.getElem?_eq_getElem hj]
    obtain ⟨f, hf⟩ := choose_lt each
    obtain ⟨ab, ao, as'⟩ := a'
    refine ⟨_, (List.range len').map f, hc, some ⟨ab, ao, as'⟩, cap', by simp, by simpa using hl, hm, fun h => (by cases h), fun h0 => ?_⟩
    simp only [List.length_map, List.length_range] at h0
    have hs : as' = none := by
      have h1 := hf 0 h0 0 (by rw [hkl]; exact hk0)
      cases as' with
      | none => rfl
      | some x =>
        rw [Nat.zero_mul, Addr.add_zero', Addr.add_zero'] at h1
        exact absurd (spot_none h1) (by simp)
    subst hs
    refine ⟨ab, ao, rfl, fun j hj i hi => ?_⟩
    simp only [List.length_map, List.length_range] at hj
    simp only [List.getElem_map, List.getElem_range] at hi ⊢
    have := hf j hj i hi
    simp only [add_none] at this
    exact this

end
end Go.Proofs.YtgoggogcbjfofaaDoor
