/- A slice of structs of two integers that came in: what it holds. No function of the program in sight. -/
import Derived.Test.YtljcebahjfifhaaDoorPts
import Derived.Test.YtljcebahjfifhaaDoorFlat
import Derived.Deep.Slices
namespace Go.Proofs.YtljcebahjfifhaaDoor
open Go.ChangeShapes Go.WideShapes Go.RowKit Go.Deep
set_option linter.unusedVariables false

theorem spot_none {w : World} {b o : Nat} {s : Option Nat} {v : Value} (h : w.cell? ⟨b, o, s⟩ = some v) : s = none := by
  cases s with
  | none => rfl
  | some x =>
    unfold World.cell? at h
    split at h <;> simp at h

theorem add_none (b o n : Nat) : (⟨b, o, none⟩ : Addr).add n = ⟨b, o + n, none⟩ := by
  unfold Addr.add
  split
  · simp_all
  · rfl

theorem open_pts {H : Type} {enc : TypeId × Value → H} {P : Program} {w : World} {base : Nat} {spare : Nat → Bool} {held : Bool} {r : Reach} {b0 : Nat} {t e : TypeId} {v : Value} {d : DataW H} {p : List MemPlace} (ht : P.underlying t = some (.slice e)) (hce : P.cellsOf e = 2) (hk : flat P 64 e = some [.num .i64, .num .i64])
    (hv : Value.okWide P w r b0 t v) (h : DataW.Trod enc P w base spare held t v d p) : ∃ (at0 : Option Addr) (l : List (Int × Int)) (c : Nat), v = .slice at0 l.length c ∧ l.length ≤ maxLen ∧ PtsIn w at0 l := by
  obtain ⟨a, len, cap, rfl⟩ := okWide_slice ht hv
  obtain ⟨fuel, hf⟩ := h
  rcases open_slice ht hf with ⟨hc, _⟩ | ⟨a', len', cap', m, n', D, Pl, hc, hb, hl, hm, hmm, _, hx⟩
  · injection hc with hc
    injection hc with h1 h2 h3
    subst h1 h2 h3
    exact ⟨none, [], 0, rfl, Nat.zero_le _, fun h => absurd h (by simp)⟩
  · injection hc with hc
    injection hc with h1 h2 h3
    subst h1 h2 h3
    have hlm : len ≤ m := by rw [hmm]; split <;> omega
    have each : ∀ i, i < len → ∃ q : Int × Int, w.cell? (a'.add (i * 2)) = some (.int .i64 q.1) ∧ w.cell? ((a'.add (i * 2)).add 1) = some (.int .i64 q.2) := fun i hi => by
      obtain ⟨cs', g1, g2⟩ := hx i (by omega)
      rw [hce] at g1
      obtain ⟨_, hlen, hcell⟩ := World.cells?_some g1
      have hfit := fits_flat 64 hk g2
      obtain ⟨_, _, e1, ⟨x, rfl, _⟩, hfit⟩ := hfit.cons
      obtain ⟨_, _, e2, ⟨z, rfl, _⟩, hfit⟩ := hfit.cons
      have e3 := hfit.nil
      subst e3 e2 e1
      have c0 := hcell 0 (by omega)
      have c1 := hcell 1 (by omega)
      exact ⟨(x, z), by simpa [Addr.add] using c0, by simpa using c1⟩
    obtain ⟨f, hf⟩ := choose_lt each
    obtain ⟨ab, ao, as'⟩ := a'
    refine ⟨some ⟨ab, ao, as'⟩, (List.range len).map f, cap, by simp, by simp; omega, fun h0 => ?_⟩
    simp only [List.length_map, List.length_range] at h0
    have hs : as' = none := spot_none (hf 0 h0).1
    subst hs
    refine ⟨ab, ao, rfl, fun j hj => ?_⟩
    simp only [List.length_map, List.length_range] at hj
    simp only [List.getElem_map, List.getElem_range]
    have := hf j hj
    simp only [add_none] at this
    exact this

end Go.Proofs.YtljcebahjfifhaaDoor
