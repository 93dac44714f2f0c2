/- Triangles that came in, laid flat. -/
import Derived.Test.YteoongcajfcgcaaFlat
namespace Go.Proofs.Yteoongcajfcgcaa
open Go.RowKit

theorem fits10 {k : IntKind} {cs : Array Value} (h : Fits [.num k, .num k, .num k, .num k, .num k, .num k, .num k, .num k, .num k, .num k] cs.toList) :
    ∃ i x0 y0 z0 x1 y1 z1 x2 y2 z2 : Int, cs = #[.int k i, .int k x0, .int k y0, .int k z0, .int k x1, .int k y1, .int k z1, .int k x2, .int k y2, .int k z2] := by
  obtain ⟨l⟩ := cs
  obtain ⟨_, _, e1, ⟨a, rfl, _⟩, h⟩ := h.cons
  obtain ⟨_, _, e2, ⟨b, rfl, _⟩, h⟩ := h.cons
  obtain ⟨_, _, e3, ⟨c, rfl, _⟩, h⟩ := h.cons
  obtain ⟨_, _, e4, ⟨d, rfl, _⟩, h⟩ := h.cons
  obtain ⟨_, _, e5, ⟨e, rfl, _⟩, h⟩ := h.cons
  obtain ⟨_, _, e6, ⟨f, rfl, _⟩, h⟩ := h.cons
  obtain ⟨_, _, e7, ⟨g, rfl, _⟩, h⟩ := h.cons
  obtain ⟨_, _, e8, ⟨m, rfl, _⟩, h⟩ := h.cons
  obtain ⟨_, _, e9, ⟨n, rfl, _⟩, h⟩ := h.cons
  obtain ⟨_, _, e10, ⟨o, rfl, _⟩, h⟩ := h.cons
  have e11 := h.nil
  subst e11 e10 e9 e8 e7 e6 e5 e4 e3 e2
  exact ⟨a, b, c, d, e, f, g, m, n, o, by rw [show l = _ from e1]⟩

end Go.Proofs.Yteoongcajfcgcaa
