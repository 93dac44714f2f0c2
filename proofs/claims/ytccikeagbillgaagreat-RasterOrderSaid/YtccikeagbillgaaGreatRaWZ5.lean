import Derived.Test.YtccikeagbillgaaGreatFlat
import Derived.Test.YtccikeagbillgaaGreatSoRZ5
import Derived.Test.YtccikeagbillgaaGreatSoAZ5
import Derived.Test.YtccikeagbillgaaGreatRaA0Z5

/- Triangles that came in, laid flat. -/
namespace Go.Proofs.YtccikeagbillgaaGreat
open Go.RowKit

theorem fits10 {k : IntKind} {cs : Array Value} (h : Fits [.num k, .num k, .num k, .num k, .num k, .num k, .num k, .num k, .num k, .num k] cs.toList) :
    ∃ i x0 y0 z0 x1 y1 z1 x2 y2 z2 : Int, cs = #[.int k i, .int k x0, .int k y0, .int k z0, .int k x1, .int k y1, .int k z1, .int k x2, .int k y2, .int k z2] := by
  obtain ⟨l⟩ := cs
  obtain ⟨_, _, e1, ⟨a, rfl, _⟩, h⟩ := h.cons
  obtain ⟨_, _, e2, ⟨b, rfl, _⟩, h⟩ := h.cons
  obtain ⟨_, _, e3, ⟨c, rfl, _⟩, h⟩ := h.cons
  obtain ⟨_, _, e4, ⟨d, rfl, _⟩, h⟩ := h.cons
  obtain ⟨_, _, e5, ⟨e, rfl, _⟩, h⟩ := h.cons
  obtain ⟨_, _, e6, ⟨f, rfl, _⟩, h⟩ := h.cons
  obtain ⟨_, _, e7, ⟨g, rfl, _⟩, h⟩ := h.cons
  obtain ⟨_, _, e8, ⟨m, rfl, _⟩, h⟩ := h.cons
  obtain ⟨_, _, e9, ⟨n, rfl, _⟩, h⟩ := h.cons
  obtain ⟨_, _, e10, ⟨o, rfl, _⟩, h⟩ := h.cons
  have e11 := h.nil
  subst e11 e10 e9 e8 e7 e6 e5 e4 e3 e2
  exact ⟨a, b, c, d, e, f, g, m, n, o, by rw [show l = _ from e1]⟩

end Go.Proofs.YtccikeagbillgaaGreat

/- Rows of triangles that came in; whole numbers and what they hold. -/
namespace Go.Proofs.YtccikeagbillgaaGreat
open Go.ChangeShapes Go.WideShapes Go.RowKit Go.Deep
set_option linter.unusedVariables false

theorem ra_tri_of (vs : List Value) (h : Fits [.num .i64, .num .i64, .num .i64, .num .i64, .num .i64, .num .i64, .num .i64, .num .i64, .num .i64, .num .i64] vs) : ∃ a : TriR, a.enc = vs := by
  obtain ⟨a0, a1, a2, a3, a4, a5, a6, a7, a8, a9, e⟩ := fits10 (cs := vs.toArray) (by simpa using h)
  exact ⟨⟨a0, a1, a2, a3, a4, a5, a6, a7, a8, a9⟩, by have := congrArg Array.toList e; simpa [TriR.enc] using this.symm⟩

section
variable {H : Type} {enc : TypeId × Value → H} {w : World} {base : Nat} {spare : Nat → Bool} {held : Bool} {r : Reach} {b0 : Nat} {v : Value} {d : DataW H} {p : List MemPlace}

set_option maxRecDepth 100000 in
theorem open_tris (hv : Value.okWide Tryz.prog w r b0 24 v) (h : DataW.Trod enc Tryz.prog w base spare held 24 v d p) : ∃ (at0 : Option Addr) (l : List TriR) (c : Nat), v = .slice at0 l.length c ∧ Sl TriR.enc 10 w (.slice at0 l.length c) l := by
  obtain ⟨a, len, cap, rfl⟩ := okWide_slice Tryz.underlying24 hv
  obtain ⟨fuel, hf⟩ := h
  obtain ⟨v0, l, e, s⟩ := open_row TriR.enc 10 TriR.enc_len (by omega) Tryz.underlying24 (by kernel_rfl) (by kernel_rfl) ra_tri_of hf
  injection e with e
  subst e
  obtain ⟨at0, c, e1, h1⟩ := id s
  rw [e1] at s
  exact ⟨at0, l, c, e1, s⟩

set_option maxRecDepth 100000 in
theorem open_i64 (hv : Value.okWide Tryz.prog w r b0 3 v) (h : DataW.Trod enc Tryz.prog w base spare held 3 v d p) : ∃ x : Int, v = .int .i64 x ∧ i64B x := by
  obtain ⟨x, rfl, -, -, hw⟩ := open_int Tryz.underlying3 hv h
  refine ⟨x, rfl, ?_⟩
  unfold i64B
  simp only [Lit.wf, Bool.and_eq_true, decide_eq_true_eq] at hw
  have h1 : IntKind.i64.min = -9223372036854775808 := by decide
  have h2 : IntKind.i64.max = 9223372036854775807 := by decide
  exact ⟨h1 ▸ hw.1, h2 ▸ hw.2⟩
end

end Go.Proofs.YtccikeagbillgaaGreat
