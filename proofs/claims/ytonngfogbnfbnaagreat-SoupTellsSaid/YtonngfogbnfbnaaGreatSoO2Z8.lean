import Derived.Test.YtonngfogbnfbnaaGreatFlat
import Derived.Test.YtonngfogbnfbnaaGreatSoRZ8

/- Triangles that came in, laid flat. -/
namespace Go.Proofs.YtonngfogbnfbnaaGreat
open Go.RowKit

theorem fits10 {k : IntKind} {cs : Array Value} (h : Fits [.num k, .num k, .num k, .num k, .num k, .num k, .num k, .num k, .num k, .num k] cs.toList) :
    ∃ i x0 y0 z0 x1 y1 z1 x2 y2 z2 : Int, cs = #[.int k i, .int k x0, .int k y0, .int k z0, .int k x1, .int k y1, .int k z1, .int k x2, .int k y2, .int k z2] := by
  obtain ⟨l⟩ := cs
  obtain ⟨_, _, e1, ⟨a, rfl, _⟩, h⟩ := h.cons
  obtain ⟨_, _, e2, ⟨b, rfl, _⟩, h⟩ := h.cons
  obtain ⟨_, _, e3, ⟨c, rfl, _⟩, h⟩ := h.cons
  obtain ⟨_, _, e4, ⟨d, rfl, _⟩, h⟩ := h.cons
  obtain ⟨_, _, e5, ⟨e, rfl, _⟩, h⟩ := h.cons
  obtain ⟨_, _, e6, ⟨f, rfl, _⟩, h⟩ := h.cons
  obtain ⟨_, _, e7, ⟨g, rfl, _⟩, h⟩ := h.cons
  obtain ⟨_, _, e8, ⟨m, rfl, _⟩, h⟩ := h.cons
  obtain ⟨_, _, e9, ⟨n, rfl, _⟩, h⟩ := h.cons
  obtain ⟨_, _, e10, ⟨o, rfl, _⟩, h⟩ := h.cons
  have e11 := h.nil
  subst e11 e10 e9 e8 e7 e6 e5 e4 e3 e2
  exact ⟨a, b, c, d, e, f, g, m, n, o, by rw [show l = _ from e1]⟩

end Go.Proofs.YtonngfogbnfbnaaGreat

/- A soup that came in. -/
namespace Go.Proofs.YtonngfogbnfbnaaGreat
open Go.ChangeShapes Go.WideShapes Go.RowKit Go.Deep
set_option linter.unusedVariables false

theorem tri_of (vs : List Value) (h : Fits [.num .i64, .num .i64, .num .i64, .num .i64, .num .i64, .num .i64, .num .i64, .num .i64, .num .i64, .num .i64] vs) : ∃ a : TriR, a.enc = vs := by
  obtain ⟨a0, a1, a2, a3, a4, a5, a6, a7, a8, a9, e⟩ := fits10 (cs := vs.toArray) (by simpa using h)
  exact ⟨⟨a0, a1, a2, a3, a4, a5, a6, a7, a8, a9⟩, by have := congrArg Array.toList e; simpa [TriR.enc] using this.symm⟩
theorem box_of (vs : List Value) (h : Fits [.num .i64, .num .i64, .num .i64, .num .i64, .num .i64, .num .i64, .num .i64, .num .i64] vs) : ∃ a : BoxR, a.enc = vs := by
  obtain ⟨_, _, e0, ⟨a0, rfl, _⟩, h0⟩ := h.cons
  obtain ⟨_, _, e1, ⟨a1, rfl, _⟩, h1⟩ := h0.cons
  obtain ⟨_, _, e2, ⟨a2, rfl, _⟩, h2⟩ := h1.cons
  obtain ⟨_, _, e3, ⟨a3, rfl, _⟩, h3⟩ := h2.cons
  obtain ⟨_, _, e4, ⟨a4, rfl, _⟩, h4⟩ := h3.cons
  obtain ⟨_, _, e5, ⟨a5, rfl, _⟩, h5⟩ := h4.cons
  obtain ⟨_, _, e6, ⟨a6, rfl, _⟩, h6⟩ := h5.cons
  obtain ⟨_, _, e7, ⟨a7, rfl, _⟩, h7⟩ := h6.cons
  have en := h7.nil
  subst en
  subst e7
  subst e6
  subst e5
  subst e4
  subst e3
  subst e2
  subst e1
  subst e0
  exact ⟨⟨a0, a1, a2, a3, a4, a5, a6, a7⟩, rfl⟩
theorem hop_of (vs : List Value) (h : Fits [.num .i64, .num .i64, .num .i64, .num .i64, .num .i64, .num .i64, .num .i64, .yes, .num .i64, .num .i64] vs) : ∃ a : HopR, a.enc = vs := by
  obtain ⟨_, _, e0, ⟨a0, rfl, _⟩, h0⟩ := h.cons
  obtain ⟨_, _, e1, ⟨a1, rfl, _⟩, h1⟩ := h0.cons
  obtain ⟨_, _, e2, ⟨a2, rfl, _⟩, h2⟩ := h1.cons
  obtain ⟨_, _, e3, ⟨a3, rfl, _⟩, h3⟩ := h2.cons
  obtain ⟨_, _, e4, ⟨a4, rfl, _⟩, h4⟩ := h3.cons
  obtain ⟨_, _, e5, ⟨a5, rfl, _⟩, h5⟩ := h4.cons
  obtain ⟨_, _, e6, ⟨a6, rfl, _⟩, h6⟩ := h5.cons
  obtain ⟨_, _, e7, ⟨a7, rfl⟩, h7⟩ := h6.cons
  obtain ⟨_, _, e8, ⟨a8, rfl, _⟩, h8⟩ := h7.cons
  obtain ⟨_, _, e9, ⟨a9, rfl, _⟩, h9⟩ := h8.cons
  have en := h9.nil
  subst en
  subst e9
  subst e8
  subst e7
  subst e6
  subst e5
  subst e4
  subst e3
  subst e2
  subst e1
  subst e0
  exact ⟨⟨a0, a1, a2, a3, a4, a5, a6, a7, a8, a9⟩, rfl⟩

set_option maxRecDepth 100000 in
set_option maxHeartbeats 1000000 in
theorem open_soup {H : Type} {enc : TypeId × Value → H} {w : World} {base : Nat} {spare : Nat → Bool} {held : Bool} {r : Reach} {b0 : Nat} {v : Value} {d : DataW H} {p : List MemPlace}
    (hv : Value.okWide Tryz.prog w r b0 28 v) (h : DataW.Trod enc Tryz.prog w base spare held 28 v d p) : ∃ S : SoupV, v = .agg #[.slice S.a0 S.ts.length S.c0, .slice S.a1 S.bs.length S.c1, .slice S.a2 S.hs.length S.c2] ∧ S.ok w := by
  obtain ⟨cs, rfl, _⟩ := okWide_struct Tryz.underlying28 hv
  obtain ⟨fuel, hf⟩ := h
  obtain ⟨xs, m', _, _, hlen, hxs, hi⟩ := DataW.trod_struct Tryz.underlying28 hf
  have hx3 : xs.length = 3 := hxs
  have h0 := hi 0 _ rfl
  have h1 := hi 1 _ rfl
  have h2 := hi 2 _ rfl
  rw [List.getElem?_eq_getElem (by omega)] at h0 h1 h2
  obtain ⟨v0, ts, e0, s0⟩ := open_row TriR.enc 10 TriR.enc_len (by omega) Tryz.underlying24 (by kernel_rfl) (by kernel_rfl) tri_of h0
  obtain ⟨v1, bs, e1, s1⟩ := open_row BoxR.enc 8 BoxR.enc_len (by omega) Tryz.underlying25 (by kernel_rfl) (by kernel_rfl) box_of h1
  obtain ⟨v2, hs, e2, s2⟩ := open_row HopR.enc 10 HopR.enc_len (by omega) Tryz.underlying26 (by kernel_rfl) (by kernel_rfl) hop_of h2
  have c0 : Tryz.prog.cellsOf 24 = 1 := by kernel_rfl
  have c1 : Tryz.prog.cellsOf 25 = 1 := by kernel_rfl
  have c2 : Tryz.prog.cellsOf 26 = 1 := by kernel_rfl
  have c3 : Tryz.prog.cellsOf 28 = 3 := by kernel_rfl
  have hl : cs.toList.length = 3 := by rw [← c3]; exact hlen
  have f0 : (cs.toList.drop 0).take 1 = [v0] := by rw [← c0]; exact e0
  have f1 : (cs.toList.drop 1).take 1 = [v1] := by rw [← c1]; exact e1
  have f2 : (cs.toList.drop 2).take 1 = [v2] := by rw [← c2]; exact e2
  obtain ⟨l⟩ := cs
  simp only at hl f0 f1 f2
  match l, hl with
  | [x, y, z], _ =>
    simp at f0 f1 f2
    subst f0 f1 f2
    obtain ⟨a0, c0, rfl, q0⟩ := id s0
    obtain ⟨a1, c1, rfl, q1⟩ := id s1
    obtain ⟨a2, c2, rfl, q2⟩ := id s2
    exact ⟨⟨ts, bs, hs, a0, a1, a2, c0, c1, c2⟩, rfl, s0, s1, s2⟩

end Go.Proofs.YtonngfogbnfbnaaGreat
