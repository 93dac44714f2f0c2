/- Rows of spans, a span, rows of whole numbers that came in. -/
import Derived.Test.YtklopjbpfddgfaaSpA
namespace Go.Proofs.Ytklopjbpfddgfaa
open Go.ChangeShapes Go.WideShapes Go.RowKit Go.Deep
set_option linter.unusedVariables false

theorem sn_of (vs : List Value) (h : Fits [.num .i64, .num .i64, .yes] vs) : ∃ a : Sn, a.enc = vs := by
  obtain ⟨_, _, e0, ⟨a0, rfl, _⟩, h0⟩ := h.cons
  obtain ⟨_, _, e1, ⟨a1, rfl, _⟩, h1⟩ := h0.cons
  obtain ⟨_, _, e2, ⟨a2, rfl⟩, h2⟩ := h1.cons
  have en := h2.nil
  subst en
  subst e2
  subst e1
  subst e0
  exact ⟨⟨a0, a1, a2⟩, rfl⟩
/-- A whole number, as it lies. -/
def encI (n : Int) : List Value := [.int .i64 n]
theorem int_of (vs : List Value) (h : Fits [.num .i64] vs) : ∃ a : Int, encI a = vs := by
  obtain ⟨_, _, e0, ⟨a0, rfl, _⟩, h0⟩ := h.cons
  have en := h0.nil
  subst en
  subst e0
  exact ⟨a0, rfl⟩

section
variable {H : Type} {enc : TypeId × Value → H} {w : World} {base : Nat} {spare : Nat → Bool} {held : Bool} {r : Reach} {b0 : Nat} {v : Value} {d : DataW H} {p : List MemPlace}

theorem open_spans (hv : Value.okWide Try.prog w r b0 49 v) (h : DataW.Trod enc Try.prog w base spare held 49 v d p) : ∃ (at0 : Option Addr) (l : List Sn) (c : Nat), v = .slice at0 l.length c ∧ Sl Sn.enc 3 w (.slice at0 l.length c) l := by
  obtain ⟨a, len, cap, rfl⟩ := okWide_slice Try.underlying49 hv
  obtain ⟨fuel, hf⟩ := h
  obtain ⟨v0, l, e, s⟩ := open_row Sn.enc 3 Sn.enc_len (by omega) Try.underlying49 (by kernel_rfl) (by kernel_rfl) sn_of hf
  injection e with e
  subst e
  obtain ⟨at0, c, e1, h1⟩ := id s
  rw [e1] at s
  exact ⟨at0, l, c, e1, s⟩

theorem open_nums (hv : Value.okWide Try.prog w r b0 69 v) (h : DataW.Trod enc Try.prog w base spare held 69 v d p) : ∃ (at0 : Option Addr) (l : List Int) (c : Nat), v = .slice at0 l.length c ∧ Sl encI 1 w (.slice at0 l.length c) l := by
  obtain ⟨a, len, cap, rfl⟩ := okWide_slice Try.underlying69 hv
  obtain ⟨fuel, hf⟩ := h
  obtain ⟨v0, l, e, s⟩ := open_row encI 1 (fun _ => rfl) (by omega) Try.underlying69 (by kernel_rfl) (by kernel_rfl) int_of hf
  injection e with e
  subst e
  obtain ⟨at0, c, e1, h1⟩ := id s
  rw [e1] at s
  exact ⟨at0, l, c, e1, s⟩

theorem open_span (hv : Value.okWide Try.prog w r b0 54 v) (h : DataW.Trod enc Try.prog w base spare held 54 v d p) : ∃ s : Sn, v = .agg #[.int .i64 s.lo, .int .i64 s.hi, .bool s.wk] := by
  obtain ⟨cs, rfl, hc⟩ := open_flat Try.underlying54 64 (ks := [.num .i64, .num .i64, .yes]) (by kernel_rfl) hv h
  obtain ⟨s, hs⟩ := sn_of _ hc
  refine ⟨s, ?_⟩
  obtain ⟨l⟩ := cs
  simp only at hs
  subst hs
  rfl
end

end Go.Proofs.Ytklopjbpfddgfaa
