import Derived.Test.YtgoggogcbjfofaaDoorIntLB
import Derived.Test.YtgoggogcbjfofaaDoorOgGB
import Derived.Test.YtgoggogcbjfofaaDoorFlat

/- Rows of rows of whole numbers that are handed in. -/
namespace Go.Proofs.YtgoggogcbjfofaaDoor
open Go.ChangeShapes Go.WideShapes Go.RowKit Go.Deep
set_option linter.unusedVariables false

theorem fint_of (vs : List Value) (h : Fits [.num .i64] vs) : ∃ a : Int, iE a = vs := by
  obtain ⟨_, _, e0, ⟨a0, rfl, _⟩, h0⟩ := h.cons
  have en := h0.nil
  subst en e0
  exact ⟨a0, rfl⟩
set_option maxRecDepth 100000 in
theorem open_ints14 {H : Type} {enc : TypeId × Value → H} {w : World} {base : Nat} {spare : Nat → Bool} {held : Bool} {r : Reach} {b0 : Nat} {v : Value} {d : DataW H} {p : List MemPlace} (hv : Value.okWide Tryd.prog w r b0 29 v) (h : DataW.Trod enc Tryd.prog w base spare held 29 v d p) : ∃ L : List (List Int), RowsK iE 1 w v L := by
  obtain ⟨a, len, cap, rfl⟩ := okWide_slice Tryd.underlying29 hv
  obtain ⟨fuel, hf⟩ := h
  obtain ⟨v0, L, e, s⟩ := open_rows iE 1 iE_len (by omega) Tryd.underlying29 (by kernel_rfl) Tryd.underlying50 (by kernel_rfl) (by kernel_rfl) fint_of hf
  injection e with e
  subst e
  exact ⟨L, s⟩

end Go.Proofs.YtgoggogcbjfofaaDoor
