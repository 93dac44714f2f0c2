import Derived.Test.YtdbhlepbaepngaaGreatDoorSoCZ15
import Derived.Test.YtdbhlepbaepngaaGreatDoorFlat

/- Boxes, places that are handed in. -/
namespace Go.Proofs.YtdbhlepbaepngaaGreatDoor
open Go.ChangeShapes Go.WideShapes Go.RowKit Go.Deep
set_option linter.unusedVariables false

theorem box_of (vs : List Value) (h : Fits [.num .i64, .num .i64, .num .i64, .num .i64, .num .i64, .num .i64, .num .i64, .num .i64] vs) : ∃ a : BoxR, a.enc = vs := by
  obtain ⟨_, _, e0, ⟨a0, rfl, _⟩, h0⟩ := h.cons
  obtain ⟨_, _, e1, ⟨a1, rfl, _⟩, h1⟩ := h0.cons
  obtain ⟨_, _, e2, ⟨a2, rfl, _⟩, h2⟩ := h1.cons
  obtain ⟨_, _, e3, ⟨a3, rfl, _⟩, h3⟩ := h2.cons
  obtain ⟨_, _, e4, ⟨a4, rfl, _⟩, h4⟩ := h3.cons
  obtain ⟨_, _, e5, ⟨a5, rfl, _⟩, h5⟩ := h4.cons
  obtain ⟨_, _, e6, ⟨a6, rfl, _⟩, h6⟩ := h5.cons
  obtain ⟨_, _, e7, ⟨a7, rfl, _⟩, h7⟩ := h6.cons
  have en := h7.nil
  subst en e7 e6 e5 e4 e3 e2 e1 e0
  exact ⟨⟨a0, a1, a2, a3, a4, a5, a6, a7⟩, rfl⟩
theorem spot_of (vs : List Value) (h : Fits [.num .i64, .num .i64, .num .i64] vs) : ∃ x z y : Int, [Value.int .i64 x, .int .i64 z, .int .i64 y] = vs := by
  obtain ⟨_, _, e0, ⟨a0, rfl, _⟩, h0⟩ := h.cons
  obtain ⟨_, _, e1, ⟨a1, rfl, _⟩, h1⟩ := h0.cons
  obtain ⟨_, _, e2, ⟨a2, rfl, _⟩, h2⟩ := h1.cons
  have en := h2.nil
  subst en e2 e1 e0
  exact ⟨a0, a1, a2, rfl⟩

section
variable {H : Type} {enc : TypeId × Value → H} {w : World} {base : Nat} {spare : Nat → Bool} {held : Bool} {r : Reach} {b0 : Nat} {v : Value} {d : DataW H} {p : List MemPlace}
set_option maxRecDepth 100000 in
theorem open_boxes (hv : Value.okWide Tryz.prog w r b0 27 v) (h : DataW.Trod enc Tryz.prog w base spare held 27 v d p) : ∃ (at0 : Option Addr) (l : List BoxR) (c : Nat), v = .slice at0 l.length c ∧ Sl BoxR.enc 8 w (.slice at0 l.length c) l := by
  obtain ⟨a, len, cap, rfl⟩ := okWide_slice Tryz.underlying27 hv
  obtain ⟨fuel, hf⟩ := h
  obtain ⟨v0, l, e, s⟩ := open_row BoxR.enc 8 BoxR.enc_len (by omega) Tryz.underlying27 (by kernel_rfl) (by kernel_rfl) box_of hf
  injection e with e
  subst e
  obtain ⟨at0, c, e1, h1⟩ := id s
  rw [e1] at s
  exact ⟨at0, l, c, e1, s⟩
set_option maxRecDepth 100000 in
theorem open_box (hv : Value.okWide Tryz.prog w r b0 42 v) (h : DataW.Trod enc Tryz.prog w base spare held 42 v d p) : ∃ X : BoxR, v = .agg #[.int .i64 X.i, .int .i64 X.x0, .int .i64 X.z0, .int .i64 X.x1, .int .i64 X.z1, .int .i64 X.y0, .int .i64 X.y1, .int .i64 X.ar] := by
  obtain ⟨⟨cs⟩, rfl, hc⟩ := open_flat Tryz.underlying42 64 (ks := [.num .i64, .num .i64, .num .i64, .num .i64, .num .i64, .num .i64, .num .i64, .num .i64]) (by kernel_rfl) hv h
  obtain ⟨X, hX⟩ := box_of _ hc
  refine ⟨X, ?_⟩
  have : cs = X.enc := hX.symm
  subst this
  rfl
set_option maxRecDepth 100000 in
theorem open_spot12 (hv : Value.okWide Tryz.prog w r b0 53 v) (h : DataW.Trod enc Tryz.prog w base spare held 53 v d p) : ∃ x z y : Int, v = .agg #[.int .i64 x, .int .i64 z, .int .i64 y] := by
  obtain ⟨⟨cs⟩, rfl, hc⟩ := open_flat Tryz.underlying53 64 (ks := [.num .i64, .num .i64, .num .i64]) (by kernel_rfl) hv h
  obtain ⟨x, z, y, hX⟩ := spot_of _ hc
  refine ⟨x, z, y, ?_⟩
  have : cs = _ := hX.symm
  subst this
  rfl

set_option maxRecDepth 100000 in
theorem open_cfg12 (hv : Value.okWide Tryz.prog w r b0 23 v) (h : DataW.Trod enc Tryz.prog w base spare held 23 v d p) : ∃ C : CfgR, v = .agg #[.int .i64 C.cl, .int .i64 C.cb, .int .i64 C.ht, .int .i64 C.ri, .int .i64 C.ru, .int .i64 C.wd, .int .i64 C.dp] := by
  obtain ⟨cs, rfl, hc⟩ := open_flat Tryz.underlying23 64 (ks := [.num .i64, .num .i64, .num .i64, .num .i64, .num .i64, .num .i64, .num .i64]) (by kernel_rfl) hv h
  obtain ⟨cl, cb, ht, ri, ru, wd, dp, rfl⟩ := fits7 hc
  exact ⟨⟨cl, cb, ht, ri, ru, wd, dp⟩, rfl⟩
end

end Go.Proofs.YtdbhlepbaepngaaGreatDoor
