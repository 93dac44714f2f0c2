import Derived.Test.YtgoggogcbjfofaaDoorSoCY14
import Derived.Test.YtgoggogcbjfofaaDoorOgGY14
import Derived.Test.YtgoggogcbjfofaaDoorFlat

/- Configs, floors that are handed in. -/
namespace Go.Proofs.YtgoggogcbjfofaaDoor
open Go.ChangeShapes Go.WideShapes Go.RowKit Go.Deep
set_option linter.unusedVariables false

set_option maxRecDepth 100000 in
theorem open_cfg13 {H : Type} {enc : TypeId × Value → H} {w : World} {base : Nat} {spare : Nat → Bool} {held : Bool} {r : Reach} {b0 : Nat} {v : Value} {d : DataW H} {p : List MemPlace} (hv : Value.okWide Tryd.prog w r b0 23 v) (h : DataW.Trod enc Tryd.prog w base spare held 23 v d p) : ∃ C : CfgR, v = .agg #[.int .i64 C.cl, .int .i64 C.cb, .int .i64 C.ht, .int .i64 C.ri, .int .i64 C.ru, .int .i64 C.wd, .int .i64 C.dp] := by
  obtain ⟨cs, rfl, hc⟩ := open_flat Tryd.underlying23 64 (ks := [.num .i64, .num .i64, .num .i64, .num .i64, .num .i64, .num .i64, .num .i64]) (by kernel_rfl) hv h
  obtain ⟨cl, cb, ht, ri, ru, wd, dp, rfl⟩ := fits7 hc
  exact ⟨⟨cl, cb, ht, ri, ru, wd, dp⟩, rfl⟩
set_option maxRecDepth 100000 in
theorem open_floor13 {H : Type} {enc : TypeId × Value → H} {w : World} {base : Nat} {spare : Nat → Bool} {held : Bool} {r : Reach} {b0 : Nat} {v : Value} {d : DataW H} {p : List MemPlace} (hv : Value.okWide Tryd.prog w r b0 58 v) (h : DataW.Trod enc Tryd.prog w base spare held 58 v d p) : ∃ a : Fl, v = .agg #[.int .i64 a.y, .int .i64 a.top, .int .i64 a.area] := by
  obtain ⟨⟨cs⟩, rfl, hc⟩ := open_flat Tryd.underlying58 64 (ks := [.num .i64, .num .i64, .num .i64]) (by kernel_rfl) hv h
  obtain ⟨a, ha⟩ := fl_of _ hc
  refine ⟨a, ?_⟩
  have : cs = a.enc := ha.symm
  subst this
  rfl

end Go.Proofs.YtgoggogcbjfofaaDoor
