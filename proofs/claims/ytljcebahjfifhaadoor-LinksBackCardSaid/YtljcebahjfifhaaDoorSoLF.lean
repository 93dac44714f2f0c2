/- The library's Grow of nothing and Concat, of slices of a kind. -/
import Derived.Test.YtljcebahjfifhaaDoorSoW
import Derived.Test.YtljcebahjfifhaaDoorOgA
import Derived.Test.YtljcebahjfifhaaDoorSteady
import Derived.Deep.LoopGhost
namespace Go.Proofs.YtljcebahjfifhaaDoor
open Go.RowKit
set_option linter.unusedVariables false

theorem fl_info : (Tryd.prog.info? 28).map (fun i => (i.zero, i.size, i.bytes)) = some (some (.agg #[.int .i64 Fl.zero.y, .int .i64 Fl.zero.top, .int .i64 Fl.zero.area]), 3, 24) := by kernel_rfl

def fl_Grown (n : Nat) (w : World) (e : Ending) (w' : World) : Prop := ∃ v, e = .returned v ∧ w'.ownsRow w.heap.size 28 3 v 0 [] ∧ New w w'

theorem fl_some {flr : Option Addr} (h : ¬ flr = none) : ∃ a, flr = some a := by
  cases flr with
  | none => exact absurd rfl h
  | some a => exact ⟨a, rfl⟩

end Go.Proofs.YtljcebahjfifhaaDoor
