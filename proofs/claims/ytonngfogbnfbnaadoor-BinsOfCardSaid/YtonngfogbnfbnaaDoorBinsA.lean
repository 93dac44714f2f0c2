/- What the listed variable of package bins holds when the call begins. -/
import Derived.Test.YtonngfogbnfbnaaDoorRows
import Derived.Test.YtonngfogbnfbnaaDoorHat
import Derived.LaidMore
import Derived.MakeChecks
import Derived.ProofKit
import Derived.OpenShut
import Derived.Stop.Joined
namespace Go.Proofs.YtonngfogbnfbnaaDoor
open Go.ChangeShapes Go.WideShapes Go.ChangeAt Go.RowKit

theorem gNo : Tryd.prog.globalNamed "footpath/bins.nowhere" = some 0 := by kernel_rfl
theorem tNo : (Tryd.prog.globals[0]?).map (·.type) = some 52 := by kernel_rfl

/-- The four cells of bins.nowhere. -/
structure Nowhere (w : World) : Prop where
  c0 : w.cell? ⟨0, 0, none⟩ = some (.int .i64 0)
  c1 : w.cell? ⟨0, 1, none⟩ = some (.int .i64 0)
  c2 : w.cell? ⟨0, 2, none⟩ = some (.int .i64 (-1))
  c3 : w.cell? ⟨0, 3, none⟩ = some (.int .i64 (-1))

theorem Nowhere.new {w w' : World} (h : Nowhere w) (n : New w w') : Nowhere w' :=
  ⟨n.keep h.c0, n.keep h.c1, n.keep h.c2, n.keep h.c3⟩

abbrev laidBins : List (String × DataW Unit) := [("footpath/bins.nowhere", Rows.laid_footpath_bins_nowhere)]

/-- The door's own heap meets the condition. -/
theorem door_met (os : Os) (args : Array Value) : laidMetH Tryd.prog laidBins ((World.doorLaid Tryd.prog 400 os).forCall (fun _ _ => 0) ⟨#[], args, []⟩).memory :=
  laidMetH_of_parts3 (fuel := 8) (laidMet_of_run' 8 (by kernel_rfl) (by kernel_rfl)) (by kernel_rfl) (by kernel_rfl)

theorem take1 {l : List Value} {i : Nat} {x : Value} (h : (l.drop i).take 1 = [x]) : l[i]? = some x := by
  have : ((l.drop i).take 1)[0]? = some x := by rw [h]; rfl
  simpa [List.getElem?_take, List.getElem?_drop] using this

theorem of_laid {W : World} (h : laidMetH Tryd.prog laidBins W) : Nowhere W := by
  rw [MakeChecks.laidMetH_plain _ _ _ (by kernel_rfl)] at h
  obtain ⟨ps, ⟨g0, t0, cs0, f0, p0, q0, hg0, ht0, hv0, hd0, _, _⟩, _, _⟩ := h
  obtain rfl := Option.some.inj (gNo.symm.trans hg0)
  obtain rfl := Option.some.inj (tNo.symm.trans ht0)
  obtain ⟨xs, n, rfl, hx, hlen, hn, hel⟩ := DataW.trod_struct Tryd.underlying52 hd0
  have c3 : Tryd.prog.cellsOf 3 = 1 := by kernel_rfl
  simp only [Rows.laid_footpath_bins_nowhere, Prod.mk.injEq, DataW.agg.injEq] at hx
  have h0 : DataW.trod (fun _ => ()) Tryd.prog W 0 (fun _ => true) false n 3 ((cs0.toList.drop 0).take (Tryd.prog.cellsOf 3)) = xs[0]? := hel 0 _ rfl
  have h1 : DataW.trod (fun _ => ()) Tryd.prog W 0 (fun _ => true) false n 3 ((cs0.toList.drop 1).take (Tryd.prog.cellsOf 3)) = xs[1]? := hel 1 _ rfl
  have h2 : DataW.trod (fun _ => ()) Tryd.prog W 0 (fun _ => true) false n 3 ((cs0.toList.drop 2).take (Tryd.prog.cellsOf 3)) = xs[2]? := hel 2 _ rfl
  have h3 : DataW.trod (fun _ => ()) Tryd.prog W 0 (fun _ => true) false n 3 ((cs0.toList.drop 3).take (Tryd.prog.cellsOf 3)) = xs[3]? := hel 3 _ rfl
  rw [c3] at h0 h1 h2 h3
  match xs, hn, hx, h0, h1, h2, h3 with
  | [x0, x1, x2, x3], _, hx, h0, h1, h2, h3 =>
    simp only [List.map_cons, List.map_nil, List.cons.injEq, List.getElem?_cons_zero, List.getElem?_cons_succ] at hx h0 h1 h2 h3
    obtain ⟨⟨r0, r1, r2, r3, -⟩, -⟩ := hx
    obtain ⟨k0, e0, y0, _⟩ := DataW.trod_int Tryd.underlying3 h0
    obtain ⟨k1, e1, y1, _⟩ := DataW.trod_int Tryd.underlying3 h1
    obtain ⟨k2, e2, y2, _⟩ := DataW.trod_int Tryd.underlying3 h2
    obtain ⟨k3, e3, y3, _⟩ := DataW.trod_int Tryd.underlying3 h3
    rw [y0] at r0; rw [y1] at r1; rw [y2] at r2; rw [y3] at r3
    simp only [DataW.lit.injEq, Lit.int.injEq, true_and] at r0 r1 r2 r3
    subst r0; subst r1; subst r2; subst r3
    exact ⟨(World.var?_cell hg0 hv0 0).trans (by rw [← Array.getElem?_toList]; exact take1 e0), (World.var?_cell hg0 hv0 1).trans (by rw [← Array.getElem?_toList]; exact take1 e1),
      (World.var?_cell hg0 hv0 2).trans (by rw [← Array.getElem?_toList]; exact take1 e2), (World.var?_cell hg0 hv0 3).trans (by rw [← Array.getElem?_toList]; exact take1 e3)⟩

end Go.Proofs.YtonngfogbnfbnaaDoor
