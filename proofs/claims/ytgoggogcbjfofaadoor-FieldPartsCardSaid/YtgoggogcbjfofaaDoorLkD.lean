/- What the listed variable of package links holds when the call begins. -/
import Derived.Test.YtgoggogcbjfofaaDoorRows
import Derived.Test.YtgoggogcbjfofaaDoorHat
import Derived.LaidMore
import Derived.MakeChecks
import Derived.ProofKit
import Derived.OpenShut
import Derived.Stop.Joined
namespace Go.Proofs.YtgoggogcbjfofaaDoor
open Go.ChangeShapes Go.WideShapes Go.ChangeAt Go.RowKit

theorem gDi : Tryd.prog.globalNamed "footpath/links.directions" = some 0 := by kernel_rfl
theorem tDi : (Tryd.prog.globals[0]?).map (·.type) = some 109 := by kernel_rfl

/-- The cells of links.directions. -/
structure Dirs (w : World) : Prop where
  c0 : w.cell? ⟨0, 0, none⟩ = some (.int .i64 1)
  c1 : w.cell? ⟨0, 1, none⟩ = some (.int .i64 0)
  c2 : w.cell? ⟨0, 2, none⟩ = some (.int .i64 0)
  c3 : w.cell? ⟨0, 3, none⟩ = some (.int .i64 1)
  c4 : w.cell? ⟨0, 4, none⟩ = some (.int .i64 (-1))
  c5 : w.cell? ⟨0, 5, none⟩ = some (.int .i64 0)
  c6 : w.cell? ⟨0, 6, none⟩ = some (.int .i64 0)
  c7 : w.cell? ⟨0, 7, none⟩ = some (.int .i64 (-1))

theorem Dirs.new {w w' : World} (h : Dirs w) (n : New w w') : Dirs w' :=
  ⟨n.keep h.c0, n.keep h.c1, n.keep h.c2, n.keep h.c3, n.keep h.c4, n.keep h.c5, n.keep h.c6, n.keep h.c7⟩

abbrev laidDirs : List (String × DataW Unit) := [("footpath/links.directions", Rows.laid_footpath_links_directions)]

/-- The door's own heap meets the condition. -/
theorem door_met_di (os : Os) (args : Array Value) : laidMetH Tryd.prog laidDirs ((World.doorLaid Tryd.prog 400 os).forCall (fun _ _ => 0) ⟨#[], args, []⟩).memory :=
  laidMetH_of_parts3 (fuel := 8) (laidMet_of_run' 8 (by kernel_rfl) (by kernel_rfl)) (by kernel_rfl) (by kernel_rfl)

theorem take2 {l : List Value} {i : Nat} {x y : Value} (h : (l.drop i).take 2 = [x, y]) : l[i]? = some x ∧ l[i + 1]? = some y := by
  have h0 : ((l.drop i).take 2)[0]? = some x := by rw [h]; rfl
  have h1 : ((l.drop i).take 2)[1]? = some y := by rw [h]; rfl
  exact ⟨by simpa [List.getElem?_take, List.getElem?_drop] using h0, by simpa [List.getElem?_take, List.getElem?_drop] using h1⟩

set_option maxRecDepth 100000 in
/-- A struct of two numbers, read as they are. -/
theorem two_of {W : World} {m : Nat} {cs : List Value} {p : List MemPlace} {a b : Int} (h : DataW.trod (fun _ => ()) Tryd.prog W 0 (fun _ => true) false m 108 cs = some (.agg [.lit (.int .i64 a), .lit (.int .i64 b)], p)) (hl : cs.length = 2) : cs = [.int .i64 a, .int .i64 b] := by
  obtain ⟨ys, n, rfl, hy, hlen, hn, hel⟩ := DataW.trod_struct Tryd.underlying108 h
  have c3 : Tryd.prog.cellsOf 3 = 1 := by kernel_rfl
  have h0 : DataW.trod (fun _ => ()) Tryd.prog W 0 (fun _ => true) false n 3 ((cs.drop 0).take (Tryd.prog.cellsOf 3)) = ys[0]? := hel 0 _ rfl
  have h1 : DataW.trod (fun _ => ()) Tryd.prog W 0 (fun _ => true) false n 3 ((cs.drop 1).take (Tryd.prog.cellsOf 3)) = ys[1]? := hel 1 _ rfl
  rw [c3] at h0 h1
  match ys, hn, hy, h0, h1 with
  | [x0, x1], _, hy, h0, h1 =>
    simp only [List.map_cons, List.map_nil, List.cons.injEq, List.getElem?_cons_zero, List.getElem?_cons_succ, Prod.mk.injEq, DataW.agg.injEq] at hy h0 h1
    obtain ⟨⟨r0, r1, -⟩, -⟩ := hy
    obtain ⟨k0, e0, y0, _⟩ := DataW.trod_int Tryd.underlying3 h0
    obtain ⟨k1, e1, y1, _⟩ := DataW.trod_int Tryd.underlying3 h1
    rw [y0] at r0; rw [y1] at r1
    simp only [DataW.lit.injEq, Lit.int.injEq, true_and] at r0 r1
    subst r0; subst r1
    match cs, hl, e0, e1 with
    | [u0, u1], _, e0, e1 =>
      simp at e0 e1
      rw [e0, e1]

set_option maxRecDepth 100000 in
theorem of_laid_di {W : World} (h : laidMetH Tryd.prog laidDirs W) : Dirs W := by
  rw [MakeChecks.laidMetH_plain _ _ _ (by kernel_rfl)] at h
  obtain ⟨ps, ⟨g0, t0, cs0, f0, p0, q0, hg0, ht0, hv0, hd0, _, _⟩, _, _⟩ := h
  obtain rfl := Option.some.inj (gDi.symm.trans hg0)
  obtain rfl := Option.some.inj (tDi.symm.trans ht0)
  obtain ⟨xs, n, rfl, hx, hlen, hn, hel⟩ := DataW.trod_array Tryd.underlying109 hd0
  have c2 : Tryd.prog.cellsOf 108 = 2 := by kernel_rfl
  have c8 : Tryd.prog.cellsOf 109 = 8 := by kernel_rfl
  rw [c8] at hlen
  simp only [Rows.laid_footpath_links_directions, Prod.mk.injEq, DataW.agg.injEq] at hx
  have h0 := hel 0 (by omega)
  have h1 := hel 1 (by omega)
  have h2 := hel 2 (by omega)
  have h3 := hel 3 (by omega)
  rw [c2] at h0 h1 h2 h3
  match xs, hn, hx, h0, h1, h2, h3 with
  | [x0, x1, x2, x3], _, hx, h0, h1, h2, h3 =>
    simp only [List.map_cons, List.map_nil, List.cons.injEq, List.getElem?_cons_zero, List.getElem?_cons_succ] at hx h0 h1 h2 h3
    obtain ⟨⟨r0, r1, r2, r3, -⟩, -⟩ := hx
    obtain ⟨x0, p0⟩ := x0
    obtain ⟨x1, p1⟩ := x1
    obtain ⟨x2, p2⟩ := x2
    obtain ⟨x3, p3⟩ := x3
    simp only at r0 r1 r2 r3
    subst r0; subst r1; subst r2; subst r3
    have e0 := take2 (two_of h0 (by simp only [List.length_take, List.length_drop]; omega))
    have e1 := take2 (two_of h1 (by simp only [List.length_take, List.length_drop]; omega))
    have e2 := take2 (two_of h2 (by simp only [List.length_take, List.length_drop]; omega))
    have e3 := take2 (two_of h3 (by simp only [List.length_take, List.length_drop]; omega))
    have k : ∀ (i : Nat) (v : Value), cs0.toList[i]? = some v → W.cell? ⟨0, i, none⟩ = some v := fun i v e => (World.var?_cell hg0 hv0 i).trans (by rw [← Array.getElem?_toList]; exact e)
    exact ⟨k 0 _ e0.1, k 1 _ e0.2, k 2 _ e1.1, k 3 _ e1.2, k 4 _ e2.1, k 5 _ e2.2, k 6 _ e3.1, k 7 _ e3.2⟩

end Go.Proofs.YtgoggogcbjfofaaDoor
