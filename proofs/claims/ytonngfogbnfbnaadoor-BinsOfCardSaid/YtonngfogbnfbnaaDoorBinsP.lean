/- The law of what a triangle, a box touches, walked. -/
import Derived.Test.YtonngfogbnfbnaaDoorBinsO
import Derived.Test.YtonngfogbnfbnaaDoorBinsH
import Derived.Test.YtonngfogbnfbnaaDoorTriN
namespace Go.Proofs.YtonngfogbnfbnaaDoor
open Go.RowKit
set_option linter.unusedVariables false
set_option maxRecDepth 100000

theorem fits8 {k : IntKind} {cs : Array Value} (h : Fits [.num k, .num k, .num k, .num k, .num k, .num k, .num k, .num k] cs.toList) :
    ∃ i x0 y0 z0 x1 y1 z1 x2 : Int, cs = #[.int k i, .int k x0, .int k y0, .int k z0, .int k x1, .int k y1, .int k z1, .int k x2] := by
  obtain ⟨l⟩ := cs
  obtain ⟨_, _, e1, ⟨a, rfl, _⟩, h⟩ := h.cons
  obtain ⟨_, _, e2, ⟨b, rfl, _⟩, h⟩ := h.cons
  obtain ⟨_, _, e3, ⟨c, rfl, _⟩, h⟩ := h.cons
  obtain ⟨_, _, e4, ⟨d, rfl, _⟩, h⟩ := h.cons
  obtain ⟨_, _, e5, ⟨e, rfl, _⟩, h⟩ := h.cons
  obtain ⟨_, _, e6, ⟨f, rfl, _⟩, h⟩ := h.cons
  obtain ⟨_, _, e7, ⟨g, rfl, _⟩, h⟩ := h.cons
  obtain ⟨_, _, e8, ⟨m, rfl, _⟩, h⟩ := h.cons
  have e9 := h.nil
  subst e9 e8 e7 e6 e5 e4 e3 e2
  exact ⟨a, b, c, d, e, f, g, m, by rw [show l = _ from e1]⟩

set_option maxHeartbeats 4000000 in
theorem l_of (C : CfgR) (i x0 y0 z0 x1 y1 z1 x2 y2 z2 : Int) (X : BoxR) (w : World) (hl : Nowhere w) :
    Calls Tryd.prog 4 #[.agg #[.int .i64 C.cl, .int .i64 C.cb, .int .i64 C.ht, .int .i64 C.ri, .int .i64 C.ru, .int .i64 C.wd, .int .i64 C.dp], .agg #[.int .i64 i, .int .i64 x0, .int .i64 y0, .int .i64 z0, .int .i64 x1, .int .i64 y1, .int .i64 z1, .int .i64 x2, .int .i64 y2, .int .i64 z2], .agg #[.int .i64 X.i, .int .i64 X.x0, .int .i64 X.z0, .int .i64 X.x1, .int .i64 X.z1, .int .i64 X.y0, .int .i64 X.y1, .int .i64 X.ar]] w fun e w' => e = .returned (.bool true) ∧ New w w' := by
  have L := Lib.hid hl
  have WK := Lib.hid (fun W h => wakes_any W h)
  have T1 := Lib.hid (fun W h => bTris_any C.cl C.cb C.ht C.ri C.ru C.wd C.dp i x0 y0 z0 x1 y1 z1 x2 y2 z2 W h)
  have T2 := Lib.hid (fun W => rTris_any C.cl C.cb C.ht C.ri C.ru C.wd C.dp i x0 y0 z0 x1 y1 z1 x2 y2 z2 W)
  have B1 := Lib.hid (fun W h => bBoxes_any C X W h)
  have B2 := Lib.hid (fun W => rBoxes_any C X W)
  generalize tCheckE C.cl C.cb C.ht C.ri C.ru C.wd C.dp i x0 y0 z0 x1 y1 z1 x2 y2 z2 = c at *
  generalize trisL C.cl C.cb C.ht C.ri C.ru C.wd C.dp i x0 y0 z0 x1 y1 z1 x2 y2 z2 = l at *
  generalize boxE C X = d at *
  generalize boxesL C X = k at *
  have IT := Lib.hid (fun v1 v2 W h1 h2 => ints_any v1 v2 l l W h1 h2)
  have IB := Lib.hid (fun v1 v2 W h1 h2 => ints_any v1 v2 k k W h1 h2)
  clear hl
  go_enter Tryd.func4, Tryd.ntmps4
  go_wp2_with fail
  refine Calls.at (fun W hW => ?_)
  ((have c0 : W.cell? ⟨w.heap.size, 0, none⟩ = some (.int .i64 C.cl) := (by subst hW; go_simp)); (have c1 : W.cell? ⟨w.heap.size, 1, none⟩ = some (.int .i64 C.cb) := (by subst hW; go_simp)); (have c2 : W.cell? ⟨w.heap.size, 2, none⟩ = some (.int .i64 C.ht) := (by subst hW; go_simp)); (have c3 : W.cell? ⟨w.heap.size, 3, none⟩ = some (.int .i64 C.ri) := (by subst hW; go_simp)); (have c4 : W.cell? ⟨w.heap.size, 4, none⟩ = some (.int .i64 C.ru) := (by subst hW; go_simp)); (have c5 : W.cell? ⟨w.heap.size, 5, none⟩ = some (.int .i64 C.wd) := (by subst hW; go_simp)); (have c6 : W.cell? ⟨w.heap.size, 6, none⟩ = some (.int .i64 C.dp) := (by subst hW; go_simp)))
  ((have d0 : (W).cell? ⟨w.heap.size + 1, 0, none⟩ = some (.int .i64 i) := (by subst hW; go_simp)); (have d1 : (W).cell? ⟨w.heap.size + 1, 1, none⟩ = some (.int .i64 x0) := (by subst hW; go_simp)); (have d2 : (W).cell? ⟨w.heap.size + 1, 2, none⟩ = some (.int .i64 y0) := (by subst hW; go_simp)); (have d3 : (W).cell? ⟨w.heap.size + 1, 3, none⟩ = some (.int .i64 z0) := (by subst hW; go_simp)); (have d4 : (W).cell? ⟨w.heap.size + 1, 4, none⟩ = some (.int .i64 x1) := (by subst hW; go_simp)); (have d5 : (W).cell? ⟨w.heap.size + 1, 5, none⟩ = some (.int .i64 y1) := (by subst hW; go_simp)); (have d6 : (W).cell? ⟨w.heap.size + 1, 6, none⟩ = some (.int .i64 z1) := (by subst hW; go_simp)); (have d7 : (W).cell? ⟨w.heap.size + 1, 7, none⟩ = some (.int .i64 x2) := (by subst hW; go_simp)); (have d8 : (W).cell? ⟨w.heap.size + 1, 8, none⟩ = some (.int .i64 y2) := (by subst hW; go_simp)); (have d9 : (W).cell? ⟨w.heap.size + 1, 9, none⟩ = some (.int .i64 z2) := (by subst hW; go_simp)))
  ((have e0 : (W).cell? ⟨w.heap.size + 1 + 1, 0, none⟩ = some (.int .i64 X.i) := (by subst hW; go_simp)); (have e1 : (W).cell? ⟨w.heap.size + 1 + 1, 1, none⟩ = some (.int .i64 X.x0) := (by subst hW; go_simp)); (have e2 : (W).cell? ⟨w.heap.size + 1 + 1, 2, none⟩ = some (.int .i64 X.z0) := (by subst hW; go_simp)); (have e3 : (W).cell? ⟨w.heap.size + 1 + 1, 3, none⟩ = some (.int .i64 X.x1) := (by subst hW; go_simp)); (have e4 : (W).cell? ⟨w.heap.size + 1 + 1, 4, none⟩ = some (.int .i64 X.z1) := (by subst hW; go_simp)); (have e5 : (W).cell? ⟨w.heap.size + 1 + 1, 5, none⟩ = some (.int .i64 X.y0) := (by subst hW; go_simp)); (have e6 : (W).cell? ⟨w.heap.size + 1 + 1, 6, none⟩ = some (.int .i64 X.y1) := (by subst hW; go_simp)); (have e7 : (W).cell? ⟨w.heap.size + 1 + 1, 7, none⟩ = some (.int .i64 X.ar) := (by subst hW; go_simp)))
  have hn : New w W := by subst hW; (repeat (first | (with_reducible exact New.refl _) | (with_reducible assumption) | ((with_reducible refine New.setB ?_ ?_ _); focus (first | omega | (simp; omega) | (simp; done))) | (with_reducible refine New.alloc ?_ _) | (with_reducible refine New.drew ?_) | (with_reducible refine New.drewN ?_ _) | (with_reducible refine New.hat ?_ _) | ((with_reducible apply New.snart); (with_reducible assumption))))
  clear hW
  refine (T1.out _ (L.out.new hn)).mono ?_
  rintro e w2 ⟨v1, rfl, S1, n2⟩
  ((replace c0 := New.keep n2 c0); (replace c1 := New.keep n2 c1); (replace c2 := New.keep n2 c2); (replace c3 := New.keep n2 c3); (replace c4 := New.keep n2 c4); (replace c5 := New.keep n2 c5); (replace c6 := New.keep n2 c6))
  ((replace d0 := New.keep n2 d0); (replace d1 := New.keep n2 d1); (replace d2 := New.keep n2 d2); (replace d3 := New.keep n2 d3); (replace d4 := New.keep n2 d4); (replace d5 := New.keep n2 d5); (replace d6 := New.keep n2 d6); (replace d7 := New.keep n2 d7); (replace d8 := New.keep n2 d8); (replace d9 := New.keep n2 d9))
  ((replace e0 := New.keep n2 e0); (replace e1 := New.keep n2 e1); (replace e2 := New.keep n2 e2); (replace e3 := New.keep n2 e3); (replace e4 := New.keep n2 e4); (replace e5 := New.keep n2 e5); (replace e6 := New.keep n2 e6); (replace e7 := New.keep n2 e7))
  replace hn := hn.trans n2
  replace S1 := Lib.hid S1
  clear n2 T1
  go_wp2_with fail
  refine (T2.out _).mono ?_
  rintro e w3 ⟨v2, rfl, S2, n2⟩
  ((replace c0 := New.keep n2 c0); (replace c1 := New.keep n2 c1); (replace c2 := New.keep n2 c2); (replace c3 := New.keep n2 c3); (replace c4 := New.keep n2 c4); (replace c5 := New.keep n2 c5); (replace c6 := New.keep n2 c6))
  ((replace e0 := New.keep n2 e0); (replace e1 := New.keep n2 e1); (replace e2 := New.keep n2 e2); (replace e3 := New.keep n2 e3); (replace e4 := New.keep n2 e4); (replace e5 := New.keep n2 e5); (replace e6 := New.keep n2 e6); (replace e7 := New.keep n2 e7))
  replace hn := hn.trans n2
  replace S1 := Lib.hid (S1.out.keep n2)
  replace S2 := Lib.hid S2
  clear n2 T2 d0 d1 d2 d3 d4 d5 d6 d7 d8 d9
  go_wp2_with fail
  refine (B1.out _ (L.out.new hn)).mono ?_
  rintro e w4 ⟨v3, rfl, S3, n2⟩
  ((replace c0 := New.keep n2 c0); (replace c1 := New.keep n2 c1); (replace c2 := New.keep n2 c2); (replace c3 := New.keep n2 c3); (replace c4 := New.keep n2 c4); (replace c5 := New.keep n2 c5); (replace c6 := New.keep n2 c6))
  ((replace e0 := New.keep n2 e0); (replace e1 := New.keep n2 e1); (replace e2 := New.keep n2 e2); (replace e3 := New.keep n2 e3); (replace e4 := New.keep n2 e4); (replace e5 := New.keep n2 e5); (replace e6 := New.keep n2 e6); (replace e7 := New.keep n2 e7))
  replace hn := hn.trans n2
  replace S1 := Lib.hid (S1.out.keep n2)
  replace S2 := Lib.hid (S2.out.keep n2)
  replace S3 := Lib.hid S3
  clear n2 B1
  go_wp2_with fail
  refine (B2.out _).mono ?_
  rintro e w5 ⟨v4, rfl, S4, n2⟩
  replace hn := hn.trans n2
  replace S1 := Lib.hid (S1.out.keep n2)
  replace S2 := Lib.hid (S2.out.keep n2)
  replace S3 := Lib.hid (S3.out.keep n2)
  replace S4 := Lib.hid S4
  clear n2 B2 c0 c1 c2 c3 c4 c5 c6 e0 e1 e2 e3 e4 e5 e6 e7
  have q1 : (c == c) = true := by simp
  have q2 : (d == d) = true := by simp
  go_wp2_with fail
  refine (IT.out v1 v2 _ S1.out S2.out).mono ?_
  rintro e w6 ⟨rfl, n2⟩
  rw [decide_eq_true trivial]
  replace hn := hn.trans n2
  replace S3 := Lib.hid (S3.out.keep n2)
  replace S4 := Lib.hid (S4.out.keep n2)
  clear n2 IT S1 S2
  go_wp2_with fail
  refine (IB.out v3 v4 _ S3.out S4.out).mono ?_
  rintro e w7 ⟨rfl, n2⟩
  rw [decide_eq_true trivial]
  replace hn := hn.trans n2
  clear n2 IB S3 S4
  go_wp2_with fail
  refine (WK.out _ (L.out.new hn)).mono ?_
  rintro e w8 ⟨rfl, n2⟩
  go_wp2_with fail
  go_ret
  exact ⟨rfl, hn.trans n2⟩

end Go.Proofs.YtonngfogbnfbnaaDoor
