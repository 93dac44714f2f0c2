/- What a triangle, a box touches: the document's own. -/
import Derived.Test.YtonngfogbnfbnaaDoorBinsN
import Derived.Test.YtonngfogbnfbnaaDoorSoCA
import Derived.Test.YtonngfogbnfbnaaDoorTriS
import Derived.Test.YtonngfogbnfbnaaDoorTriP
namespace Go.Proofs.YtonngfogbnfbnaaDoor
open Go.RowKit
set_option linter.unusedVariables false
set_option maxRecDepth 100000

set_option maxHeartbeats 4000000 in
theorem rTris_any (cl cb ht ri ru wd dp i x0 y0 z0 x1 y1 z1 x2 y2 z2 : Int) (w : World) :
    Calls Tryd.prog 15 #[.agg #[.int .i64 cl, .int .i64 cb, .int .i64 ht, .int .i64 ri, .int .i64 ru, .int .i64 wd, .int .i64 dp], .agg #[.int .i64 i, .int .i64 x0, .int .i64 y0, .int .i64 z0, .int .i64 x1, .int .i64 y1, .int .i64 z1, .int .i64 x2, .int .i64 y2, .int .i64 z2]] w (ListPost (tCheckE cl cb ht ri ru wd dp i x0 y0 z0 x1 y1 z1 x2 y2 z2) (trisL cl cb ht ri ru wd dp i x0 y0 z0 x1 y1 z1 x2 y2 z2) w) := by
  have KC := Lib.hid (fun W => r_check cl cb ht ri ru wd dp i x0 y0 z0 x1 y1 z1 x2 y2 z2 W)
  have KB := Lib.hid (fun W => r_bounds i x0 y0 z0 x1 y1 z1 x2 y2 z2 W)
  have bd := tri_bd (cl := cl) (cb := cb) (ht := ht) (ri := ri) (ru := ru) (wd := wd) (dp := dp) (i := i) (x0 := x0) (y0 := y0) (z0 := z0) (x1 := x1) (y1 := y1) (z1 := z1) (x2 := x2) (y2 := y2) (z2 := z2)
  unfold trisL
  generalize tCheckE cl cb ht ri ru wd dp i x0 y0 z0 x1 y1 z1 x2 y2 z2 = c at *
  by_cases h0 : c = 0
  rotate_left
  · rw [if_neg h0]
    have hne : (c != 0) = true := by simpa using h0
    clear bd KB
    go_enter Tryd.func15, Tryd.ntmps15
    go_wp2_with fail
    refine Calls.at (fun W hW => ?_)
    have hn : New w W := by subst hW; (repeat (first | (with_reducible exact New.refl _) | (with_reducible assumption) | ((with_reducible refine New.setB ?_ ?_ _); focus (first | omega | (simp; omega) | (simp; done))) | (with_reducible refine New.alloc ?_ _) | (with_reducible refine New.drew ?_) | (with_reducible refine New.drewN ?_ _) | (with_reducible refine New.hat ?_ _) | ((with_reducible apply New.snart); (with_reducible assumption))))
    clear hW
    refine (KC.out _).mono ?_
    rintro e w1 ⟨rfl, n1⟩
    replace hn := hn.trans n1
    go_wp2_with fail
    go_ret2
    exact ⟨_, rfl, Sl.nil, hn⟩
  · subst h0
    rw [if_pos rfl]
    obtain ⟨bx, bz⟩ := bd rfl
    generalize minI x0 x1 x2 = lx at *
    generalize minI z0 z1 z2 = lz at *
    generalize minI y0 y1 y2 = ly at *
    generalize maxI x0 x1 x2 = hx at *
    generalize maxI y0 y1 y2 = hy at *
    generalize maxI z0 z1 z2 = hz at *
    go_enter Tryd.func15, Tryd.ntmps15
    go_wp2_with fail
    refine Calls.at (fun W hW => ?_)
    have hn : New w W := by subst hW; (repeat (first | (with_reducible exact New.refl _) | (with_reducible assumption) | ((with_reducible refine New.setB ?_ ?_ _); focus (first | omega | (simp; omega) | (simp; done))) | (with_reducible refine New.alloc ?_ _) | (with_reducible refine New.drew ?_) | (with_reducible refine New.drewN ?_ _) | (with_reducible refine New.hat ?_ _) | ((with_reducible apply New.snart); (with_reducible assumption))))
    ((have c0 : W.cell? ⟨w.heap.size, 0, none⟩ = some (.int .i64 cl) := (by subst hW; go_simp)); (have c1 : W.cell? ⟨w.heap.size, 1, none⟩ = some (.int .i64 cb) := (by subst hW; go_simp)); (have c2 : W.cell? ⟨w.heap.size, 2, none⟩ = some (.int .i64 ht) := (by subst hW; go_simp)); (have c3 : W.cell? ⟨w.heap.size, 3, none⟩ = some (.int .i64 ri) := (by subst hW; go_simp)); (have c4 : W.cell? ⟨w.heap.size, 4, none⟩ = some (.int .i64 ru) := (by subst hW; go_simp)); (have c5 : W.cell? ⟨w.heap.size, 5, none⟩ = some (.int .i64 wd) := (by subst hW; go_simp)); (have c6 : W.cell? ⟨w.heap.size, 6, none⟩ = some (.int .i64 dp) := (by subst hW; go_simp)))
    ((have d0 : (W).cell? ⟨w.heap.size + 1, 0, none⟩ = some (.int .i64 i) := (by subst hW; go_simp)); (have d1 : (W).cell? ⟨w.heap.size + 1, 1, none⟩ = some (.int .i64 x0) := (by subst hW; go_simp)); (have d2 : (W).cell? ⟨w.heap.size + 1, 2, none⟩ = some (.int .i64 y0) := (by subst hW; go_simp)); (have d3 : (W).cell? ⟨w.heap.size + 1, 3, none⟩ = some (.int .i64 z0) := (by subst hW; go_simp)); (have d4 : (W).cell? ⟨w.heap.size + 1, 4, none⟩ = some (.int .i64 x1) := (by subst hW; go_simp)); (have d5 : (W).cell? ⟨w.heap.size + 1, 5, none⟩ = some (.int .i64 y1) := (by subst hW; go_simp)); (have d6 : (W).cell? ⟨w.heap.size + 1, 6, none⟩ = some (.int .i64 z1) := (by subst hW; go_simp)); (have d7 : (W).cell? ⟨w.heap.size + 1, 7, none⟩ = some (.int .i64 x2) := (by subst hW; go_simp)); (have d8 : (W).cell? ⟨w.heap.size + 1, 8, none⟩ = some (.int .i64 y2) := (by subst hW; go_simp)); (have d9 : (W).cell? ⟨w.heap.size + 1, 9, none⟩ = some (.int .i64 z2) := (by subst hW; go_simp)))
    clear hW
    refine (KC.out _).mono ?_
    rintro e w1 ⟨rfl, n1⟩
    ((replace c0 := New.keep n1 c0); (replace c1 := New.keep n1 c1); (replace c2 := New.keep n1 c2); (replace c3 := New.keep n1 c3); (replace c4 := New.keep n1 c4); (replace c5 := New.keep n1 c5); (replace c6 := New.keep n1 c6))
    ((replace d0 := New.keep n1 d0); (replace d1 := New.keep n1 d1); (replace d2 := New.keep n1 d2); (replace d3 := New.keep n1 d3); (replace d4 := New.keep n1 d4); (replace d5 := New.keep n1 d5); (replace d6 := New.keep n1 d6); (replace d7 := New.keep n1 d7); (replace d8 := New.keep n1 d8); (replace d9 := New.keep n1 d9))
    replace hn := hn.trans n1
    clear n1 KC
    go_wp2_with fail
    refine (KB.out _).mono ?_
    rintro e w2 ⟨rfl, n1⟩
    ((replace c0 := New.keep n1 c0); (replace c1 := New.keep n1 c1); (replace c2 := New.keep n1 c2); (replace c3 := New.keep n1 c3); (replace c4 := New.keep n1 c4); (replace c5 := New.keep n1 c5); (replace c6 := New.keep n1 c6))
    replace hn := hn.trans n1
    clear n1 KB d0 d1 d2 d3 d4 d5 d6 d7 d8 d9
    have zz := World.block_lt_of_cell? _ _ c1
    simp only [] at zz
    go_wp2_with fail
    refine Calls.at (fun W hW => ?_)
    replace hn : New w W := by subst hW; (repeat (first | (with_reducible exact New.refl _) | (with_reducible assumption) | ((with_reducible refine New.setB ?_ ?_ _); focus (first | omega | (simp; omega) | (simp; done))) | (with_reducible refine New.alloc ?_ _) | (with_reducible refine New.drew ?_) | (with_reducible refine New.drewN ?_ _) | (with_reducible refine New.hat ?_ _) | ((with_reducible apply New.snart); (with_reducible assumption))))
    clear hW c0 c1 c2 c3 c4 c5 c6 zz
    refine (rAll_any cl cb ht ri ru wd dp (lx - 1) (lz - 1) hx hz W).mono ?_
    rintro e w4 ⟨v, rfl, hrow, n4⟩
    go_wp2_with fail
    go_ret2
    exact ⟨_, rfl, own_sl iE_len hrow, hn.trans n4⟩

theorem BoxR.may_iff (C : CfgR) (X : BoxR) : X.may C = true ↔ X.tests C = true ∧ 1 ≤ X.i ∧ X.i ≤ 1073741824 := by
  simp only [BoxR.may, ordB, Bool.and_eq_true, decide_eq_true_eq, Bool.and_true]
  exact ⟨fun ⟨h, t⟩ => ⟨t, h⟩, fun ⟨t, h⟩ => ⟨h, t⟩⟩

set_option maxHeartbeats 4000000 in
theorem rBoxes_any (C : CfgR) (X : BoxR) (w : World) :
    Calls Tryd.prog 17 #[.agg #[.int .i64 C.cl, .int .i64 C.cb, .int .i64 C.ht, .int .i64 C.ri, .int .i64 C.ru, .int .i64 C.wd, .int .i64 C.dp], .agg #[.int .i64 X.i, .int .i64 X.x0, .int .i64 X.z0, .int .i64 X.x1, .int .i64 X.z1, .int .i64 X.y0, .int .i64 X.y1, .int .i64 X.ar]] w (ListPost (boxE C X) (boxesL C X) w) := by
  have KC := Lib.hid (fun W => rcheck_any C.cl C.cb C.ht C.ri C.ru C.wd C.dp W)
  have KM := Lib.hid (fun W => u_mayBox C X W)
  have IF := BoxR.may_iff C X
  have htwo := checkE_two C.cl C.cb C.ht C.ri C.ru C.wd C.dp
  unfold boxesL boxE CfgR.err
  generalize checkE C.cl C.cb C.ht C.ri C.ru C.wd C.dp = c at *
  rcases htwo with rfl | rfl
  rotate_left
  · rw [if_pos (by decide), if_neg (by decide)]
    clear IF KM
    go_enter Tryd.func17, Tryd.ntmps17
    go_wp2_with fail
    refine Calls.at (fun W hW => ?_)
    have hn : New w W := by subst hW; (repeat (first | (with_reducible exact New.refl _) | (with_reducible assumption) | ((with_reducible refine New.setB ?_ ?_ _); focus (first | omega | (simp; omega) | (simp; done))) | (with_reducible refine New.alloc ?_ _) | (with_reducible refine New.drew ?_) | (with_reducible refine New.drewN ?_ _) | (with_reducible refine New.hat ?_ _) | ((with_reducible apply New.snart); (with_reducible assumption))))
    clear hW
    refine (KC.out _).mono ?_
    rintro e w1 ⟨rfl, n1, -⟩
    replace hn := hn.trans n1
    go_wp2_with fail
    go_ret2
    exact ⟨_, rfl, Sl.nil, hn⟩
  rw [if_neg (by decide)]
  obtain ⟨m, hm⟩ : ∃ m, m = X.may C := ⟨_, rfl⟩
  obtain ⟨t, ht⟩ : ∃ t, t = X.tests C := ⟨_, rfl⟩
  rw [← hm, ← ht] at IF
  rw [← ht] at KM
  rw [← hm]
  clear hm ht
  by_cases hb : t = true ∧ 1 ≤ X.i ∧ X.i ≤ 1073741824
  · obtain rfl := IF.2 hb
    obtain ⟨rfl, h1, h2⟩ := hb
    rw [if_pos rfl, if_pos rfl]
    clear IF
    have q1 : decide (X.i < 1) = false := decide_eq_false (by omega)
    have q2 : decide (1073741824 < X.i) = false := decide_eq_false (by omega)
    go_enter Tryd.func17, Tryd.ntmps17
    go_wp2_with fail
    refine Calls.at (fun W hW => ?_)
    have hn : New w W := by subst hW; (repeat (first | (with_reducible exact New.refl _) | (with_reducible assumption) | ((with_reducible refine New.setB ?_ ?_ _); focus (first | omega | (simp; omega) | (simp; done))) | (with_reducible refine New.alloc ?_ _) | (with_reducible refine New.drew ?_) | (with_reducible refine New.drewN ?_ _) | (with_reducible refine New.hat ?_ _) | ((with_reducible apply New.snart); (with_reducible assumption))))
    ((have c0 : W.cell? ⟨w.heap.size, 0, none⟩ = some (.int .i64 C.cl) := (by subst hW; go_simp)); (have c1 : W.cell? ⟨w.heap.size, 1, none⟩ = some (.int .i64 C.cb) := (by subst hW; go_simp)); (have c2 : W.cell? ⟨w.heap.size, 2, none⟩ = some (.int .i64 C.ht) := (by subst hW; go_simp)); (have c3 : W.cell? ⟨w.heap.size, 3, none⟩ = some (.int .i64 C.ri) := (by subst hW; go_simp)); (have c4 : W.cell? ⟨w.heap.size, 4, none⟩ = some (.int .i64 C.ru) := (by subst hW; go_simp)); (have c5 : W.cell? ⟨w.heap.size, 5, none⟩ = some (.int .i64 C.wd) := (by subst hW; go_simp)); (have c6 : W.cell? ⟨w.heap.size, 6, none⟩ = some (.int .i64 C.dp) := (by subst hW; go_simp)))
    ((have d0 : (W).cell? ⟨w.heap.size + 1, 0, none⟩ = some (.int .i64 X.i) := (by subst hW; go_simp)); (have d1 : (W).cell? ⟨w.heap.size + 1, 1, none⟩ = some (.int .i64 X.x0) := (by subst hW; go_simp)); (have d2 : (W).cell? ⟨w.heap.size + 1, 2, none⟩ = some (.int .i64 X.z0) := (by subst hW; go_simp)); (have d3 : (W).cell? ⟨w.heap.size + 1, 3, none⟩ = some (.int .i64 X.x1) := (by subst hW; go_simp)); (have d4 : (W).cell? ⟨w.heap.size + 1, 4, none⟩ = some (.int .i64 X.z1) := (by subst hW; go_simp)); (have d5 : (W).cell? ⟨w.heap.size + 1, 5, none⟩ = some (.int .i64 X.y0) := (by subst hW; go_simp)); (have d6 : (W).cell? ⟨w.heap.size + 1, 6, none⟩ = some (.int .i64 X.y1) := (by subst hW; go_simp)); (have d7 : (W).cell? ⟨w.heap.size + 1, 7, none⟩ = some (.int .i64 X.ar) := (by subst hW; go_simp)))
    clear hW
    refine (KC.out _).mono ?_
    rintro e w1 ⟨rfl, n1, -⟩
    ((replace c0 := New.keep n1 c0); (replace c1 := New.keep n1 c1); (replace c2 := New.keep n1 c2); (replace c3 := New.keep n1 c3); (replace c4 := New.keep n1 c4); (replace c5 := New.keep n1 c5); (replace c6 := New.keep n1 c6))
    ((replace d0 := New.keep n1 d0); (replace d1 := New.keep n1 d1); (replace d2 := New.keep n1 d2); (replace d3 := New.keep n1 d3); (replace d4 := New.keep n1 d4); (replace d5 := New.keep n1 d5); (replace d6 := New.keep n1 d6); (replace d7 := New.keep n1 d7))
    replace hn := hn.trans n1
    clear n1 KC
    go_wp2_with fail
    refine (KM.out _).mono ?_
    rintro e w2 ⟨rfl, n1⟩
    ((replace c0 := New.keep n1 c0); (replace c1 := New.keep n1 c1); (replace c2 := New.keep n1 c2); (replace c3 := New.keep n1 c3); (replace c4 := New.keep n1 c4); (replace c5 := New.keep n1 c5); (replace c6 := New.keep n1 c6))
    ((replace d0 := New.keep n1 d0); (replace d1 := New.keep n1 d1); (replace d2 := New.keep n1 d2); (replace d3 := New.keep n1 d3); (replace d4 := New.keep n1 d4); (replace d5 := New.keep n1 d5); (replace d6 := New.keep n1 d6); (replace d7 := New.keep n1 d7))
    replace hn := hn.trans n1
    clear n1 KM
    go_wp2_with fail
    refine Calls.at (fun W hW => ?_)
    replace hn : New w W := by subst hW; (repeat (first | (with_reducible exact New.refl _) | (with_reducible assumption) | ((with_reducible refine New.setB ?_ ?_ _); focus (first | omega | (simp; omega) | (simp; done))) | (with_reducible refine New.alloc ?_ _) | (with_reducible refine New.drew ?_) | (with_reducible refine New.drewN ?_ _) | (with_reducible refine New.hat ?_ _) | ((with_reducible apply New.snart); (with_reducible assumption))))
    clear hW c0 c1 c2 c3 c4 c5 c6 d0 d1 d2 d3 d4 d5 d6 d7
    refine (rAll_any C.cl C.cb C.ht C.ri C.ru C.wd C.dp X.x0 X.z0 X.x1 X.z1 W).mono ?_
    rintro e w4 ⟨v, rfl, hrow, n4⟩
    go_wp2_with fail
    go_ret2
    exact ⟨_, rfl, own_sl iE_len hrow, hn.trans n4⟩
  · have hm : m = false := notTrue (fun h => hb (IF.1 h))
    subst hm
    rw [if_neg (by decide), if_neg (by decide)]
    clear IF
    go_enter Tryd.func17, Tryd.ntmps17
    go_wp2_with fail
    refine Calls.at (fun W hW => ?_)
    have hn : New w W := by subst hW; (repeat (first | (with_reducible exact New.refl _) | (with_reducible assumption) | ((with_reducible refine New.setB ?_ ?_ _); focus (first | omega | (simp; omega) | (simp; done))) | (with_reducible refine New.alloc ?_ _) | (with_reducible refine New.drew ?_) | (with_reducible refine New.drewN ?_ _) | (with_reducible refine New.hat ?_ _) | ((with_reducible apply New.snart); (with_reducible assumption))))
    ((have c0 : W.cell? ⟨w.heap.size, 0, none⟩ = some (.int .i64 C.cl) := (by subst hW; go_simp)); (have c1 : W.cell? ⟨w.heap.size, 1, none⟩ = some (.int .i64 C.cb) := (by subst hW; go_simp)); (have c2 : W.cell? ⟨w.heap.size, 2, none⟩ = some (.int .i64 C.ht) := (by subst hW; go_simp)); (have c3 : W.cell? ⟨w.heap.size, 3, none⟩ = some (.int .i64 C.ri) := (by subst hW; go_simp)); (have c4 : W.cell? ⟨w.heap.size, 4, none⟩ = some (.int .i64 C.ru) := (by subst hW; go_simp)); (have c5 : W.cell? ⟨w.heap.size, 5, none⟩ = some (.int .i64 C.wd) := (by subst hW; go_simp)); (have c6 : W.cell? ⟨w.heap.size, 6, none⟩ = some (.int .i64 C.dp) := (by subst hW; go_simp)))
    ((have d0 : (W).cell? ⟨w.heap.size + 1, 0, none⟩ = some (.int .i64 X.i) := (by subst hW; go_simp)); (have d1 : (W).cell? ⟨w.heap.size + 1, 1, none⟩ = some (.int .i64 X.x0) := (by subst hW; go_simp)); (have d2 : (W).cell? ⟨w.heap.size + 1, 2, none⟩ = some (.int .i64 X.z0) := (by subst hW; go_simp)); (have d3 : (W).cell? ⟨w.heap.size + 1, 3, none⟩ = some (.int .i64 X.x1) := (by subst hW; go_simp)); (have d4 : (W).cell? ⟨w.heap.size + 1, 4, none⟩ = some (.int .i64 X.z1) := (by subst hW; go_simp)); (have d5 : (W).cell? ⟨w.heap.size + 1, 5, none⟩ = some (.int .i64 X.y0) := (by subst hW; go_simp)); (have d6 : (W).cell? ⟨w.heap.size + 1, 6, none⟩ = some (.int .i64 X.y1) := (by subst hW; go_simp)); (have d7 : (W).cell? ⟨w.heap.size + 1, 7, none⟩ = some (.int .i64 X.ar) := (by subst hW; go_simp)))
    clear hW
    refine (KC.out _).mono ?_
    rintro e w1 ⟨rfl, n1, -⟩
    ((replace c0 := New.keep n1 c0); (replace c1 := New.keep n1 c1); (replace c2 := New.keep n1 c2); (replace c3 := New.keep n1 c3); (replace c4 := New.keep n1 c4); (replace c5 := New.keep n1 c5); (replace c6 := New.keep n1 c6))
    ((replace d0 := New.keep n1 d0); (replace d1 := New.keep n1 d1); (replace d2 := New.keep n1 d2); (replace d3 := New.keep n1 d3); (replace d4 := New.keep n1 d4); (replace d5 := New.keep n1 d5); (replace d6 := New.keep n1 d6); (replace d7 := New.keep n1 d7))
    replace hn := hn.trans n1
    clear n1 KC
    cases t with
    | false =>
      clear hb
      go_wp2_with fail
      refine (KM.out _).mono ?_
      rintro e w2 ⟨rfl, n1⟩
      replace hn := hn.trans n1
      go_wp2_with fail
      go_ret2
      exact ⟨_, rfl, Sl.nil, hn⟩
    | true =>
      by_cases h1 : X.i < 1
      · have q1 : decide (X.i < 1) = true := decide_eq_true h1
        clear h1 hb
        go_wp2_with fail
        refine (KM.out _).mono ?_
        rintro e w2 ⟨rfl, n1⟩
        ((replace d0 := New.keep n1 d0); (replace d1 := New.keep n1 d1); (replace d2 := New.keep n1 d2); (replace d3 := New.keep n1 d3); (replace d4 := New.keep n1 d4); (replace d5 := New.keep n1 d5); (replace d6 := New.keep n1 d6); (replace d7 := New.keep n1 d7))
        replace hn := hn.trans n1
        go_wp2_with fail
        go_ret2
        exact ⟨_, rfl, Sl.nil, hn⟩
      · have q1 : decide (X.i < 1) = false := decide_eq_false h1
        have h2 : ¬ X.i ≤ 1073741824 := fun h => hb ⟨rfl, by omega, h⟩
        have q2 : decide (1073741824 < X.i) = true := decide_eq_true (by omega)
        clear h1 hb
        go_wp2_with fail
        refine (KM.out _).mono ?_
        rintro e w2 ⟨rfl, n1⟩
        ((replace d0 := New.keep n1 d0); (replace d1 := New.keep n1 d1); (replace d2 := New.keep n1 d2); (replace d3 := New.keep n1 d3); (replace d4 := New.keep n1 d4); (replace d5 := New.keep n1 d5); (replace d6 := New.keep n1 d6); (replace d7 := New.keep n1 d7))
        replace hn := hn.trans n1
        go_wp2_with fail
        go_ret2
        exact ⟨_, rfl, Sl.nil, hn⟩

end Go.Proofs.YtonngfogbnfbnaaDoor
