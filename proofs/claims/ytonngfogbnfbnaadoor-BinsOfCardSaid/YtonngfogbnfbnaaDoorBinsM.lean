/- What a triangle touches: bins.Tris, and the document's own. -/
import Derived.Test.YtonngfogbnfbnaaDoorBinsJ
import Derived.Test.YtonngfogbnfbnaaDoorTriD
namespace Go.Proofs.YtonngfogbnfbnaaDoor
open Go.RowKit
set_option linter.unusedVariables false
set_option maxRecDepth 100000

/-- A list and an error. -/
def ListPost (c : Int) (l : List Int) (w : World) (e : Ending) (w' : World) : Prop :=
  ∃ v, e = .returned (.tuple #[v, .int .i64 c]) ∧ Sl iE 1 w' v l ∧ New w w'

/-- The tiles of a triangle. -/
def trisL (cl cb ht ri ru wd dp i x0 y0 z0 x1 y1 z1 x2 y2 z2 : Int) : List Int :=
  if tCheckE cl cb ht ri ru wd dp i x0 y0 z0 x1 y1 z1 x2 y2 z2 = 0 then tilesL cl cb ht ri ru wd dp (minI x0 x1 x2 - 1) (minI z0 z1 z2 - 1) (maxI x0 x1 x2) (maxI z0 z1 z2) else []

theorem tri_bd {cl cb ht ri ru wd dp i x0 y0 z0 x1 y1 z1 x2 y2 z2 : Int} (h : tCheckE cl cb ht ri ru wd dp i x0 y0 z0 x1 y1 z1 x2 y2 z2 = 0) :
    (0 ≤ minI x0 x1 x2 ∧ minI x0 x1 x2 ≤ 32) ∧ (0 ≤ minI z0 z1 z2 ∧ minI z0 z1 z2 ≤ 32) := by
  unfold tCheckE at h
  split at h
  · exact absurd h (by decide)
  · split at h
    · rename_i h1
      obtain ⟨_, _, h2⟩ := h1
      unfold okB at h2
      rw [Bool.and_eq_true] at h2
      have h3 := stB_iff.1 h2.1
      unfold StP StV at h3
      unfold minI
      omega
    · exact absurd h (by decide)

set_option maxHeartbeats 4000000 in
theorem bTris_any (cl cb ht ri ru wd dp i x0 y0 z0 x1 y1 z1 x2 y2 z2 : Int) (w : World) (hl : Nowhere w) :
    Calls Tryd.prog 14 #[.agg #[.int .i64 cl, .int .i64 cb, .int .i64 ht, .int .i64 ri, .int .i64 ru, .int .i64 wd, .int .i64 dp], .agg #[.int .i64 i, .int .i64 x0, .int .i64 y0, .int .i64 z0, .int .i64 x1, .int .i64 y1, .int .i64 z1, .int .i64 x2, .int .i64 y2, .int .i64 z2]] w (ListPost (tCheckE cl cb ht ri ru wd dp i x0 y0 z0 x1 y1 z1 x2 y2 z2) (trisL cl cb ht ri ru wd dp i x0 y0 z0 x1 y1 z1 x2 y2 z2) w) := by
  have KC := Lib.hid (fun W => t_check cl cb ht ri ru wd dp i x0 y0 z0 x1 y1 z1 x2 y2 z2 W)
  have KB := Lib.hid (fun W => t_bounds i x0 y0 z0 x1 y1 z1 x2 y2 z2 W)
  have bd := tri_bd (cl := cl) (cb := cb) (ht := ht) (ri := ri) (ru := ru) (wd := wd) (dp := dp) (i := i) (x0 := x0) (y0 := y0) (z0 := z0) (x1 := x1) (y1 := y1) (z1 := z1) (x2 := x2) (y2 := y2) (z2 := z2)
  unfold trisL
  generalize tCheckE cl cb ht ri ru wd dp i x0 y0 z0 x1 y1 z1 x2 y2 z2 = c at *
  by_cases h0 : c = 0
  rotate_left
  · rw [if_neg h0]
    have hne : (c != 0) = true := by simpa using h0
    clear bd KB
    go_enter Tryd.func14, Tryd.ntmps14
    go_wp2_with fail
    refine Calls.at (fun W hW => ?_)
    have hn : New w W := by subst hW; (repeat (first | (with_reducible exact New.refl _) | (with_reducible assumption) | ((with_reducible refine New.setB ?_ ?_ _); focus (first | omega | (simp; omega) | (simp; done))) | (with_reducible refine New.alloc ?_ _) | (with_reducible refine New.drew ?_) | (with_reducible refine New.drewN ?_ _) | (with_reducible refine New.hat ?_ _) | ((with_reducible apply New.snart); (with_reducible assumption))))
    clear hW
    refine (KC.out _).mono ?_
    rintro e w1 ⟨rfl, n1⟩
    replace hn := hn.trans n1
    go_wp2_with fail
    go_ret2
    exact ⟨_, rfl, Sl.nil, hn⟩
  · subst h0
    rw [if_pos rfl]
    obtain ⟨bx, bz⟩ := bd rfl
    generalize minI x0 x1 x2 = lx at *
    generalize minI z0 z1 z2 = lz at *
    generalize minI y0 y1 y2 = ly at *
    generalize maxI x0 x1 x2 = hx at *
    generalize maxI y0 y1 y2 = hy at *
    generalize maxI z0 z1 z2 = hz at *
    go_enter Tryd.func14, Tryd.ntmps14
    go_wp2_with fail
    refine Calls.at (fun W hW => ?_)
    have hn : New w W := by subst hW; (repeat (first | (with_reducible exact New.refl _) | (with_reducible assumption) | ((with_reducible refine New.setB ?_ ?_ _); focus (first | omega | (simp; omega) | (simp; done))) | (with_reducible refine New.alloc ?_ _) | (with_reducible refine New.drew ?_) | (with_reducible refine New.drewN ?_ _) | (with_reducible refine New.hat ?_ _) | ((with_reducible apply New.snart); (with_reducible assumption))))
    ((have c0 : W.cell? ⟨w.heap.size, 0, none⟩ = some (.int .i64 cl) := (by subst hW; go_simp)); (have c1 : W.cell? ⟨w.heap.size, 1, none⟩ = some (.int .i64 cb) := (by subst hW; go_simp)); (have c2 : W.cell? ⟨w.heap.size, 2, none⟩ = some (.int .i64 ht) := (by subst hW; go_simp)); (have c3 : W.cell? ⟨w.heap.size, 3, none⟩ = some (.int .i64 ri) := (by subst hW; go_simp)); (have c4 : W.cell? ⟨w.heap.size, 4, none⟩ = some (.int .i64 ru) := (by subst hW; go_simp)); (have c5 : W.cell? ⟨w.heap.size, 5, none⟩ = some (.int .i64 wd) := (by subst hW; go_simp)); (have c6 : W.cell? ⟨w.heap.size, 6, none⟩ = some (.int .i64 dp) := (by subst hW; go_simp)))
    ((have d0 : (W).cell? ⟨w.heap.size + 1, 0, none⟩ = some (.int .i64 i) := (by subst hW; go_simp)); (have d1 : (W).cell? ⟨w.heap.size + 1, 1, none⟩ = some (.int .i64 x0) := (by subst hW; go_simp)); (have d2 : (W).cell? ⟨w.heap.size + 1, 2, none⟩ = some (.int .i64 y0) := (by subst hW; go_simp)); (have d3 : (W).cell? ⟨w.heap.size + 1, 3, none⟩ = some (.int .i64 z0) := (by subst hW; go_simp)); (have d4 : (W).cell? ⟨w.heap.size + 1, 4, none⟩ = some (.int .i64 x1) := (by subst hW; go_simp)); (have d5 : (W).cell? ⟨w.heap.size + 1, 5, none⟩ = some (.int .i64 y1) := (by subst hW; go_simp)); (have d6 : (W).cell? ⟨w.heap.size + 1, 6, none⟩ = some (.int .i64 z1) := (by subst hW; go_simp)); (have d7 : (W).cell? ⟨w.heap.size + 1, 7, none⟩ = some (.int .i64 x2) := (by subst hW; go_simp)); (have d8 : (W).cell? ⟨w.heap.size + 1, 8, none⟩ = some (.int .i64 y2) := (by subst hW; go_simp)); (have d9 : (W).cell? ⟨w.heap.size + 1, 9, none⟩ = some (.int .i64 z2) := (by subst hW; go_simp)))
    clear hW
    refine (KC.out _).mono ?_
    rintro e w1 ⟨rfl, n1⟩
    ((replace c0 := New.keep n1 c0); (replace c1 := New.keep n1 c1); (replace c2 := New.keep n1 c2); (replace c3 := New.keep n1 c3); (replace c4 := New.keep n1 c4); (replace c5 := New.keep n1 c5); (replace c6 := New.keep n1 c6))
    ((replace d0 := New.keep n1 d0); (replace d1 := New.keep n1 d1); (replace d2 := New.keep n1 d2); (replace d3 := New.keep n1 d3); (replace d4 := New.keep n1 d4); (replace d5 := New.keep n1 d5); (replace d6 := New.keep n1 d6); (replace d7 := New.keep n1 d7); (replace d8 := New.keep n1 d8); (replace d9 := New.keep n1 d9))
    replace hn := hn.trans n1
    clear n1 KC
    go_wp2_with fail
    refine (KB.out _).mono ?_
    rintro e w2 ⟨rfl, n1⟩
    ((replace c0 := New.keep n1 c0); (replace c1 := New.keep n1 c1); (replace c2 := New.keep n1 c2); (replace c3 := New.keep n1 c3); (replace c4 := New.keep n1 c4); (replace c5 := New.keep n1 c5); (replace c6 := New.keep n1 c6))
    replace hn := hn.trans n1
    clear n1 KB d0 d1 d2 d3 d4 d5 d6 d7 d8 d9
    have zz := World.block_lt_of_cell? _ _ c1
    simp only [] at zz
    go_wp2_with fail
    refine Calls.at (fun W hW => ?_)
    replace hn : New w W := by subst hW; (repeat (first | (with_reducible exact New.refl _) | (with_reducible assumption) | ((with_reducible refine New.setB ?_ ?_ _); focus (first | omega | (simp; omega) | (simp; done))) | (with_reducible refine New.alloc ?_ _) | (with_reducible refine New.drew ?_) | (with_reducible refine New.drewN ?_ _) | (with_reducible refine New.hat ?_ _) | ((with_reducible apply New.snart); (with_reducible assumption))))
    clear hW c0 c1 c2 c3 c4 c5 c6 zz
    refine (bEach_any cl cb ht ri ru wd dp (lx - 1) (lz - 1) hx hz W).mono ?_
    rintro e w3 ⟨Bc, rfl, hE, -, -, n3⟩
    replace hn := hn.trans n3
    unfold seqV
    go_wp2_with fail
    refine (bList_any cl cb ht ri ru wd dp (lx - 1) (lz - 1) hx hz Bc w3 hE (hl.new hn)).mono ?_
    rintro e w4 ⟨v, rfl, hrow, n4⟩
    go_wp2_with fail
    go_ret2
    exact ⟨_, rfl, own_sl iE_len hrow, hn.trans n4⟩

end Go.Proofs.YtonngfogbnfbnaaDoor
