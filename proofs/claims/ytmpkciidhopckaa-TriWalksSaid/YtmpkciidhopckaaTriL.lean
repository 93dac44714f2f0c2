/- Layer 4's statements, those that hold the document's answer beside: walked. -/
import Derived.Test.YtmpkciidhopckaaTriK
import Derived.Test.YtmpkciidhopckaaTriR
import Derived.Test.YtmpkciidhopckaaTriS
import Derived.Test.YtmpkciidhopckaaTriT
namespace Go.Proofs.Ytmpkciidhopckaa
open Go.RowKit
set_option linter.unusedVariables false

set_option maxHeartbeats 2000000 in
set_option maxRecDepth 100000 in
theorem l_walks (cl cb ht ri ru wd dp i x0 y0 z0 x1 y1 z1 x2 y2 z2 x z : Int) (w : World) :
    Calls Try.prog 6 #[.agg #[.int .i64 cl, .int .i64 cb, .int .i64 ht, .int .i64 ri, .int .i64 ru, .int .i64 wd, .int .i64 dp], .agg #[.int .i64 i, .int .i64 x0, .int .i64 y0, .int .i64 z0, .int .i64 x1, .int .i64 y1, .int .i64 z1, .int .i64 x2, .int .i64 y2, .int .i64 z2], .int .i64 x, .int .i64 z] w fun e w' => e = .returned (.bool true) ∧ New w w' := by
  have T1 := fun W => t_walk cl cb ht ri ru wd dp i x0 y0 z0 x1 y1 z1 x2 y2 z2 W
  have T2 := fun W => r_walk cl cb ht ri ru wd dp i x0 y0 z0 x1 y1 z1 x2 y2 z2 W
  have T3 := fun W => t_height i x0 y0 z0 x1 y1 z1 x2 y2 z2 x z W
  have T4 := fun W => r_height i x0 y0 z0 x1 y1 z1 x2 y2 z2 x z W
  generalize walkB cl cb ht ri ru wd dp x0 y0 z0 x1 y1 z1 x2 y2 z2 = A at *
  generalize walkE cl cb ht ri ru wd dp x0 y0 z0 x1 y1 z1 x2 y2 z2 = B at *
  generalize heightN x z x0 y0 z0 x1 y1 z1 x2 y2 z2 = C at *
  generalize heightD x z x0 y0 z0 x1 y1 z1 x2 y2 z2 = D at *
  generalize heightE x z x0 y0 z0 x1 y1 z1 x2 y2 z2 = E at *
  replace T1 := Lib.hid T1
  replace T2 := Lib.hid T2
  replace T3 := Lib.hid T3
  replace T4 := Lib.hid T4
  go_enter Try.func6, Try.ntmps6
  go_wp2_with fail
  generalize hW : World.alloc _ _ = W
  (have c0 : (W).cell? ⟨w.heap.size + 1, 0, none⟩ = some (.int .i64 i) := (by subst hW; go_simp)); (have c1 : (W).cell? ⟨w.heap.size + 1, 1, none⟩ = some (.int .i64 x0) := (by subst hW; go_simp)); (have c2 : (W).cell? ⟨w.heap.size + 1, 2, none⟩ = some (.int .i64 y0) := (by subst hW; go_simp)); (have c3 : (W).cell? ⟨w.heap.size + 1, 3, none⟩ = some (.int .i64 z0) := (by subst hW; go_simp)); (have c4 : (W).cell? ⟨w.heap.size + 1, 4, none⟩ = some (.int .i64 x1) := (by subst hW; go_simp)); (have c5 : (W).cell? ⟨w.heap.size + 1, 5, none⟩ = some (.int .i64 y1) := (by subst hW; go_simp)); (have c6 : (W).cell? ⟨w.heap.size + 1, 6, none⟩ = some (.int .i64 z1) := (by subst hW; go_simp)); (have c7 : (W).cell? ⟨w.heap.size + 1, 7, none⟩ = some (.int .i64 x2) := (by subst hW; go_simp)); (have c8 : (W).cell? ⟨w.heap.size + 1, 8, none⟩ = some (.int .i64 y2) := (by subst hW; go_simp)); (have c9 : (W).cell? ⟨w.heap.size + 1, 9, none⟩ = some (.int .i64 z2) := (by subst hW; go_simp))
  have b0 : W.cell? ⟨w.heap.size, 0, none⟩ = some (.int .i64 cl) := by subst hW; go_simp
  have b1 : W.cell? ⟨w.heap.size, 1, none⟩ = some (.int .i64 cb) := by subst hW; go_simp
  have b2 : W.cell? ⟨w.heap.size, 2, none⟩ = some (.int .i64 ht) := by subst hW; go_simp
  have b3 : W.cell? ⟨w.heap.size, 3, none⟩ = some (.int .i64 ri) := by subst hW; go_simp
  have b4 : W.cell? ⟨w.heap.size, 4, none⟩ = some (.int .i64 ru) := by subst hW; go_simp
  have b5 : W.cell? ⟨w.heap.size, 5, none⟩ = some (.int .i64 wd) := by subst hW; go_simp
  have b6 : W.cell? ⟨w.heap.size, 6, none⟩ = some (.int .i64 dp) := by subst hW; go_simp
  have hn : New w W := by subst hW; (repeat (first | (with_reducible exact New.refl _) | (with_reducible assumption) | ((with_reducible refine New.setB ?_ ?_ _); focus (first | omega | (simp; omega) | (simp; done))) | (with_reducible refine New.alloc ?_ _) | (with_reducible refine New.drew ?_) | (with_reducible refine New.drewN ?_ _) | (with_reducible refine New.hat ?_ _) | ((with_reducible apply New.snart); (with_reducible assumption))))
  clear hW
  refine (T1.out _).mono ?_
  rintro e W1 ⟨rfl, n1⟩
  ((replace c0 := New.keep n1 c0); (replace c1 := New.keep n1 c1); (replace c2 := New.keep n1 c2); (replace c3 := New.keep n1 c3); (replace c4 := New.keep n1 c4); (replace c5 := New.keep n1 c5); (replace c6 := New.keep n1 c6); (replace c7 := New.keep n1 c7); (replace c8 := New.keep n1 c8); (replace c9 := New.keep n1 c9))
  ((replace b0 := New.keep n1 b0); (replace b1 := New.keep n1 b1); (replace b2 := New.keep n1 b2); (replace b3 := New.keep n1 b3); (replace b4 := New.keep n1 b4); (replace b5 := New.keep n1 b5); (replace b6 := New.keep n1 b6))
  replace hn := hn.trans n1
  clear n1
  go_wp2_with fail
  refine (T2.out _).mono ?_
  rintro e W2 ⟨rfl, n1⟩
  ((replace c0 := New.keep n1 c0); (replace c1 := New.keep n1 c1); (replace c2 := New.keep n1 c2); (replace c3 := New.keep n1 c3); (replace c4 := New.keep n1 c4); (replace c5 := New.keep n1 c5); (replace c6 := New.keep n1 c6); (replace c7 := New.keep n1 c7); (replace c8 := New.keep n1 c8); (replace c9 := New.keep n1 c9))
  replace hn := hn.trans n1
  clear n1 b0 b1 b2 b3 b4 b5 b6
  go_wp2_with fail
  refine (T3.out _).mono ?_
  rintro e W3 ⟨rfl, n1⟩
  ((replace c0 := New.keep n1 c0); (replace c1 := New.keep n1 c1); (replace c2 := New.keep n1 c2); (replace c3 := New.keep n1 c3); (replace c4 := New.keep n1 c4); (replace c5 := New.keep n1 c5); (replace c6 := New.keep n1 c6); (replace c7 := New.keep n1 c7); (replace c8 := New.keep n1 c8); (replace c9 := New.keep n1 c9))
  replace hn := hn.trans n1
  clear n1
  go_wp2_with fail
  refine (T4.out _).mono ?_
  rintro e W4 ⟨rfl, n1⟩
  replace hn := hn.trans n1
  clear n1 c0 c1 c2 c3 c4 c5 c6 c7 c8 c9
  go_wp2_with fail
  refine (t_wakes _).mono ?_
  rintro e W5 ⟨rfl, n1⟩
  replace hn := hn.trans n1
  clear n1
  go_wp2_with fail
  go_ret
  exact ⟨rfl, hn⟩

theorem vEq_self (x y z : Int) : vEq x y z x y z = true := by unfold vEq; simp

set_option maxHeartbeats 2000000 in
set_option maxRecDepth 100000 in
theorem l_checks (cl cb ht ri ru wd dp i x0 y0 z0 x1 y1 z1 x2 y2 z2 : Int) (w : World) :
    Calls Try.prog 5 #[.agg #[.int .i64 cl, .int .i64 cb, .int .i64 ht, .int .i64 ri, .int .i64 ru, .int .i64 wd, .int .i64 dp], .agg #[.int .i64 i, .int .i64 x0, .int .i64 y0, .int .i64 z0, .int .i64 x1, .int .i64 y1, .int .i64 z1, .int .i64 x2, .int .i64 y2, .int .i64 z2]] w fun e w' => e = .returned (.bool true) ∧ New w w' := by
  have T1 := fun W => t_normal i x0 y0 z0 x1 y1 z1 x2 y2 z2 W
  have T2 := fun W => r_normal i x0 y0 z0 x1 y1 z1 x2 y2 z2 W
  have T3 := fun W => t_bounds i x0 y0 z0 x1 y1 z1 x2 y2 z2 W
  have T4 := fun W => r_bounds i x0 y0 z0 x1 y1 z1 x2 y2 z2 W
  have T5 := fun W => t_check cl cb ht ri ru wd dp i x0 y0 z0 x1 y1 z1 x2 y2 z2 W
  have T6 := fun W => r_check cl cb ht ri ru wd dp i x0 y0 z0 x1 y1 z1 x2 y2 z2 W
  generalize normX x0 y0 z0 x1 y1 z1 x2 y2 z2 = A at *
  generalize normY x0 y0 z0 x1 y1 z1 x2 y2 z2 = B at *
  generalize normZ x0 y0 z0 x1 y1 z1 x2 y2 z2 = C at *
  generalize normE x0 y0 z0 x1 y1 z1 x2 y2 z2 = D at *
  generalize tCheckE cl cb ht ri ru wd dp i x0 y0 z0 x1 y1 z1 x2 y2 z2 = E at *
  generalize minI x0 x1 x2 = lx at *
  generalize minI y0 y1 y2 = ly at *
  generalize minI z0 z1 z2 = lz at *
  generalize maxI x0 x1 x2 = hx at *
  generalize maxI y0 y1 y2 = hy at *
  generalize maxI z0 z1 z2 = hz at *
  have E1 := fun W => v_eql W lx ly lz lx ly lz
  have E2 := fun W => v_eql W hx hy hz hx hy hz
  rw [vEq_self] at E1 E2
  replace T1 := Lib.hid T1
  replace T2 := Lib.hid T2
  replace T3 := Lib.hid T3
  replace T4 := Lib.hid T4
  replace T5 := Lib.hid T5
  replace T6 := Lib.hid T6
  go_enter Try.func5, Try.ntmps5
  go_wp2_with fail
  generalize hW : World.alloc _ _ = W
  (have c0 : (W).cell? ⟨w.heap.size + 1, 0, none⟩ = some (.int .i64 i) := (by subst hW; go_simp)); (have c1 : (W).cell? ⟨w.heap.size + 1, 1, none⟩ = some (.int .i64 x0) := (by subst hW; go_simp)); (have c2 : (W).cell? ⟨w.heap.size + 1, 2, none⟩ = some (.int .i64 y0) := (by subst hW; go_simp)); (have c3 : (W).cell? ⟨w.heap.size + 1, 3, none⟩ = some (.int .i64 z0) := (by subst hW; go_simp)); (have c4 : (W).cell? ⟨w.heap.size + 1, 4, none⟩ = some (.int .i64 x1) := (by subst hW; go_simp)); (have c5 : (W).cell? ⟨w.heap.size + 1, 5, none⟩ = some (.int .i64 y1) := (by subst hW; go_simp)); (have c6 : (W).cell? ⟨w.heap.size + 1, 6, none⟩ = some (.int .i64 z1) := (by subst hW; go_simp)); (have c7 : (W).cell? ⟨w.heap.size + 1, 7, none⟩ = some (.int .i64 x2) := (by subst hW; go_simp)); (have c8 : (W).cell? ⟨w.heap.size + 1, 8, none⟩ = some (.int .i64 y2) := (by subst hW; go_simp)); (have c9 : (W).cell? ⟨w.heap.size + 1, 9, none⟩ = some (.int .i64 z2) := (by subst hW; go_simp))
  have b0 : W.cell? ⟨w.heap.size, 0, none⟩ = some (.int .i64 cl) := by subst hW; go_simp
  have b1 : W.cell? ⟨w.heap.size, 1, none⟩ = some (.int .i64 cb) := by subst hW; go_simp
  have b2 : W.cell? ⟨w.heap.size, 2, none⟩ = some (.int .i64 ht) := by subst hW; go_simp
  have b3 : W.cell? ⟨w.heap.size, 3, none⟩ = some (.int .i64 ri) := by subst hW; go_simp
  have b4 : W.cell? ⟨w.heap.size, 4, none⟩ = some (.int .i64 ru) := by subst hW; go_simp
  have b5 : W.cell? ⟨w.heap.size, 5, none⟩ = some (.int .i64 wd) := by subst hW; go_simp
  have b6 : W.cell? ⟨w.heap.size, 6, none⟩ = some (.int .i64 dp) := by subst hW; go_simp
  have hn : New w W := by subst hW; (repeat (first | (with_reducible exact New.refl _) | (with_reducible assumption) | ((with_reducible refine New.setB ?_ ?_ _); focus (first | omega | (simp; omega) | (simp; done))) | (with_reducible refine New.alloc ?_ _) | (with_reducible refine New.drew ?_) | (with_reducible refine New.drewN ?_ _) | (with_reducible refine New.hat ?_ _) | ((with_reducible apply New.snart); (with_reducible assumption))))
  clear hW
  refine (T1.out _).mono ?_
  rintro e W1 ⟨rfl, n1⟩
  ((replace c0 := New.keep n1 c0); (replace c1 := New.keep n1 c1); (replace c2 := New.keep n1 c2); (replace c3 := New.keep n1 c3); (replace c4 := New.keep n1 c4); (replace c5 := New.keep n1 c5); (replace c6 := New.keep n1 c6); (replace c7 := New.keep n1 c7); (replace c8 := New.keep n1 c8); (replace c9 := New.keep n1 c9))
  ((replace b0 := New.keep n1 b0); (replace b1 := New.keep n1 b1); (replace b2 := New.keep n1 b2); (replace b3 := New.keep n1 b3); (replace b4 := New.keep n1 b4); (replace b5 := New.keep n1 b5); (replace b6 := New.keep n1 b6))
  replace hn := hn.trans n1
  clear n1
  go_wp2_with fail
  refine (T2.out _).mono ?_
  rintro e W2 ⟨rfl, n1⟩
  ((replace c0 := New.keep n1 c0); (replace c1 := New.keep n1 c1); (replace c2 := New.keep n1 c2); (replace c3 := New.keep n1 c3); (replace c4 := New.keep n1 c4); (replace c5 := New.keep n1 c5); (replace c6 := New.keep n1 c6); (replace c7 := New.keep n1 c7); (replace c8 := New.keep n1 c8); (replace c9 := New.keep n1 c9))
  ((replace b0 := New.keep n1 b0); (replace b1 := New.keep n1 b1); (replace b2 := New.keep n1 b2); (replace b3 := New.keep n1 b3); (replace b4 := New.keep n1 b4); (replace b5 := New.keep n1 b5); (replace b6 := New.keep n1 b6))
  replace hn := hn.trans n1
  clear n1
  go_wp2_with fail
  refine (T3.out _).mono ?_
  rintro e W3 ⟨rfl, n1⟩
  ((replace c0 := New.keep n1 c0); (replace c1 := New.keep n1 c1); (replace c2 := New.keep n1 c2); (replace c3 := New.keep n1 c3); (replace c4 := New.keep n1 c4); (replace c5 := New.keep n1 c5); (replace c6 := New.keep n1 c6); (replace c7 := New.keep n1 c7); (replace c8 := New.keep n1 c8); (replace c9 := New.keep n1 c9))
  ((replace b0 := New.keep n1 b0); (replace b1 := New.keep n1 b1); (replace b2 := New.keep n1 b2); (replace b3 := New.keep n1 b3); (replace b4 := New.keep n1 b4); (replace b5 := New.keep n1 b5); (replace b6 := New.keep n1 b6))
  replace hn := hn.trans n1
  clear n1
  have zz := World.block_lt_of_cell? _ _ c1
  have zz' := World.block_lt_of_cell? _ _ b1
  simp only [] at zz zz'
  go_wp2_with fail
  clear zz zz'
  generalize hW : World.alloc _ _ = W
  obtain ⟨p, hp⟩ : ∃ p, p = W3.heap.size := ⟨_, rfl⟩
  rw [← hp]
  have n1 : New W3 W := by subst hW; (repeat (first | (with_reducible exact New.refl _) | (with_reducible assumption) | ((with_reducible refine New.setB ?_ ?_ _); focus (first | omega | (simp; omega) | (simp; done))) | (with_reducible refine New.alloc ?_ _) | (with_reducible refine New.drew ?_) | (with_reducible refine New.drewN ?_ _) | (with_reducible refine New.hat ?_ _) | ((with_reducible apply New.snart); (with_reducible assumption))))
  have l0 : W.cell? ⟨p, 0, none⟩ = some (.int .i64 lx) := by subst hp; subst hW; go_simp
  have l1 : W.cell? ⟨p, 1, none⟩ = some (.int .i64 ly) := by subst hp; subst hW; go_simp
  have l2 : W.cell? ⟨p, 2, none⟩ = some (.int .i64 lz) := by subst hp; subst hW; go_simp
  have h0 : W.cell? ⟨p + 1, 0, none⟩ = some (.int .i64 hx) := by subst hp; subst hW; go_simp
  have h1 : W.cell? ⟨p + 1, 1, none⟩ = some (.int .i64 hy) := by subst hp; subst hW; go_simp
  have h2 : W.cell? ⟨p + 1, 2, none⟩ = some (.int .i64 hz) := by subst hp; subst hW; go_simp
  ((replace c0 := New.keep n1 c0); (replace c1 := New.keep n1 c1); (replace c2 := New.keep n1 c2); (replace c3 := New.keep n1 c3); (replace c4 := New.keep n1 c4); (replace c5 := New.keep n1 c5); (replace c6 := New.keep n1 c6); (replace c7 := New.keep n1 c7); (replace c8 := New.keep n1 c8); (replace c9 := New.keep n1 c9))
  ((replace b0 := New.keep n1 b0); (replace b1 := New.keep n1 b1); (replace b2 := New.keep n1 b2); (replace b3 := New.keep n1 b3); (replace b4 := New.keep n1 b4); (replace b5 := New.keep n1 b5); (replace b6 := New.keep n1 b6))
  replace hn := hn.trans n1
  clear hW n1 hp
  refine (T4.out _).mono ?_
  rintro e W4 ⟨rfl, n1⟩
  ((replace c0 := New.keep n1 c0); (replace c1 := New.keep n1 c1); (replace c2 := New.keep n1 c2); (replace c3 := New.keep n1 c3); (replace c4 := New.keep n1 c4); (replace c5 := New.keep n1 c5); (replace c6 := New.keep n1 c6); (replace c7 := New.keep n1 c7); (replace c8 := New.keep n1 c8); (replace c9 := New.keep n1 c9))
  ((replace b0 := New.keep n1 b0); (replace b1 := New.keep n1 b1); (replace b2 := New.keep n1 b2); (replace b3 := New.keep n1 b3); (replace b4 := New.keep n1 b4); (replace b5 := New.keep n1 b5); (replace b6 := New.keep n1 b6))
  replace l0 := New.keep n1 l0
  replace l1 := New.keep n1 l1
  replace l2 := New.keep n1 l2
  replace h0 := New.keep n1 h0
  replace h1 := New.keep n1 h1
  replace h2 := New.keep n1 h2
  replace hn := hn.trans n1
  clear n1
  have zz := World.block_lt_of_cell? _ _ c1
  have zz' := World.block_lt_of_cell? _ _ b1
  simp only [] at zz zz'
  go_wp2_with fail
  clear zz zz'
  generalize hW : World.alloc _ _ = W
  obtain ⟨q, hq⟩ : ∃ p, p = W4.heap.size := ⟨_, rfl⟩
  rw [← hq]
  have n1 : New W4 W := by subst hW; (repeat (first | (with_reducible exact New.refl _) | (with_reducible assumption) | ((with_reducible refine New.setB ?_ ?_ _); focus (first | omega | (simp; omega) | (simp; done))) | (with_reducible refine New.alloc ?_ _) | (with_reducible refine New.drew ?_) | (with_reducible refine New.drewN ?_ _) | (with_reducible refine New.hat ?_ _) | ((with_reducible apply New.snart); (with_reducible assumption))))
  have m0 : W.cell? ⟨q, 0, none⟩ = some (.int .i64 lx) := by subst hq; subst hW; go_simp
  have m1 : W.cell? ⟨q, 1, none⟩ = some (.int .i64 ly) := by subst hq; subst hW; go_simp
  have m2 : W.cell? ⟨q, 2, none⟩ = some (.int .i64 lz) := by subst hq; subst hW; go_simp
  have o0 : W.cell? ⟨q + 1, 0, none⟩ = some (.int .i64 hx) := by subst hq; subst hW; go_simp
  have o1 : W.cell? ⟨q + 1, 1, none⟩ = some (.int .i64 hy) := by subst hq; subst hW; go_simp
  have o2 : W.cell? ⟨q + 1, 2, none⟩ = some (.int .i64 hz) := by subst hq; subst hW; go_simp
  ((replace c0 := New.keep n1 c0); (replace c1 := New.keep n1 c1); (replace c2 := New.keep n1 c2); (replace c3 := New.keep n1 c3); (replace c4 := New.keep n1 c4); (replace c5 := New.keep n1 c5); (replace c6 := New.keep n1 c6); (replace c7 := New.keep n1 c7); (replace c8 := New.keep n1 c8); (replace c9 := New.keep n1 c9))
  ((replace b0 := New.keep n1 b0); (replace b1 := New.keep n1 b1); (replace b2 := New.keep n1 b2); (replace b3 := New.keep n1 b3); (replace b4 := New.keep n1 b4); (replace b5 := New.keep n1 b5); (replace b6 := New.keep n1 b6))
  replace l0 := New.keep n1 l0
  replace l1 := New.keep n1 l1
  replace l2 := New.keep n1 l2
  replace h0 := New.keep n1 h0
  replace h1 := New.keep n1 h1
  replace h2 := New.keep n1 h2
  replace hn := hn.trans n1
  clear hW n1 hq
  (refine wp_region_hat (by kernel_rfl) (by kernel_rfl) ?_; intro hatc hatf; (repeat (go_big_quiet_step ((first | (go_at_call 26; exact Calls.hat (T5.out _)) | (go_at_call 27; exact Calls.hat (T6.out _)) | (go_at_call 28; exact Calls.hat (t_wakes _)))))); refine wpQuiet_nil ?_; rintro _ ⟨x, rfl⟩)
  replace hn := hn.trans x.h
  generalize x.w = W5 at *
  go_wp2_with fail
  go_ret
  exact ⟨rfl, hn⟩

end Go.Proofs.Ytmpkciidhopckaa
