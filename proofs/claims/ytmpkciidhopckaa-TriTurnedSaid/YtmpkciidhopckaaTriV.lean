/- Layer 4's own theorem, triangles turned and moved: walked. -/
import Derived.Test.YtmpkciidhopckaaTriU
import Derived.Test.YtmpkciidhopckaaTriM
namespace Go.Proofs.Ytmpkciidhopckaa
open Go.RowKit
set_option linter.unusedVariables false

theorem st_turn (w d x0 y0 z0 x1 y1 z1 x2 y2 z2 : Int) : stB w d x1 y1 z1 x2 y2 z2 x0 y0 z0 = stB w d x0 y0 z0 x1 y1 z1 x2 y2 z2 := by
  rw [Bool.eq_iff_iff, stB_iff, stB_iff]; unfold StP; constructor <;> (rintro ⟨a, b, c⟩; simp [*])
theorem st_swap (w d x0 y0 z0 x1 y1 z1 x2 y2 z2 : Int) : stB w d x1 y1 z1 x0 y0 z0 x2 y2 z2 = stB w d x0 y0 z0 x1 y1 z1 x2 y2 z2 := by
  rw [Bool.eq_iff_iff, stB_iff, stB_iff]; unfold StP; constructor <;> (rintro ⟨a, b, c⟩; simp [*])
theorem n_turn (x0 y0 z0 x1 y1 z1 x2 y2 z2 : Int) : nxI x1 y1 z1 x2 y2 z2 x0 y0 z0 = nxI x0 y0 z0 x1 y1 z1 x2 y2 z2 ∧ nyI x1 y1 z1 x2 y2 z2 x0 y0 z0 = nyI x0 y0 z0 x1 y1 z1 x2 y2 z2 ∧ nzI x1 y1 z1 x2 y2 z2 x0 y0 z0 = nzI x0 y0 z0 x1 y1 z1 x2 y2 z2 := by
  unfold nxI nyI nzI; refine ⟨?_, ?_, ?_⟩ <;> grind
theorem n_swap (x0 y0 z0 x1 y1 z1 x2 y2 z2 : Int) : nxI x1 y1 z1 x0 y0 z0 x2 y2 z2 = - nxI x0 y0 z0 x1 y1 z1 x2 y2 z2 ∧ nyI x1 y1 z1 x0 y0 z0 x2 y2 z2 = - nyI x0 y0 z0 x1 y1 z1 x2 y2 z2 ∧ nzI x1 y1 z1 x0 y0 z0 x2 y2 z2 = - nzI x0 y0 z0 x1 y1 z1 x2 y2 z2 := by
  unfold nxI nyI nzI; refine ⟨?_, ?_, ?_⟩ <;> grind
theorem ok_turn (x0 y0 z0 x1 y1 z1 x2 y2 z2 : Int) : okB x1 y1 z1 x2 y2 z2 x0 y0 z0 = okB x0 y0 z0 x1 y1 z1 x2 y2 z2 := by
  unfold okB; rw [st_turn, (n_turn x0 y0 z0 x1 y1 z1 x2 y2 z2).2.1]
theorem ok_swap (x0 y0 z0 x1 y1 z1 x2 y2 z2 : Int) : okB x1 y1 z1 x0 y0 z0 x2 y2 z2 = okB x0 y0 z0 x1 y1 z1 x2 y2 z2 := by
  unfold okB; rw [st_swap, (n_swap x0 y0 z0 x1 y1 z1 x2 y2 z2).2.1]
  congr 1
  rw [Bool.eq_iff_iff]; simp
theorem slope_neg (ri ru nx ny nz : Int) : slopeB ri ru (-nx) (-ny) (-nz) = slopeB ri ru nx ny nz := by
  unfold slopeB; simp only [Int.neg_mul_neg]
theorem walk_turn (cl cb ht ri ru wd dp x0 y0 z0 x1 y1 z1 x2 y2 z2 : Int) : walkB cl cb ht ri ru wd dp x1 y1 z1 x2 y2 z2 x0 y0 z0 = walkB cl cb ht ri ru wd dp x0 y0 z0 x1 y1 z1 x2 y2 z2 ∧ walkE cl cb ht ri ru wd dp x1 y1 z1 x2 y2 z2 x0 y0 z0 = walkE cl cb ht ri ru wd dp x0 y0 z0 x1 y1 z1 x2 y2 z2 := by
  obtain ⟨h1, h2, h3⟩ := n_turn x0 y0 z0 x1 y1 z1 x2 y2 z2
  unfold walkB walkE normE
  rw [ok_turn, h1, h2, h3]
  exact ⟨rfl, rfl⟩
theorem walk_swap (cl cb ht ri ru wd dp x0 y0 z0 x1 y1 z1 x2 y2 z2 : Int) : walkB cl cb ht ri ru wd dp x1 y1 z1 x0 y0 z0 x2 y2 z2 = walkB cl cb ht ri ru wd dp x0 y0 z0 x1 y1 z1 x2 y2 z2 ∧ walkE cl cb ht ri ru wd dp x1 y1 z1 x0 y0 z0 x2 y2 z2 = walkE cl cb ht ri ru wd dp x0 y0 z0 x1 y1 z1 x2 y2 z2 := by
  obtain ⟨h1, h2, h3⟩ := n_swap x0 y0 z0 x1 y1 z1 x2 y2 z2
  unfold walkB walkE normE
  rw [ok_swap, h1, h2, h3, slope_neg]
  exact ⟨rfl, rfl⟩
theorem same_turn (i x0 y0 z0 x1 y1 z1 x2 y2 z2 : Int) : sameB i x0 y0 z0 x1 y1 z1 x2 y2 z2 i x1 y1 z1 x2 y2 z2 x0 y0 z0 = true := by
  unfold sameB; simp [vEq_refl, turnB]
theorem same_swap (i x0 y0 z0 x1 y1 z1 x2 y2 z2 : Int) : sameB i x0 y0 z0 x1 y1 z1 x2 y2 z2 i x1 y1 z1 x0 y0 z0 x2 y2 z2 = true := by
  unfold sameB; simp [vEq_refl, turnB]

theorem walk_moved (cl cb ht ri ru wd dp x0 y0 z0 x1 y1 z1 x2 y2 z2 b : Int) (hk : okB x0 y0 z0 x1 y1 z1 x2 y2 z2 = true) :
    walkE cl cb ht ri ru wd dp x0 (y0 + b) z0 x1 (y1 + b) z1 x2 (y2 + b) z2 = 40 ∨ walkE cl cb ht ri ru wd dp x0 (y0 + b) z0 x1 (y1 + b) z1 x2 (y2 + b) z2 = walkE cl cb ht ri ru wd dp x0 y0 z0 x1 y1 z1 x2 y2 z2 ∧ walkB cl cb ht ri ru wd dp x0 (y0 + b) z0 x1 (y1 + b) z1 x2 (y2 + b) z2 = walkB cl cb ht ri ru wd dp x0 y0 z0 x1 y1 z1 x2 y2 z2 := by
  have e1 : nxI x0 (y0 + b) z0 x1 (y1 + b) z1 x2 (y2 + b) z2 = nxI x0 y0 z0 x1 y1 z1 x2 y2 z2 := by unfold nxI; grind
  have e2 : nyI x0 (y0 + b) z0 x1 (y1 + b) z1 x2 (y2 + b) z2 = nyI x0 y0 z0 x1 y1 z1 x2 y2 z2 := rfl
  have e3 : nzI x0 (y0 + b) z0 x1 (y1 + b) z1 x2 (y2 + b) z2 = nzI x0 y0 z0 x1 y1 z1 x2 y2 z2 := by unfold nzI; grind
  unfold walkE walkB normE
  rcases checkE_two cl cb ht ri ru wd dp with h | h <;> rw [h]
  · cases hm : okB x0 (y0 + b) z0 x1 (y1 + b) z1 x2 (y2 + b) z2
    · left; simp
    · right; rw [hk, e1, e2, e3]; exact ⟨rfl, rfl⟩
  · right; simp

theorem low_whole {y d : Int} (hd : d ≠ 0) : lowN (y * d) d = y ∧ lowD (y * d) d = 1 := by
  have hg : Int.gcd d (y * d) = d.natAbs := by rw [Int.gcd_comm]; exact Int.gcd_mul_left_left y d
  unfold lowN lowD
  rw [hg]
  refine ⟨?_, Int.ediv_self (by omega)⟩
  rw [abs_sign hd, show d.sign * (y * d) = (d.sign * d) * y by grind, Int.mul_ediv_cancel_left _ (by rw [← abs_sign hd]; omega)]

theorem height_at {x y z x0 y0 z0 x1 y1 z1 x2 y2 z2 : Int} (hk : okB x0 y0 z0 x1 y1 z1 x2 y2 z2 = true) (hx : 0 ≤ x ∧ x ≤ 32) (hz : 0 ≤ z ∧ z ≤ 32) (h : hTop x z x0 y0 z0 (nxI x0 y0 z0 x1 y1 z1 x2 y2 z2) (nyI x0 y0 z0 x1 y1 z1 x2 y2 z2) (nzI x0 y0 z0 x1 y1 z1 x2 y2 z2) = y * nyI x0 y0 z0 x1 y1 z1 x2 y2 z2) :
    heightN x z x0 y0 z0 x1 y1 z1 x2 y2 z2 = y ∧ heightD x z x0 y0 z0 x1 y1 z1 x2 y2 z2 = 1 ∧ heightE x z x0 y0 z0 x1 y1 z1 x2 y2 z2 = 0 := by
  obtain ⟨g1, g2, g3⟩ := height_yes (by rw [hOk_near (by omega) (by omega)]; exact hk : hOkB x z x0 y0 z0 x1 y1 z1 x2 y2 z2 = true)
  rw [g1, g2, g3, h]
  obtain ⟨l1, l2⟩ := low_whole (y := y) (ok_st hk).2
  exact ⟨l1, l2, rfl⟩

theorem corner0 (x0 y0 z0 x1 y1 z1 x2 y2 z2 : Int) : hTop x0 z0 x0 y0 z0 (nxI x0 y0 z0 x1 y1 z1 x2 y2 z2) (nyI x0 y0 z0 x1 y1 z1 x2 y2 z2) (nzI x0 y0 z0 x1 y1 z1 x2 y2 z2) = y0 * nyI x0 y0 z0 x1 y1 z1 x2 y2 z2 := by unfold hTop; grind
theorem corner1 (x0 y0 z0 x1 y1 z1 x2 y2 z2 : Int) : hTop x1 z1 x0 y0 z0 (nxI x0 y0 z0 x1 y1 z1 x2 y2 z2) (nyI x0 y0 z0 x1 y1 z1 x2 y2 z2) (nzI x0 y0 z0 x1 y1 z1 x2 y2 z2) = y1 * nyI x0 y0 z0 x1 y1 z1 x2 y2 z2 := by unfold hTop nxI nyI nzI; grind
theorem corner2 (x0 y0 z0 x1 y1 z1 x2 y2 z2 : Int) : hTop x2 z2 x0 y0 z0 (nxI x0 y0 z0 x1 y1 z1 x2 y2 z2) (nyI x0 y0 z0 x1 y1 z1 x2 y2 z2) (nzI x0 y0 z0 x1 y1 z1 x2 y2 z2) = y2 * nyI x0 y0 z0 x1 y1 z1 x2 y2 z2 := by unfold hTop nxI nyI nzI; grind

theorem tmod2000 (x : Int) : -2000 ≤ x.tmod 2000 ∧ x.tmod 2000 ≤ 2000 := by
  have h := Int.natAbs_tmod x 2000
  rw [show (2000 : Int).natAbs = 2000 from rfl] at h
  omega

set_option maxHeartbeats 4000000 in
set_option maxRecDepth 100000 in
theorem l_turned_no (cl cb ht ri ru wd dp i x0 y0 z0 x1 y1 z1 x2 y2 z2 by' : Int) (w : World) (hk : okB x0 y0 z0 x1 y1 z1 x2 y2 z2 = false) :
    Calls Try.prog 8 #[.agg #[.int .i64 cl, .int .i64 cb, .int .i64 ht, .int .i64 ri, .int .i64 ru, .int .i64 wd, .int .i64 dp], .agg #[.int .i64 i, .int .i64 x0, .int .i64 y0, .int .i64 z0, .int .i64 x1, .int .i64 y1, .int .i64 z1, .int .i64 x2, .int .i64 y2, .int .i64 z2], .int .i64 by'] w fun e w' => e = .returned (.bool true) ∧ New w w' := by
  have T1 := fun W => t_walk cl cb ht ri ru wd dp i x0 y0 z0 x1 y1 z1 x2 y2 z2 W
  have T2 := fun W => t_walk cl cb ht ri ru wd dp i x1 y1 z1 x2 y2 z2 x0 y0 z0 W
  have T3 := fun W => t_walk cl cb ht ri ru wd dp i x1 y1 z1 x0 y0 z0 x2 y2 z2 W
  rw [(walk_turn cl cb ht ri ru wd dp x0 y0 z0 x1 y1 z1 x2 y2 z2).1, (walk_turn cl cb ht ri ru wd dp x0 y0 z0 x1 y1 z1 x2 y2 z2).2] at T2
  rw [(walk_swap cl cb ht ri ru wd dp x0 y0 z0 x1 y1 z1 x2 y2 z2).1, (walk_swap cl cb ht ri ru wd dp x0 y0 z0 x1 y1 z1 x2 y2 z2).2] at T3
  have T4 := fun W => t_same i x0 y0 z0 x1 y1 z1 x2 y2 z2 i x1 y1 z1 x2 y2 z2 x0 y0 z0 W
  rw [same_turn] at T4
  have T5 := fun W => t_same i x0 y0 z0 x1 y1 z1 x2 y2 z2 i x1 y1 z1 x0 y0 z0 x2 y2 z2 W
  rw [same_swap] at T5
  have T6 := fun W => t_normal i x0 y0 z0 x1 y1 z1 x2 y2 z2 W
  obtain ⟨g1, g2, g3, g4⟩ := norm_no hk
  rw [g1, g2, g3, g4] at T6
  clear g1 g2 g3 g4 hk
  generalize walkB cl cb ht ri ru wd dp x0 y0 z0 x1 y1 z1 x2 y2 z2 = A at *
  generalize walkE cl cb ht ri ru wd dp x0 y0 z0 x1 y1 z1 x2 y2 z2 = B at *
  replace T1 := Lib.hid T1
  replace T2 := Lib.hid T2
  replace T3 := Lib.hid T3
  replace T4 := Lib.hid T4
  replace T5 := Lib.hid T5
  replace T6 := Lib.hid T6
  go_enter Try.func8, Try.ntmps8
  go_wp2_with fail
  generalize hW : World.alloc _ _ = W
  (have c0 : (W).cell? ⟨w.heap.size + 1, 0, none⟩ = some (.int .i64 i) := (by subst hW; go_simp)); (have c1 : (W).cell? ⟨w.heap.size + 1, 1, none⟩ = some (.int .i64 x0) := (by subst hW; go_simp)); (have c2 : (W).cell? ⟨w.heap.size + 1, 2, none⟩ = some (.int .i64 y0) := (by subst hW; go_simp)); (have c3 : (W).cell? ⟨w.heap.size + 1, 3, none⟩ = some (.int .i64 z0) := (by subst hW; go_simp)); (have c4 : (W).cell? ⟨w.heap.size + 1, 4, none⟩ = some (.int .i64 x1) := (by subst hW; go_simp)); (have c5 : (W).cell? ⟨w.heap.size + 1, 5, none⟩ = some (.int .i64 y1) := (by subst hW; go_simp)); (have c6 : (W).cell? ⟨w.heap.size + 1, 6, none⟩ = some (.int .i64 z1) := (by subst hW; go_simp)); (have c7 : (W).cell? ⟨w.heap.size + 1, 7, none⟩ = some (.int .i64 x2) := (by subst hW; go_simp)); (have c8 : (W).cell? ⟨w.heap.size + 1, 8, none⟩ = some (.int .i64 y2) := (by subst hW; go_simp)); (have c9 : (W).cell? ⟨w.heap.size + 1, 9, none⟩ = some (.int .i64 z2) := (by subst hW; go_simp))
  have b0 : W.cell? ⟨w.heap.size, 0, none⟩ = some (.int .i64 cl) := by subst hW; go_simp
  have b1 : W.cell? ⟨w.heap.size, 1, none⟩ = some (.int .i64 cb) := by subst hW; go_simp
  have b2 : W.cell? ⟨w.heap.size, 2, none⟩ = some (.int .i64 ht) := by subst hW; go_simp
  have b3 : W.cell? ⟨w.heap.size, 3, none⟩ = some (.int .i64 ri) := by subst hW; go_simp
  have b4 : W.cell? ⟨w.heap.size, 4, none⟩ = some (.int .i64 ru) := by subst hW; go_simp
  have b5 : W.cell? ⟨w.heap.size, 5, none⟩ = some (.int .i64 wd) := by subst hW; go_simp
  have b6 : W.cell? ⟨w.heap.size, 6, none⟩ = some (.int .i64 dp) := by subst hW; go_simp
  have hn : New w W := by subst hW; (repeat (first | (with_reducible exact New.refl _) | (with_reducible assumption) | ((with_reducible refine New.setB ?_ ?_ _); focus (first | omega | (simp; omega) | (simp; done))) | (with_reducible refine New.alloc ?_ _) | (with_reducible refine New.drew ?_) | (with_reducible refine New.drewN ?_ _) | (with_reducible refine New.hat ?_ _) | ((with_reducible apply New.snart); (with_reducible assumption))))
  clear hW
  refine (T1.out _).mono ?_
  rintro e W1 ⟨rfl, n1⟩
  ((replace c0 := New.keep n1 c0); (replace c1 := New.keep n1 c1); (replace c2 := New.keep n1 c2); (replace c3 := New.keep n1 c3); (replace c4 := New.keep n1 c4); (replace c5 := New.keep n1 c5); (replace c6 := New.keep n1 c6); (replace c7 := New.keep n1 c7); (replace c8 := New.keep n1 c8); (replace c9 := New.keep n1 c9))
  ((replace b0 := New.keep n1 b0); (replace b1 := New.keep n1 b1); (replace b2 := New.keep n1 b2); (replace b3 := New.keep n1 b3); (replace b4 := New.keep n1 b4); (replace b5 := New.keep n1 b5); (replace b6 := New.keep n1 b6))
  replace hn := hn.trans n1
  have zz := World.block_lt_of_cell? _ _ c1
  simp only [] at zz
  clear n1
  go_upto_region 3 with fail
  obtain ⟨p, hp⟩ : ∃ p, W1.heap.size = p := ⟨_, rfl⟩
  simp only [hp]
  go_cut [33] (fun s Z => New W1 Z ∧ Z.cell? ⟨p, 0, none⟩ = some (.int .i64 i) ∧ Z.cell? ⟨p, 1, none⟩ = some (.int .i64 x1) ∧ Z.cell? ⟨p, 2, none⟩ = some (.int .i64 y1) ∧ Z.cell? ⟨p, 3, none⟩ = some (.int .i64 z1) ∧ Z.cell? ⟨p, 4, none⟩ = some (.int .i64 x2) ∧ Z.cell? ⟨p, 5, none⟩ = some (.int .i64 y2) ∧ Z.cell? ⟨p, 6, none⟩ = some (.int .i64 z2) ∧ Z.cell? ⟨p, 7, none⟩ = some (.int .i64 x0) ∧ Z.cell? ⟨p, 8, none⟩ = some (.int .i64 y0) ∧ Z.cell? ⟨p, 9, none⟩ = some (.int .i64 z0))
  case first =>
    subst hp
    go_region
    all_goals
      go_wp2_with fail
      go_meet
      exact ⟨by (repeat (first | (with_reducible exact New.refl _) | (with_reducible assumption) | ((with_reducible refine New.setB ?_ ?_ _); focus (first | omega | (simp; omega) | (simp; done))) | (with_reducible refine New.alloc ?_ _) | (with_reducible refine New.drew ?_) | (with_reducible refine New.drewN ?_ _) | (with_reducible refine New.hat ?_ _) | ((with_reducible apply New.snart); (with_reducible assumption)))), by go_simp, by go_simp, by go_simp, by go_simp, by go_simp, by go_simp, by go_simp, by go_simp, by go_simp, by go_simp⟩
  case rest =>
    obtain ⟨nZ, d0, d1, d2, d3, d4, d5, d6, d7, d8, d9⟩ := hcut
    rename World => W2
    ((replace c0 := New.keep nZ c0); (replace c1 := New.keep nZ c1); (replace c2 := New.keep nZ c2); (replace c3 := New.keep nZ c3); (replace c4 := New.keep nZ c4); (replace c5 := New.keep nZ c5); (replace c6 := New.keep nZ c6); (replace c7 := New.keep nZ c7); (replace c8 := New.keep nZ c8); (replace c9 := New.keep nZ c9))
    ((replace b0 := New.keep nZ b0); (replace b1 := New.keep nZ b1); (replace b2 := New.keep nZ b2); (replace b3 := New.keep nZ b3); (replace b4 := New.keep nZ b4); (replace b5 := New.keep nZ b5); (replace b6 := New.keep nZ b6))
    replace hn := hn.trans nZ
    replace zz := World.block_lt_of_cell? _ _ c1
    simp only [] at zz
    clear nZ hp
    have zd := World.block_lt_of_cell? _ _ d1
    simp only [] at zd
    go_upto_region 5 with fail
    obtain ⟨q, hq⟩ : ∃ p, W2.heap.size = p := ⟨_, rfl⟩
    simp only [hq]
    go_cut [49] (fun s Z => New W2 Z ∧ Z.cell? ⟨q, 0, none⟩ = some (.int .i64 i) ∧ Z.cell? ⟨q, 1, none⟩ = some (.int .i64 x1) ∧ Z.cell? ⟨q, 2, none⟩ = some (.int .i64 y1) ∧ Z.cell? ⟨q, 3, none⟩ = some (.int .i64 z1) ∧ Z.cell? ⟨q, 4, none⟩ = some (.int .i64 x0) ∧ Z.cell? ⟨q, 5, none⟩ = some (.int .i64 y0) ∧ Z.cell? ⟨q, 6, none⟩ = some (.int .i64 z0) ∧ Z.cell? ⟨q, 7, none⟩ = some (.int .i64 x2) ∧ Z.cell? ⟨q, 8, none⟩ = some (.int .i64 y2) ∧ Z.cell? ⟨q, 9, none⟩ = some (.int .i64 z2))
    case first =>
      subst hq
      go_region
      all_goals
        go_wp2_with fail
        go_meet
        exact ⟨by (repeat (first | (with_reducible exact New.refl _) | (with_reducible assumption) | ((with_reducible refine New.setB ?_ ?_ _); focus (first | omega | (simp; omega) | (simp; done))) | (with_reducible refine New.alloc ?_ _) | (with_reducible refine New.drew ?_) | (with_reducible refine New.drewN ?_ _) | (with_reducible refine New.hat ?_ _) | ((with_reducible apply New.snart); (with_reducible assumption)))), by go_simp, by go_simp, by go_simp, by go_simp, by go_simp, by go_simp, by go_simp, by go_simp, by go_simp, by go_simp⟩
    case rest =>
    obtain ⟨nZ, e0, e1, e2, e3, e4, e5, e6, e7, e8, e9⟩ := hcut
    rename World => W3
    ((replace c0 := New.keep nZ c0); (replace c1 := New.keep nZ c1); (replace c2 := New.keep nZ c2); (replace c3 := New.keep nZ c3); (replace c4 := New.keep nZ c4); (replace c5 := New.keep nZ c5); (replace c6 := New.keep nZ c6); (replace c7 := New.keep nZ c7); (replace c8 := New.keep nZ c8); (replace c9 := New.keep nZ c9))
    ((replace b0 := New.keep nZ b0); (replace b1 := New.keep nZ b1); (replace b2 := New.keep nZ b2); (replace b3 := New.keep nZ b3); (replace b4 := New.keep nZ b4); (replace b5 := New.keep nZ b5); (replace b6 := New.keep nZ b6))
    ((replace d0 := New.keep nZ d0); (replace d1 := New.keep nZ d1); (replace d2 := New.keep nZ d2); (replace d3 := New.keep nZ d3); (replace d4 := New.keep nZ d4); (replace d5 := New.keep nZ d5); (replace d6 := New.keep nZ d6); (replace d7 := New.keep nZ d7); (replace d8 := New.keep nZ d8); (replace d9 := New.keep nZ d9))
    replace hn := hn.trans nZ
    clear nZ hq zz zd
    go_wp2_with fail
    refine (T2.out _).mono ?_
    rintro e W4 ⟨rfl, n1⟩
    ((replace c0 := New.keep n1 c0); (replace c1 := New.keep n1 c1); (replace c2 := New.keep n1 c2); (replace c3 := New.keep n1 c3); (replace c4 := New.keep n1 c4); (replace c5 := New.keep n1 c5); (replace c6 := New.keep n1 c6); (replace c7 := New.keep n1 c7); (replace c8 := New.keep n1 c8); (replace c9 := New.keep n1 c9))
    ((replace b0 := New.keep n1 b0); (replace b1 := New.keep n1 b1); (replace b2 := New.keep n1 b2); (replace b3 := New.keep n1 b3); (replace b4 := New.keep n1 b4); (replace b5 := New.keep n1 b5); (replace b6 := New.keep n1 b6))
    ((replace d0 := New.keep n1 d0); (replace d1 := New.keep n1 d1); (replace d2 := New.keep n1 d2); (replace d3 := New.keep n1 d3); (replace d4 := New.keep n1 d4); (replace d5 := New.keep n1 d5); (replace d6 := New.keep n1 d6); (replace d7 := New.keep n1 d7); (replace d8 := New.keep n1 d8); (replace d9 := New.keep n1 d9))
    ((replace e0 := New.keep n1 e0); (replace e1 := New.keep n1 e1); (replace e2 := New.keep n1 e2); (replace e3 := New.keep n1 e3); (replace e4 := New.keep n1 e4); (replace e5 := New.keep n1 e5); (replace e6 := New.keep n1 e6); (replace e7 := New.keep n1 e7); (replace e8 := New.keep n1 e8); (replace e9 := New.keep n1 e9))
    replace hn := hn.trans n1
    clear n1
    go_wp2_with fail
    refine (T3.out _).mono ?_
    rintro e W5 ⟨rfl, n1⟩
    ((replace c0 := New.keep n1 c0); (replace c1 := New.keep n1 c1); (replace c2 := New.keep n1 c2); (replace c3 := New.keep n1 c3); (replace c4 := New.keep n1 c4); (replace c5 := New.keep n1 c5); (replace c6 := New.keep n1 c6); (replace c7 := New.keep n1 c7); (replace c8 := New.keep n1 c8); (replace c9 := New.keep n1 c9))
    ((replace b0 := New.keep n1 b0); (replace b1 := New.keep n1 b1); (replace b2 := New.keep n1 b2); (replace b3 := New.keep n1 b3); (replace b4 := New.keep n1 b4); (replace b5 := New.keep n1 b5); (replace b6 := New.keep n1 b6))
    ((replace d0 := New.keep n1 d0); (replace d1 := New.keep n1 d1); (replace d2 := New.keep n1 d2); (replace d3 := New.keep n1 d3); (replace d4 := New.keep n1 d4); (replace d5 := New.keep n1 d5); (replace d6 := New.keep n1 d6); (replace d7 := New.keep n1 d7); (replace d8 := New.keep n1 d8); (replace d9 := New.keep n1 d9))
    ((replace e0 := New.keep n1 e0); (replace e1 := New.keep n1 e1); (replace e2 := New.keep n1 e2); (replace e3 := New.keep n1 e3); (replace e4 := New.keep n1 e4); (replace e5 := New.keep n1 e5); (replace e6 := New.keep n1 e6); (replace e7 := New.keep n1 e7); (replace e8 := New.keep n1 e8); (replace e9 := New.keep n1 e9))
    replace hn := hn.trans n1
    clear n1
    go_wp2_with fail
    refine (T4.out _).mono ?_
    rintro e W6 ⟨rfl, n1⟩
    ((replace c0 := New.keep n1 c0); (replace c1 := New.keep n1 c1); (replace c2 := New.keep n1 c2); (replace c3 := New.keep n1 c3); (replace c4 := New.keep n1 c4); (replace c5 := New.keep n1 c5); (replace c6 := New.keep n1 c6); (replace c7 := New.keep n1 c7); (replace c8 := New.keep n1 c8); (replace c9 := New.keep n1 c9))
    ((replace b0 := New.keep n1 b0); (replace b1 := New.keep n1 b1); (replace b2 := New.keep n1 b2); (replace b3 := New.keep n1 b3); (replace b4 := New.keep n1 b4); (replace b5 := New.keep n1 b5); (replace b6 := New.keep n1 b6))
    ((replace e0 := New.keep n1 e0); (replace e1 := New.keep n1 e1); (replace e2 := New.keep n1 e2); (replace e3 := New.keep n1 e3); (replace e4 := New.keep n1 e4); (replace e5 := New.keep n1 e5); (replace e6 := New.keep n1 e6); (replace e7 := New.keep n1 e7); (replace e8 := New.keep n1 e8); (replace e9 := New.keep n1 e9))
    replace hn := hn.trans n1
    clear n1 d0 d1 d2 d3 d4 d5 d6 d7 d8 d9
    go_wp2_with fail
    refine (T5.out _).mono ?_
    rintro e W7 ⟨rfl, n1⟩
    ((replace c0 := New.keep n1 c0); (replace c1 := New.keep n1 c1); (replace c2 := New.keep n1 c2); (replace c3 := New.keep n1 c3); (replace c4 := New.keep n1 c4); (replace c5 := New.keep n1 c5); (replace c6 := New.keep n1 c6); (replace c7 := New.keep n1 c7); (replace c8 := New.keep n1 c8); (replace c9 := New.keep n1 c9))
    ((replace b0 := New.keep n1 b0); (replace b1 := New.keep n1 b1); (replace b2 := New.keep n1 b2); (replace b3 := New.keep n1 b3); (replace b4 := New.keep n1 b4); (replace b5 := New.keep n1 b5); (replace b6 := New.keep n1 b6))
    replace hn := hn.trans n1
    clear n1 e0 e1 e2 e3 e4 e5 e6 e7 e8 e9
    go_wp2_with fail
    refine (T6.out _).mono ?_
    rintro e W8 ⟨rfl, n1⟩
    ((replace c0 := New.keep n1 c0); (replace c1 := New.keep n1 c1); (replace c2 := New.keep n1 c2); (replace c3 := New.keep n1 c3); (replace c4 := New.keep n1 c4); (replace c5 := New.keep n1 c5); (replace c6 := New.keep n1 c6); (replace c7 := New.keep n1 c7); (replace c8 := New.keep n1 c8); (replace c9 := New.keep n1 c9))
    ((replace b0 := New.keep n1 b0); (replace b1 := New.keep n1 b1); (replace b2 := New.keep n1 b2); (replace b3 := New.keep n1 b3); (replace b4 := New.keep n1 b4); (replace b5 := New.keep n1 b5); (replace b6 := New.keep n1 b6))
    replace hn := hn.trans n1
    clear n1
    go_wp2_with fail
    refine (t_wakes _).mono ?_
    rintro e W9 ⟨rfl, n1⟩
    replace hn := hn.trans n1
    clear n1
    go_wp2_with fail
    go_ret
    exact ⟨rfl, hn⟩

set_option maxHeartbeats 4000000 in
set_option maxRecDepth 100000 in
theorem l_turned_yes (cl cb ht ri ru wd dp i x0 y0 z0 x1 y1 z1 x2 y2 z2 by' : Int) (w : World) (hk : okB x0 y0 z0 x1 y1 z1 x2 y2 z2 = true) :
    Calls Try.prog 8 #[.agg #[.int .i64 cl, .int .i64 cb, .int .i64 ht, .int .i64 ri, .int .i64 ru, .int .i64 wd, .int .i64 dp], .agg #[.int .i64 i, .int .i64 x0, .int .i64 y0, .int .i64 z0, .int .i64 x1, .int .i64 y1, .int .i64 z1, .int .i64 x2, .int .i64 y2, .int .i64 z2], .int .i64 by'] w fun e w' => e = .returned (.bool true) ∧ New w w' := by
  have T1 := fun W => t_walk cl cb ht ri ru wd dp i x0 y0 z0 x1 y1 z1 x2 y2 z2 W
  have T2 := fun W => t_walk cl cb ht ri ru wd dp i x1 y1 z1 x2 y2 z2 x0 y0 z0 W
  have T3 := fun W => t_walk cl cb ht ri ru wd dp i x1 y1 z1 x0 y0 z0 x2 y2 z2 W
  rw [(walk_turn cl cb ht ri ru wd dp x0 y0 z0 x1 y1 z1 x2 y2 z2).1, (walk_turn cl cb ht ri ru wd dp x0 y0 z0 x1 y1 z1 x2 y2 z2).2] at T2
  rw [(walk_swap cl cb ht ri ru wd dp x0 y0 z0 x1 y1 z1 x2 y2 z2).1, (walk_swap cl cb ht ri ru wd dp x0 y0 z0 x1 y1 z1 x2 y2 z2).2] at T3
  have T4 := fun W => t_same i x0 y0 z0 x1 y1 z1 x2 y2 z2 i x1 y1 z1 x2 y2 z2 x0 y0 z0 W
  rw [same_turn] at T4
  have T5 := fun W => t_same i x0 y0 z0 x1 y1 z1 x2 y2 z2 i x1 y1 z1 x0 y0 z0 x2 y2 z2 W
  rw [same_swap] at T5
  have T6 := fun W => t_normal i x0 y0 z0 x1 y1 z1 x2 y2 z2 W
  obtain ⟨g1, g2, g3, g4⟩ := norm_yes hk
  rw [g1, g2, g3, g4] at T6
  obtain ⟨hst, hny⟩ := ok_st hk
  unfold StP StV at hst
  obtain ⟨⟨⟨X0, X0'⟩, ⟨Z0, Z0'⟩, ⟨Y0, Y0'⟩⟩, ⟨⟨X1, X1'⟩, ⟨Z1, Z1'⟩, ⟨Y1, Y1'⟩⟩, ⟨⟨X2, X2'⟩, ⟨Z2, Z2'⟩, ⟨Y2, Y2'⟩⟩⟩ := hst
  obtain ⟨b, hb⟩ : ∃ b, by'.tmod 2000 = b := ⟨_, rfl⟩
  have bb : -2000 ≤ b ∧ b ≤ 2000 := by rw [← hb]; exact tmod2000 by'
  have R0 := fun W => t_height i x0 y0 z0 x1 y1 z1 x2 y2 z2 x0 z0 W
  obtain ⟨q1, q2, q3⟩ := height_at hk ⟨X0, X0'⟩ ⟨Z0, Z0'⟩ (corner0 x0 y0 z0 x1 y1 z1 x2 y2 z2)
  rw [q1, q2, q3] at R0
  have R1 := fun W => t_height i x0 y0 z0 x1 y1 z1 x2 y2 z2 x1 z1 W
  obtain ⟨q4, q5, q6⟩ := height_at hk ⟨X1, X1'⟩ ⟨Z1, Z1'⟩ (corner1 x0 y0 z0 x1 y1 z1 x2 y2 z2)
  rw [q4, q5, q6] at R1
  have R2 := fun W => t_height i x0 y0 z0 x1 y1 z1 x2 y2 z2 x2 z2 W
  obtain ⟨q7, q8, q9⟩ := height_at hk ⟨X2, X2'⟩ ⟨Z2, Z2'⟩ (corner2 x0 y0 z0 x1 y1 z1 x2 y2 z2)
  rw [q7, q8, q9] at R2
  have T7 := fun W => t_walk cl cb ht ri ru wd dp i x0 (y0 + b) z0 x1 (y1 + b) z1 x2 (y2 + b) z2 W
  have HF := Lib.hid (walk_moved cl cb ht ri ru wd dp x0 y0 z0 x1 y1 z1 x2 y2 z2 b hk)
  clear g1 g2 g3 g4 hny q1 q2 q3 q4 q5 q6 q7 q8 q9 hk X0 X0' Z0 Z0' X1 X1' Z1 Z1' X2 X2' Z2 Z2'
  generalize nxI x0 y0 z0 x1 y1 z1 x2 y2 z2 = N1 at *
  generalize nyI x0 y0 z0 x1 y1 z1 x2 y2 z2 = N2 at *
  generalize nzI x0 y0 z0 x1 y1 z1 x2 y2 z2 = N3 at *
  generalize walkB cl cb ht ri ru wd dp x0 (y0 + b) z0 x1 (y1 + b) z1 x2 (y2 + b) z2 = A' at *
  generalize walkE cl cb ht ri ru wd dp x0 (y0 + b) z0 x1 (y1 + b) z1 x2 (y2 + b) z2 = B' at *
  replace R0 := Lib.hid R0
  replace R1 := Lib.hid R1
  replace R2 := Lib.hid R2
  replace T7 := Lib.hid T7
  generalize walkB cl cb ht ri ru wd dp x0 y0 z0 x1 y1 z1 x2 y2 z2 = A at *
  generalize walkE cl cb ht ri ru wd dp x0 y0 z0 x1 y1 z1 x2 y2 z2 = B at *
  replace T1 := Lib.hid T1
  replace T2 := Lib.hid T2
  replace T3 := Lib.hid T3
  replace T4 := Lib.hid T4
  replace T5 := Lib.hid T5
  replace T6 := Lib.hid T6
  go_enter Try.func8, Try.ntmps8
  go_wp2_with fail
  generalize hW : World.alloc _ _ = W
  (have c0 : (W).cell? ⟨w.heap.size + 1, 0, none⟩ = some (.int .i64 i) := (by subst hW; go_simp)); (have c1 : (W).cell? ⟨w.heap.size + 1, 1, none⟩ = some (.int .i64 x0) := (by subst hW; go_simp)); (have c2 : (W).cell? ⟨w.heap.size + 1, 2, none⟩ = some (.int .i64 y0) := (by subst hW; go_simp)); (have c3 : (W).cell? ⟨w.heap.size + 1, 3, none⟩ = some (.int .i64 z0) := (by subst hW; go_simp)); (have c4 : (W).cell? ⟨w.heap.size + 1, 4, none⟩ = some (.int .i64 x1) := (by subst hW; go_simp)); (have c5 : (W).cell? ⟨w.heap.size + 1, 5, none⟩ = some (.int .i64 y1) := (by subst hW; go_simp)); (have c6 : (W).cell? ⟨w.heap.size + 1, 6, none⟩ = some (.int .i64 z1) := (by subst hW; go_simp)); (have c7 : (W).cell? ⟨w.heap.size + 1, 7, none⟩ = some (.int .i64 x2) := (by subst hW; go_simp)); (have c8 : (W).cell? ⟨w.heap.size + 1, 8, none⟩ = some (.int .i64 y2) := (by subst hW; go_simp)); (have c9 : (W).cell? ⟨w.heap.size + 1, 9, none⟩ = some (.int .i64 z2) := (by subst hW; go_simp))
  have b0 : W.cell? ⟨w.heap.size, 0, none⟩ = some (.int .i64 cl) := by subst hW; go_simp
  have b1 : W.cell? ⟨w.heap.size, 1, none⟩ = some (.int .i64 cb) := by subst hW; go_simp
  have b2 : W.cell? ⟨w.heap.size, 2, none⟩ = some (.int .i64 ht) := by subst hW; go_simp
  have b3 : W.cell? ⟨w.heap.size, 3, none⟩ = some (.int .i64 ri) := by subst hW; go_simp
  have b4 : W.cell? ⟨w.heap.size, 4, none⟩ = some (.int .i64 ru) := by subst hW; go_simp
  have b5 : W.cell? ⟨w.heap.size, 5, none⟩ = some (.int .i64 wd) := by subst hW; go_simp
  have b6 : W.cell? ⟨w.heap.size, 6, none⟩ = some (.int .i64 dp) := by subst hW; go_simp
  have hn : New w W := by subst hW; (repeat (first | (with_reducible exact New.refl _) | (with_reducible assumption) | ((with_reducible refine New.setB ?_ ?_ _); focus (first | omega | (simp; omega) | (simp; done))) | (with_reducible refine New.alloc ?_ _) | (with_reducible refine New.drew ?_) | (with_reducible refine New.drewN ?_ _) | (with_reducible refine New.hat ?_ _) | ((with_reducible apply New.snart); (with_reducible assumption))))
  clear hW
  refine (T1.out _).mono ?_
  rintro e W1 ⟨rfl, n1⟩
  ((replace c0 := New.keep n1 c0); (replace c1 := New.keep n1 c1); (replace c2 := New.keep n1 c2); (replace c3 := New.keep n1 c3); (replace c4 := New.keep n1 c4); (replace c5 := New.keep n1 c5); (replace c6 := New.keep n1 c6); (replace c7 := New.keep n1 c7); (replace c8 := New.keep n1 c8); (replace c9 := New.keep n1 c9))
  ((replace b0 := New.keep n1 b0); (replace b1 := New.keep n1 b1); (replace b2 := New.keep n1 b2); (replace b3 := New.keep n1 b3); (replace b4 := New.keep n1 b4); (replace b5 := New.keep n1 b5); (replace b6 := New.keep n1 b6))
  replace hn := hn.trans n1
  have zz := World.block_lt_of_cell? _ _ c1
  simp only [] at zz
  clear n1
  go_upto_region 3 with fail
  obtain ⟨p, hp⟩ : ∃ p, W1.heap.size = p := ⟨_, rfl⟩
  simp only [hp]
  go_cut [33] (fun s Z => New W1 Z ∧ Z.cell? ⟨p, 0, none⟩ = some (.int .i64 i) ∧ Z.cell? ⟨p, 1, none⟩ = some (.int .i64 x1) ∧ Z.cell? ⟨p, 2, none⟩ = some (.int .i64 y1) ∧ Z.cell? ⟨p, 3, none⟩ = some (.int .i64 z1) ∧ Z.cell? ⟨p, 4, none⟩ = some (.int .i64 x2) ∧ Z.cell? ⟨p, 5, none⟩ = some (.int .i64 y2) ∧ Z.cell? ⟨p, 6, none⟩ = some (.int .i64 z2) ∧ Z.cell? ⟨p, 7, none⟩ = some (.int .i64 x0) ∧ Z.cell? ⟨p, 8, none⟩ = some (.int .i64 y0) ∧ Z.cell? ⟨p, 9, none⟩ = some (.int .i64 z0))
  case first =>
    subst hp
    go_region
    all_goals
      go_wp2_with fail
      go_meet
      exact ⟨by (repeat (first | (with_reducible exact New.refl _) | (with_reducible assumption) | ((with_reducible refine New.setB ?_ ?_ _); focus (first | omega | (simp; omega) | (simp; done))) | (with_reducible refine New.alloc ?_ _) | (with_reducible refine New.drew ?_) | (with_reducible refine New.drewN ?_ _) | (with_reducible refine New.hat ?_ _) | ((with_reducible apply New.snart); (with_reducible assumption)))), by go_simp, by go_simp, by go_simp, by go_simp, by go_simp, by go_simp, by go_simp, by go_simp, by go_simp, by go_simp⟩
  case rest =>
    obtain ⟨nZ, d0, d1, d2, d3, d4, d5, d6, d7, d8, d9⟩ := hcut
    rename World => W2
    ((replace c0 := New.keep nZ c0); (replace c1 := New.keep nZ c1); (replace c2 := New.keep nZ c2); (replace c3 := New.keep nZ c3); (replace c4 := New.keep nZ c4); (replace c5 := New.keep nZ c5); (replace c6 := New.keep nZ c6); (replace c7 := New.keep nZ c7); (replace c8 := New.keep nZ c8); (replace c9 := New.keep nZ c9))
    ((replace b0 := New.keep nZ b0); (replace b1 := New.keep nZ b1); (replace b2 := New.keep nZ b2); (replace b3 := New.keep nZ b3); (replace b4 := New.keep nZ b4); (replace b5 := New.keep nZ b5); (replace b6 := New.keep nZ b6))
    replace hn := hn.trans nZ
    replace zz := World.block_lt_of_cell? _ _ c1
    simp only [] at zz
    clear nZ hp
    have zd := World.block_lt_of_cell? _ _ d1
    simp only [] at zd
    go_upto_region 5 with fail
    obtain ⟨q, hq⟩ : ∃ p, W2.heap.size = p := ⟨_, rfl⟩
    simp only [hq]
    go_cut [49] (fun s Z => New W2 Z ∧ Z.cell? ⟨q, 0, none⟩ = some (.int .i64 i) ∧ Z.cell? ⟨q, 1, none⟩ = some (.int .i64 x1) ∧ Z.cell? ⟨q, 2, none⟩ = some (.int .i64 y1) ∧ Z.cell? ⟨q, 3, none⟩ = some (.int .i64 z1) ∧ Z.cell? ⟨q, 4, none⟩ = some (.int .i64 x0) ∧ Z.cell? ⟨q, 5, none⟩ = some (.int .i64 y0) ∧ Z.cell? ⟨q, 6, none⟩ = some (.int .i64 z0) ∧ Z.cell? ⟨q, 7, none⟩ = some (.int .i64 x2) ∧ Z.cell? ⟨q, 8, none⟩ = some (.int .i64 y2) ∧ Z.cell? ⟨q, 9, none⟩ = some (.int .i64 z2))
    case first =>
      subst hq
      go_region
      all_goals
        go_wp2_with fail
        go_meet
        exact ⟨by (repeat (first | (with_reducible exact New.refl _) | (with_reducible assumption) | ((with_reducible refine New.setB ?_ ?_ _); focus (first | omega | (simp; omega) | (simp; done))) | (with_reducible refine New.alloc ?_ _) | (with_reducible refine New.drew ?_) | (with_reducible refine New.drewN ?_ _) | (with_reducible refine New.hat ?_ _) | ((with_reducible apply New.snart); (with_reducible assumption)))), by go_simp, by go_simp, by go_simp, by go_simp, by go_simp, by go_simp, by go_simp, by go_simp, by go_simp, by go_simp⟩
    case rest =>
    obtain ⟨nZ, e0, e1, e2, e3, e4, e5, e6, e7, e8, e9⟩ := hcut
    rename World => W3
    ((replace c0 := New.keep nZ c0); (replace c1 := New.keep nZ c1); (replace c2 := New.keep nZ c2); (replace c3 := New.keep nZ c3); (replace c4 := New.keep nZ c4); (replace c5 := New.keep nZ c5); (replace c6 := New.keep nZ c6); (replace c7 := New.keep nZ c7); (replace c8 := New.keep nZ c8); (replace c9 := New.keep nZ c9))
    ((replace b0 := New.keep nZ b0); (replace b1 := New.keep nZ b1); (replace b2 := New.keep nZ b2); (replace b3 := New.keep nZ b3); (replace b4 := New.keep nZ b4); (replace b5 := New.keep nZ b5); (replace b6 := New.keep nZ b6))
    ((replace d0 := New.keep nZ d0); (replace d1 := New.keep nZ d1); (replace d2 := New.keep nZ d2); (replace d3 := New.keep nZ d3); (replace d4 := New.keep nZ d4); (replace d5 := New.keep nZ d5); (replace d6 := New.keep nZ d6); (replace d7 := New.keep nZ d7); (replace d8 := New.keep nZ d8); (replace d9 := New.keep nZ d9))
    replace hn := hn.trans nZ
    clear nZ hq zz zd
    go_wp2_with fail
    refine (T2.out _).mono ?_
    rintro e W4 ⟨rfl, n1⟩
    ((replace c0 := New.keep n1 c0); (replace c1 := New.keep n1 c1); (replace c2 := New.keep n1 c2); (replace c3 := New.keep n1 c3); (replace c4 := New.keep n1 c4); (replace c5 := New.keep n1 c5); (replace c6 := New.keep n1 c6); (replace c7 := New.keep n1 c7); (replace c8 := New.keep n1 c8); (replace c9 := New.keep n1 c9))
    ((replace b0 := New.keep n1 b0); (replace b1 := New.keep n1 b1); (replace b2 := New.keep n1 b2); (replace b3 := New.keep n1 b3); (replace b4 := New.keep n1 b4); (replace b5 := New.keep n1 b5); (replace b6 := New.keep n1 b6))
    ((replace d0 := New.keep n1 d0); (replace d1 := New.keep n1 d1); (replace d2 := New.keep n1 d2); (replace d3 := New.keep n1 d3); (replace d4 := New.keep n1 d4); (replace d5 := New.keep n1 d5); (replace d6 := New.keep n1 d6); (replace d7 := New.keep n1 d7); (replace d8 := New.keep n1 d8); (replace d9 := New.keep n1 d9))
    ((replace e0 := New.keep n1 e0); (replace e1 := New.keep n1 e1); (replace e2 := New.keep n1 e2); (replace e3 := New.keep n1 e3); (replace e4 := New.keep n1 e4); (replace e5 := New.keep n1 e5); (replace e6 := New.keep n1 e6); (replace e7 := New.keep n1 e7); (replace e8 := New.keep n1 e8); (replace e9 := New.keep n1 e9))
    replace hn := hn.trans n1
    clear n1
    go_wp2_with fail
    refine (T3.out _).mono ?_
    rintro e W5 ⟨rfl, n1⟩
    ((replace c0 := New.keep n1 c0); (replace c1 := New.keep n1 c1); (replace c2 := New.keep n1 c2); (replace c3 := New.keep n1 c3); (replace c4 := New.keep n1 c4); (replace c5 := New.keep n1 c5); (replace c6 := New.keep n1 c6); (replace c7 := New.keep n1 c7); (replace c8 := New.keep n1 c8); (replace c9 := New.keep n1 c9))
    ((replace b0 := New.keep n1 b0); (replace b1 := New.keep n1 b1); (replace b2 := New.keep n1 b2); (replace b3 := New.keep n1 b3); (replace b4 := New.keep n1 b4); (replace b5 := New.keep n1 b5); (replace b6 := New.keep n1 b6))
    ((replace d0 := New.keep n1 d0); (replace d1 := New.keep n1 d1); (replace d2 := New.keep n1 d2); (replace d3 := New.keep n1 d3); (replace d4 := New.keep n1 d4); (replace d5 := New.keep n1 d5); (replace d6 := New.keep n1 d6); (replace d7 := New.keep n1 d7); (replace d8 := New.keep n1 d8); (replace d9 := New.keep n1 d9))
    ((replace e0 := New.keep n1 e0); (replace e1 := New.keep n1 e1); (replace e2 := New.keep n1 e2); (replace e3 := New.keep n1 e3); (replace e4 := New.keep n1 e4); (replace e5 := New.keep n1 e5); (replace e6 := New.keep n1 e6); (replace e7 := New.keep n1 e7); (replace e8 := New.keep n1 e8); (replace e9 := New.keep n1 e9))
    replace hn := hn.trans n1
    clear n1
    go_wp2_with fail
    refine (T4.out _).mono ?_
    rintro e W6 ⟨rfl, n1⟩
    ((replace c0 := New.keep n1 c0); (replace c1 := New.keep n1 c1); (replace c2 := New.keep n1 c2); (replace c3 := New.keep n1 c3); (replace c4 := New.keep n1 c4); (replace c5 := New.keep n1 c5); (replace c6 := New.keep n1 c6); (replace c7 := New.keep n1 c7); (replace c8 := New.keep n1 c8); (replace c9 := New.keep n1 c9))
    ((replace b0 := New.keep n1 b0); (replace b1 := New.keep n1 b1); (replace b2 := New.keep n1 b2); (replace b3 := New.keep n1 b3); (replace b4 := New.keep n1 b4); (replace b5 := New.keep n1 b5); (replace b6 := New.keep n1 b6))
    ((replace e0 := New.keep n1 e0); (replace e1 := New.keep n1 e1); (replace e2 := New.keep n1 e2); (replace e3 := New.keep n1 e3); (replace e4 := New.keep n1 e4); (replace e5 := New.keep n1 e5); (replace e6 := New.keep n1 e6); (replace e7 := New.keep n1 e7); (replace e8 := New.keep n1 e8); (replace e9 := New.keep n1 e9))
    replace hn := hn.trans n1
    clear n1 d0 d1 d2 d3 d4 d5 d6 d7 d8 d9
    go_wp2_with fail
    refine (T5.out _).mono ?_
    rintro e W7 ⟨rfl, n1⟩
    ((replace c0 := New.keep n1 c0); (replace c1 := New.keep n1 c1); (replace c2 := New.keep n1 c2); (replace c3 := New.keep n1 c3); (replace c4 := New.keep n1 c4); (replace c5 := New.keep n1 c5); (replace c6 := New.keep n1 c6); (replace c7 := New.keep n1 c7); (replace c8 := New.keep n1 c8); (replace c9 := New.keep n1 c9))
    ((replace b0 := New.keep n1 b0); (replace b1 := New.keep n1 b1); (replace b2 := New.keep n1 b2); (replace b3 := New.keep n1 b3); (replace b4 := New.keep n1 b4); (replace b5 := New.keep n1 b5); (replace b6 := New.keep n1 b6))
    replace hn := hn.trans n1
    clear n1 e0 e1 e2 e3 e4 e5 e6 e7 e8 e9
    go_wp2_with fail
    refine (T6.out _).mono ?_
    rintro e W8 ⟨rfl, n1⟩
    ((replace c0 := New.keep n1 c0); (replace c1 := New.keep n1 c1); (replace c2 := New.keep n1 c2); (replace c3 := New.keep n1 c3); (replace c4 := New.keep n1 c4); (replace c5 := New.keep n1 c5); (replace c6 := New.keep n1 c6); (replace c7 := New.keep n1 c7); (replace c8 := New.keep n1 c8); (replace c9 := New.keep n1 c9))
    ((replace b0 := New.keep n1 b0); (replace b1 := New.keep n1 b1); (replace b2 := New.keep n1 b2); (replace b3 := New.keep n1 b3); (replace b4 := New.keep n1 b4); (replace b5 := New.keep n1 b5); (replace b6 := New.keep n1 b6))
    replace hn := hn.trans n1
    clear n1
    have zz := World.block_lt_of_cell? _ _ c1
    simp only [] at zz
    go_wp2_with fail
    generalize hW : World.alloc _ _ = V0
    obtain ⟨m, hm⟩ : ∃ p, p = W8.heap.size := ⟨_, rfl⟩
    rw [← hm]
    have n1 : New W8 V0 := by subst hW; (repeat (first | (with_reducible exact New.refl _) | (with_reducible assumption) | ((with_reducible refine New.setB ?_ ?_ _); focus (first | omega | (simp; omega) | (simp; done))) | (with_reducible refine New.alloc ?_ _) | (with_reducible refine New.drew ?_) | (with_reducible refine New.drewN ?_ _) | (with_reducible refine New.hat ?_ _) | ((with_reducible apply New.snart); (with_reducible assumption))))
    have m0 : V0.cell? ⟨m, 0, none⟩ = some (.int .i64 i) := by subst hm; subst hW; go_simp
    have m1 : V0.cell? ⟨m, 1, none⟩ = some (.int .i64 x0) := by subst hm; subst hW; go_simp
    have m2 : V0.cell? ⟨m, 2, none⟩ = some (.int .i64 y0) := by subst hm; subst hW; go_simp
    have m3 : V0.cell? ⟨m, 3, none⟩ = some (.int .i64 z0) := by subst hm; subst hW; go_simp
    have m4 : V0.cell? ⟨m, 4, none⟩ = some (.int .i64 x1) := by subst hm; subst hW; go_simp
    have m5 : V0.cell? ⟨m, 5, none⟩ = some (.int .i64 y1) := by subst hm; subst hW; go_simp
    have m6 : V0.cell? ⟨m, 6, none⟩ = some (.int .i64 z1) := by subst hm; subst hW; go_simp
    have m7 : V0.cell? ⟨m, 7, none⟩ = some (.int .i64 x2) := by subst hm; subst hW; go_simp
    have m8 : V0.cell? ⟨m, 8, none⟩ = some (.int .i64 y2) := by subst hm; subst hW; go_simp
    have m9 : V0.cell? ⟨m, 9, none⟩ = some (.int .i64 z2) := by subst hm; subst hW; go_simp
    have HC : Hid (W8.cell? ⟨w.heap.size + 1, 0, none⟩ = some (.int .i64 i) ∧ W8.cell? ⟨w.heap.size + 1, 1, none⟩ = some (.int .i64 x0) ∧ W8.cell? ⟨w.heap.size + 1, 2, none⟩ = some (.int .i64 y0) ∧ W8.cell? ⟨w.heap.size + 1, 3, none⟩ = some (.int .i64 z0) ∧ W8.cell? ⟨w.heap.size + 1, 4, none⟩ = some (.int .i64 x1) ∧ W8.cell? ⟨w.heap.size + 1, 5, none⟩ = some (.int .i64 y1) ∧ W8.cell? ⟨w.heap.size + 1, 6, none⟩ = some (.int .i64 z1) ∧ W8.cell? ⟨w.heap.size + 1, 7, none⟩ = some (.int .i64 x2) ∧ W8.cell? ⟨w.heap.size + 1, 8, none⟩ = some (.int .i64 y2) ∧ W8.cell? ⟨w.heap.size + 1, 9, none⟩ = some (.int .i64 z2) ∧ W8.cell? ⟨w.heap.size, 0, none⟩ = some (.int .i64 cl) ∧ W8.cell? ⟨w.heap.size, 1, none⟩ = some (.int .i64 cb) ∧ W8.cell? ⟨w.heap.size, 2, none⟩ = some (.int .i64 ht) ∧ W8.cell? ⟨w.heap.size, 3, none⟩ = some (.int .i64 ri) ∧ W8.cell? ⟨w.heap.size, 4, none⟩ = some (.int .i64 ru) ∧ W8.cell? ⟨w.heap.size, 5, none⟩ = some (.int .i64 wd) ∧ W8.cell? ⟨w.heap.size, 6, none⟩ = some (.int .i64 dp)) := ⟨c0, c1, c2, c3, c4, c5, c6, c7, c8, c9, b0, b1, b2, b3, b4, b5, b6⟩
    have fm : ∀ o, V0.frozen? ⟨m, o, none⟩ = false := fun o => by subst hm; subst hW; go_simp
    have gm : w.heap.size + 1 < m := by omega
    have gb : W8.heap.size ≤ m := by omega
    have nB := n1
    have h8 := hn
    replace hn := hn.trans n1
    clear n1 hW hm c0 c1 c2 c3 c4 c5 c6 c7 c8 c9 b0 b1 b2 b3 b4 b5 b6
    refine wp_loop_rounds 4 ?_
    rw [rounds_succ]
    obtain ⟨c0, c1, c2, c3, c4, c5, c6, c7, c8, c9, b0, b1, b2, b3, b4, b5, b6⟩ := HC.out
    clear b0 b1 b2 b3 b4 b5 b6
    ((replace c0 := New.keep nB c0); (replace c1 := New.keep nB c1); (replace c2 := New.keep nB c2); (replace c3 := New.keep nB c3); (replace c4 := New.keep nB c4); (replace c5 := New.keep nB c5); (replace c6 := New.keep nB c6); (replace c7 := New.keep nB c7); (replace c8 := New.keep nB c8); (replace c9 := New.keep nB c9))
    go_wp2_with fail
    (refine wp_region_hat (by kernel_rfl) (by kernel_rfl) ?_; intro hatc hatf; (repeat (go_big_quiet_step ((go_at_call 31; exact Calls.hat (R0.out _))))); refine wpQuiet_nil ?_; rintro _ ⟨x, rfl⟩)
    have n1 := x.h
    ((replace c0 := New.keep n1 c0); (replace c1 := New.keep n1 c1); (replace c2 := New.keep n1 c2); (replace c3 := New.keep n1 c3); (replace c4 := New.keep n1 c4); (replace c5 := New.keep n1 c5); (replace c6 := New.keep n1 c6); (replace c7 := New.keep n1 c7); (replace c8 := New.keep n1 c8); (replace c9 := New.keep n1 c9))
    have lm := World.block_lt_of_cell? _ _ m0
    simp only [] at lm
    ((replace m0 := New.keep n1 m0); (replace m1 := New.keep n1 m1); (replace m2 := New.keep n1 m2); (replace m3 := New.keep n1 m3); (replace m4 := New.keep n1 m4); (replace m5 := New.keep n1 m5); (replace m6 := New.keep n1 m6); (replace m7 := New.keep n1 m7); (replace m8 := New.keep n1 m8); (replace m9 := New.keep n1 m9))
    replace fm : ∀ o, World.frozen? x.w ⟨m, o, none⟩ = false := fun o => (New.frozen n1 m o lm).trans (fm o)
    replace nB := nB.trans n1
    clear n1 hatc hatf lm
    generalize x.w = V at *
    have fo := fm 2
    go_wp2_with fail
    clear fo c0 c1 c2 c3 c4 c5 c6 c7 c8 c9
    generalize hW : World.setCell _ _ _ = U0
    replace m0 : U0.cell? ⟨m, 0, none⟩ = some (.int .i64 i) := by subst hW; go_simp
    replace m1 : U0.cell? ⟨m, 1, none⟩ = some (.int .i64 x0) := by subst hW; go_simp
    replace m2 : U0.cell? ⟨m, 2, none⟩ = some (.int .i64 (y0 + b)) := by subst hW; go_simp
    replace m3 : U0.cell? ⟨m, 3, none⟩ = some (.int .i64 z0) := by subst hW; go_simp
    replace m4 : U0.cell? ⟨m, 4, none⟩ = some (.int .i64 x1) := by subst hW; go_simp
    replace m5 : U0.cell? ⟨m, 5, none⟩ = some (.int .i64 y1) := by subst hW; go_simp
    replace m6 : U0.cell? ⟨m, 6, none⟩ = some (.int .i64 z1) := by subst hW; go_simp
    replace m7 : U0.cell? ⟨m, 7, none⟩ = some (.int .i64 x2) := by subst hW; go_simp
    replace m8 : U0.cell? ⟨m, 8, none⟩ = some (.int .i64 y2) := by subst hW; go_simp
    replace m9 : U0.cell? ⟨m, 9, none⟩ = some (.int .i64 z2) := by subst hW; go_simp
    replace fm : ∀ o, U0.frozen? ⟨m, o, none⟩ = false := fun o => by have := fm o; subst hW; go_simp
    replace nB : New W8 U0 := by subst hW; (repeat (first | (with_reducible exact New.refl _) | (with_reducible assumption) | ((with_reducible refine New.setB ?_ ?_ _); focus (first | omega | (simp; omega) | (simp; done))) | (with_reducible refine New.alloc ?_ _) | (with_reducible refine New.drew ?_) | (with_reducible refine New.drewN ?_ _) | (with_reducible refine New.hat ?_ _) | ((with_reducible apply New.snart); (with_reducible assumption))))
    clear hW
    rw [rounds_succ]
    obtain ⟨c0, c1, c2, c3, c4, c5, c6, c7, c8, c9, b0, b1, b2, b3, b4, b5, b6⟩ := HC.out
    clear b0 b1 b2 b3 b4 b5 b6
    ((replace c0 := New.keep nB c0); (replace c1 := New.keep nB c1); (replace c2 := New.keep nB c2); (replace c3 := New.keep nB c3); (replace c4 := New.keep nB c4); (replace c5 := New.keep nB c5); (replace c6 := New.keep nB c6); (replace c7 := New.keep nB c7); (replace c8 := New.keep nB c8); (replace c9 := New.keep nB c9))
    go_wp2_with fail
    (refine wp_region_hat (by kernel_rfl) (by kernel_rfl) ?_; intro hatc hatf; (repeat (go_big_quiet_step ((go_at_call 31; exact Calls.hat (R1.out _))))); refine wpQuiet_nil ?_; rintro _ ⟨x, rfl⟩)
    have n1 := x.h
    ((replace c0 := New.keep n1 c0); (replace c1 := New.keep n1 c1); (replace c2 := New.keep n1 c2); (replace c3 := New.keep n1 c3); (replace c4 := New.keep n1 c4); (replace c5 := New.keep n1 c5); (replace c6 := New.keep n1 c6); (replace c7 := New.keep n1 c7); (replace c8 := New.keep n1 c8); (replace c9 := New.keep n1 c9))
    have lm := World.block_lt_of_cell? _ _ m0
    simp only [] at lm
    ((replace m0 := New.keep n1 m0); (replace m1 := New.keep n1 m1); (replace m2 := New.keep n1 m2); (replace m3 := New.keep n1 m3); (replace m4 := New.keep n1 m4); (replace m5 := New.keep n1 m5); (replace m6 := New.keep n1 m6); (replace m7 := New.keep n1 m7); (replace m8 := New.keep n1 m8); (replace m9 := New.keep n1 m9))
    replace fm : ∀ o, World.frozen? x.w ⟨m, o, none⟩ = false := fun o => (New.frozen n1 m o lm).trans (fm o)
    replace nB := nB.trans n1
    clear n1 hatc hatf lm
    generalize x.w = V at *
    have fo := fm 5
    go_wp2_with fail
    clear fo c0 c1 c2 c3 c4 c5 c6 c7 c8 c9
    generalize hW : World.setCell _ _ _ = U1
    replace m0 : U1.cell? ⟨m, 0, none⟩ = some (.int .i64 i) := by subst hW; go_simp
    replace m1 : U1.cell? ⟨m, 1, none⟩ = some (.int .i64 x0) := by subst hW; go_simp
    replace m2 : U1.cell? ⟨m, 2, none⟩ = some (.int .i64 (y0 + b)) := by subst hW; go_simp
    replace m3 : U1.cell? ⟨m, 3, none⟩ = some (.int .i64 z0) := by subst hW; go_simp
    replace m4 : U1.cell? ⟨m, 4, none⟩ = some (.int .i64 x1) := by subst hW; go_simp
    replace m5 : U1.cell? ⟨m, 5, none⟩ = some (.int .i64 (y1 + b)) := by subst hW; go_simp
    replace m6 : U1.cell? ⟨m, 6, none⟩ = some (.int .i64 z1) := by subst hW; go_simp
    replace m7 : U1.cell? ⟨m, 7, none⟩ = some (.int .i64 x2) := by subst hW; go_simp
    replace m8 : U1.cell? ⟨m, 8, none⟩ = some (.int .i64 y2) := by subst hW; go_simp
    replace m9 : U1.cell? ⟨m, 9, none⟩ = some (.int .i64 z2) := by subst hW; go_simp
    replace fm : ∀ o, U1.frozen? ⟨m, o, none⟩ = false := fun o => by have := fm o; subst hW; go_simp
    replace nB : New W8 U1 := by subst hW; (repeat (first | (with_reducible exact New.refl _) | (with_reducible assumption) | ((with_reducible refine New.setB ?_ ?_ _); focus (first | omega | (simp; omega) | (simp; done))) | (with_reducible refine New.alloc ?_ _) | (with_reducible refine New.drew ?_) | (with_reducible refine New.drewN ?_ _) | (with_reducible refine New.hat ?_ _) | ((with_reducible apply New.snart); (with_reducible assumption))))
    clear hW
    rw [rounds_succ]
    obtain ⟨c0, c1, c2, c3, c4, c5, c6, c7, c8, c9, b0, b1, b2, b3, b4, b5, b6⟩ := HC.out
    clear b0 b1 b2 b3 b4 b5 b6
    ((replace c0 := New.keep nB c0); (replace c1 := New.keep nB c1); (replace c2 := New.keep nB c2); (replace c3 := New.keep nB c3); (replace c4 := New.keep nB c4); (replace c5 := New.keep nB c5); (replace c6 := New.keep nB c6); (replace c7 := New.keep nB c7); (replace c8 := New.keep nB c8); (replace c9 := New.keep nB c9))
    go_wp2_with fail
    (refine wp_region_hat (by kernel_rfl) (by kernel_rfl) ?_; intro hatc hatf; (repeat (go_big_quiet_step ((go_at_call 31; exact Calls.hat (R2.out _))))); refine wpQuiet_nil ?_; rintro _ ⟨x, rfl⟩)
    have n1 := x.h
    ((replace c0 := New.keep n1 c0); (replace c1 := New.keep n1 c1); (replace c2 := New.keep n1 c2); (replace c3 := New.keep n1 c3); (replace c4 := New.keep n1 c4); (replace c5 := New.keep n1 c5); (replace c6 := New.keep n1 c6); (replace c7 := New.keep n1 c7); (replace c8 := New.keep n1 c8); (replace c9 := New.keep n1 c9))
    have lm := World.block_lt_of_cell? _ _ m0
    simp only [] at lm
    ((replace m0 := New.keep n1 m0); (replace m1 := New.keep n1 m1); (replace m2 := New.keep n1 m2); (replace m3 := New.keep n1 m3); (replace m4 := New.keep n1 m4); (replace m5 := New.keep n1 m5); (replace m6 := New.keep n1 m6); (replace m7 := New.keep n1 m7); (replace m8 := New.keep n1 m8); (replace m9 := New.keep n1 m9))
    replace fm : ∀ o, World.frozen? x.w ⟨m, o, none⟩ = false := fun o => (New.frozen n1 m o lm).trans (fm o)
    replace nB := nB.trans n1
    clear n1 hatc hatf lm
    generalize x.w = V at *
    have fo := fm 8
    go_wp2_with fail
    clear fo c0 c1 c2 c3 c4 c5 c6 c7 c8 c9
    generalize hW : World.setCell _ _ _ = U2
    replace m0 : U2.cell? ⟨m, 0, none⟩ = some (.int .i64 i) := by subst hW; go_simp
    replace m1 : U2.cell? ⟨m, 1, none⟩ = some (.int .i64 x0) := by subst hW; go_simp
    replace m2 : U2.cell? ⟨m, 2, none⟩ = some (.int .i64 (y0 + b)) := by subst hW; go_simp
    replace m3 : U2.cell? ⟨m, 3, none⟩ = some (.int .i64 z0) := by subst hW; go_simp
    replace m4 : U2.cell? ⟨m, 4, none⟩ = some (.int .i64 x1) := by subst hW; go_simp
    replace m5 : U2.cell? ⟨m, 5, none⟩ = some (.int .i64 (y1 + b)) := by subst hW; go_simp
    replace m6 : U2.cell? ⟨m, 6, none⟩ = some (.int .i64 z1) := by subst hW; go_simp
    replace m7 : U2.cell? ⟨m, 7, none⟩ = some (.int .i64 x2) := by subst hW; go_simp
    replace m8 : U2.cell? ⟨m, 8, none⟩ = some (.int .i64 (y2 + b)) := by subst hW; go_simp
    replace m9 : U2.cell? ⟨m, 9, none⟩ = some (.int .i64 z2) := by subst hW; go_simp
    replace fm : ∀ o, U2.frozen? ⟨m, o, none⟩ = false := fun o => by have := fm o; subst hW; go_simp
    replace nB : New W8 U2 := by subst hW; (repeat (first | (with_reducible exact New.refl _) | (with_reducible assumption) | ((with_reducible refine New.setB ?_ ?_ _); focus (first | omega | (simp; omega) | (simp; done))) | (with_reducible refine New.alloc ?_ _) | (with_reducible refine New.drew ?_) | (with_reducible refine New.drewN ?_ _) | (with_reducible refine New.hat ?_ _) | ((with_reducible apply New.snart); (with_reducible assumption))))
    clear hW
    rw [rounds_succ]
    obtain ⟨c0, c1, c2, c3, c4, c5, c6, c7, c8, c9, b0, b1, b2, b3, b4, b5, b6⟩ := HC.out
    clear c0 c1 c2 c3 c4 c5 c6 c7 c8 c9 HC
    ((replace b0 := New.keep nB b0); (replace b1 := New.keep nB b1); (replace b2 := New.keep nB b2); (replace b3 := New.keep nB b3); (replace b4 := New.keep nB b4); (replace b5 := New.keep nB b5); (replace b6 := New.keep nB b6))
    replace hn := h8.trans nB
    clear h8 nB
    go_wp2_with fail
    refine (T7.out _).mono ?_
    rintro e W9 ⟨rfl, n1⟩
    replace hn := hn.trans n1
    clear n1 m0 m1 m2 m3 m4 m5 m6 m7 m8 m9 b0 b1 b2 b3 b4 b5 b6 fm
    rcases HF.out with h | ⟨h, h'⟩
    · clear HF T1 T2 T3 T7
      subst h
      go_wp2_with fail
      refine (t_wakes _).mono ?_
      rintro e W10 ⟨rfl, n1⟩
      replace hn := hn.trans n1
      clear n1
      go_wp2_with fail
      go_ret
      exact ⟨rfl, hn⟩
    · clear HF T1 T2 T3 T7
      subst h h'
      cases hB : (B' == 40)
      · go_wp2_with fail
        refine (t_wakes _).mono ?_
        rintro e W10 ⟨rfl, n1⟩
        replace hn := hn.trans n1
        clear n1
        go_wp2_with fail
        go_ret
        exact ⟨rfl, hn⟩
      · go_wp2_with fail
        refine (t_wakes _).mono ?_
        rintro e W10 ⟨rfl, n1⟩
        replace hn := hn.trans n1
        clear n1
        go_wp2_with fail
        go_ret
        exact ⟨rfl, hn⟩

theorem l_turned (cl cb ht ri ru wd dp i x0 y0 z0 x1 y1 z1 x2 y2 z2 b : Int) (w : World) :
    Calls Try.prog 8 #[.agg #[.int .i64 cl, .int .i64 cb, .int .i64 ht, .int .i64 ri, .int .i64 ru, .int .i64 wd, .int .i64 dp], .agg #[.int .i64 i, .int .i64 x0, .int .i64 y0, .int .i64 z0, .int .i64 x1, .int .i64 y1, .int .i64 z1, .int .i64 x2, .int .i64 y2, .int .i64 z2], .int .i64 b] w fun e w' => e = .returned (.bool true) ∧ New w w' := by
  cases hk : okB x0 y0 z0 x1 y1 z1 x2 y2 z2
  · exact l_turned_no cl cb ht ri ru wd dp i _ _ _ _ _ _ _ _ _ b w hk
  · exact l_turned_yes cl cb ht ri ru wd dp i _ _ _ _ _ _ _ _ _ b w hk

end Go.Proofs.Ytmpkciidhopckaa
