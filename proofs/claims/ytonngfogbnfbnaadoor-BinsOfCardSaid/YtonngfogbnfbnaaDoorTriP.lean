/- The document's own: Bounds of triangles. -/
import Derived.Test.YtonngfogbnfbnaaDoorTriB
import Derived.Test.YtonngfogbnfbnaaDoorNumR
namespace Go.Proofs.YtonngfogbnfbnaaDoor
open Go.RowKit
set_option linter.unusedVariables false

set_option maxHeartbeats 2000000 in
set_option maxRecDepth 100000 in
theorem r_bounds (i x0 y0 z0 x1 y1 z1 x2 y2 z2 : Int) (w : World) :
    Calls Tryd.prog 31 #[.agg #[.int .i64 i, .int .i64 x0, .int .i64 y0, .int .i64 z0, .int .i64 x1, .int .i64 y1, .int .i64 z1, .int .i64 x2, .int .i64 y2, .int .i64 z2]] w fun e w' => e = .returned (.tuple #[.agg #[.int .i64 (minI x0 x1 x2), .int .i64 (minI y0 y1 y2), .int .i64 (minI z0 z1 z2)], .agg #[.int .i64 (maxI x0 x1 x2), .int .i64 (maxI y0 y1 y2), .int .i64 (maxI z0 z1 z2)]]) ∧ New w w' := by
  have e1 : ∀ a b c, minI a b c = min (min a b) c := fun a b c => by unfold minI; omega
  have e2 : ∀ a b c, maxI a b c = max (max a b) c := fun a b c => by unfold maxI; omega
  simp only [e1, e2]
  clear e1 e2
  go_enter Tryd.func31, Tryd.ntmps31
  go_upto_region 1 with fail
  generalize hW : World.alloc _ _ = W
  (have c0 : (W).cell? ⟨w.heap.size, 0, none⟩ = some (.int .i64 i) := (by subst hW; go_simp)); (have c1 : (W).cell? ⟨w.heap.size, 1, none⟩ = some (.int .i64 x0) := (by subst hW; go_simp)); (have c2 : (W).cell? ⟨w.heap.size, 2, none⟩ = some (.int .i64 y0) := (by subst hW; go_simp)); (have c3 : (W).cell? ⟨w.heap.size, 3, none⟩ = some (.int .i64 z0) := (by subst hW; go_simp)); (have c4 : (W).cell? ⟨w.heap.size, 4, none⟩ = some (.int .i64 x1) := (by subst hW; go_simp)); (have c5 : (W).cell? ⟨w.heap.size, 5, none⟩ = some (.int .i64 y1) := (by subst hW; go_simp)); (have c6 : (W).cell? ⟨w.heap.size, 6, none⟩ = some (.int .i64 z1) := (by subst hW; go_simp)); (have c7 : (W).cell? ⟨w.heap.size, 7, none⟩ = some (.int .i64 x2) := (by subst hW; go_simp)); (have c8 : (W).cell? ⟨w.heap.size, 8, none⟩ = some (.int .i64 y2) := (by subst hW; go_simp)); (have c9 : (W).cell? ⟨w.heap.size, 9, none⟩ = some (.int .i64 z2) := (by subst hW; go_simp))
  have hn : New w W := by subst hW; (repeat (first | (with_reducible exact New.refl _) | (with_reducible assumption) | ((with_reducible refine New.setB ?_ ?_ _); focus (first | omega | (simp; omega) | (simp; done))) | (with_reducible refine New.alloc ?_ _) | (with_reducible refine New.drew ?_) | (with_reducible refine New.drewN ?_ _) | (with_reducible refine New.hat ?_ _) | ((with_reducible apply New.snart); (with_reducible assumption))))
  have a0 : W.cell? ⟨w.heap.size + 1, 0, none⟩ = some (.int .i64 0) := by subst hW; go_simp
  have a1 : W.cell? ⟨w.heap.size + 1, 1, none⟩ = some (.int .i64 0) := by subst hW; go_simp
  have a2 : W.cell? ⟨w.heap.size + 1, 2, none⟩ = some (.int .i64 0) := by subst hW; go_simp
  have b0 : W.cell? ⟨w.heap.size + 1 + 1, 0, none⟩ = some (.int .i64 0) := by subst hW; go_simp
  have b1 : W.cell? ⟨w.heap.size + 1 + 1, 1, none⟩ = some (.int .i64 0) := by subst hW; go_simp
  have b2 : W.cell? ⟨w.heap.size + 1 + 1, 2, none⟩ = some (.int .i64 0) := by subst hW; go_simp
  have fa : ∀ o, W.frozen? ⟨w.heap.size + 1, o, none⟩ = false := fun o => by subst hW; go_simp
  have fb : ∀ o, W.frozen? ⟨w.heap.size + 1 + 1, o, none⟩ = false := fun o => by subst hW; go_simp
  have hz : W.heap.size = w.heap.size + 1 + 1 + 1 := by subst hW; go_simp
  have zz := World.block_lt_of_cell? _ _ c1
  simp only [] at zz
  clear hW
  go_cut [4, 5] (fun s4 s5 Z => ∃ p q : Nat, s4 = .pointer (some ⟨p, 0, none⟩) ∧ s5 = .pointer (some ⟨q, 0, none⟩) ∧ New W Z ∧ W.heap.size ≤ p ∧ W.heap.size ≤ q ∧ p < Z.heap.size ∧ q < Z.heap.size ∧ p ≠ q ∧ (Z.cell? ⟨p, 0, none⟩ = some (.int .i64 x0) ∧ Z.cell? ⟨p, 1, none⟩ = some (.int .i64 y0) ∧ Z.cell? ⟨p, 2, none⟩ = some (.int .i64 z0)) ∧
    (Z.cell? ⟨q, 0, none⟩ = some (.int .i64 x0) ∧ Z.cell? ⟨q, 1, none⟩ = some (.int .i64 y0) ∧ Z.cell? ⟨q, 2, none⟩ = some (.int .i64 z0)) ∧ (∀ o, Z.frozen? ⟨p, o, none⟩ = false) ∧ (∀ o, Z.frozen? ⟨q, o, none⟩ = false))
  case first =>
    go_region
    all_goals
      go_wp2_with fail
      go_meet
      exact ⟨_, _, rfl, rfl, by (repeat (first | (with_reducible exact New.refl _) | (with_reducible assumption) | ((with_reducible refine New.setB ?_ ?_ _); focus (first | omega | (simp; omega) | (simp; done))) | (with_reducible refine New.alloc ?_ _) | (with_reducible refine New.drew ?_) | (with_reducible refine New.drewN ?_ _) | (with_reducible refine New.hat ?_ _) | ((with_reducible apply New.snart); (with_reducible assumption)))), by omega, by omega, by simp <;> omega, by simp <;> omega, by omega, ⟨by go_simp, by go_simp, by go_simp⟩, ⟨by go_simp, by go_simp, by go_simp⟩, fun o => by go_simp, fun o => by go_simp⟩
  case rest =>
    obtain ⟨p, q, rfl, rfl, nZ, gp, gq, lp, lq, hne, ⟨l0, l1, l2⟩, ⟨h0, h1, h2⟩, fl, fh⟩ := hcut
    rename World => V0
    have fl0 := fl 0
    have fl1 := fl 1
    have fl2 := fl 2
    have fh0 := fh 0
    have fh1 := fh 1
    have fh2 := fh 2
    go_wp2_with fail
    refine wp_loop_rounds 3 ?_
    rw [rounds_succ]
    have d1 := nZ.keep c4
    have d2 := nZ.keep c5
    have d3 := nZ.keep c6
    go_wp2_with fail
    clear d1 d2 d3
    generalize hV : World.alloc _ _ = V1
    replace l0 : V1.cell? ⟨p, 0, none⟩ = some (.int .i64 (min x0 x1)) := by subst hV; go_simp
    replace l1 : V1.cell? ⟨p, 1, none⟩ = some (.int .i64 (min y0 y1)) := by subst hV; go_simp
    replace l2 : V1.cell? ⟨p, 2, none⟩ = some (.int .i64 (min z0 z1)) := by subst hV; go_simp
    replace h0 : V1.cell? ⟨q, 0, none⟩ = some (.int .i64 (max x0 x1)) := by subst hV; go_simp
    replace h1 : V1.cell? ⟨q, 1, none⟩ = some (.int .i64 (max y0 y1)) := by subst hV; go_simp
    replace h2 : V1.cell? ⟨q, 2, none⟩ = some (.int .i64 (max z0 z1)) := by subst hV; go_simp
    replace fl : ∀ o, V1.frozen? ⟨p, o, none⟩ = false := fun o => by have := fl o; subst hV; go_simp
    replace fl0 := fl 0
    replace fl1 := fl 1
    replace fl2 := fl 2
    replace fh : ∀ o, V1.frozen? ⟨q, o, none⟩ = false := fun o => by have := fh o; subst hV; go_simp
    replace fh0 := fh 0
    replace fh1 := fh 1
    replace fh2 := fh 2
    replace nZ : New W V1 := by subst hV; (repeat (first | (with_reducible exact New.refl _) | (with_reducible assumption) | ((with_reducible refine New.setB ?_ ?_ _); focus (first | omega | (simp; omega) | (simp; done))) | (with_reducible refine New.alloc ?_ _) | (with_reducible refine New.drew ?_) | (with_reducible refine New.drewN ?_ _) | (with_reducible refine New.hat ?_ _) | ((with_reducible apply New.snart); (with_reducible assumption))))
    replace lp : p < V1.heap.size := by subst hV; simp; omega
    replace lq : q < V1.heap.size := by subst hV; simp; omega
    clear hV
    rw [rounds_succ]
    have d1 := nZ.keep c7
    have d2 := nZ.keep c8
    have d3 := nZ.keep c9
    go_wp2_with fail
    clear d1 d2 d3
    generalize hV : World.alloc _ _ = V2
    replace l0 : V2.cell? ⟨p, 0, none⟩ = some (.int .i64 (min (min x0 x1) x2)) := by subst hV; go_simp
    replace l1 : V2.cell? ⟨p, 1, none⟩ = some (.int .i64 (min (min y0 y1) y2)) := by subst hV; go_simp
    replace l2 : V2.cell? ⟨p, 2, none⟩ = some (.int .i64 (min (min z0 z1) z2)) := by subst hV; go_simp
    replace h0 : V2.cell? ⟨q, 0, none⟩ = some (.int .i64 (max (max x0 x1) x2)) := by subst hV; go_simp
    replace h1 : V2.cell? ⟨q, 1, none⟩ = some (.int .i64 (max (max y0 y1) y2)) := by subst hV; go_simp
    replace h2 : V2.cell? ⟨q, 2, none⟩ = some (.int .i64 (max (max z0 z1) z2)) := by subst hV; go_simp
    replace fl : ∀ o, V2.frozen? ⟨p, o, none⟩ = false := fun o => by have := fl o; subst hV; go_simp
    replace fl0 := fl 0
    replace fl1 := fl 1
    replace fl2 := fl 2
    replace fh : ∀ o, V2.frozen? ⟨q, o, none⟩ = false := fun o => by have := fh o; subst hV; go_simp
    replace fh0 := fh 0
    replace fh1 := fh 1
    replace fh2 := fh 2
    replace nZ : New W V2 := by subst hV; (repeat (first | (with_reducible exact New.refl _) | (with_reducible assumption) | ((with_reducible refine New.setB ?_ ?_ _); focus (first | omega | (simp; omega) | (simp; done))) | (with_reducible refine New.alloc ?_ _) | (with_reducible refine New.drew ?_) | (with_reducible refine New.drewN ?_ _) | (with_reducible refine New.hat ?_ _) | ((with_reducible apply New.snart); (with_reducible assumption))))
    replace lp : p < V2.heap.size := by subst hV; simp; omega
    replace lq : q < V2.heap.size := by subst hV; simp; omega
    clear hV
    rw [rounds_succ]
    have fa0 := nZ.keepF a0 (fa 0)
    have fa1 := nZ.keepF a1 (fa 1)
    have fa2 := nZ.keepF a2 (fa 2)
    have fb0 := nZ.keepF b0 (fb 0)
    have fb1 := nZ.keepF b1 (fb 1)
    have fb2 := nZ.keepF b2 (fb 2)
    replace a0 := nZ.keep a0
    replace a1 := nZ.keep a1
    replace a2 := nZ.keep a2
    replace b0 := nZ.keep b0
    replace b1 := nZ.keep b1
    replace b2 := nZ.keep b2
    go_wp2_with fail
    replace hn := hn.trans nZ
    go_region
    all_goals
      go_wp2_with fail
      refine bodyPost_ret (v := .tuple #[.agg #[.int .i64 (min (min x0 x1) x2), .int .i64 (min (min y0 y1) y2), .int .i64 (min (min z0 z1) z2)], .agg #[.int .i64 (max (max x0 x1) x2), .int .i64 (max (max y0 y1) y2), .int .i64 (max (max z0 z1) z2)]]) (by simp [results, Tryd.results31, go_sem, *]) rfl ?_
      exact ⟨rfl, by (repeat (first | (with_reducible exact New.refl _) | (with_reducible assumption) | ((with_reducible refine New.setB ?_ ?_ _); focus (first | omega | (simp; omega) | (simp; done))) | (with_reducible refine New.alloc ?_ _) | (with_reducible refine New.drew ?_) | (with_reducible refine New.drewN ?_ _) | (with_reducible refine New.hat ?_ _) | ((with_reducible apply New.snart); (with_reducible assumption))))⟩

end Go.Proofs.YtonngfogbnfbnaaDoor
