import Derived.Test.YtccikeagbillgaaGreatRaRZ3
import Derived.Test.YtccikeagbillgaaGreatLooseZ3
import Derived.Deep.DeepCutAuto

/- What the laws of layer 9 say of two columns. -/
namespace Go.Proofs.YtccikeagbillgaaGreat
open Go.RowKit
set_option linter.unusedVariables false

def wkC : CfgR := ⟨0, 1, 3, 1, 1, 8, 8⟩
def wkT (i y : Int) : TriR := ⟨i, 0, y, 0, 2, y, 0, 0, y, 2⟩
def wkS : TriR := ⟨2, 0, 3, 0, 1, 7, 0, 0, 3, 1⟩
theorem wk_c1 : cE wkC [wkT 1 3] 0 0 = 0 := by kernel_rfl
theorem wk_r1 : cR wkC [wkT 1 3] 0 0 = [⟨3, 3, true⟩] := by kernel_rfl
theorem wk_c2 : cE wkC [wkT 1 3, wkS] 0 0 = 0 := by kernel_rfl
theorem wk_r2 : cR wkC [wkT 1 3, wkS] 0 0 = [⟨3, 7, false⟩] := by kernel_rfl

set_option maxHeartbeats 1000000 in
theorem ra_flat (i y : Int) (w : World) : Calls Tryz.prog 19 #[.int .i64 i, .int .i64 y] w fun e w' => e = .returned (.agg #[.int .i64 i, .int .i64 0, .int .i64 y, .int .i64 0, .int .i64 2, .int .i64 y, .int .i64 0, .int .i64 0, .int .i64 y, .int .i64 2]) ∧ New w w' := by
  go_enter Tryz.func19, Tryz.ntmps19
  go_wp2_with fail
  refine bodyPost_ret (v := .agg #[.int .i64 i, .int .i64 0, .int .i64 y, .int .i64 0, .int .i64 2, .int .i64 y, .int .i64 0, .int .i64 0, .int .i64 y, .int .i64 2]) (by simp [results, Tryz.results19, go_sem, *]) rfl ?_
  exact ⟨rfl, by (repeat (first | (with_reducible exact New.refl _) | (with_reducible assumption) | ((with_reducible refine New.setB ?_ ?_ _); focus (first | omega | (simp; omega) | (simp; done))) | (with_reducible refine New.alloc ?_ _) | (with_reducible refine New.drew ?_) | (with_reducible refine New.drewN ?_ _) | (with_reducible refine New.hat ?_ _) | ((with_reducible apply New.snart); (with_reducible assumption))))⟩

theorem Code.wp_at {P : Program} {c : Code} {Q : Exit → Act → World → Prop} {a : Act} {w : World} (h : ∀ W, w = W → c.wp P Q a W) : c.wp P Q a w := h w rfl

/-- A row of triangles in a new block. -/
theorem tris_new (w : World) (l : List TriR) (cs : Array Value) (t : TypeId) (h : cs.toList = l.flatMap TriR.enc) : RowAt TriR.enc 10 (w.alloc (.cells cs t)) w.heap.size 0 l := fun j hj i hi => by
  have hi' : i < 10 := by have := hi; rw [TriR.enc_len] at this; exact this
  have hb : (w.alloc (.cells cs t)).heap[w.heap.size]? = some (.cells cs t (0, 0)) := World.alloc_heap_new w _
  refine cell_of_heap hb ?_
  rw [← Array.getElem?_toList, h, Nat.zero_add, flatMap_get TriR.enc_len l j hj i hi']
  exact List.getElem?_eq_getElem hi

set_option maxHeartbeats 1000000 in
set_option maxRecDepth 100000 in
theorem ra_wakes (w : World) : Calls Tryz.prog 7 #[] w fun e w' => e = .returned (.bool true) ∧ New w w' := by
  have KF := Lib.hid (fun W => ra_flat 1 3 W)
  have KC1 := Lib.hid (fun p W (h : RowIn TriR.enc 10 W (some ⟨p, 0, none⟩) [wkT 1 3]) => r_column wkC (some ⟨p, 0, none⟩) [wkT 1 3] 1 (by unfold maxLen; simp) 0 0 (by unfold i64B; omega) (by unfold i64B; omega) W h)
  have KC2 := Lib.hid (fun p W (h : RowIn TriR.enc 10 W (some ⟨p, 0, none⟩) [wkT 1 3, wkS]) => r_column wkC (some ⟨p, 0, none⟩) [wkT 1 3, wkS] 2 (by unfold maxLen; simp) 0 0 (by unfold i64B; omega) (by unfold i64B; omega) W h)
  rw [wk_c1, wk_r1] at KC1
  rw [wk_c2, wk_r2] at KC2
  go_enter Tryz.func7, Tryz.ntmps7
  go_wp2_with fail
  generalize hW : World.alloc _ _ = W1
  have n1 : New w W1 := by subst hW; (repeat (first | (with_reducible exact New.refl _) | (with_reducible assumption) | ((with_reducible refine New.setB ?_ ?_ _); focus (first | omega | (simp; omega) | (simp; done))) | (with_reducible refine New.alloc ?_ _) | (with_reducible refine New.drew ?_) | (with_reducible refine New.drewN ?_ _) | (with_reducible refine New.hat ?_ _) | ((with_reducible apply New.snart); (with_reducible assumption))))
  have hB : W1.heap[w.heap.size]? = some (.cells (cfgA wkC) 23 (0, 0)) := by subst hW; exact World.alloc_heap_new w _
  clear hW
  have HB := Lib.hid (And.intro n1 hB)
  clear n1 hB
  refine wp_region_loose 8 (fun i w' v => match i with
    | 0 => v = .agg (cfgA wkC)
    | 1 => v = .agg (triA (wkT 1 3))
    | 2 => ∃ p, v = .slice (some ⟨p, 0, none⟩) 1 1 ∧ RowAt TriR.enc 10 w' p 0 [wkT 1 3]
    | 3 => ∃ a c, v = .tuple #[.slice a 1 c, .int .i64 0] ∧ Sl Sn.enc 3 w' (.slice a 1 c) [⟨3, 3, true⟩]
    | 4 => ∃ a c, v = .tuple #[.slice a 1 c, .int .i64 0] ∧ Sl Sn.enc 3 w' (.slice a 1 c) [⟨3, 3, true⟩]
    | 5 => ∃ a c, v = .slice a 1 c ∧ Sl Sn.enc 3 w' (.slice a 1 c) [⟨3, 3, true⟩]
    | 6 => v = .int .i64 0
    | 7 => ∃ a c, v = .slice a 1 c ∧ Sl Sn.enc 3 w' (.slice a 1 c) [⟨3, 3, true⟩]
    | _ => True) (by kernel_rfl) (by kernel_rfl) ?_ ?_ ?_
  · intro i w1 w2 v h n
    match i, h with
    | 0, h => exact h
    | 1, h => exact h
    | 2, ⟨p, h1, h2⟩ => exact ⟨p, h1, h2.keep n⟩
    | 3, ⟨a, c, h1, h2⟩ => exact ⟨a, c, h1, h2.keep n⟩
    | 4, ⟨a, c, h1, h2⟩ => exact ⟨a, c, h1, h2.keep n⟩
    | 5, ⟨a, c, h1, h2⟩ => exact ⟨a, c, h1, h2.keep n⟩
    | 6, h => exact h
    | 7, ⟨a, c, h1, h2⟩ => exact ⟨a, c, h1, h2.keep n⟩
    | i + 8, _ => trivial
  · intro i o hi ho a' w' nn hr hd
    rcases (show i = 0 ∨ i = 1 ∨ i = 2 ∨ i = 3 ∨ i = 4 ∨ i = 5 ∨ i = 6 ∨ i = 7 by omega) with rfl | rfl | rfl | rfl | rfl | rfl | rfl | rfl <;> obtain rfl := Option.some.inj ho
    · have r1 : (a'.tmps[1]?).getD undef = .pointer (some ⟨w.heap.size, 0, none⟩) := (eval_get a' 1).symm.trans (hr 1 (by kernel_rfl))
      obtain ⟨c0, c1, c2, c3, c4, c5, c6⟩ := cfg_cs (nn.blk HB.out.2)
      exact yields_value (.agg (cfgA wkC)) (by unfold cfgA; go_simp) ⟨New.refl _, rfl⟩
    · exact yields_enter 19 #[.int .i64 1, .int .i64 3] (by go_simp) ((KF.out _).mono fun e w'' ⟨he, hn⟩ => ⟨_, he, hn, rfl⟩)
    · have r10 : (a'.tmps[10]?).getD undef = .agg (triA (wkT 1 3)) := (eval_get a' 10).symm.trans (hd 1 10 (by omega) (by kernel_rfl) (by kernel_rfl))
      unfold triA wkT at r10
      exact yields_value (w' := w'.alloc (.cells (triA (wkT 1 3)) 43)) (.slice (some ⟨w'.heap.size, 0, none⟩) 1 1) (by unfold triA wkT; go_simp) ⟨(New.refl _).alloc _, _, rfl, tris_new _ _ _ _ rfl⟩
    · have r9 : (a'.tmps[9]?).getD undef = .agg (cfgA wkC) := (eval_get a' 9).symm.trans (hd 0 9 (by omega) (by kernel_rfl) (by kernel_rfl))
      obtain ⟨p, e11, hrow⟩ := hd 2 11 (by omega) (by kernel_rfl) (by kernel_rfl)
      have r11 : (a'.tmps[11]?).getD undef = .slice (some ⟨p, 0, none⟩) 1 1 := (eval_get a' 11).symm.trans e11
      refine yields_enter 8 #[.agg (cfgA wkC), .slice (some ⟨p, 0, none⟩) 1 1, .int .i64 0, .int .i64 0] (by go_simp) ((KC1.out p w' (fun _ => ⟨p, 0, rfl, hrow⟩)).mono ?_)
      rintro e w'' ⟨v, rfl, hs, n⟩
      have hs' := hs
      obtain ⟨a, c, rfl, -⟩ := hs
      exact ⟨_, rfl, n, a, c, rfl, hs'⟩
    · obtain ⟨a, c, e12, hs⟩ := hd 3 12 (by omega) (by kernel_rfl) (by kernel_rfl)
      have r12 : (a'.tmps[12]?).getD undef = _ := (eval_get a' 12).symm.trans e12
      exact yields_value (.tuple #[.slice a 1 c, .int .i64 0]) (by go_simp) ⟨New.refl _, a, c, rfl, hs⟩
    · obtain ⟨a, c, e8, hs⟩ := hd 4 8 (by omega) (by kernel_rfl) (by kernel_rfl)
      have r8 : (a'.tmps[8]?).getD undef = _ := (eval_get a' 8).symm.trans e8
      exact yields_value (.slice a 1 c) (by go_simp) ⟨New.refl _, a, c, rfl, hs⟩
    · obtain ⟨a, c, e8, hs⟩ := hd 4 8 (by omega) (by kernel_rfl) (by kernel_rfl)
      have r8 : (a'.tmps[8]?).getD undef = _ := (eval_get a' 8).symm.trans e8
      exact yields_value (.int .i64 0) (by go_simp) ⟨New.refl _, rfl⟩
    · obtain ⟨a, c, e13, hs⟩ := hd 5 13 (by omega) (by kernel_rfl) (by kernel_rfl)
      have r13 : (a'.tmps[13]?).getD undef = _ := (eval_get a' 13).symm.trans e13
      exact yields_value (.slice a 1 c) (by go_simp) ⟨New.refl _, a, c, rfl, hs⟩
  · intro vs w1 nn hv
    obtain ⟨a1, c1, e7, hs1⟩ := hv 7 (by omega)
    have e6 := hv 6 (by omega)
    simp only [] at e6
    clear hv
    simp only [List.take_succ_cons, List.take_zero, List.drop_succ_cons, List.drop_zero, putL, Act.put, List.setIfInBounds_toArray, List.set_cons_zero, List.set_cons_succ, Nat.reduceAdd, Nat.zero_add]
    rw [e6, e7]
    have HS1 := Lib.hid (And.intro nn hs1)
    clear nn hs1
    generalize vs 0 = x0
    generalize vs 1 = x1
    generalize vs 2 = x2
    generalize vs 3 = x3
    generalize vs 4 = x4
    generalize vs 5 = x5
    go_wp2_with fail
    refine Code.wp_at (fun W2 hW => ?_)
    have n2 : New w1 W2 := by subst hW; (repeat (first | (with_reducible exact New.refl _) | (with_reducible assumption) | ((with_reducible refine New.setB ?_ ?_ _); focus (first | omega | (simp; omega) | (simp; done))) | (with_reducible refine New.alloc ?_ _) | (with_reducible refine New.drew ?_) | (with_reducible refine New.drewN ?_ _) | (with_reducible refine New.hat ?_ _) | ((with_reducible apply New.snart); (with_reducible assumption))))
    have s0 : W2.cell? ⟨w1.heap.size, 0, none⟩ = some (.int .i64 2) := by subst hW; go_simp
    have s1 : W2.cell? ⟨w1.heap.size, 1, none⟩ = some (.int .i64 0) := by subst hW; go_simp
    have s2 : W2.cell? ⟨w1.heap.size, 2, none⟩ = some (.int .i64 3) := by subst hW; go_simp
    have s3 : W2.cell? ⟨w1.heap.size, 3, none⟩ = some (.int .i64 0) := by subst hW; go_simp
    have s4 : W2.cell? ⟨w1.heap.size, 4, none⟩ = some (.int .i64 1) := by subst hW; go_simp
    have s5 : W2.cell? ⟨w1.heap.size, 5, none⟩ = some (.int .i64 7) := by subst hW; go_simp
    have s6 : W2.cell? ⟨w1.heap.size, 6, none⟩ = some (.int .i64 0) := by subst hW; go_simp
    have s7 : W2.cell? ⟨w1.heap.size, 7, none⟩ = some (.int .i64 0) := by subst hW; go_simp
    have s8 : W2.cell? ⟨w1.heap.size, 8, none⟩ = some (.int .i64 3) := by subst hW; go_simp
    have s9 : W2.cell? ⟨w1.heap.size, 9, none⟩ = some (.int .i64 1) := by subst hW; go_simp
    clear hW
    have HN2 := Lib.hid (HS1.out.1.trans n2)
    have HA := Lib.hid (HS1.out.2.keep n2)
    clear n2
    refine wp_region_loose 9 (fun i w' v => match i with
      | 0 => v = .agg (cfgA wkC)
      | 1 => v = .agg (triA (wkT 1 3))
      | 2 => v = .agg (triA wkS)
      | 3 => ∃ p, v = .slice (some ⟨p, 0, none⟩) 2 2 ∧ RowAt TriR.enc 10 w' p 0 [wkT 1 3, wkS]
      | 4 => ∃ a c, v = .tuple #[.slice a 1 c, .int .i64 0] ∧ Sl Sn.enc 3 w' (.slice a 1 c) [⟨3, 7, false⟩]
      | 5 => ∃ a c, v = .tuple #[.slice a 1 c, .int .i64 0] ∧ Sl Sn.enc 3 w' (.slice a 1 c) [⟨3, 7, false⟩]
      | 6 => ∃ a c, v = .slice a 1 c ∧ Sl Sn.enc 3 w' (.slice a 1 c) [⟨3, 7, false⟩]
      | 7 => v = .int .i64 0
      | 8 => ∃ a c, v = .slice a 1 c ∧ Sl Sn.enc 3 w' (.slice a 1 c) [⟨3, 7, false⟩]
      | _ => True) (by kernel_rfl) (by kernel_rfl) ?_ ?_ ?_
    · intro i w1 w2 v h n
      match i, h with
      | 0, h => exact h
      | 1, h => exact h
      | 2, h => exact h
      | 3, ⟨p, h1, h2⟩ => exact ⟨p, h1, h2.keep n⟩
      | 4, ⟨a, c, h1, h2⟩ => exact ⟨a, c, h1, h2.keep n⟩
      | 5, ⟨a, c, h1, h2⟩ => exact ⟨a, c, h1, h2.keep n⟩
      | 6, ⟨a, c, h1, h2⟩ => exact ⟨a, c, h1, h2.keep n⟩
      | 7, h => exact h
      | 8, ⟨a, c, h1, h2⟩ => exact ⟨a, c, h1, h2.keep n⟩
      | i + 9, _ => trivial
    · intro i o hi ho a' w' nn hr hd
      rcases (show i = 0 ∨ i = 1 ∨ i = 2 ∨ i = 3 ∨ i = 4 ∨ i = 5 ∨ i = 6 ∨ i = 7 ∨ i = 8 by omega) with rfl | rfl | rfl | rfl | rfl | rfl | rfl | rfl | rfl <;> obtain rfl := Option.some.inj ho
      · have r1 : (a'.tmps[1]?).getD undef = .pointer (some ⟨w.heap.size, 0, none⟩) := (eval_get a' 1).symm.trans (hr 1 (by kernel_rfl))
        obtain ⟨c0, c1, c2, c3, c4, c5, c6⟩ := cfg_cs ((HN2.out.trans nn).blk HB.out.2)
        exact yields_value (.agg (cfgA wkC)) (by unfold cfgA; go_simp) ⟨New.refl _, rfl⟩
      · exact yields_enter 19 #[.int .i64 1, .int .i64 3] (by go_simp) ((KF.out _).mono fun e w'' ⟨he, hn⟩ => ⟨_, he, hn, rfl⟩)
      · have r4 : (a'.tmps[4]?).getD undef = .pointer (some ⟨w1.heap.size, 0, none⟩) := (eval_get a' 4).symm.trans (hr 4 (by kernel_rfl))
        replace s0 := nn.keep s0
        replace s1 := nn.keep s1
        replace s2 := nn.keep s2
        replace s3 := nn.keep s3
        replace s4 := nn.keep s4
        replace s5 := nn.keep s5
        replace s6 := nn.keep s6
        replace s7 := nn.keep s7
        replace s8 := nn.keep s8
        replace s9 := nn.keep s9
        exact yields_value (.agg (triA wkS)) (by unfold triA wkS; go_simp) ⟨New.refl _, rfl⟩
      · have r22 : (a'.tmps[22]?).getD undef = .agg (triA (wkT 1 3)) := (eval_get a' 22).symm.trans (hd 1 22 (by omega) (by kernel_rfl) (by kernel_rfl))
        have r23 : (a'.tmps[23]?).getD undef = .agg (triA wkS) := (eval_get a' 23).symm.trans (hd 2 23 (by omega) (by kernel_rfl) (by kernel_rfl))
        unfold triA wkT at r22
        unfold triA wkS at r23
        exact yields_value (w' := w'.alloc (.cells (triA (wkT 1 3) ++ triA wkS) 43)) (.slice (some ⟨w'.heap.size, 0, none⟩) 2 2) (by unfold triA wkT wkS; go_simp) ⟨(New.refl _).alloc _, _, rfl, tris_new _ _ _ _ rfl⟩
      · have r21 : (a'.tmps[21]?).getD undef = .agg (cfgA wkC) := (eval_get a' 21).symm.trans (hd 0 21 (by omega) (by kernel_rfl) (by kernel_rfl))
        obtain ⟨p, e24, hrow⟩ := hd 3 24 (by omega) (by kernel_rfl) (by kernel_rfl)
        have r24 : (a'.tmps[24]?).getD undef = .slice (some ⟨p, 0, none⟩) 2 2 := (eval_get a' 24).symm.trans e24
        refine yields_enter 8 #[.agg (cfgA wkC), .slice (some ⟨p, 0, none⟩) 2 2, .int .i64 0, .int .i64 0] (by go_simp) ((KC2.out p w' (fun _ => ⟨p, 0, rfl, hrow⟩)).mono ?_)
        rintro e w'' ⟨v, rfl, hs, n⟩
        have hs' := hs
        obtain ⟨a, c, rfl, -⟩ := hs
        exact ⟨_, rfl, n, a, c, rfl, hs'⟩
      · obtain ⟨a, c, e12, hs⟩ := hd 4 25 (by omega) (by kernel_rfl) (by kernel_rfl)
        have r25 : (a'.tmps[25]?).getD undef = _ := (eval_get a' 25).symm.trans e12
        exact yields_value (.tuple #[.slice a 1 c, .int .i64 0]) (by go_simp) ⟨New.refl _, a, c, rfl, hs⟩
      · obtain ⟨a, c, e8, hs⟩ := hd 5 20 (by omega) (by kernel_rfl) (by kernel_rfl)
        have r20 : (a'.tmps[20]?).getD undef = _ := (eval_get a' 20).symm.trans e8
        exact yields_value (.slice a 1 c) (by go_simp) ⟨New.refl _, a, c, rfl, hs⟩
      · obtain ⟨a, c, e8, hs⟩ := hd 5 20 (by omega) (by kernel_rfl) (by kernel_rfl)
        have r20 : (a'.tmps[20]?).getD undef = _ := (eval_get a' 20).symm.trans e8
        exact yields_value (.int .i64 0) (by go_simp) ⟨New.refl _, rfl⟩
      · obtain ⟨a, c, e13, hs⟩ := hd 6 26 (by omega) (by kernel_rfl) (by kernel_rfl)
        have r26 : (a'.tmps[26]?).getD undef = _ := (eval_get a' 26).symm.trans e13
        exact yields_value (.slice a 1 c) (by go_simp) ⟨New.refl _, a, c, rfl, hs⟩
    · intro vs w3 nn hv
      obtain ⟨a2, c2, e8, hs2⟩ := hv 8 (by omega)
      have e7' := hv 7 (by omega)
      simp only [] at e7'
      clear hv
      simp only [List.take_succ_cons, List.take_zero, List.drop_succ_cons, List.drop_zero, putL, Act.put, List.setIfInBounds_toArray, List.set_cons_zero, List.set_cons_succ, Nat.reduceAdd, Nat.zero_add]
      rw [e7', e8]
      obtain ⟨p1, o1, rfl, hr1⟩ := (HA.out.keep nn).row'.2.2.2.2 (by simp)
      obtain ⟨p2, o2, rfl, hr2⟩ := hs2.row'.2.2.2.2 (by simp)
      obtain ⟨x0', x1', x2'⟩ := Sn.cells hr1 0 (by simp)
      obtain ⟨y0', y1', y2'⟩ := Sn.cells hr2 0 (by simp)
      simp only [List.getElem_cons_zero, Nat.zero_mul, Nat.add_zero] at x0' x1' x2' y0' y1' y2'
      have HN3 := Lib.hid (HB.out.1.trans (HN2.out.trans nn))
      clear nn hs2 hr1 hr2 s0 s1 s2 s3 s4 s5 s6 s7 s8 s9
      generalize vs 0 = z0
      generalize vs 1 = z1
      generalize vs 2 = z2
      generalize vs 3 = z3
      generalize vs 4 = z4
      generalize vs 5 = z5
      generalize vs 6 = z6
      go_wp2_with fail
      go_ret
      exact ⟨rfl, HN3.out⟩

end Go.Proofs.YtccikeagbillgaaGreat
