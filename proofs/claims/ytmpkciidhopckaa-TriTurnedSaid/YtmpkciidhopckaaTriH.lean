/- Package tri: Same. -/
import Derived.Test.YtmpkciidhopckaaTriA
import Derived.Test.YtmpkciidhopckaaSteady
import Derived.Deep.DeepCutAuto
import Derived.Deep.CutBlock
namespace Go.Proofs.Ytmpkciidhopckaa
open Go.RowKit
set_option linter.unusedVariables false

def vEq (x y z x' y' z' : Int) : Bool := x == x' && (y == y' && z == z')

theorem v_eql (w : World) (x y z x' y' z' : Int) : (binOp .eql 46 (.agg #[.int .i64 x, .int .i64 y, .int .i64 z]) (.agg #[.int .i64 x', .int .i64 y', .int .i64 z'])).run Try.prog w = .ok (.bool (vEq x y z x' y' z')) w := by
  unfold vEq
  cases h1 : (x == x') <;> cases h2 : (y == y') <;> cases h3 : (z == z') <;> (go_simp)

/-- One turn of the second triangle: a's first corner is e0, the other two are the rest. -/
def turnB (e0 e1 e2 f1 f2 : Bool) : Bool := e0 && (e1 && e2 || f1 && f2)
def sameB (i x0 y0 z0 x1 y1 z1 x2 y2 z2 j u0 v0 s0 u1 v1 s1 u2 v2 s2 : Int) : Bool := i == j &&
  (turnB (vEq x0 y0 z0 u0 v0 s0) (vEq x1 y1 z1 u1 v1 s1) (vEq x2 y2 z2 u2 v2 s2) (vEq x1 y1 z1 u2 v2 s2) (vEq x2 y2 z2 u1 v1 s1) ||
  (turnB (vEq x0 y0 z0 u1 v1 s1) (vEq x1 y1 z1 u2 v2 s2) (vEq x2 y2 z2 u0 v0 s0) (vEq x1 y1 z1 u0 v0 s0) (vEq x2 y2 z2 u2 v2 s2) ||
   turnB (vEq x0 y0 z0 u2 v2 s2) (vEq x1 y1 z1 u0 v0 s0) (vEq x2 y2 z2 u1 v1 s1) (vEq x1 y1 z1 u1 v1 s1) (vEq x2 y2 z2 u0 v0 s0)))

set_option maxHeartbeats 4000000 in
set_option maxRecDepth 100000 in
theorem t_same (i x0 y0 z0 x1 y1 z1 x2 y2 z2 j u0 v0 s0 u1 v1 s1 u2 v2 s2 : Int) (w : World) :
    Calls Try.prog 33 #[.agg #[.int .i64 i, .int .i64 x0, .int .i64 y0, .int .i64 z0, .int .i64 x1, .int .i64 y1, .int .i64 z1, .int .i64 x2, .int .i64 y2, .int .i64 z2], .agg #[.int .i64 j, .int .i64 u0, .int .i64 v0, .int .i64 s0, .int .i64 u1, .int .i64 v1, .int .i64 s1, .int .i64 u2, .int .i64 v2, .int .i64 s2]] w fun e w' => e = .returned (.bool (sameB i x0 y0 z0 x1 y1 z1 x2 y2 z2 j u0 v0 s0 u1 v1 s1 u2 v2 s2)) ∧ New w w' := by
  obtain ⟨v, hv⟩ : ∃ v, v = sameB i x0 y0 z0 x1 y1 z1 x2 y2 z2 j u0 v0 s0 u1 v1 s1 u2 v2 s2 := ⟨_, rfl⟩
  rw [← hv]
  unfold sameB at hv
  have E00 := fun W => v_eql W x0 y0 z0 u0 v0 s0
  have E01 := fun W => v_eql W x0 y0 z0 u1 v1 s1
  have E02 := fun W => v_eql W x0 y0 z0 u2 v2 s2
  have E10 := fun W => v_eql W x1 y1 z1 u0 v0 s0
  have E11 := fun W => v_eql W x1 y1 z1 u1 v1 s1
  have E12 := fun W => v_eql W x1 y1 z1 u2 v2 s2
  have E20 := fun W => v_eql W x2 y2 z2 u0 v0 s0
  have E21 := fun W => v_eql W x2 y2 z2 u1 v1 s1
  have E22 := fun W => v_eql W x2 y2 z2 u2 v2 s2
  generalize vEq x0 y0 z0 u0 v0 s0 = e00 at *
  generalize vEq x0 y0 z0 u1 v1 s1 = e01 at *
  generalize vEq x0 y0 z0 u2 v2 s2 = e02 at *
  generalize vEq x1 y1 z1 u0 v0 s0 = e10 at *
  generalize vEq x1 y1 z1 u1 v1 s1 = e11 at *
  generalize vEq x1 y1 z1 u2 v2 s2 = e12 at *
  generalize vEq x2 y2 z2 u0 v0 s0 = e20 at *
  generalize vEq x2 y2 z2 u1 v1 s1 = e21 at *
  generalize vEq x2 y2 z2 u2 v2 s2 = e22 at *
  cases hij : (i == j)
  · have HV : Hid (v = false) := by show v = false; rw [hv, hij]; rfl
    have hij' : (i != j) = true := by rw [bne, hij]; rfl
    clear hv hij
    go_enter Try.func33, Try.ntmps33
    go_wp2_with fail
    go_ret
    rw [HV.out]
    exact ⟨rfl, by (repeat (first | (with_reducible exact New.refl _) | (with_reducible assumption) | ((with_reducible refine New.setB ?_ ?_ _); focus (first | omega | (simp; omega) | (simp; done))) | (with_reducible refine New.alloc ?_ _) | (with_reducible refine New.drew ?_) | (with_reducible refine New.drewN ?_ _) | (with_reducible refine New.hat ?_ _) | ((with_reducible apply New.snart); (with_reducible assumption))))⟩
  rw [hij, Bool.true_and] at hv
  have hij' : (i != j) = false := by rw [bne, hij]; rfl
  obtain ⟨r0, hr0⟩ : ∃ r, r = (e11 && e22 || e12 && e21) := ⟨_, rfl⟩
  obtain ⟨t0, ht0⟩ : ∃ r, r = (e00 && r0) := ⟨_, rfl⟩
  obtain ⟨r1, hr1⟩ : ∃ r, r = (e12 && e20 || e10 && e22) := ⟨_, rfl⟩
  obtain ⟨t1, ht1⟩ : ∃ r, r = (e01 && r1) := ⟨_, rfl⟩
  obtain ⟨r2, hr2⟩ : ∃ r, r = (e10 && e21 || e11 && e20) := ⟨_, rfl⟩
  obtain ⟨t2, ht2⟩ : ∃ r, r = (e02 && r2) := ⟨_, rfl⟩
  have HV : Hid (v = (t0 || (t1 || t2))) := by show v = _; rw [hv, ht0, ht1, ht2, hr0, hr1, hr2]; rfl
  have R0 : Hid _ := hr0
  have U0 : Hid _ := ht0
  have R1 : Hid _ := hr1
  have U1 : Hid _ := ht1
  have R2 : Hid _ := hr2
  have U2 : Hid _ := ht2
  clear hv hr0 hr1 hr2 ht0 ht1 ht2 hij
  go_enter Try.func33, Try.ntmps33
  go_wp2_with fail
  generalize hW : World.alloc _ _ = W
  (have c0 : (W).cell? ⟨w.heap.size, 0, none⟩ = some (.int .i64 i) := (by subst hW; go_simp)); (have c1 : (W).cell? ⟨w.heap.size, 1, none⟩ = some (.int .i64 x0) := (by subst hW; go_simp)); (have c2 : (W).cell? ⟨w.heap.size, 2, none⟩ = some (.int .i64 y0) := (by subst hW; go_simp)); (have c3 : (W).cell? ⟨w.heap.size, 3, none⟩ = some (.int .i64 z0) := (by subst hW; go_simp)); (have c4 : (W).cell? ⟨w.heap.size, 4, none⟩ = some (.int .i64 x1) := (by subst hW; go_simp)); (have c5 : (W).cell? ⟨w.heap.size, 5, none⟩ = some (.int .i64 y1) := (by subst hW; go_simp)); (have c6 : (W).cell? ⟨w.heap.size, 6, none⟩ = some (.int .i64 z1) := (by subst hW; go_simp)); (have c7 : (W).cell? ⟨w.heap.size, 7, none⟩ = some (.int .i64 x2) := (by subst hW; go_simp)); (have c8 : (W).cell? ⟨w.heap.size, 8, none⟩ = some (.int .i64 y2) := (by subst hW; go_simp)); (have c9 : (W).cell? ⟨w.heap.size, 9, none⟩ = some (.int .i64 z2) := (by subst hW; go_simp))
  have d0 : W.cell? ⟨w.heap.size + 1, 0, none⟩ = some (.int .i64 j) := by subst hW; go_simp
  have d1 : W.cell? ⟨w.heap.size + 1, 1, none⟩ = some (.int .i64 u0) := by subst hW; go_simp
  have d2 : W.cell? ⟨w.heap.size + 1, 2, none⟩ = some (.int .i64 v0) := by subst hW; go_simp
  have d3 : W.cell? ⟨w.heap.size + 1, 3, none⟩ = some (.int .i64 s0) := by subst hW; go_simp
  have d4 : W.cell? ⟨w.heap.size + 1, 4, none⟩ = some (.int .i64 u1) := by subst hW; go_simp
  have d5 : W.cell? ⟨w.heap.size + 1, 5, none⟩ = some (.int .i64 v1) := by subst hW; go_simp
  have d6 : W.cell? ⟨w.heap.size + 1, 6, none⟩ = some (.int .i64 s1) := by subst hW; go_simp
  have d7 : W.cell? ⟨w.heap.size + 1, 7, none⟩ = some (.int .i64 u2) := by subst hW; go_simp
  have d8 : W.cell? ⟨w.heap.size + 1, 8, none⟩ = some (.int .i64 v2) := by subst hW; go_simp
  have d9 : W.cell? ⟨w.heap.size + 1, 9, none⟩ = some (.int .i64 s2) := by subst hW; go_simp
  have hn : New w W := by subst hW; (repeat (first | (with_reducible exact New.refl _) | (with_reducible assumption) | ((with_reducible refine New.setB ?_ ?_ _); focus (first | omega | (simp; omega) | (simp; done))) | (with_reducible refine New.alloc ?_ _) | (with_reducible refine New.drew ?_) | (with_reducible refine New.drewN ?_ _) | (with_reducible refine New.hat ?_ _) | ((with_reducible apply New.snart); (with_reducible assumption))))
  clear hW c0 d0
  refine wp_loop_rounds 4 ?_
  rw [rounds_succ]
  go_upto_region 7 with fail
  go_cut [8] (fun s8 Z => s8 = .bool r0 ∧ New W Z)
  case first =>
    cases e11
    · clear U0 U1 U2
      cases e12
      · have hr : r0 = false := by rw [R0.out]; simp
        clear R0
        subst hr
        go_quiet (fail)
        go_wp2_with fail
        go_meet
        exact ⟨rfl, by (repeat (first | (with_reducible exact New.refl _) | (with_reducible assumption) | ((with_reducible refine New.setB ?_ ?_ _); focus (first | omega | (simp; omega) | (simp; done))) | (with_reducible refine New.alloc ?_ _) | (with_reducible refine New.drew ?_) | (with_reducible refine New.drewN ?_ _) | (with_reducible refine New.hat ?_ _) | ((with_reducible apply New.snart); (with_reducible assumption))))⟩
      · cases e21
        · have hr : r0 = false := by rw [R0.out]; simp
          clear R0
          subst hr
          go_quiet (fail)
          go_wp2_with fail
          go_meet
          exact ⟨rfl, by (repeat (first | (with_reducible exact New.refl _) | (with_reducible assumption) | ((with_reducible refine New.setB ?_ ?_ _); focus (first | omega | (simp; omega) | (simp; done))) | (with_reducible refine New.alloc ?_ _) | (with_reducible refine New.drew ?_) | (with_reducible refine New.drewN ?_ _) | (with_reducible refine New.hat ?_ _) | ((with_reducible apply New.snart); (with_reducible assumption))))⟩
        · have hr : r0 = true := by rw [R0.out]; simp
          clear R0
          subst hr
          go_quiet (fail)
          go_wp2_with fail
          go_meet
          exact ⟨rfl, by (repeat (first | (with_reducible exact New.refl _) | (with_reducible assumption) | ((with_reducible refine New.setB ?_ ?_ _); focus (first | omega | (simp; omega) | (simp; done))) | (with_reducible refine New.alloc ?_ _) | (with_reducible refine New.drew ?_) | (with_reducible refine New.drewN ?_ _) | (with_reducible refine New.hat ?_ _) | ((with_reducible apply New.snart); (with_reducible assumption))))⟩
    · clear U0 U1 U2
      cases e22
      · skip
        cases e12
        · have hr : r0 = false := by rw [R0.out]; simp
          clear R0
          subst hr
          go_quiet (fail)
          go_wp2_with fail
          go_meet
          exact ⟨rfl, by (repeat (first | (with_reducible exact New.refl _) | (with_reducible assumption) | ((with_reducible refine New.setB ?_ ?_ _); focus (first | omega | (simp; omega) | (simp; done))) | (with_reducible refine New.alloc ?_ _) | (with_reducible refine New.drew ?_) | (with_reducible refine New.drewN ?_ _) | (with_reducible refine New.hat ?_ _) | ((with_reducible apply New.snart); (with_reducible assumption))))⟩
        · cases e21
          · have hr : r0 = false := by rw [R0.out]; simp
            clear R0
            subst hr
            go_quiet (fail)
            go_wp2_with fail
            go_meet
            exact ⟨rfl, by (repeat (first | (with_reducible exact New.refl _) | (with_reducible assumption) | ((with_reducible refine New.setB ?_ ?_ _); focus (first | omega | (simp; omega) | (simp; done))) | (with_reducible refine New.alloc ?_ _) | (with_reducible refine New.drew ?_) | (with_reducible refine New.drewN ?_ _) | (with_reducible refine New.hat ?_ _) | ((with_reducible apply New.snart); (with_reducible assumption))))⟩
          · have hr : r0 = true := by rw [R0.out]; simp
            clear R0
            subst hr
            go_quiet (fail)
            go_wp2_with fail
            go_meet
            exact ⟨rfl, by (repeat (first | (with_reducible exact New.refl _) | (with_reducible assumption) | ((with_reducible refine New.setB ?_ ?_ _); focus (first | omega | (simp; omega) | (simp; done))) | (with_reducible refine New.alloc ?_ _) | (with_reducible refine New.drew ?_) | (with_reducible refine New.drewN ?_ _) | (with_reducible refine New.hat ?_ _) | ((with_reducible apply New.snart); (with_reducible assumption))))⟩
      · have hr : r0 = true := by rw [R0.out]; simp
        clear R0
        subst hr
        go_quiet (fail)
        go_wp2_with fail
        go_meet
        exact ⟨rfl, by (repeat (first | (with_reducible exact New.refl _) | (with_reducible assumption) | ((with_reducible refine New.setB ?_ ?_ _); focus (first | omega | (simp; omega) | (simp; done))) | (with_reducible refine New.alloc ?_ _) | (with_reducible refine New.drew ?_) | (with_reducible refine New.drewN ?_ _) | (with_reducible refine New.hat ?_ _) | ((with_reducible apply New.snart); (with_reducible assumption))))⟩
  case rest =>
    obtain ⟨rfl, nZ⟩ := hcut
    ((replace c1 := New.keep nZ c1); (replace c2 := New.keep nZ c2); (replace c3 := New.keep nZ c3); (replace c4 := New.keep nZ c4); (replace c5 := New.keep nZ c5); (replace c6 := New.keep nZ c6); (replace c7 := New.keep nZ c7); (replace c8 := New.keep nZ c8); (replace c9 := New.keep nZ c9); (replace d1 := New.keep nZ d1); (replace d2 := New.keep nZ d2); (replace d3 := New.keep nZ d3); (replace d4 := New.keep nZ d4); (replace d5 := New.keep nZ d5); (replace d6 := New.keep nZ d6); (replace d7 := New.keep nZ d7); (replace d8 := New.keep nZ d8); (replace d9 := New.keep nZ d9))
    replace hn := hn.trans nZ
    clear nZ R0
    rename World => W0a
    go_upto_region 8 with fail
    go_cut [71] (fun s8 Z => s8 = .bool t0 ∧ New W0a Z)
    case first =>
      cases e00
      · have hr : t0 = false := by rw [U0.out]; simp
        clear U0 U1 U2
        subst hr
        go_quiet (fail)
        go_wp2_with fail
        go_meet
        exact ⟨rfl, by (repeat (first | (with_reducible exact New.refl _) | (with_reducible assumption) | ((with_reducible refine New.setB ?_ ?_ _); focus (first | omega | (simp; omega) | (simp; done))) | (with_reducible refine New.alloc ?_ _) | (with_reducible refine New.drew ?_) | (with_reducible refine New.drewN ?_ _) | (with_reducible refine New.hat ?_ _) | ((with_reducible apply New.snart); (with_reducible assumption))))⟩
      · have hr : t0 = r0 := by rw [U0.out]; simp
        clear U0 U1 U2
        subst hr
        go_quiet (fail)
        go_wp2_with fail
        go_meet
        exact ⟨rfl, by (repeat (first | (with_reducible exact New.refl _) | (with_reducible assumption) | ((with_reducible refine New.setB ?_ ?_ _); focus (first | omega | (simp; omega) | (simp; done))) | (with_reducible refine New.alloc ?_ _) | (with_reducible refine New.drew ?_) | (with_reducible refine New.drewN ?_ _) | (with_reducible refine New.hat ?_ _) | ((with_reducible apply New.snart); (with_reducible assumption))))⟩
    case rest =>
      obtain ⟨rfl, nZ⟩ := hcut
      ((replace c1 := New.keep nZ c1); (replace c2 := New.keep nZ c2); (replace c3 := New.keep nZ c3); (replace c4 := New.keep nZ c4); (replace c5 := New.keep nZ c5); (replace c6 := New.keep nZ c6); (replace c7 := New.keep nZ c7); (replace c8 := New.keep nZ c8); (replace c9 := New.keep nZ c9); (replace d1 := New.keep nZ d1); (replace d2 := New.keep nZ d2); (replace d3 := New.keep nZ d3); (replace d4 := New.keep nZ d4); (replace d5 := New.keep nZ d5); (replace d6 := New.keep nZ d6); (replace d7 := New.keep nZ d7); (replace d8 := New.keep nZ d8); (replace d9 := New.keep nZ d9))
      replace hn := hn.trans nZ
      clear nZ U0
      rename World => W0b
      cases t0
      rotate_left
      · have hr : Hid (v = true) := by show v = true; rw [HV.out]; simp
        clear HV
        go_wp2_with fail
        go_ret
        rw [hr.out]
        exact ⟨rfl, hn⟩
      go_wp2_with fail
      rw [rounds_succ]
      go_upto_region 7 with fail
      go_cut [8] (fun s8 Z => s8 = .bool r1 ∧ New W0b Z)
      case first =>
        cases e12
        · clear U1 U2
          cases e10
          · have hr : r1 = false := by rw [R1.out]; simp
            clear R1
            subst hr
            go_quiet (fail)
            go_wp2_with fail
            go_meet
            exact ⟨rfl, by (repeat (first | (with_reducible exact New.refl _) | (with_reducible assumption) | ((with_reducible refine New.setB ?_ ?_ _); focus (first | omega | (simp; omega) | (simp; done))) | (with_reducible refine New.alloc ?_ _) | (with_reducible refine New.drew ?_) | (with_reducible refine New.drewN ?_ _) | (with_reducible refine New.hat ?_ _) | ((with_reducible apply New.snart); (with_reducible assumption))))⟩
          · cases e22
            · have hr : r1 = false := by rw [R1.out]; simp
              clear R1
              subst hr
              go_quiet (fail)
              go_wp2_with fail
              go_meet
              exact ⟨rfl, by (repeat (first | (with_reducible exact New.refl _) | (with_reducible assumption) | ((with_reducible refine New.setB ?_ ?_ _); focus (first | omega | (simp; omega) | (simp; done))) | (with_reducible refine New.alloc ?_ _) | (with_reducible refine New.drew ?_) | (with_reducible refine New.drewN ?_ _) | (with_reducible refine New.hat ?_ _) | ((with_reducible apply New.snart); (with_reducible assumption))))⟩
            · have hr : r1 = true := by rw [R1.out]; simp
              clear R1
              subst hr
              go_quiet (fail)
              go_wp2_with fail
              go_meet
              exact ⟨rfl, by (repeat (first | (with_reducible exact New.refl _) | (with_reducible assumption) | ((with_reducible refine New.setB ?_ ?_ _); focus (first | omega | (simp; omega) | (simp; done))) | (with_reducible refine New.alloc ?_ _) | (with_reducible refine New.drew ?_) | (with_reducible refine New.drewN ?_ _) | (with_reducible refine New.hat ?_ _) | ((with_reducible apply New.snart); (with_reducible assumption))))⟩
        · clear U1 U2
          cases e20
          · skip
            cases e10
            · have hr : r1 = false := by rw [R1.out]; simp
              clear R1
              subst hr
              go_quiet (fail)
              go_wp2_with fail
              go_meet
              exact ⟨rfl, by (repeat (first | (with_reducible exact New.refl _) | (with_reducible assumption) | ((with_reducible refine New.setB ?_ ?_ _); focus (first | omega | (simp; omega) | (simp; done))) | (with_reducible refine New.alloc ?_ _) | (with_reducible refine New.drew ?_) | (with_reducible refine New.drewN ?_ _) | (with_reducible refine New.hat ?_ _) | ((with_reducible apply New.snart); (with_reducible assumption))))⟩
            · cases e22
              · have hr : r1 = false := by rw [R1.out]; simp
                clear R1
                subst hr
                go_quiet (fail)
                go_wp2_with fail
                go_meet
                exact ⟨rfl, by (repeat (first | (with_reducible exact New.refl _) | (with_reducible assumption) | ((with_reducible refine New.setB ?_ ?_ _); focus (first | omega | (simp; omega) | (simp; done))) | (with_reducible refine New.alloc ?_ _) | (with_reducible refine New.drew ?_) | (with_reducible refine New.drewN ?_ _) | (with_reducible refine New.hat ?_ _) | ((with_reducible apply New.snart); (with_reducible assumption))))⟩
              · have hr : r1 = true := by rw [R1.out]; simp
                clear R1
                subst hr
                go_quiet (fail)
                go_wp2_with fail
                go_meet
                exact ⟨rfl, by (repeat (first | (with_reducible exact New.refl _) | (with_reducible assumption) | ((with_reducible refine New.setB ?_ ?_ _); focus (first | omega | (simp; omega) | (simp; done))) | (with_reducible refine New.alloc ?_ _) | (with_reducible refine New.drew ?_) | (with_reducible refine New.drewN ?_ _) | (with_reducible refine New.hat ?_ _) | ((with_reducible apply New.snart); (with_reducible assumption))))⟩
          · have hr : r1 = true := by rw [R1.out]; simp
            clear R1
            subst hr
            go_quiet (fail)
            go_wp2_with fail
            go_meet
            exact ⟨rfl, by (repeat (first | (with_reducible exact New.refl _) | (with_reducible assumption) | ((with_reducible refine New.setB ?_ ?_ _); focus (first | omega | (simp; omega) | (simp; done))) | (with_reducible refine New.alloc ?_ _) | (with_reducible refine New.drew ?_) | (with_reducible refine New.drewN ?_ _) | (with_reducible refine New.hat ?_ _) | ((with_reducible apply New.snart); (with_reducible assumption))))⟩
      case rest =>
        obtain ⟨rfl, nZ⟩ := hcut
        ((replace c1 := New.keep nZ c1); (replace c2 := New.keep nZ c2); (replace c3 := New.keep nZ c3); (replace c4 := New.keep nZ c4); (replace c5 := New.keep nZ c5); (replace c6 := New.keep nZ c6); (replace c7 := New.keep nZ c7); (replace c8 := New.keep nZ c8); (replace c9 := New.keep nZ c9); (replace d1 := New.keep nZ d1); (replace d2 := New.keep nZ d2); (replace d3 := New.keep nZ d3); (replace d4 := New.keep nZ d4); (replace d5 := New.keep nZ d5); (replace d6 := New.keep nZ d6); (replace d7 := New.keep nZ d7); (replace d8 := New.keep nZ d8); (replace d9 := New.keep nZ d9))
        replace hn := hn.trans nZ
        clear nZ R1
        rename World => W1a
        go_upto_region 8 with fail
        go_cut [71] (fun s8 Z => s8 = .bool t1 ∧ New W1a Z)
        case first =>
          cases e01
          · have hr : t1 = false := by rw [U1.out]; simp
            clear U1 U2
            subst hr
            go_quiet (fail)
            go_wp2_with fail
            go_meet
            exact ⟨rfl, by (repeat (first | (with_reducible exact New.refl _) | (with_reducible assumption) | ((with_reducible refine New.setB ?_ ?_ _); focus (first | omega | (simp; omega) | (simp; done))) | (with_reducible refine New.alloc ?_ _) | (with_reducible refine New.drew ?_) | (with_reducible refine New.drewN ?_ _) | (with_reducible refine New.hat ?_ _) | ((with_reducible apply New.snart); (with_reducible assumption))))⟩
          · have hr : t1 = r1 := by rw [U1.out]; simp
            clear U1 U2
            subst hr
            go_quiet (fail)
            go_wp2_with fail
            go_meet
            exact ⟨rfl, by (repeat (first | (with_reducible exact New.refl _) | (with_reducible assumption) | ((with_reducible refine New.setB ?_ ?_ _); focus (first | omega | (simp; omega) | (simp; done))) | (with_reducible refine New.alloc ?_ _) | (with_reducible refine New.drew ?_) | (with_reducible refine New.drewN ?_ _) | (with_reducible refine New.hat ?_ _) | ((with_reducible apply New.snart); (with_reducible assumption))))⟩
        case rest =>
          obtain ⟨rfl, nZ⟩ := hcut
          ((replace c1 := New.keep nZ c1); (replace c2 := New.keep nZ c2); (replace c3 := New.keep nZ c3); (replace c4 := New.keep nZ c4); (replace c5 := New.keep nZ c5); (replace c6 := New.keep nZ c6); (replace c7 := New.keep nZ c7); (replace c8 := New.keep nZ c8); (replace c9 := New.keep nZ c9); (replace d1 := New.keep nZ d1); (replace d2 := New.keep nZ d2); (replace d3 := New.keep nZ d3); (replace d4 := New.keep nZ d4); (replace d5 := New.keep nZ d5); (replace d6 := New.keep nZ d6); (replace d7 := New.keep nZ d7); (replace d8 := New.keep nZ d8); (replace d9 := New.keep nZ d9))
          replace hn := hn.trans nZ
          clear nZ U1
          rename World => W1b
          cases t1
          rotate_left
          · have hr : Hid (v = true) := by show v = true; rw [HV.out]; simp
            clear HV
            go_wp2_with fail
            go_ret
            rw [hr.out]
            exact ⟨rfl, hn⟩
          go_wp2_with fail
          rw [rounds_succ]
          go_upto_region 7 with fail
          go_cut [8] (fun s8 Z => s8 = .bool r2 ∧ New W1b Z)
          case first =>
            cases e10
            · clear U2
              cases e11
              · have hr : r2 = false := by rw [R2.out]; simp
                clear R2
                subst hr
                go_quiet (fail)
                go_wp2_with fail
                go_meet
                exact ⟨rfl, by (repeat (first | (with_reducible exact New.refl _) | (with_reducible assumption) | ((with_reducible refine New.setB ?_ ?_ _); focus (first | omega | (simp; omega) | (simp; done))) | (with_reducible refine New.alloc ?_ _) | (with_reducible refine New.drew ?_) | (with_reducible refine New.drewN ?_ _) | (with_reducible refine New.hat ?_ _) | ((with_reducible apply New.snart); (with_reducible assumption))))⟩
              · cases e20
                · have hr : r2 = false := by rw [R2.out]; simp
                  clear R2
                  subst hr
                  go_quiet (fail)
                  go_wp2_with fail
                  go_meet
                  exact ⟨rfl, by (repeat (first | (with_reducible exact New.refl _) | (with_reducible assumption) | ((with_reducible refine New.setB ?_ ?_ _); focus (first | omega | (simp; omega) | (simp; done))) | (with_reducible refine New.alloc ?_ _) | (with_reducible refine New.drew ?_) | (with_reducible refine New.drewN ?_ _) | (with_reducible refine New.hat ?_ _) | ((with_reducible apply New.snart); (with_reducible assumption))))⟩
                · have hr : r2 = true := by rw [R2.out]; simp
                  clear R2
                  subst hr
                  go_quiet (fail)
                  go_wp2_with fail
                  go_meet
                  exact ⟨rfl, by (repeat (first | (with_reducible exact New.refl _) | (with_reducible assumption) | ((with_reducible refine New.setB ?_ ?_ _); focus (first | omega | (simp; omega) | (simp; done))) | (with_reducible refine New.alloc ?_ _) | (with_reducible refine New.drew ?_) | (with_reducible refine New.drewN ?_ _) | (with_reducible refine New.hat ?_ _) | ((with_reducible apply New.snart); (with_reducible assumption))))⟩
            · clear U2
              cases e21
              · skip
                cases e11
                · have hr : r2 = false := by rw [R2.out]; simp
                  clear R2
                  subst hr
                  go_quiet (fail)
                  go_wp2_with fail
                  go_meet
                  exact ⟨rfl, by (repeat (first | (with_reducible exact New.refl _) | (with_reducible assumption) | ((with_reducible refine New.setB ?_ ?_ _); focus (first | omega | (simp; omega) | (simp; done))) | (with_reducible refine New.alloc ?_ _) | (with_reducible refine New.drew ?_) | (with_reducible refine New.drewN ?_ _) | (with_reducible refine New.hat ?_ _) | ((with_reducible apply New.snart); (with_reducible assumption))))⟩
                · cases e20
                  · have hr : r2 = false := by rw [R2.out]; simp
                    clear R2
                    subst hr
                    go_quiet (fail)
                    go_wp2_with fail
                    go_meet
                    exact ⟨rfl, by (repeat (first | (with_reducible exact New.refl _) | (with_reducible assumption) | ((with_reducible refine New.setB ?_ ?_ _); focus (first | omega | (simp; omega) | (simp; done))) | (with_reducible refine New.alloc ?_ _) | (with_reducible refine New.drew ?_) | (with_reducible refine New.drewN ?_ _) | (with_reducible refine New.hat ?_ _) | ((with_reducible apply New.snart); (with_reducible assumption))))⟩
                  · have hr : r2 = true := by rw [R2.out]; simp
                    clear R2
                    subst hr
                    go_quiet (fail)
                    go_wp2_with fail
                    go_meet
                    exact ⟨rfl, by (repeat (first | (with_reducible exact New.refl _) | (with_reducible assumption) | ((with_reducible refine New.setB ?_ ?_ _); focus (first | omega | (simp; omega) | (simp; done))) | (with_reducible refine New.alloc ?_ _) | (with_reducible refine New.drew ?_) | (with_reducible refine New.drewN ?_ _) | (with_reducible refine New.hat ?_ _) | ((with_reducible apply New.snart); (with_reducible assumption))))⟩
              · have hr : r2 = true := by rw [R2.out]; simp
                clear R2
                subst hr
                go_quiet (fail)
                go_wp2_with fail
                go_meet
                exact ⟨rfl, by (repeat (first | (with_reducible exact New.refl _) | (with_reducible assumption) | ((with_reducible refine New.setB ?_ ?_ _); focus (first | omega | (simp; omega) | (simp; done))) | (with_reducible refine New.alloc ?_ _) | (with_reducible refine New.drew ?_) | (with_reducible refine New.drewN ?_ _) | (with_reducible refine New.hat ?_ _) | ((with_reducible apply New.snart); (with_reducible assumption))))⟩
          case rest =>
            obtain ⟨rfl, nZ⟩ := hcut
            ((replace c1 := New.keep nZ c1); (replace c2 := New.keep nZ c2); (replace c3 := New.keep nZ c3); (replace c4 := New.keep nZ c4); (replace c5 := New.keep nZ c5); (replace c6 := New.keep nZ c6); (replace c7 := New.keep nZ c7); (replace c8 := New.keep nZ c8); (replace c9 := New.keep nZ c9); (replace d1 := New.keep nZ d1); (replace d2 := New.keep nZ d2); (replace d3 := New.keep nZ d3); (replace d4 := New.keep nZ d4); (replace d5 := New.keep nZ d5); (replace d6 := New.keep nZ d6); (replace d7 := New.keep nZ d7); (replace d8 := New.keep nZ d8); (replace d9 := New.keep nZ d9))
            replace hn := hn.trans nZ
            clear nZ R2
            rename World => W2a
            go_upto_region 8 with fail
            go_cut [71] (fun s8 Z => s8 = .bool t2 ∧ New W2a Z)
            case first =>
              cases e02
              · have hr : t2 = false := by rw [U2.out]; simp
                clear U2
                subst hr
                go_quiet (fail)
                go_wp2_with fail
                go_meet
                exact ⟨rfl, by (repeat (first | (with_reducible exact New.refl _) | (with_reducible assumption) | ((with_reducible refine New.setB ?_ ?_ _); focus (first | omega | (simp; omega) | (simp; done))) | (with_reducible refine New.alloc ?_ _) | (with_reducible refine New.drew ?_) | (with_reducible refine New.drewN ?_ _) | (with_reducible refine New.hat ?_ _) | ((with_reducible apply New.snart); (with_reducible assumption))))⟩
              · have hr : t2 = r2 := by rw [U2.out]; simp
                clear U2
                subst hr
                go_quiet (fail)
                go_wp2_with fail
                go_meet
                exact ⟨rfl, by (repeat (first | (with_reducible exact New.refl _) | (with_reducible assumption) | ((with_reducible refine New.setB ?_ ?_ _); focus (first | omega | (simp; omega) | (simp; done))) | (with_reducible refine New.alloc ?_ _) | (with_reducible refine New.drew ?_) | (with_reducible refine New.drewN ?_ _) | (with_reducible refine New.hat ?_ _) | ((with_reducible apply New.snart); (with_reducible assumption))))⟩
            case rest =>
              obtain ⟨rfl, nZ⟩ := hcut
              ((replace c1 := New.keep nZ c1); (replace c2 := New.keep nZ c2); (replace c3 := New.keep nZ c3); (replace c4 := New.keep nZ c4); (replace c5 := New.keep nZ c5); (replace c6 := New.keep nZ c6); (replace c7 := New.keep nZ c7); (replace c8 := New.keep nZ c8); (replace c9 := New.keep nZ c9); (replace d1 := New.keep nZ d1); (replace d2 := New.keep nZ d2); (replace d3 := New.keep nZ d3); (replace d4 := New.keep nZ d4); (replace d5 := New.keep nZ d5); (replace d6 := New.keep nZ d6); (replace d7 := New.keep nZ d7); (replace d8 := New.keep nZ d8); (replace d9 := New.keep nZ d9))
              replace hn := hn.trans nZ
              clear nZ U2
              rename World => W2b
              cases t2
              rotate_left
              · have hr : Hid (v = true) := by show v = true; rw [HV.out]; simp
                clear HV
                go_wp2_with fail
                go_ret
                rw [hr.out]
                exact ⟨rfl, hn⟩
              go_wp2_with fail
              rw [rounds_succ]
              have hr : Hid (v = false) := by show v = false; rw [HV.out]; simp
              clear HV
              go_wp2_with fail
              go_ret
              rw [hr.out]
              exact ⟨rfl, hn⟩

end Go.Proofs.Ytmpkciidhopckaa
