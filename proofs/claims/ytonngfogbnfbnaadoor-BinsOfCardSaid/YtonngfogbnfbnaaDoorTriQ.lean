/- The document's Normal of a triangle. -/
import Derived.Test.YtonngfogbnfbnaaDoorTriB
import Derived.Test.YtonngfogbnfbnaaDoorHatS
namespace Go.Proofs.YtonngfogbnfbnaaDoor
open Go.RowKit
set_option linter.unusedVariables false

def badB (x y z : Int) : Bool := decide (x < 0) || (decide (32 < x) || (decide (z < 0) || (decide (32 < z) || (decide (y < -2048) || decide (2048 < y)))))
theorem badB_iff {x y z : Int} : badB x y z = false ↔ StV 32 32 x y z := by
  unfold badB StV
  simp only [Bool.or_eq_false_iff, decide_eq_false_iff_not]
  omega
theorem bad_st (x0 y0 z0 x1 y1 z1 x2 y2 z2 : Int) : stB 32 32 x0 y0 z0 x1 y1 z1 x2 y2 z2 = (!badB x0 y0 z0 && (!badB x1 y1 z1 && !badB x2 y2 z2)) := by
  rw [Bool.eq_iff_iff, stB_iff]
  unfold StP
  simp only [Bool.and_eq_true, Bool.not_eq_true', badB_iff]

set_option maxHeartbeats 4000000 in
set_option maxRecDepth 100000 in
theorem r_normal (i x0 y0 z0 x1 y1 z1 x2 y2 z2 : Int) (w : World) :
    Calls Tryd.prog 42 #[.agg #[.int .i64 i, .int .i64 x0, .int .i64 y0, .int .i64 z0, .int .i64 x1, .int .i64 y1, .int .i64 z1, .int .i64 x2, .int .i64 y2, .int .i64 z2]] w fun e w' => e = .returned (.tuple #[.int .i64 (normX x0 y0 z0 x1 y1 z1 x2 y2 z2), .int .i64 (normY x0 y0 z0 x1 y1 z1 x2 y2 z2), .int .i64 (normZ x0 y0 z0 x1 y1 z1 x2 y2 z2), .int .i64 (normE x0 y0 z0 x1 y1 z1 x2 y2 z2)]) ∧ New w w' := by
  obtain ⟨X, hX⟩ : ∃ X, X = normX x0 y0 z0 x1 y1 z1 x2 y2 z2 := ⟨_, rfl⟩
  obtain ⟨Y, hY⟩ : ∃ X, X = normY x0 y0 z0 x1 y1 z1 x2 y2 z2 := ⟨_, rfl⟩
  obtain ⟨Z, hZ⟩ : ∃ X, X = normZ x0 y0 z0 x1 y1 z1 x2 y2 z2 := ⟨_, rfl⟩
  obtain ⟨E, hE⟩ : ∃ X, X = normE x0 y0 z0 x1 y1 z1 x2 y2 z2 := ⟨_, rfl⟩
  rw [← hX, ← hY, ← hZ, ← hE]
  obtain ⟨k0, hk0⟩ : ∃ b, b = badB x0 y0 z0 := ⟨_, rfl⟩
  obtain ⟨k1, hk1⟩ : ∃ b, b = badB x1 y1 z1 := ⟨_, rfl⟩
  obtain ⟨k2, hk2⟩ : ∃ b, b = badB x2 y2 z2 := ⟨_, rfl⟩
  have hst : stB 32 32 x0 y0 z0 x1 y1 z1 x2 y2 z2 = (!k0 && (!k1 && !k2)) := by rw [bad_st, hk0, hk1, hk2]
  have HB : Hid ((k0 || (k1 || k2)) = true → X = 0 ∧ Y = 0 ∧ Z = 0 ∧ E = 40) := by
    show _ → _
    intro h
    have : okB x0 y0 z0 x1 y1 z1 x2 y2 z2 = false := by
      unfold okB; rw [hst]; revert h; cases k0 <;> cases k1 <;> cases k2 <;> simp
    rw [hX, hY, hZ, hE]
    exact norm_no this
  have HG : Hid (k0 = false → k1 = false → k2 = false → StP 32 32 x0 y0 z0 x1 y1 z1 x2 y2 z2 ∧ (nyI x0 y0 z0 x1 y1 z1 x2 y2 z2 = 0 → X = 0 ∧ Y = 0 ∧ Z = 0 ∧ E = 40) ∧
      (¬ nyI x0 y0 z0 x1 y1 z1 x2 y2 z2 = 0 → X = nxI x0 y0 z0 x1 y1 z1 x2 y2 z2 ∧ Y = nyI x0 y0 z0 x1 y1 z1 x2 y2 z2 ∧ Z = nzI x0 y0 z0 x1 y1 z1 x2 y2 z2 ∧ E = 0)) := by
    show _ → _
    intro h0 h1 h2
    have hs : stB 32 32 x0 y0 z0 x1 y1 z1 x2 y2 z2 = true := by rw [hst, h0, h1, h2]; rfl
    refine ⟨stB_iff.1 hs, fun hy => ?_, fun hy => ?_⟩
    · rw [hX, hY, hZ, hE]
      exact norm_no (by unfold okB; rw [hs]; simp [hy])
    · rw [hX, hY, hZ, hE]
      exact norm_yes (by unfold okB; rw [hs]; simp [hy])
  have K0 : Hid _ := hk0
  have K1 : Hid _ := hk1
  have K2 : Hid _ := hk2
  clear hX hY hZ hE hk0 hk1 hk2 hst
  go_enter Tryd.func42, Tryd.ntmps42
  go_wp2_with fail
  generalize hW : World.alloc _ _ = W0
  (have c0 : (W0).cell? ⟨w.heap.size, 0, none⟩ = some (.int .i64 i) := (by subst hW; go_simp)); (have c1 : (W0).cell? ⟨w.heap.size, 1, none⟩ = some (.int .i64 x0) := (by subst hW; go_simp)); (have c2 : (W0).cell? ⟨w.heap.size, 2, none⟩ = some (.int .i64 y0) := (by subst hW; go_simp)); (have c3 : (W0).cell? ⟨w.heap.size, 3, none⟩ = some (.int .i64 z0) := (by subst hW; go_simp)); (have c4 : (W0).cell? ⟨w.heap.size, 4, none⟩ = some (.int .i64 x1) := (by subst hW; go_simp)); (have c5 : (W0).cell? ⟨w.heap.size, 5, none⟩ = some (.int .i64 y1) := (by subst hW; go_simp)); (have c6 : (W0).cell? ⟨w.heap.size, 6, none⟩ = some (.int .i64 z1) := (by subst hW; go_simp)); (have c7 : (W0).cell? ⟨w.heap.size, 7, none⟩ = some (.int .i64 x2) := (by subst hW; go_simp)); (have c8 : (W0).cell? ⟨w.heap.size, 8, none⟩ = some (.int .i64 y2) := (by subst hW; go_simp)); (have c9 : (W0).cell? ⟨w.heap.size, 9, none⟩ = some (.int .i64 z2) := (by subst hW; go_simp))
  have hn : New w W0 := by subst hW; (repeat (first | (with_reducible exact New.refl _) | (with_reducible assumption) | ((with_reducible refine New.setB ?_ ?_ _); focus (first | omega | (simp; omega) | (simp; done))) | (with_reducible refine New.alloc ?_ _) | (with_reducible refine New.drew ?_) | (with_reducible refine New.drewN ?_ _) | (with_reducible refine New.hat ?_ _) | ((with_reducible apply New.snart); (with_reducible assumption))))
  have zz := World.block_lt_of_cell? _ _ c1
  simp only [] at zz
  clear hW
  refine wp_loop_rounds 4 ?_
  rw [rounds_succ]
  go_upto_region 5 with fail
  go_cut [55] (fun s55 Z => s55 = .bool k0 ∧ New W0 Z)
  case first =>
    clear HB HG
    go_wp2_with fail
    all_goals
      go_meet
      refine ⟨?_, by (repeat (first | (with_reducible exact New.refl _) | (with_reducible assumption) | ((with_reducible refine New.setB ?_ ?_ _); focus (first | omega | (simp; omega) | (simp; done))) | (with_reducible refine New.alloc ?_ _) | (with_reducible refine New.drew ?_) | (with_reducible refine New.drewN ?_ _) | (with_reducible refine New.hat ?_ _) | ((with_reducible apply New.snart); (with_reducible assumption))))⟩
      rw [show k0 = _ from K0.out]
      refine congrArg Value.bool ?_
      unfold badB
      rw [Bool.eq_iff_iff]
      simp only [Bool.or_eq_true, decide_eq_true_eq, true_iff]
      omega
  case rest =>
    obtain ⟨rfl, nZ⟩ := hcut
    ((replace c0 := New.keep nZ c0); (replace c1 := New.keep nZ c1); (replace c2 := New.keep nZ c2); (replace c3 := New.keep nZ c3); (replace c4 := New.keep nZ c4); (replace c5 := New.keep nZ c5); (replace c6 := New.keep nZ c6); (replace c7 := New.keep nZ c7); (replace c8 := New.keep nZ c8); (replace c9 := New.keep nZ c9))
    replace hn := hn.trans nZ
    clear nZ
    rename World => W1
    replace zz := World.block_lt_of_cell? _ _ c1
    simp only [] at zz
    cases k0
    rotate_left
    · have hb := HB.out (by simp)
      have hb' : Hid _ := hb
      clear hb HB HG K0 K1 K2
      go_wp2_with fail
      refine bodyPost_ret (v := .tuple #[.int .i64 0, .int .i64 0, .int .i64 0, .int .i64 40]) (by simp [results, Tryd.results42, go_sem]) rfl ?_
      rw [hb'.out.1, hb'.out.2.1, hb'.out.2.2.1, hb'.out.2.2.2]
      exact ⟨rfl, hn⟩
    go_wp2_with fail
    rw [rounds_succ]
    go_upto_region 5 with fail
    go_cut [55] (fun s55 Z => s55 = .bool k1 ∧ New W1 Z)
    case first =>
      clear HB HG
      go_wp2_with fail
      all_goals
        go_meet
        refine ⟨?_, by (repeat (first | (with_reducible exact New.refl _) | (with_reducible assumption) | ((with_reducible refine New.setB ?_ ?_ _); focus (first | omega | (simp; omega) | (simp; done))) | (with_reducible refine New.alloc ?_ _) | (with_reducible refine New.drew ?_) | (with_reducible refine New.drewN ?_ _) | (with_reducible refine New.hat ?_ _) | ((with_reducible apply New.snart); (with_reducible assumption))))⟩
        rw [show k1 = _ from K1.out]
        refine congrArg Value.bool ?_
        unfold badB
        rw [Bool.eq_iff_iff]
        simp only [Bool.or_eq_true, decide_eq_true_eq, true_iff]
        omega
    case rest =>
      obtain ⟨rfl, nZ⟩ := hcut
      ((replace c0 := New.keep nZ c0); (replace c1 := New.keep nZ c1); (replace c2 := New.keep nZ c2); (replace c3 := New.keep nZ c3); (replace c4 := New.keep nZ c4); (replace c5 := New.keep nZ c5); (replace c6 := New.keep nZ c6); (replace c7 := New.keep nZ c7); (replace c8 := New.keep nZ c8); (replace c9 := New.keep nZ c9))
      replace hn := hn.trans nZ
      clear nZ
      rename World => W2
      replace zz := World.block_lt_of_cell? _ _ c1
      simp only [] at zz
      cases k1
      rotate_left
      · have hb := HB.out (by simp)
        have hb' : Hid _ := hb
        clear hb HB HG K0 K1 K2
        go_wp2_with fail
        refine bodyPost_ret (v := .tuple #[.int .i64 0, .int .i64 0, .int .i64 0, .int .i64 40]) (by simp [results, Tryd.results42, go_sem]) rfl ?_
        rw [hb'.out.1, hb'.out.2.1, hb'.out.2.2.1, hb'.out.2.2.2]
        exact ⟨rfl, hn⟩
      go_wp2_with fail
      rw [rounds_succ]
      go_upto_region 5 with fail
      go_cut [55] (fun s55 Z => s55 = .bool k2 ∧ New W2 Z)
      case first =>
        clear HB HG
        go_wp2_with fail
        all_goals
          go_meet
          refine ⟨?_, by (repeat (first | (with_reducible exact New.refl _) | (with_reducible assumption) | ((with_reducible refine New.setB ?_ ?_ _); focus (first | omega | (simp; omega) | (simp; done))) | (with_reducible refine New.alloc ?_ _) | (with_reducible refine New.drew ?_) | (with_reducible refine New.drewN ?_ _) | (with_reducible refine New.hat ?_ _) | ((with_reducible apply New.snart); (with_reducible assumption))))⟩
          rw [show k2 = _ from K2.out]
          refine congrArg Value.bool ?_
          unfold badB
          rw [Bool.eq_iff_iff]
          simp only [Bool.or_eq_true, decide_eq_true_eq, true_iff]
          omega
      case rest =>
        obtain ⟨rfl, nZ⟩ := hcut
        ((replace c0 := New.keep nZ c0); (replace c1 := New.keep nZ c1); (replace c2 := New.keep nZ c2); (replace c3 := New.keep nZ c3); (replace c4 := New.keep nZ c4); (replace c5 := New.keep nZ c5); (replace c6 := New.keep nZ c6); (replace c7 := New.keep nZ c7); (replace c8 := New.keep nZ c8); (replace c9 := New.keep nZ c9))
        replace hn := hn.trans nZ
        clear nZ
        rename World => W3
        replace zz := World.block_lt_of_cell? _ _ c1
        simp only [] at zz
        cases k2
        rotate_left
        · have hb := HB.out (by simp)
          have hb' : Hid _ := hb
          clear hb HB HG K0 K1 K2
          go_wp2_with fail
          refine bodyPost_ret (v := .tuple #[.int .i64 0, .int .i64 0, .int .i64 0, .int .i64 40]) (by simp [results, Tryd.results42, go_sem]) rfl ?_
          rw [hb'.out.1, hb'.out.2.1, hb'.out.2.2.1, hb'.out.2.2.2]
          exact ⟨rfl, hn⟩
        go_wp2_with fail
        obtain ⟨hs, hy0, hy1⟩ := HG.out (by trivial) (by trivial) (by trivial)
        replace hy0 := Lib.hid hy0
        replace hy1 := Lib.hid hy1
        have hbd := nI_bd hs
        unfold StP StV at hs
        obtain ⟨⟨⟨X0, X0'⟩, ⟨Z0, Z0'⟩, ⟨Y0, Y0'⟩⟩, ⟨⟨X1, X1'⟩, ⟨Z1, Z1'⟩, ⟨Y1, Y1'⟩⟩, ⟨⟨X2, X2'⟩, ⟨Z2, Z2'⟩, ⟨Y2, Y2'⟩⟩⟩ := hs
        clear HB HG K0 K1 K2
        rw [rounds_succ]
        go_upto_region 7 with fail
        go_cut [8, 9, 10] (fun s8 s9 s10 Z => ∃ p q r : Nat, s8 = .pointer (some ⟨p, 0, none⟩) ∧ s9 = .pointer (some ⟨q, 0, none⟩) ∧ s10 = .pointer (some ⟨r, 0, none⟩) ∧ New W3 Z ∧ (Z.cell? ⟨p, 0, none⟩ = some (.int .i64 x0) ∧ Z.cell? ⟨p, 1, none⟩ = some (.int .i64 y0) ∧ Z.cell? ⟨p, 2, none⟩ = some (.int .i64 z0)) ∧
          (Z.cell? ⟨q, 0, none⟩ = some (.int .i64 x1) ∧ Z.cell? ⟨q, 1, none⟩ = some (.int .i64 y1) ∧ Z.cell? ⟨q, 2, none⟩ = some (.int .i64 z1)) ∧ (Z.cell? ⟨r, 0, none⟩ = some (.int .i64 x2) ∧ Z.cell? ⟨r, 1, none⟩ = some (.int .i64 y2) ∧ Z.cell? ⟨r, 2, none⟩ = some (.int .i64 z2)))
        case first =>
          clear X0 X0' Z0 Z0' Y0 Y0' X1 X1' Z1 Z1' Y1 Y1' X2 X2' Z2 Z2' Y2 Y2' hy0 hy1 hbd
          have hk1 : ∀ o1 o2 o3, (((W3.alloc o1).alloc o2).alloc o3).cell? ⟨w.heap.size, 1, none⟩ = some (.int .i64 x0) := fun o1 o2 o3 => New.keep (by (repeat (first | (with_reducible exact New.refl _) | (with_reducible assumption) | ((with_reducible refine New.setB ?_ ?_ _); focus (first | omega | (simp; omega) | (simp; done))) | (with_reducible refine New.alloc ?_ _) | (with_reducible refine New.drew ?_) | (with_reducible refine New.drewN ?_ _) | (with_reducible refine New.hat ?_ _) | ((with_reducible apply New.snart); (with_reducible assumption))))) c1
          have hk2 : ∀ o1 o2 o3, (((W3.alloc o1).alloc o2).alloc o3).cell? ⟨w.heap.size, 2, none⟩ = some (.int .i64 y0) := fun o1 o2 o3 => New.keep (by (repeat (first | (with_reducible exact New.refl _) | (with_reducible assumption) | ((with_reducible refine New.setB ?_ ?_ _); focus (first | omega | (simp; omega) | (simp; done))) | (with_reducible refine New.alloc ?_ _) | (with_reducible refine New.drew ?_) | (with_reducible refine New.drewN ?_ _) | (with_reducible refine New.hat ?_ _) | ((with_reducible apply New.snart); (with_reducible assumption))))) c2
          have hk3 : ∀ o1 o2 o3, (((W3.alloc o1).alloc o2).alloc o3).cell? ⟨w.heap.size, 3, none⟩ = some (.int .i64 z0) := fun o1 o2 o3 => New.keep (by (repeat (first | (with_reducible exact New.refl _) | (with_reducible assumption) | ((with_reducible refine New.setB ?_ ?_ _); focus (first | omega | (simp; omega) | (simp; done))) | (with_reducible refine New.alloc ?_ _) | (with_reducible refine New.drew ?_) | (with_reducible refine New.drewN ?_ _) | (with_reducible refine New.hat ?_ _) | ((with_reducible apply New.snart); (with_reducible assumption))))) c3
          have hk4 : ∀ o1 o2 o3, (((W3.alloc o1).alloc o2).alloc o3).cell? ⟨w.heap.size, 4, none⟩ = some (.int .i64 x1) := fun o1 o2 o3 => New.keep (by (repeat (first | (with_reducible exact New.refl _) | (with_reducible assumption) | ((with_reducible refine New.setB ?_ ?_ _); focus (first | omega | (simp; omega) | (simp; done))) | (with_reducible refine New.alloc ?_ _) | (with_reducible refine New.drew ?_) | (with_reducible refine New.drewN ?_ _) | (with_reducible refine New.hat ?_ _) | ((with_reducible apply New.snart); (with_reducible assumption))))) c4
          have hk5 : ∀ o1 o2 o3, (((W3.alloc o1).alloc o2).alloc o3).cell? ⟨w.heap.size, 5, none⟩ = some (.int .i64 y1) := fun o1 o2 o3 => New.keep (by (repeat (first | (with_reducible exact New.refl _) | (with_reducible assumption) | ((with_reducible refine New.setB ?_ ?_ _); focus (first | omega | (simp; omega) | (simp; done))) | (with_reducible refine New.alloc ?_ _) | (with_reducible refine New.drew ?_) | (with_reducible refine New.drewN ?_ _) | (with_reducible refine New.hat ?_ _) | ((with_reducible apply New.snart); (with_reducible assumption))))) c5
          have hk6 : ∀ o1 o2 o3, (((W3.alloc o1).alloc o2).alloc o3).cell? ⟨w.heap.size, 6, none⟩ = some (.int .i64 z1) := fun o1 o2 o3 => New.keep (by (repeat (first | (with_reducible exact New.refl _) | (with_reducible assumption) | ((with_reducible refine New.setB ?_ ?_ _); focus (first | omega | (simp; omega) | (simp; done))) | (with_reducible refine New.alloc ?_ _) | (with_reducible refine New.drew ?_) | (with_reducible refine New.drewN ?_ _) | (with_reducible refine New.hat ?_ _) | ((with_reducible apply New.snart); (with_reducible assumption))))) c6
          have hk7 : ∀ o1 o2 o3, (((W3.alloc o1).alloc o2).alloc o3).cell? ⟨w.heap.size, 7, none⟩ = some (.int .i64 x2) := fun o1 o2 o3 => New.keep (by (repeat (first | (with_reducible exact New.refl _) | (with_reducible assumption) | ((with_reducible refine New.setB ?_ ?_ _); focus (first | omega | (simp; omega) | (simp; done))) | (with_reducible refine New.alloc ?_ _) | (with_reducible refine New.drew ?_) | (with_reducible refine New.drewN ?_ _) | (with_reducible refine New.hat ?_ _) | ((with_reducible apply New.snart); (with_reducible assumption))))) c7
          have hk8 : ∀ o1 o2 o3, (((W3.alloc o1).alloc o2).alloc o3).cell? ⟨w.heap.size, 8, none⟩ = some (.int .i64 y2) := fun o1 o2 o3 => New.keep (by (repeat (first | (with_reducible exact New.refl _) | (with_reducible assumption) | ((with_reducible refine New.setB ?_ ?_ _); focus (first | omega | (simp; omega) | (simp; done))) | (with_reducible refine New.alloc ?_ _) | (with_reducible refine New.drew ?_) | (with_reducible refine New.drewN ?_ _) | (with_reducible refine New.hat ?_ _) | ((with_reducible apply New.snart); (with_reducible assumption))))) c8
          have hk9 : ∀ o1 o2 o3, (((W3.alloc o1).alloc o2).alloc o3).cell? ⟨w.heap.size, 9, none⟩ = some (.int .i64 z2) := fun o1 o2 o3 => New.keep (by (repeat (first | (with_reducible exact New.refl _) | (with_reducible assumption) | ((with_reducible refine New.setB ?_ ?_ _); focus (first | omega | (simp; omega) | (simp; done))) | (with_reducible refine New.alloc ?_ _) | (with_reducible refine New.drew ?_) | (with_reducible refine New.drewN ?_ _) | (with_reducible refine New.hat ?_ _) | ((with_reducible apply New.snart); (with_reducible assumption))))) c9
          go_region
          all_goals
            go_wp2_with fail
            go_meet
            exact ⟨_, _, _, rfl, rfl, rfl, by (repeat (first | (with_reducible exact New.refl _) | (with_reducible assumption) | ((with_reducible refine New.setB ?_ ?_ _); focus (first | omega | (simp; omega) | (simp; done))) | (with_reducible refine New.alloc ?_ _) | (with_reducible refine New.drew ?_) | (with_reducible refine New.drewN ?_ _) | (with_reducible refine New.hat ?_ _) | ((with_reducible apply New.snart); (with_reducible assumption)))), ⟨by go_simp, by go_simp, by go_simp⟩, ⟨by go_simp, by go_simp, by go_simp⟩, ⟨by go_simp, by go_simp, by go_simp⟩⟩
        case rest =>
          obtain ⟨p, q, r, rfl, rfl, rfl, nZ, ⟨p0, p1, p2⟩, ⟨q0, q1, q2⟩, ⟨r0, r1, r2⟩⟩ := hcut
          replace hn := hn.trans nZ
          clear nZ c0 c1 c2 c3 c4 c5 c6 c7 c8 c9 zz
          rename World => W4
          go_wp2_with fail
          go_quiet (fail)
          generalize hW : World.drewN _ _ = W5
          have n5 : New W4 W5 := by subst hW; (repeat (first | (with_reducible exact New.refl _) | (with_reducible assumption) | ((with_reducible refine New.setB ?_ ?_ _); focus (first | omega | (simp; omega) | (simp; done))) | (with_reducible refine New.alloc ?_ _) | (with_reducible refine New.drew ?_) | (with_reducible refine New.drewN ?_ _) | (with_reducible refine New.hat ?_ _) | ((with_reducible apply New.snart); (with_reducible assumption))))
          replace p0 := n5.keep p0
          replace p1 := n5.keep p1
          replace p2 := n5.keep p2
          replace q0 := n5.keep q0
          replace q1 := n5.keep q1
          replace q2 := n5.keep q2
          replace r0 := n5.keep r0
          replace r1 := n5.keep r1
          replace r2 := n5.keep r2
          replace hn := hn.trans n5
          clear hW n5
          go_wp2_with fail
          go_quiet (fail)
          clear p0 p1 p2 q0 q1 q2 r0 r1 r2
          have a1 := mul_bd (a := y1 - y0) (b := z2 - z0) (A := 4096) (B := 32) (by omega) (by omega)
          have a2 := mul_bd (a := z1 - z0) (b := y2 - y0) (A := 32) (B := 4096) (by omega) (by omega)
          have a3 := mul_bd (a := z1 - z0) (b := x2 - x0) (A := 32) (B := 32) (by omega) (by omega)
          have a4 := mul_bd (a := x1 - x0) (b := z2 - z0) (A := 32) (B := 32) (by omega) (by omega)
          have a5 := mul_bd (a := x1 - x0) (b := y2 - y0) (A := 32) (B := 4096) (by omega) (by omega)
          have a6 := mul_bd (a := y1 - y0) (b := x2 - x0) (A := 4096) (B := 32) (by omega) (by omega)
          by_cases hy : nyI x0 y0 z0 x1 y1 z1 x2 y2 z2 = 0
          · have hb : Hid _ := hy0.out hy
            have he : (((z1 - z0) * (x2 - x0) - (x1 - x0) * (z2 - z0)) == 0) = true := by rw [beq_iff_eq]; exact hy
            clear hy0 hy1 hy hbd
            go_wp2_with fail
            refine bodyPost_ret (v := .tuple #[.int .i64 0, .int .i64 0, .int .i64 0, .int .i64 40]) (by simp [results, Tryd.results42, go_sem]) rfl ?_
            rw [hb.out.1, hb.out.2.1, hb.out.2.2.1, hb.out.2.2.2]
            exact ⟨rfl, by (repeat (first | (with_reducible exact New.refl _) | (with_reducible assumption) | ((with_reducible refine New.setB ?_ ?_ _); focus (first | omega | (simp; omega) | (simp; done))) | (with_reducible refine New.alloc ?_ _) | (with_reducible refine New.drew ?_) | (with_reducible refine New.drewN ?_ _) | (with_reducible refine New.hat ?_ _) | ((with_reducible apply New.snart); (with_reducible assumption))))⟩
          · have hb : Hid _ := hy1.out hy
            have he : (((z1 - z0) * (x2 - x0) - (x1 - x0) * (z2 - z0)) == 0) = false := by rw [beq_eq_false_iff_ne]; exact hy
            clear hy0 hy1 hy hbd
            go_wp2_with fail
            refine bodyPost_ret (v := .tuple #[.int .i64 ((y1 - y0) * (z2 - z0) - (z1 - z0) * (y2 - y0)), .int .i64 ((z1 - z0) * (x2 - x0) - (x1 - x0) * (z2 - z0)), .int .i64 ((x1 - x0) * (y2 - y0) - (y1 - y0) * (x2 - x0)), .int .i64 0]) (by simp [results, Tryd.results42, go_sem]) rfl ?_
            rw [hb.out.1, hb.out.2.1, hb.out.2.2.1, hb.out.2.2.2]
            exact ⟨rfl, by (repeat (first | (with_reducible exact New.refl _) | (with_reducible assumption) | ((with_reducible refine New.setB ?_ ?_ _); focus (first | omega | (simp; omega) | (simp; done))) | (with_reducible refine New.alloc ?_ _) | (with_reducible refine New.drew ?_) | (with_reducible refine New.drewN ?_ _) | (with_reducible refine New.hat ?_ _) | ((with_reducible apply New.snart); (with_reducible assumption))))⟩

end Go.Proofs.YtonngfogbnfbnaaDoor
