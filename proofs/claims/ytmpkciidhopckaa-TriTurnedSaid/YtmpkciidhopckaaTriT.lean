/- The document's Same of triangles. -/
import Derived.Test.YtmpkciidhopckaaTriH
import Derived.Deep.LoopGhost
namespace Go.Proofs.Ytmpkciidhopckaa
open Go.RowKit
set_option linter.unusedVariables false

def b2i (b : Bool) : Int := if b then 1 else 0
def cntB (e0 e1 e2 : Bool) : Int := b2i e0 + b2i e1 + b2i e2
theorem perm {α : Type} [DecidableEq α] (a0 a1 a2 b0 b1 b2 : α) :
  (turnB (a0 == b0) (a1 == b1) (a2 == b2) (a1 == b2) (a2 == b1) || (turnB (a0 == b1) (a1 == b2) (a2 == b0) (a1 == b0) (a2 == b2) || turnB (a0 == b2) (a1 == b0) (a2 == b1) (a1 == b1) (a2 == b0))) =
  (cntB (a0 == a0) (a1 == a0) (a2 == a0) == cntB (b0 == a0) (b1 == a0) (b2 == a0) && (cntB (a0 == a1) (a1 == a1) (a2 == a1) == cntB (b0 == a1) (b1 == a1) (b2 == a1) && cntB (a0 == a2) (a1 == a2) (a2 == a2) == cntB (b0 == a2) (b1 == a2) (b2 == a2))) := by
  unfold turnB cntB b2i
  by_cases h0 : a0 = b0 <;> by_cases h1 : a0 = b1 <;> by_cases h2 : a0 = b2 <;> by_cases h3 : a1 = b0 <;> by_cases h4 : a1 = b1 <;> by_cases h5 : a1 = b2 <;> by_cases h6 : a2 = b0 <;> by_cases h7 : a2 = b1 <;> by_cases h8 : a2 = b2 <;> grind

theorem vEq_tri (x y z x' y' z' : Int) : vEq x y z x' y' z' = @BEq.beq (Int × Int × Int) instBEqOfDecidableEq (x, y, z) (x', y', z') := by
  rw [Bool.eq_iff_iff]
  unfold vEq
  simp

theorem same_cnt (i x0 y0 z0 x1 y1 z1 x2 y2 z2 j u0 v0 s0 u1 v1 s1 u2 v2 s2 : Int) : sameB i x0 y0 z0 x1 y1 z1 x2 y2 z2 j u0 v0 s0 u1 v1 s1 u2 v2 s2 = (i == j && (cntB (vEq x0 y0 z0 x0 y0 z0) (vEq x1 y1 z1 x0 y0 z0) (vEq x2 y2 z2 x0 y0 z0) == cntB (vEq u0 v0 s0 x0 y0 z0) (vEq u1 v1 s1 x0 y0 z0) (vEq u2 v2 s2 x0 y0 z0) && (cntB (vEq x0 y0 z0 x1 y1 z1) (vEq x1 y1 z1 x1 y1 z1) (vEq x2 y2 z2 x1 y1 z1) == cntB (vEq u0 v0 s0 x1 y1 z1) (vEq u1 v1 s1 x1 y1 z1) (vEq u2 v2 s2 x1 y1 z1) && cntB (vEq x0 y0 z0 x2 y2 z2) (vEq x1 y1 z1 x2 y2 z2) (vEq x2 y2 z2 x2 y2 z2) == cntB (vEq u0 v0 s0 x2 y2 z2) (vEq u1 v1 s1 x2 y2 z2) (vEq u2 v2 s2 x2 y2 z2)))) := by
  unfold sameB
  simp only [vEq_tri]
  rw [perm]

def cntTo (e0 e1 e2 : Bool) : Nat → Int
  | 0 => 0
  | 1 => b2i e0
  | 2 => b2i e0 + b2i e1
  | _ => cntB e0 e1 e2

theorem cntTo_bd (e0 e1 e2 : Bool) (m : Nat) : 0 ≤ cntTo e0 e1 e2 m ∧ cntTo e0 e1 e2 m ≤ 3 := by
  unfold cntTo cntB b2i
  split <;> cases e0 <;> cases e1 <;> cases e2 <;> simp

set_option maxHeartbeats 4000000 in
set_option maxRecDepth 100000 in
theorem r_same (i x0 y0 z0 x1 y1 z1 x2 y2 z2 j u0 v0 s0 u1 v1 s1 u2 v2 s2 : Int) (w : World) :
    Calls Try.prog 34 #[.agg #[.int .i64 i, .int .i64 x0, .int .i64 y0, .int .i64 z0, .int .i64 x1, .int .i64 y1, .int .i64 z1, .int .i64 x2, .int .i64 y2, .int .i64 z2], .agg #[.int .i64 j, .int .i64 u0, .int .i64 v0, .int .i64 s0, .int .i64 u1, .int .i64 v1, .int .i64 s1, .int .i64 u2, .int .i64 v2, .int .i64 s2]] w fun e w' => e = .returned (.bool (sameB i x0 y0 z0 x1 y1 z1 x2 y2 z2 j u0 v0 s0 u1 v1 s1 u2 v2 s2)) ∧ New w w' := by
  obtain ⟨v, hv⟩ : ∃ v, v = sameB i x0 y0 z0 x1 y1 z1 x2 y2 z2 j u0 v0 s0 u1 v1 s1 u2 v2 s2 := ⟨_, rfl⟩
  rw [← hv]
  rw [same_cnt] at hv
  have F00 := fun W => v_eql W x0 y0 z0 x0 y0 z0
  have G00 := fun W => v_eql W u0 v0 s0 x0 y0 z0
  have F01 := fun W => v_eql W x0 y0 z0 x1 y1 z1
  have G01 := fun W => v_eql W u0 v0 s0 x1 y1 z1
  have F02 := fun W => v_eql W x0 y0 z0 x2 y2 z2
  have G02 := fun W => v_eql W u0 v0 s0 x2 y2 z2
  have F10 := fun W => v_eql W x1 y1 z1 x0 y0 z0
  have G10 := fun W => v_eql W u1 v1 s1 x0 y0 z0
  have F11 := fun W => v_eql W x1 y1 z1 x1 y1 z1
  have G11 := fun W => v_eql W u1 v1 s1 x1 y1 z1
  have F12 := fun W => v_eql W x1 y1 z1 x2 y2 z2
  have G12 := fun W => v_eql W u1 v1 s1 x2 y2 z2
  have F20 := fun W => v_eql W x2 y2 z2 x0 y0 z0
  have G20 := fun W => v_eql W u2 v2 s2 x0 y0 z0
  have F21 := fun W => v_eql W x2 y2 z2 x1 y1 z1
  have G21 := fun W => v_eql W u2 v2 s2 x1 y1 z1
  have F22 := fun W => v_eql W x2 y2 z2 x2 y2 z2
  have G22 := fun W => v_eql W u2 v2 s2 x2 y2 z2
  generalize vEq x0 y0 z0 x0 y0 z0 = f00 at *
  generalize vEq u0 v0 s0 x0 y0 z0 = g00 at *
  generalize vEq x0 y0 z0 x1 y1 z1 = f01 at *
  generalize vEq u0 v0 s0 x1 y1 z1 = g01 at *
  generalize vEq x0 y0 z0 x2 y2 z2 = f02 at *
  generalize vEq u0 v0 s0 x2 y2 z2 = g02 at *
  generalize vEq x1 y1 z1 x0 y0 z0 = f10 at *
  generalize vEq u1 v1 s1 x0 y0 z0 = g10 at *
  generalize vEq x1 y1 z1 x1 y1 z1 = f11 at *
  generalize vEq u1 v1 s1 x1 y1 z1 = g11 at *
  generalize vEq x1 y1 z1 x2 y2 z2 = f12 at *
  generalize vEq u1 v1 s1 x2 y2 z2 = g12 at *
  generalize vEq x2 y2 z2 x0 y0 z0 = f20 at *
  generalize vEq u2 v2 s2 x0 y0 z0 = g20 at *
  generalize vEq x2 y2 z2 x1 y1 z1 = f21 at *
  generalize vEq u2 v2 s2 x1 y1 z1 = g21 at *
  generalize vEq x2 y2 z2 x2 y2 z2 = f22 at *
  generalize vEq u2 v2 s2 x2 y2 z2 = g22 at *
  cases hij : (i == j)
  · have HV : Hid (v = false) := by show v = false; rw [hv, hij]; rfl
    have hij' : (i != j) = true := by rw [bne, hij]; rfl
    clear hv hij
    go_enter Try.func34, Try.ntmps34
    go_wp2_with fail
    go_ret
    rw [HV.out]
    exact ⟨rfl, by (repeat (first | (with_reducible exact New.refl _) | (with_reducible assumption) | ((with_reducible refine New.setB ?_ ?_ _); focus (first | omega | (simp; omega) | (simp; done))) | (with_reducible refine New.alloc ?_ _) | (with_reducible refine New.drew ?_) | (with_reducible refine New.drewN ?_ _) | (with_reducible refine New.hat ?_ _) | ((with_reducible apply New.snart); (with_reducible assumption))))⟩
  rw [hij, Bool.true_and] at hv
  have hij' : (i != j) = false := by rw [bne, hij]; rfl
  obtain ⟨q0, hq0⟩ : ∃ r, r = (cntB f00 f10 f20 == cntB g00 g10 g20) := ⟨_, rfl⟩
  rw [← hq0] at hv
  obtain ⟨q1, hq1⟩ : ∃ r, r = (cntB f01 f11 f21 == cntB g01 g11 g21) := ⟨_, rfl⟩
  rw [← hq1] at hv
  obtain ⟨q2, hq2⟩ : ∃ r, r = (cntB f02 f12 f22 == cntB g02 g12 g22) := ⟨_, rfl⟩
  rw [← hq2] at hv
  have Q0 : Hid _ := hq0
  have Q1 : Hid _ := hq1
  have Q2 : Hid _ := hq2
  have HV : Hid _ := hv
  clear hv hq0 hq1 hq2 hij
  go_enter Try.func34, Try.ntmps34
  go_wp2_with fail
  generalize hW : World.alloc _ _ = W
  (have c0 : (W).cell? ⟨w.heap.size, 0, none⟩ = some (.int .i64 i) := (by subst hW; go_simp)); (have c1 : (W).cell? ⟨w.heap.size, 1, none⟩ = some (.int .i64 x0) := (by subst hW; go_simp)); (have c2 : (W).cell? ⟨w.heap.size, 2, none⟩ = some (.int .i64 y0) := (by subst hW; go_simp)); (have c3 : (W).cell? ⟨w.heap.size, 3, none⟩ = some (.int .i64 z0) := (by subst hW; go_simp)); (have c4 : (W).cell? ⟨w.heap.size, 4, none⟩ = some (.int .i64 x1) := (by subst hW; go_simp)); (have c5 : (W).cell? ⟨w.heap.size, 5, none⟩ = some (.int .i64 y1) := (by subst hW; go_simp)); (have c6 : (W).cell? ⟨w.heap.size, 6, none⟩ = some (.int .i64 z1) := (by subst hW; go_simp)); (have c7 : (W).cell? ⟨w.heap.size, 7, none⟩ = some (.int .i64 x2) := (by subst hW; go_simp)); (have c8 : (W).cell? ⟨w.heap.size, 8, none⟩ = some (.int .i64 y2) := (by subst hW; go_simp)); (have c9 : (W).cell? ⟨w.heap.size, 9, none⟩ = some (.int .i64 z2) := (by subst hW; go_simp))
  have d0 : W.cell? ⟨w.heap.size + 1, 0, none⟩ = some (.int .i64 j) := by subst hW; go_simp
  have d1 : W.cell? ⟨w.heap.size + 1, 1, none⟩ = some (.int .i64 u0) := by subst hW; go_simp
  have d2 : W.cell? ⟨w.heap.size + 1, 2, none⟩ = some (.int .i64 v0) := by subst hW; go_simp
  have d3 : W.cell? ⟨w.heap.size + 1, 3, none⟩ = some (.int .i64 s0) := by subst hW; go_simp
  have d4 : W.cell? ⟨w.heap.size + 1, 4, none⟩ = some (.int .i64 u1) := by subst hW; go_simp
  have d5 : W.cell? ⟨w.heap.size + 1, 5, none⟩ = some (.int .i64 v1) := by subst hW; go_simp
  have d6 : W.cell? ⟨w.heap.size + 1, 6, none⟩ = some (.int .i64 s1) := by subst hW; go_simp
  have d7 : W.cell? ⟨w.heap.size + 1, 7, none⟩ = some (.int .i64 u2) := by subst hW; go_simp
  have d8 : W.cell? ⟨w.heap.size + 1, 8, none⟩ = some (.int .i64 v2) := by subst hW; go_simp
  have d9 : W.cell? ⟨w.heap.size + 1, 9, none⟩ = some (.int .i64 s2) := by subst hW; go_simp
  have hn : New w W := by subst hW; (repeat (first | (with_reducible exact New.refl _) | (with_reducible assumption) | ((with_reducible refine New.setB ?_ ?_ _); focus (first | omega | (simp; omega) | (simp; done))) | (with_reducible refine New.alloc ?_ _) | (with_reducible refine New.drew ?_) | (with_reducible refine New.drewN ?_ _) | (with_reducible refine New.hat ?_ _) | ((with_reducible apply New.snart); (with_reducible assumption))))
  clear hW c0 d0
  refine wp_loop_rounds 4 ?_
  rw [rounds_succ]
  go_wp2_with fail
  go_loopg [6, 7, 8] 3 (fun gq s6 s7 s8 wr => ∃ m : Nat, m + gq = 3 ∧ s8 = .int .i64 (m : Int) ∧ s6 = .int .i64 (cntTo f00 f10 f20 m) ∧ s7 = .int .i64 (cntTo g00 g10 g20 m) ∧ New W wr)
  case atStart => exact ⟨0, by omega, rfl, rfl, rfl, New.refl _⟩
  case round =>
    obtain ⟨m, hm, rfl, rfl, rfl, nZ⟩ := hrel
    rename World => V0
    ((replace c1 := New.keep nZ c1); (replace c2 := New.keep nZ c2); (replace c3 := New.keep nZ c3); (replace c4 := New.keep nZ c4); (replace c5 := New.keep nZ c5); (replace c6 := New.keep nZ c6); (replace c7 := New.keep nZ c7); (replace c8 := New.keep nZ c8); (replace c9 := New.keep nZ c9); (replace d1 := New.keep nZ d1); (replace d2 := New.keep nZ d2); (replace d3 := New.keep nZ d3); (replace d4 := New.keep nZ d4); (replace d5 := New.keep nZ d5); (replace d6 := New.keep nZ d6); (replace d7 := New.keep nZ d7); (replace d8 := New.keep nZ d8); (replace d9 := New.keep nZ d9))
    have hgk := hm
    rcases (by omega : m = 0 ∨ m = 1 ∨ m = 2 ∨ m = 3) with rfl | rfl | rfl | rfl
    · clear HV Q0 Q1 Q2 F01 F02 F10 F11 F12 F20 F21 F22 G01 G02 G10 G11 G12 G20 G21 G22 hgk
      have bd1 := cntTo_bd f00 f10 f20 0
      have bd2 := cntTo_bd g00 g10 g20 0
      cases hf : f00 <;> cases hg : g00
      all_goals
        subst hf hg
        go_wp2_with fail
        go_quiet (fail)
        go_wp2_with fail
        go_quiet (fail)
        go_wp2_with fail
        go_roundg 2
        case measure => omega
        case rel => exact ⟨1, by omega, rfl, by simp [cntTo, b2i], by simp [cntTo, b2i], by (repeat (first | (with_reducible exact New.refl _) | (with_reducible assumption) | ((with_reducible refine New.setB ?_ ?_ _); focus (first | omega | (simp; omega) | (simp; done))) | (with_reducible refine New.alloc ?_ _) | (with_reducible refine New.drew ?_) | (with_reducible refine New.drewN ?_ _) | (with_reducible refine New.hat ?_ _) | ((with_reducible apply New.snart); (with_reducible assumption))))⟩
    · clear HV Q0 Q1 Q2 F00 F01 F02 F11 F12 F20 F21 F22 G00 G01 G02 G11 G12 G20 G21 G22 hgk
      have bd1 := cntTo_bd f00 f10 f20 1
      have bd2 := cntTo_bd g00 g10 g20 1
      cases hf : f10 <;> cases hg : g10
      all_goals
        subst hf hg
        go_wp2_with fail
        go_quiet (fail)
        go_wp2_with fail
        go_quiet (fail)
        go_wp2_with fail
        go_roundg 1
        case measure => omega
        case rel => exact ⟨2, by omega, rfl, by simp [cntTo, b2i], by simp [cntTo, b2i], by (repeat (first | (with_reducible exact New.refl _) | (with_reducible assumption) | ((with_reducible refine New.setB ?_ ?_ _); focus (first | omega | (simp; omega) | (simp; done))) | (with_reducible refine New.alloc ?_ _) | (with_reducible refine New.drew ?_) | (with_reducible refine New.drewN ?_ _) | (with_reducible refine New.hat ?_ _) | ((with_reducible apply New.snart); (with_reducible assumption))))⟩
    · clear HV Q0 Q1 Q2 F00 F01 F02 F10 F11 F12 F21 F22 G00 G01 G02 G10 G11 G12 G21 G22 hgk
      have bd1 := cntTo_bd f00 f10 f20 2
      have bd2 := cntTo_bd g00 g10 g20 2
      cases hf : f20 <;> cases hg : g20
      all_goals
        subst hf hg
        go_wp2_with fail
        go_quiet (fail)
        go_wp2_with fail
        go_quiet (fail)
        go_wp2_with fail
        go_roundg 0
        case measure => omega
        case rel => exact ⟨3, by omega, rfl, by simp [cntTo, cntB, b2i], by simp [cntTo, cntB, b2i], by (repeat (first | (with_reducible exact New.refl _) | (with_reducible assumption) | ((with_reducible refine New.setB ?_ ?_ _); focus (first | omega | (simp; omega) | (simp; done))) | (with_reducible refine New.alloc ?_ _) | (with_reducible refine New.drew ?_) | (with_reducible refine New.drewN ?_ _) | (with_reducible refine New.hat ?_ _) | ((with_reducible apply New.snart); (with_reducible assumption))))⟩
    · have z1 : cntTo f00 f10 f20 3 = cntB f00 f10 f20 := rfl
      have z2 : cntTo g00 g10 g20 3 = cntB g00 g10 g20 := rfl
      rw [z1, z2]
      clear z1 z2
      have hqn : (cntB f00 f10 f20 != cntB g00 g10 g20) = !q0 := by rw [bne, Q0.out]
      replace hn := hn.trans nZ
      clear nZ hm hgk Q0
      cases q0
      · have HV' : Hid (v = false) := by show v = false; rw [HV.out]; simp
        rw [Bool.not_false] at hqn
        clear HV
        go_wp2_with fail
        go_ret
        rw [HV'.out]
        exact ⟨rfl, hn⟩
      rw [Bool.not_true] at hqn
      go_wp2_with fail
      rw [rounds_succ]
      go_wp2_with fail
      go_loopg [6, 7, 8] 3 (fun gq s6 s7 s8 wr => ∃ m : Nat, m + gq = 3 ∧ s8 = .int .i64 (m : Int) ∧ s6 = .int .i64 (cntTo f01 f11 f21 m) ∧ s7 = .int .i64 (cntTo g01 g11 g21 m) ∧ New V0 wr)
      case atStart => exact ⟨0, by omega, rfl, rfl, rfl, New.refl _⟩
      case round =>
        obtain ⟨m, hm, rfl, rfl, rfl, nZ⟩ := hrel
        rename World => V1
        ((replace c1 := New.keep nZ c1); (replace c2 := New.keep nZ c2); (replace c3 := New.keep nZ c3); (replace c4 := New.keep nZ c4); (replace c5 := New.keep nZ c5); (replace c6 := New.keep nZ c6); (replace c7 := New.keep nZ c7); (replace c8 := New.keep nZ c8); (replace c9 := New.keep nZ c9); (replace d1 := New.keep nZ d1); (replace d2 := New.keep nZ d2); (replace d3 := New.keep nZ d3); (replace d4 := New.keep nZ d4); (replace d5 := New.keep nZ d5); (replace d6 := New.keep nZ d6); (replace d7 := New.keep nZ d7); (replace d8 := New.keep nZ d8); (replace d9 := New.keep nZ d9))
        have hgk := hm
        rcases (by omega : m = 0 ∨ m = 1 ∨ m = 2 ∨ m = 3) with rfl | rfl | rfl | rfl
        · clear HV Q1 Q2 F00 F02 F10 F11 F12 F20 F21 F22 G00 G02 G10 G11 G12 G20 G21 G22 hgk
          have bd1 := cntTo_bd f01 f11 f21 0
          have bd2 := cntTo_bd g01 g11 g21 0
          cases hf : f01 <;> cases hg : g01
          all_goals
            subst hf hg
            go_wp2_with fail
            go_quiet (fail)
            go_wp2_with fail
            go_quiet (fail)
            go_wp2_with fail
            go_roundg 2
            case measure => omega
            case rel => exact ⟨1, by omega, rfl, by simp [cntTo, b2i], by simp [cntTo, b2i], by (repeat (first | (with_reducible exact New.refl _) | (with_reducible assumption) | ((with_reducible refine New.setB ?_ ?_ _); focus (first | omega | (simp; omega) | (simp; done))) | (with_reducible refine New.alloc ?_ _) | (with_reducible refine New.drew ?_) | (with_reducible refine New.drewN ?_ _) | (with_reducible refine New.hat ?_ _) | ((with_reducible apply New.snart); (with_reducible assumption))))⟩
        · clear HV Q1 Q2 F00 F01 F02 F10 F12 F20 F21 F22 G00 G01 G02 G10 G12 G20 G21 G22 hgk
          have bd1 := cntTo_bd f01 f11 f21 1
          have bd2 := cntTo_bd g01 g11 g21 1
          cases hf : f11 <;> cases hg : g11
          all_goals
            subst hf hg
            go_wp2_with fail
            go_quiet (fail)
            go_wp2_with fail
            go_quiet (fail)
            go_wp2_with fail
            go_roundg 1
            case measure => omega
            case rel => exact ⟨2, by omega, rfl, by simp [cntTo, b2i], by simp [cntTo, b2i], by (repeat (first | (with_reducible exact New.refl _) | (with_reducible assumption) | ((with_reducible refine New.setB ?_ ?_ _); focus (first | omega | (simp; omega) | (simp; done))) | (with_reducible refine New.alloc ?_ _) | (with_reducible refine New.drew ?_) | (with_reducible refine New.drewN ?_ _) | (with_reducible refine New.hat ?_ _) | ((with_reducible apply New.snart); (with_reducible assumption))))⟩
        · clear HV Q1 Q2 F00 F01 F02 F10 F11 F12 F20 F22 G00 G01 G02 G10 G11 G12 G20 G22 hgk
          have bd1 := cntTo_bd f01 f11 f21 2
          have bd2 := cntTo_bd g01 g11 g21 2
          cases hf : f21 <;> cases hg : g21
          all_goals
            subst hf hg
            go_wp2_with fail
            go_quiet (fail)
            go_wp2_with fail
            go_quiet (fail)
            go_wp2_with fail
            go_roundg 0
            case measure => omega
            case rel => exact ⟨3, by omega, rfl, by simp [cntTo, cntB, b2i], by simp [cntTo, cntB, b2i], by (repeat (first | (with_reducible exact New.refl _) | (with_reducible assumption) | ((with_reducible refine New.setB ?_ ?_ _); focus (first | omega | (simp; omega) | (simp; done))) | (with_reducible refine New.alloc ?_ _) | (with_reducible refine New.drew ?_) | (with_reducible refine New.drewN ?_ _) | (with_reducible refine New.hat ?_ _) | ((with_reducible apply New.snart); (with_reducible assumption))))⟩
        · have z1 : cntTo f01 f11 f21 3 = cntB f01 f11 f21 := rfl
          have z2 : cntTo g01 g11 g21 3 = cntB g01 g11 g21 := rfl
          rw [z1, z2]
          clear z1 z2
          have hqn : (cntB f01 f11 f21 != cntB g01 g11 g21) = !q1 := by rw [bne, Q1.out]
          replace hn := hn.trans nZ
          clear nZ hm hgk Q1
          cases q1
          · have HV' : Hid (v = false) := by show v = false; rw [HV.out]; simp
            rw [Bool.not_false] at hqn
            clear HV
            go_wp2_with fail
            go_ret
            rw [HV'.out]
            exact ⟨rfl, hn⟩
          rw [Bool.not_true] at hqn
          go_wp2_with fail
          rw [rounds_succ]
          go_wp2_with fail
          go_loopg [6, 7, 8] 3 (fun gq s6 s7 s8 wr => ∃ m : Nat, m + gq = 3 ∧ s8 = .int .i64 (m : Int) ∧ s6 = .int .i64 (cntTo f02 f12 f22 m) ∧ s7 = .int .i64 (cntTo g02 g12 g22 m) ∧ New V1 wr)
          case atStart => exact ⟨0, by omega, rfl, rfl, rfl, New.refl _⟩
          case round =>
            obtain ⟨m, hm, rfl, rfl, rfl, nZ⟩ := hrel
            rename World => V2
            ((replace c1 := New.keep nZ c1); (replace c2 := New.keep nZ c2); (replace c3 := New.keep nZ c3); (replace c4 := New.keep nZ c4); (replace c5 := New.keep nZ c5); (replace c6 := New.keep nZ c6); (replace c7 := New.keep nZ c7); (replace c8 := New.keep nZ c8); (replace c9 := New.keep nZ c9); (replace d1 := New.keep nZ d1); (replace d2 := New.keep nZ d2); (replace d3 := New.keep nZ d3); (replace d4 := New.keep nZ d4); (replace d5 := New.keep nZ d5); (replace d6 := New.keep nZ d6); (replace d7 := New.keep nZ d7); (replace d8 := New.keep nZ d8); (replace d9 := New.keep nZ d9))
            have hgk := hm
            rcases (by omega : m = 0 ∨ m = 1 ∨ m = 2 ∨ m = 3) with rfl | rfl | rfl | rfl
            · clear HV Q2 F00 F01 F10 F11 F12 F20 F21 F22 G00 G01 G10 G11 G12 G20 G21 G22 hgk
              have bd1 := cntTo_bd f02 f12 f22 0
              have bd2 := cntTo_bd g02 g12 g22 0
              cases hf : f02 <;> cases hg : g02
              all_goals
                subst hf hg
                go_wp2_with fail
                go_quiet (fail)
                go_wp2_with fail
                go_quiet (fail)
                go_wp2_with fail
                go_roundg 2
                case measure => omega
                case rel => exact ⟨1, by omega, rfl, by simp [cntTo, b2i], by simp [cntTo, b2i], by (repeat (first | (with_reducible exact New.refl _) | (with_reducible assumption) | ((with_reducible refine New.setB ?_ ?_ _); focus (first | omega | (simp; omega) | (simp; done))) | (with_reducible refine New.alloc ?_ _) | (with_reducible refine New.drew ?_) | (with_reducible refine New.drewN ?_ _) | (with_reducible refine New.hat ?_ _) | ((with_reducible apply New.snart); (with_reducible assumption))))⟩
            · clear HV Q2 F00 F01 F02 F10 F11 F20 F21 F22 G00 G01 G02 G10 G11 G20 G21 G22 hgk
              have bd1 := cntTo_bd f02 f12 f22 1
              have bd2 := cntTo_bd g02 g12 g22 1
              cases hf : f12 <;> cases hg : g12
              all_goals
                subst hf hg
                go_wp2_with fail
                go_quiet (fail)
                go_wp2_with fail
                go_quiet (fail)
                go_wp2_with fail
                go_roundg 1
                case measure => omega
                case rel => exact ⟨2, by omega, rfl, by simp [cntTo, b2i], by simp [cntTo, b2i], by (repeat (first | (with_reducible exact New.refl _) | (with_reducible assumption) | ((with_reducible refine New.setB ?_ ?_ _); focus (first | omega | (simp; omega) | (simp; done))) | (with_reducible refine New.alloc ?_ _) | (with_reducible refine New.drew ?_) | (with_reducible refine New.drewN ?_ _) | (with_reducible refine New.hat ?_ _) | ((with_reducible apply New.snart); (with_reducible assumption))))⟩
            · clear HV Q2 F00 F01 F02 F10 F11 F12 F20 F21 G00 G01 G02 G10 G11 G12 G20 G21 hgk
              have bd1 := cntTo_bd f02 f12 f22 2
              have bd2 := cntTo_bd g02 g12 g22 2
              cases hf : f22 <;> cases hg : g22
              all_goals
                subst hf hg
                go_wp2_with fail
                go_quiet (fail)
                go_wp2_with fail
                go_quiet (fail)
                go_wp2_with fail
                go_roundg 0
                case measure => omega
                case rel => exact ⟨3, by omega, rfl, by simp [cntTo, cntB, b2i], by simp [cntTo, cntB, b2i], by (repeat (first | (with_reducible exact New.refl _) | (with_reducible assumption) | ((with_reducible refine New.setB ?_ ?_ _); focus (first | omega | (simp; omega) | (simp; done))) | (with_reducible refine New.alloc ?_ _) | (with_reducible refine New.drew ?_) | (with_reducible refine New.drewN ?_ _) | (with_reducible refine New.hat ?_ _) | ((with_reducible apply New.snart); (with_reducible assumption))))⟩
            · have z1 : cntTo f02 f12 f22 3 = cntB f02 f12 f22 := rfl
              have z2 : cntTo g02 g12 g22 3 = cntB g02 g12 g22 := rfl
              rw [z1, z2]
              clear z1 z2
              have hqn : (cntB f02 f12 f22 != cntB g02 g12 g22) = !q2 := by rw [bne, Q2.out]
              replace hn := hn.trans nZ
              clear nZ hm hgk Q2
              cases q2
              · have HV' : Hid (v = false) := by show v = false; rw [HV.out]; simp
                rw [Bool.not_false] at hqn
                clear HV
                go_wp2_with fail
                go_ret
                rw [HV'.out]
                exact ⟨rfl, hn⟩
              rw [Bool.not_true] at hqn
              go_wp2_with fail
              rw [rounds_succ]
              have HV' : Hid (v = true) := by show v = true; rw [HV.out]; simp
              clear HV
              go_wp2_with fail
              go_ret
              rw [HV'.out]
              exact ⟨rfl, hn⟩

end Go.Proofs.Ytmpkciidhopckaa
