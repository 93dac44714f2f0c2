import Derived.Test.YtdbhlepbaepngaaGreatDoorSoDZ15
import Derived.Test.YtdbhlepbaepngaaGreatDoorBinsNZ15
import Derived.Test.YtdbhlepbaepngaaGreatDoorWholeJZ15

/- The document's package of soups: whether a box, a triangle, a hop may be. -/
namespace Go.Proofs.YtdbhlepbaepngaaGreatDoor
open Go.RowKit
set_option linter.unusedVariables false
set_option maxRecDepth 100000

def heiB (y : Int) : Bool := decide (-2048 ≤ y ∧ y ≤ 2048)
def idB (i : Int) : Bool := decide (1 ≤ i ∧ i ≤ 1073741824)

theorem u_height (y : Int) (w : World) : Calls Tryz.prog 42 #[.int .i64 y] w fun e w' => e = .returned (.bool (heiB y)) ∧ New w w' := by
  unfold heiB
  go_enter Tryz.func42, Tryz.ntmps42
  go_wp2_with fail
  all_goals
    go_ret
    refine ⟨congrArg (fun b => Ending.returned (.bool b)) ?_, New.refl _⟩
    rw [Bool.eq_iff_iff]
    simp only [Bool.and_eq_true, decide_eq_true_eq, Bool.false_eq_true, false_iff]
    omega

theorem BoxR.tests_iff (C : CfgR) (X : BoxR) : X.tests C = true ↔ 0 ≤ X.x0 ∧ X.x0 ≤ X.x1 ∧ X.x1 < C.wd ∧ 0 ≤ X.z0 ∧ X.z0 ≤ X.z1 ∧ X.z1 < C.dp ∧ heiB X.y0 = true ∧ X.y0 ≤ X.y1 ∧ heiB X.y1 = true ∧ 0 ≤ X.ar ∧ X.ar ≤ 7 := by
  simp only [BoxR.tests, ordB, heiB, Bool.and_eq_true, decide_eq_true_eq, Bool.and_true]
  omega
theorem notTrue {b : Bool} (h : ¬ b = true) : b = false := by cases b <;> simp_all

set_option maxHeartbeats 4000000 in
theorem u_mayBox (C : CfgR) (X : BoxR) (w : World) :
    Calls Tryz.prog 26 #[.agg #[.int .i64 C.cl, .int .i64 C.cb, .int .i64 C.ht, .int .i64 C.ri, .int .i64 C.ru, .int .i64 C.wd, .int .i64 C.dp], .agg #[.int .i64 X.i, .int .i64 X.x0, .int .i64 X.z0, .int .i64 X.x1, .int .i64 X.z1, .int .i64 X.y0, .int .i64 X.y1, .int .i64 X.ar]] w fun e w' => e = .returned (.bool (X.tests C)) ∧ New w w' := by
  have K0 := Lib.hid (fun W => u_height X.y0 W)
  have K1 := Lib.hid (fun W => u_height X.y1 W)
  have IF := Lib.hid (BoxR.tests_iff C X)

  by_cases p0 : 0 ≤ X.x0
  rotate_left
  · have q0 : decide (0 ≤ X.x0) = false := decide_eq_false p0
    have E : X.tests C = false := notTrue (fun h => p0 (IF.out.1 h).1)
    rw [E]
    clear E IF p0
    go_enter Tryz.func26, Tryz.ntmps26
    go_wp2_with fail
    go_ret
    exact ⟨rfl, by (repeat (first | (with_reducible exact New.refl _) | (with_reducible assumption) | ((with_reducible refine New.setB ?_ ?_ _); focus (first | omega | (simp; omega) | (simp; done))) | (with_reducible refine New.alloc ?_ _) | (with_reducible refine New.drew ?_) | (with_reducible refine New.drewN ?_ _) | (with_reducible refine New.hat ?_ _) | ((with_reducible apply New.snart); (with_reducible assumption))))⟩
  by_cases p1 : X.x0 ≤ X.x1
  rotate_left
  · have q0 : decide (0 ≤ X.x0) = true := decide_eq_true p0
    have q1 : decide (X.x0 ≤ X.x1) = false := decide_eq_false p1
    have E : X.tests C = false := notTrue (fun h => p1 (IF.out.1 h).2.1)
    rw [E]
    clear E IF p0 p1
    go_enter Tryz.func26, Tryz.ntmps26
    go_wp2_with fail
    go_ret
    exact ⟨rfl, by (repeat (first | (with_reducible exact New.refl _) | (with_reducible assumption) | ((with_reducible refine New.setB ?_ ?_ _); focus (first | omega | (simp; omega) | (simp; done))) | (with_reducible refine New.alloc ?_ _) | (with_reducible refine New.drew ?_) | (with_reducible refine New.drewN ?_ _) | (with_reducible refine New.hat ?_ _) | ((with_reducible apply New.snart); (with_reducible assumption))))⟩
  by_cases p2 : X.x1 < C.wd
  rotate_left
  · have q0 : decide (0 ≤ X.x0) = true := decide_eq_true p0
    have q1 : decide (X.x0 ≤ X.x1) = true := decide_eq_true p1
    have q2 : decide (X.x1 < C.wd) = false := decide_eq_false p2
    have E : X.tests C = false := notTrue (fun h => p2 (IF.out.1 h).2.2.1)
    rw [E]
    clear E IF p0 p1 p2
    go_enter Tryz.func26, Tryz.ntmps26
    go_wp2_with fail
    go_ret
    exact ⟨rfl, by (repeat (first | (with_reducible exact New.refl _) | (with_reducible assumption) | ((with_reducible refine New.setB ?_ ?_ _); focus (first | omega | (simp; omega) | (simp; done))) | (with_reducible refine New.alloc ?_ _) | (with_reducible refine New.drew ?_) | (with_reducible refine New.drewN ?_ _) | (with_reducible refine New.hat ?_ _) | ((with_reducible apply New.snart); (with_reducible assumption))))⟩
  by_cases p3 : 0 ≤ X.z0
  rotate_left
  · have q0 : decide (0 ≤ X.x0) = true := decide_eq_true p0
    have q1 : decide (X.x0 ≤ X.x1) = true := decide_eq_true p1
    have q2 : decide (X.x1 < C.wd) = true := decide_eq_true p2
    have q3 : decide (0 ≤ X.z0) = false := decide_eq_false p3
    have E : X.tests C = false := notTrue (fun h => p3 (IF.out.1 h).2.2.2.1)
    rw [E]
    clear E IF p0 p1 p2 p3
    go_enter Tryz.func26, Tryz.ntmps26
    go_wp2_with fail
    go_ret
    exact ⟨rfl, by (repeat (first | (with_reducible exact New.refl _) | (with_reducible assumption) | ((with_reducible refine New.setB ?_ ?_ _); focus (first | omega | (simp; omega) | (simp; done))) | (with_reducible refine New.alloc ?_ _) | (with_reducible refine New.drew ?_) | (with_reducible refine New.drewN ?_ _) | (with_reducible refine New.hat ?_ _) | ((with_reducible apply New.snart); (with_reducible assumption))))⟩
  by_cases p4 : X.z0 ≤ X.z1
  rotate_left
  · have q0 : decide (0 ≤ X.x0) = true := decide_eq_true p0
    have q1 : decide (X.x0 ≤ X.x1) = true := decide_eq_true p1
    have q2 : decide (X.x1 < C.wd) = true := decide_eq_true p2
    have q3 : decide (0 ≤ X.z0) = true := decide_eq_true p3
    have q4 : decide (X.z0 ≤ X.z1) = false := decide_eq_false p4
    have E : X.tests C = false := notTrue (fun h => p4 (IF.out.1 h).2.2.2.2.1)
    rw [E]
    clear E IF p0 p1 p2 p3 p4
    go_enter Tryz.func26, Tryz.ntmps26
    go_wp2_with fail
    go_ret
    exact ⟨rfl, by (repeat (first | (with_reducible exact New.refl _) | (with_reducible assumption) | ((with_reducible refine New.setB ?_ ?_ _); focus (first | omega | (simp; omega) | (simp; done))) | (with_reducible refine New.alloc ?_ _) | (with_reducible refine New.drew ?_) | (with_reducible refine New.drewN ?_ _) | (with_reducible refine New.hat ?_ _) | ((with_reducible apply New.snart); (with_reducible assumption))))⟩
  by_cases p5 : X.z1 < C.dp
  rotate_left
  · have q0 : decide (0 ≤ X.x0) = true := decide_eq_true p0
    have q1 : decide (X.x0 ≤ X.x1) = true := decide_eq_true p1
    have q2 : decide (X.x1 < C.wd) = true := decide_eq_true p2
    have q3 : decide (0 ≤ X.z0) = true := decide_eq_true p3
    have q4 : decide (X.z0 ≤ X.z1) = true := decide_eq_true p4
    have q5 : decide (X.z1 < C.dp) = false := decide_eq_false p5
    have E : X.tests C = false := notTrue (fun h => p5 (IF.out.1 h).2.2.2.2.2.1)
    rw [E]
    clear E IF p0 p1 p2 p3 p4 p5
    go_enter Tryz.func26, Tryz.ntmps26
    go_wp2_with fail
    go_ret
    exact ⟨rfl, by (repeat (first | (with_reducible exact New.refl _) | (with_reducible assumption) | ((with_reducible refine New.setB ?_ ?_ _); focus (first | omega | (simp; omega) | (simp; done))) | (with_reducible refine New.alloc ?_ _) | (with_reducible refine New.drew ?_) | (with_reducible refine New.drewN ?_ _) | (with_reducible refine New.hat ?_ _) | ((with_reducible apply New.snart); (with_reducible assumption))))⟩
  by_cases p6 : heiB X.y0 = true
  rotate_left
  · have q0 : decide (0 ≤ X.x0) = true := decide_eq_true p0
    have q1 : decide (X.x0 ≤ X.x1) = true := decide_eq_true p1
    have q2 : decide (X.x1 < C.wd) = true := decide_eq_true p2
    have q3 : decide (0 ≤ X.z0) = true := decide_eq_true p3
    have q4 : decide (X.z0 ≤ X.z1) = true := decide_eq_true p4
    have q5 : decide (X.z1 < C.dp) = true := decide_eq_true p5
    have q6 := notTrue p6
    have E : X.tests C = false := notTrue (fun h => p6 (IF.out.1 h).2.2.2.2.2.2.1)
    rw [E]
    clear E IF p0 p1 p2 p3 p4 p5 p6
    rw [q6] at K0
    go_enter Tryz.func26, Tryz.ntmps26
    go_wp2_with fail
    refine Calls.at (fun W hW => ?_)
    have d5 : W.cell? ⟨w.heap.size + 1, 5, none⟩ = some (.int .i64 X.y0) := by subst hW; go_simp
    have d6 : W.cell? ⟨w.heap.size + 1, 6, none⟩ = some (.int .i64 X.y1) := by subst hW; go_simp
    have d7 : W.cell? ⟨w.heap.size + 1, 7, none⟩ = some (.int .i64 X.ar) := by subst hW; go_simp
    have hn : New w W := by subst hW; (repeat (first | (with_reducible exact New.refl _) | (with_reducible assumption) | ((with_reducible refine New.setB ?_ ?_ _); focus (first | omega | (simp; omega) | (simp; done))) | (with_reducible refine New.alloc ?_ _) | (with_reducible refine New.drew ?_) | (with_reducible refine New.drewN ?_ _) | (with_reducible refine New.hat ?_ _) | ((with_reducible apply New.snart); (with_reducible assumption))))
    clear hW
    refine (K0.out _).mono ?_
    rintro e w1 ⟨rfl, n1⟩
    replace d5 := n1.keep d5
    replace d6 := n1.keep d6
    replace d7 := n1.keep d7
    replace hn := hn.trans n1
    go_wp2_with fail
    go_ret
    exact ⟨rfl, hn⟩
  by_cases p7 : X.y0 ≤ X.y1
  rotate_left
  · have q0 : decide (0 ≤ X.x0) = true := decide_eq_true p0
    have q1 : decide (X.x0 ≤ X.x1) = true := decide_eq_true p1
    have q2 : decide (X.x1 < C.wd) = true := decide_eq_true p2
    have q3 : decide (0 ≤ X.z0) = true := decide_eq_true p3
    have q4 : decide (X.z0 ≤ X.z1) = true := decide_eq_true p4
    have q5 : decide (X.z1 < C.dp) = true := decide_eq_true p5
    have q6 := p6
    have q7 : decide (X.y0 ≤ X.y1) = false := decide_eq_false p7
    have E : X.tests C = false := notTrue (fun h => p7 (IF.out.1 h).2.2.2.2.2.2.2.1)
    rw [E]
    clear E IF p0 p1 p2 p3 p4 p5 p6 p7
    rw [q6] at K0
    go_enter Tryz.func26, Tryz.ntmps26
    go_wp2_with fail
    refine Calls.at (fun W hW => ?_)
    have d5 : W.cell? ⟨w.heap.size + 1, 5, none⟩ = some (.int .i64 X.y0) := by subst hW; go_simp
    have d6 : W.cell? ⟨w.heap.size + 1, 6, none⟩ = some (.int .i64 X.y1) := by subst hW; go_simp
    have d7 : W.cell? ⟨w.heap.size + 1, 7, none⟩ = some (.int .i64 X.ar) := by subst hW; go_simp
    have hn : New w W := by subst hW; (repeat (first | (with_reducible exact New.refl _) | (with_reducible assumption) | ((with_reducible refine New.setB ?_ ?_ _); focus (first | omega | (simp; omega) | (simp; done))) | (with_reducible refine New.alloc ?_ _) | (with_reducible refine New.drew ?_) | (with_reducible refine New.drewN ?_ _) | (with_reducible refine New.hat ?_ _) | ((with_reducible apply New.snart); (with_reducible assumption))))
    clear hW
    refine (K0.out _).mono ?_
    rintro e w1 ⟨rfl, n1⟩
    replace d5 := n1.keep d5
    replace d6 := n1.keep d6
    replace d7 := n1.keep d7
    replace hn := hn.trans n1
    go_wp2_with fail
    go_ret
    exact ⟨rfl, hn⟩
  by_cases p8 : heiB X.y1 = true
  rotate_left
  · have q0 : decide (0 ≤ X.x0) = true := decide_eq_true p0
    have q1 : decide (X.x0 ≤ X.x1) = true := decide_eq_true p1
    have q2 : decide (X.x1 < C.wd) = true := decide_eq_true p2
    have q3 : decide (0 ≤ X.z0) = true := decide_eq_true p3
    have q4 : decide (X.z0 ≤ X.z1) = true := decide_eq_true p4
    have q5 : decide (X.z1 < C.dp) = true := decide_eq_true p5
    have q6 := p6
    have q7 : decide (X.y0 ≤ X.y1) = true := decide_eq_true p7
    have q8 := notTrue p8
    have E : X.tests C = false := notTrue (fun h => p8 (IF.out.1 h).2.2.2.2.2.2.2.2.1)
    rw [E]
    clear E IF p0 p1 p2 p3 p4 p5 p6 p7 p8
    rw [q6] at K0
    rw [q8] at K1
    go_enter Tryz.func26, Tryz.ntmps26
    go_wp2_with fail
    refine Calls.at (fun W hW => ?_)
    have d5 : W.cell? ⟨w.heap.size + 1, 5, none⟩ = some (.int .i64 X.y0) := by subst hW; go_simp
    have d6 : W.cell? ⟨w.heap.size + 1, 6, none⟩ = some (.int .i64 X.y1) := by subst hW; go_simp
    have d7 : W.cell? ⟨w.heap.size + 1, 7, none⟩ = some (.int .i64 X.ar) := by subst hW; go_simp
    have hn : New w W := by subst hW; (repeat (first | (with_reducible exact New.refl _) | (with_reducible assumption) | ((with_reducible refine New.setB ?_ ?_ _); focus (first | omega | (simp; omega) | (simp; done))) | (with_reducible refine New.alloc ?_ _) | (with_reducible refine New.drew ?_) | (with_reducible refine New.drewN ?_ _) | (with_reducible refine New.hat ?_ _) | ((with_reducible apply New.snart); (with_reducible assumption))))
    clear hW
    refine (K0.out _).mono ?_
    rintro e w1 ⟨rfl, n1⟩
    replace d5 := n1.keep d5
    replace d6 := n1.keep d6
    replace d7 := n1.keep d7
    replace hn := hn.trans n1
    go_wp2_with fail
    refine (K1.out _).mono ?_
    rintro e w2 ⟨rfl, n2⟩
    replace d7 := n2.keep d7
    replace hn := hn.trans n2
    go_wp2_with fail
    go_ret
    exact ⟨rfl, hn⟩
  by_cases p9 : 0 ≤ X.ar
  rotate_left
  · have q0 : decide (0 ≤ X.x0) = true := decide_eq_true p0
    have q1 : decide (X.x0 ≤ X.x1) = true := decide_eq_true p1
    have q2 : decide (X.x1 < C.wd) = true := decide_eq_true p2
    have q3 : decide (0 ≤ X.z0) = true := decide_eq_true p3
    have q4 : decide (X.z0 ≤ X.z1) = true := decide_eq_true p4
    have q5 : decide (X.z1 < C.dp) = true := decide_eq_true p5
    have q6 := p6
    have q7 : decide (X.y0 ≤ X.y1) = true := decide_eq_true p7
    have q8 := p8
    have q9 : decide (0 ≤ X.ar) = false := decide_eq_false p9
    have E : X.tests C = false := notTrue (fun h => p9 (IF.out.1 h).2.2.2.2.2.2.2.2.2.1)
    rw [E]
    clear E IF p0 p1 p2 p3 p4 p5 p6 p7 p8 p9
    rw [q6] at K0
    rw [q8] at K1
    go_enter Tryz.func26, Tryz.ntmps26
    go_wp2_with fail
    refine Calls.at (fun W hW => ?_)
    have d5 : W.cell? ⟨w.heap.size + 1, 5, none⟩ = some (.int .i64 X.y0) := by subst hW; go_simp
    have d6 : W.cell? ⟨w.heap.size + 1, 6, none⟩ = some (.int .i64 X.y1) := by subst hW; go_simp
    have d7 : W.cell? ⟨w.heap.size + 1, 7, none⟩ = some (.int .i64 X.ar) := by subst hW; go_simp
    have hn : New w W := by subst hW; (repeat (first | (with_reducible exact New.refl _) | (with_reducible assumption) | ((with_reducible refine New.setB ?_ ?_ _); focus (first | omega | (simp; omega) | (simp; done))) | (with_reducible refine New.alloc ?_ _) | (with_reducible refine New.drew ?_) | (with_reducible refine New.drewN ?_ _) | (with_reducible refine New.hat ?_ _) | ((with_reducible apply New.snart); (with_reducible assumption))))
    clear hW
    refine (K0.out _).mono ?_
    rintro e w1 ⟨rfl, n1⟩
    replace d5 := n1.keep d5
    replace d6 := n1.keep d6
    replace d7 := n1.keep d7
    replace hn := hn.trans n1
    go_wp2_with fail
    refine (K1.out _).mono ?_
    rintro e w2 ⟨rfl, n2⟩
    replace d7 := n2.keep d7
    replace hn := hn.trans n2
    go_wp2_with fail
    go_ret
    exact ⟨rfl, hn⟩
  by_cases p10 : X.ar ≤ 7
  rotate_left
  · have q0 : decide (0 ≤ X.x0) = true := decide_eq_true p0
    have q1 : decide (X.x0 ≤ X.x1) = true := decide_eq_true p1
    have q2 : decide (X.x1 < C.wd) = true := decide_eq_true p2
    have q3 : decide (0 ≤ X.z0) = true := decide_eq_true p3
    have q4 : decide (X.z0 ≤ X.z1) = true := decide_eq_true p4
    have q5 : decide (X.z1 < C.dp) = true := decide_eq_true p5
    have q6 := p6
    have q7 : decide (X.y0 ≤ X.y1) = true := decide_eq_true p7
    have q8 := p8
    have q9 : decide (0 ≤ X.ar) = true := decide_eq_true p9
    have q10 : decide (X.ar ≤ 7) = false := decide_eq_false p10
    have E : X.tests C = false := notTrue (fun h => p10 (IF.out.1 h).2.2.2.2.2.2.2.2.2.2)
    rw [E]
    clear E IF p0 p1 p2 p3 p4 p5 p6 p7 p8 p9 p10
    rw [q6] at K0
    rw [q8] at K1
    go_enter Tryz.func26, Tryz.ntmps26
    go_wp2_with fail
    refine Calls.at (fun W hW => ?_)
    have d5 : W.cell? ⟨w.heap.size + 1, 5, none⟩ = some (.int .i64 X.y0) := by subst hW; go_simp
    have d6 : W.cell? ⟨w.heap.size + 1, 6, none⟩ = some (.int .i64 X.y1) := by subst hW; go_simp
    have d7 : W.cell? ⟨w.heap.size + 1, 7, none⟩ = some (.int .i64 X.ar) := by subst hW; go_simp
    have hn : New w W := by subst hW; (repeat (first | (with_reducible exact New.refl _) | (with_reducible assumption) | ((with_reducible refine New.setB ?_ ?_ _); focus (first | omega | (simp; omega) | (simp; done))) | (with_reducible refine New.alloc ?_ _) | (with_reducible refine New.drew ?_) | (with_reducible refine New.drewN ?_ _) | (with_reducible refine New.hat ?_ _) | ((with_reducible apply New.snart); (with_reducible assumption))))
    clear hW
    refine (K0.out _).mono ?_
    rintro e w1 ⟨rfl, n1⟩
    replace d5 := n1.keep d5
    replace d6 := n1.keep d6
    replace d7 := n1.keep d7
    replace hn := hn.trans n1
    go_wp2_with fail
    refine (K1.out _).mono ?_
    rintro e w2 ⟨rfl, n2⟩
    replace d7 := n2.keep d7
    replace hn := hn.trans n2
    go_wp2_with fail
    go_ret
    exact ⟨rfl, hn⟩
  have q0 : decide (0 ≤ X.x0) = true := decide_eq_true p0
  have q1 : decide (X.x0 ≤ X.x1) = true := decide_eq_true p1
  have q2 : decide (X.x1 < C.wd) = true := decide_eq_true p2
  have q3 : decide (0 ≤ X.z0) = true := decide_eq_true p3
  have q4 : decide (X.z0 ≤ X.z1) = true := decide_eq_true p4
  have q5 : decide (X.z1 < C.dp) = true := decide_eq_true p5
  have q6 := p6
  have q7 : decide (X.y0 ≤ X.y1) = true := decide_eq_true p7
  have q8 := p8
  have q9 : decide (0 ≤ X.ar) = true := decide_eq_true p9
  have q10 : decide (X.ar ≤ 7) = true := decide_eq_true p10
  have E : X.tests C = true := IF.out.2 ⟨p0, p1, p2, p3, p4, p5, p6, p7, p8, p9, p10⟩
  rw [E]
  clear E IF p0 p1 p2 p3 p4 p5 p6 p7 p8 p9 p10
  rw [q6] at K0
  rw [q8] at K1
  go_enter Tryz.func26, Tryz.ntmps26
  go_wp2_with fail
  refine Calls.at (fun W hW => ?_)
  have d5 : W.cell? ⟨w.heap.size + 1, 5, none⟩ = some (.int .i64 X.y0) := by subst hW; go_simp
  have d6 : W.cell? ⟨w.heap.size + 1, 6, none⟩ = some (.int .i64 X.y1) := by subst hW; go_simp
  have d7 : W.cell? ⟨w.heap.size + 1, 7, none⟩ = some (.int .i64 X.ar) := by subst hW; go_simp
  have hn : New w W := by subst hW; (repeat (first | (with_reducible exact New.refl _) | (with_reducible assumption) | ((with_reducible refine New.setB ?_ ?_ _); focus (first | omega | (simp; omega) | (simp; done))) | (with_reducible refine New.alloc ?_ _) | (with_reducible refine New.drew ?_) | (with_reducible refine New.drewN ?_ _) | (with_reducible refine New.hat ?_ _) | ((with_reducible apply New.snart); (with_reducible assumption))))
  clear hW
  refine (K0.out _).mono ?_
  rintro e w1 ⟨rfl, n1⟩
  replace d5 := n1.keep d5
  replace d6 := n1.keep d6
  replace d7 := n1.keep d7
  replace hn := hn.trans n1
  go_wp2_with fail
  refine (K1.out _).mono ?_
  rintro e w2 ⟨rfl, n2⟩
  replace d7 := n2.keep d7
  replace hn := hn.trans n2
  go_wp2_with fail
  go_ret
  exact ⟨rfl, hn⟩

end Go.Proofs.YtdbhlepbaepngaaGreatDoor

/- What a box touches: the document's own. -/
namespace Go.Proofs.YtdbhlepbaepngaaGreatDoor
open Go.RowKit
set_option linter.unusedVariables false
set_option maxRecDepth 100000

theorem BoxR.may_iff (C : CfgR) (X : BoxR) : X.may C = true ↔ X.tests C = true ∧ 1 ≤ X.i ∧ X.i ≤ 1073741824 := by
  simp only [BoxR.may, ordB, Bool.and_eq_true, decide_eq_true_eq, Bool.and_true]
  exact ⟨fun ⟨h, t⟩ => ⟨t, h⟩, fun ⟨t, h⟩ => ⟨h, t⟩⟩

set_option maxHeartbeats 4000000 in
theorem rBoxes_any (C : CfgR) (X : BoxR) (w : World) :
    Calls Tryz.prog 17 #[.agg #[.int .i64 C.cl, .int .i64 C.cb, .int .i64 C.ht, .int .i64 C.ri, .int .i64 C.ru, .int .i64 C.wd, .int .i64 C.dp], .agg #[.int .i64 X.i, .int .i64 X.x0, .int .i64 X.z0, .int .i64 X.x1, .int .i64 X.z1, .int .i64 X.y0, .int .i64 X.y1, .int .i64 X.ar]] w (ListPost (boxE C X) (boxesL C X) w) := by
  have KC := Lib.hid (fun W => rcheck_any C.cl C.cb C.ht C.ri C.ru C.wd C.dp W)
  have KM := Lib.hid (fun W => u_mayBox C X W)
  have IF := BoxR.may_iff C X
  have htwo := checkE_two C.cl C.cb C.ht C.ri C.ru C.wd C.dp
  unfold boxesL boxE CfgR.err
  generalize checkE C.cl C.cb C.ht C.ri C.ru C.wd C.dp = c at *
  rcases htwo with rfl | rfl
  rotate_left
  · rw [if_pos (by decide), if_neg (by decide)]
    clear IF KM
    go_enter Tryz.func17, Tryz.ntmps17
    go_wp2_with fail
    refine Calls.at (fun W hW => ?_)
    have hn : New w W := by subst hW; (repeat (first | (with_reducible exact New.refl _) | (with_reducible assumption) | ((with_reducible refine New.setB ?_ ?_ _); focus (first | omega | (simp; omega) | (simp; done))) | (with_reducible refine New.alloc ?_ _) | (with_reducible refine New.drew ?_) | (with_reducible refine New.drewN ?_ _) | (with_reducible refine New.hat ?_ _) | ((with_reducible apply New.snart); (with_reducible assumption))))
    clear hW
    refine (KC.out _).mono ?_
    rintro e w1 ⟨rfl, n1, -⟩
    replace hn := hn.trans n1
    go_wp2_with fail
    go_ret2
    exact ⟨_, rfl, Sl.nil, hn⟩
  rw [if_neg (by decide)]
  obtain ⟨m, hm⟩ : ∃ m, m = X.may C := ⟨_, rfl⟩
  obtain ⟨t, ht⟩ : ∃ t, t = X.tests C := ⟨_, rfl⟩
  rw [← hm, ← ht] at IF
  rw [← ht] at KM
  rw [← hm]
  clear hm ht
  by_cases hb : t = true ∧ 1 ≤ X.i ∧ X.i ≤ 1073741824
  · obtain rfl := IF.2 hb
    obtain ⟨rfl, h1, h2⟩ := hb
    rw [if_pos rfl, if_pos rfl]
    clear IF
    have q1 : decide (X.i < 1) = false := decide_eq_false (by omega)
    have q2 : decide (1073741824 < X.i) = false := decide_eq_false (by omega)
    go_enter Tryz.func17, Tryz.ntmps17
    go_wp2_with fail
    refine Calls.at (fun W hW => ?_)
    have hn : New w W := by subst hW; (repeat (first | (with_reducible exact New.refl _) | (with_reducible assumption) | ((with_reducible refine New.setB ?_ ?_ _); focus (first | omega | (simp; omega) | (simp; done))) | (with_reducible refine New.alloc ?_ _) | (with_reducible refine New.drew ?_) | (with_reducible refine New.drewN ?_ _) | (with_reducible refine New.hat ?_ _) | ((with_reducible apply New.snart); (with_reducible assumption))))
    ((have c0 : W.cell? ⟨w.heap.size, 0, none⟩ = some (.int .i64 C.cl) := (by subst hW; go_simp)); (have c1 : W.cell? ⟨w.heap.size, 1, none⟩ = some (.int .i64 C.cb) := (by subst hW; go_simp)); (have c2 : W.cell? ⟨w.heap.size, 2, none⟩ = some (.int .i64 C.ht) := (by subst hW; go_simp)); (have c3 : W.cell? ⟨w.heap.size, 3, none⟩ = some (.int .i64 C.ri) := (by subst hW; go_simp)); (have c4 : W.cell? ⟨w.heap.size, 4, none⟩ = some (.int .i64 C.ru) := (by subst hW; go_simp)); (have c5 : W.cell? ⟨w.heap.size, 5, none⟩ = some (.int .i64 C.wd) := (by subst hW; go_simp)); (have c6 : W.cell? ⟨w.heap.size, 6, none⟩ = some (.int .i64 C.dp) := (by subst hW; go_simp)))
    ((have d0 : (W).cell? ⟨w.heap.size + 1, 0, none⟩ = some (.int .i64 X.i) := (by subst hW; go_simp)); (have d1 : (W).cell? ⟨w.heap.size + 1, 1, none⟩ = some (.int .i64 X.x0) := (by subst hW; go_simp)); (have d2 : (W).cell? ⟨w.heap.size + 1, 2, none⟩ = some (.int .i64 X.z0) := (by subst hW; go_simp)); (have d3 : (W).cell? ⟨w.heap.size + 1, 3, none⟩ = some (.int .i64 X.x1) := (by subst hW; go_simp)); (have d4 : (W).cell? ⟨w.heap.size + 1, 4, none⟩ = some (.int .i64 X.z1) := (by subst hW; go_simp)); (have d5 : (W).cell? ⟨w.heap.size + 1, 5, none⟩ = some (.int .i64 X.y0) := (by subst hW; go_simp)); (have d6 : (W).cell? ⟨w.heap.size + 1, 6, none⟩ = some (.int .i64 X.y1) := (by subst hW; go_simp)); (have d7 : (W).cell? ⟨w.heap.size + 1, 7, none⟩ = some (.int .i64 X.ar) := (by subst hW; go_simp)))
    clear hW
    refine (KC.out _).mono ?_
    rintro e w1 ⟨rfl, n1, -⟩
    ((replace c0 := New.keep n1 c0); (replace c1 := New.keep n1 c1); (replace c2 := New.keep n1 c2); (replace c3 := New.keep n1 c3); (replace c4 := New.keep n1 c4); (replace c5 := New.keep n1 c5); (replace c6 := New.keep n1 c6))
    ((replace d0 := New.keep n1 d0); (replace d1 := New.keep n1 d1); (replace d2 := New.keep n1 d2); (replace d3 := New.keep n1 d3); (replace d4 := New.keep n1 d4); (replace d5 := New.keep n1 d5); (replace d6 := New.keep n1 d6); (replace d7 := New.keep n1 d7))
    replace hn := hn.trans n1
    clear n1 KC
    go_wp2_with fail
    refine (KM.out _).mono ?_
    rintro e w2 ⟨rfl, n1⟩
    ((replace c0 := New.keep n1 c0); (replace c1 := New.keep n1 c1); (replace c2 := New.keep n1 c2); (replace c3 := New.keep n1 c3); (replace c4 := New.keep n1 c4); (replace c5 := New.keep n1 c5); (replace c6 := New.keep n1 c6))
    ((replace d0 := New.keep n1 d0); (replace d1 := New.keep n1 d1); (replace d2 := New.keep n1 d2); (replace d3 := New.keep n1 d3); (replace d4 := New.keep n1 d4); (replace d5 := New.keep n1 d5); (replace d6 := New.keep n1 d6); (replace d7 := New.keep n1 d7))
    replace hn := hn.trans n1
    clear n1 KM
    go_wp2_with fail
    refine Calls.at (fun W hW => ?_)
    replace hn : New w W := by subst hW; (repeat (first | (with_reducible exact New.refl _) | (with_reducible assumption) | ((with_reducible refine New.setB ?_ ?_ _); focus (first | omega | (simp; omega) | (simp; done))) | (with_reducible refine New.alloc ?_ _) | (with_reducible refine New.drew ?_) | (with_reducible refine New.drewN ?_ _) | (with_reducible refine New.hat ?_ _) | ((with_reducible apply New.snart); (with_reducible assumption))))
    clear hW c0 c1 c2 c3 c4 c5 c6 d0 d1 d2 d3 d4 d5 d6 d7
    refine (rAll_any C.cl C.cb C.ht C.ri C.ru C.wd C.dp X.x0 X.z0 X.x1 X.z1 W).mono ?_
    rintro e w4 ⟨v, rfl, hrow, n4⟩
    go_wp2_with fail
    go_ret2
    exact ⟨_, rfl, own_sl iE_len hrow, hn.trans n4⟩
  · have hm : m = false := notTrue (fun h => hb (IF.1 h))
    subst hm
    rw [if_neg (by decide), if_neg (by decide)]
    clear IF
    go_enter Tryz.func17, Tryz.ntmps17
    go_wp2_with fail
    refine Calls.at (fun W hW => ?_)
    have hn : New w W := by subst hW; (repeat (first | (with_reducible exact New.refl _) | (with_reducible assumption) | ((with_reducible refine New.setB ?_ ?_ _); focus (first | omega | (simp; omega) | (simp; done))) | (with_reducible refine New.alloc ?_ _) | (with_reducible refine New.drew ?_) | (with_reducible refine New.drewN ?_ _) | (with_reducible refine New.hat ?_ _) | ((with_reducible apply New.snart); (with_reducible assumption))))
    ((have c0 : W.cell? ⟨w.heap.size, 0, none⟩ = some (.int .i64 C.cl) := (by subst hW; go_simp)); (have c1 : W.cell? ⟨w.heap.size, 1, none⟩ = some (.int .i64 C.cb) := (by subst hW; go_simp)); (have c2 : W.cell? ⟨w.heap.size, 2, none⟩ = some (.int .i64 C.ht) := (by subst hW; go_simp)); (have c3 : W.cell? ⟨w.heap.size, 3, none⟩ = some (.int .i64 C.ri) := (by subst hW; go_simp)); (have c4 : W.cell? ⟨w.heap.size, 4, none⟩ = some (.int .i64 C.ru) := (by subst hW; go_simp)); (have c5 : W.cell? ⟨w.heap.size, 5, none⟩ = some (.int .i64 C.wd) := (by subst hW; go_simp)); (have c6 : W.cell? ⟨w.heap.size, 6, none⟩ = some (.int .i64 C.dp) := (by subst hW; go_simp)))
    ((have d0 : (W).cell? ⟨w.heap.size + 1, 0, none⟩ = some (.int .i64 X.i) := (by subst hW; go_simp)); (have d1 : (W).cell? ⟨w.heap.size + 1, 1, none⟩ = some (.int .i64 X.x0) := (by subst hW; go_simp)); (have d2 : (W).cell? ⟨w.heap.size + 1, 2, none⟩ = some (.int .i64 X.z0) := (by subst hW; go_simp)); (have d3 : (W).cell? ⟨w.heap.size + 1, 3, none⟩ = some (.int .i64 X.x1) := (by subst hW; go_simp)); (have d4 : (W).cell? ⟨w.heap.size + 1, 4, none⟩ = some (.int .i64 X.z1) := (by subst hW; go_simp)); (have d5 : (W).cell? ⟨w.heap.size + 1, 5, none⟩ = some (.int .i64 X.y0) := (by subst hW; go_simp)); (have d6 : (W).cell? ⟨w.heap.size + 1, 6, none⟩ = some (.int .i64 X.y1) := (by subst hW; go_simp)); (have d7 : (W).cell? ⟨w.heap.size + 1, 7, none⟩ = some (.int .i64 X.ar) := (by subst hW; go_simp)))
    clear hW
    refine (KC.out _).mono ?_
    rintro e w1 ⟨rfl, n1, -⟩
    ((replace c0 := New.keep n1 c0); (replace c1 := New.keep n1 c1); (replace c2 := New.keep n1 c2); (replace c3 := New.keep n1 c3); (replace c4 := New.keep n1 c4); (replace c5 := New.keep n1 c5); (replace c6 := New.keep n1 c6))
    ((replace d0 := New.keep n1 d0); (replace d1 := New.keep n1 d1); (replace d2 := New.keep n1 d2); (replace d3 := New.keep n1 d3); (replace d4 := New.keep n1 d4); (replace d5 := New.keep n1 d5); (replace d6 := New.keep n1 d6); (replace d7 := New.keep n1 d7))
    replace hn := hn.trans n1
    clear n1 KC
    cases t with
    | false =>
      clear hb
      go_wp2_with fail
      refine (KM.out _).mono ?_
      rintro e w2 ⟨rfl, n1⟩
      replace hn := hn.trans n1
      go_wp2_with fail
      go_ret2
      exact ⟨_, rfl, Sl.nil, hn⟩
    | true =>
      by_cases h1 : X.i < 1
      · have q1 : decide (X.i < 1) = true := decide_eq_true h1
        clear h1 hb
        go_wp2_with fail
        refine (KM.out _).mono ?_
        rintro e w2 ⟨rfl, n1⟩
        ((replace d0 := New.keep n1 d0); (replace d1 := New.keep n1 d1); (replace d2 := New.keep n1 d2); (replace d3 := New.keep n1 d3); (replace d4 := New.keep n1 d4); (replace d5 := New.keep n1 d5); (replace d6 := New.keep n1 d6); (replace d7 := New.keep n1 d7))
        replace hn := hn.trans n1
        go_wp2_with fail
        go_ret2
        exact ⟨_, rfl, Sl.nil, hn⟩
      · have q1 : decide (X.i < 1) = false := decide_eq_false h1
        have h2 : ¬ X.i ≤ 1073741824 := fun h => hb ⟨rfl, by omega, h⟩
        have q2 : decide (1073741824 < X.i) = true := decide_eq_true (by omega)
        clear h1 hb
        go_wp2_with fail
        refine (KM.out _).mono ?_
        rintro e w2 ⟨rfl, n1⟩
        ((replace d0 := New.keep n1 d0); (replace d1 := New.keep n1 d1); (replace d2 := New.keep n1 d2); (replace d3 := New.keep n1 d3); (replace d4 := New.keep n1 d4); (replace d5 := New.keep n1 d5); (replace d6 := New.keep n1 d6); (replace d7 := New.keep n1 d7))
        replace hn := hn.trans n1
        go_wp2_with fail
        go_ret2
        exact ⟨_, rfl, Sl.nil, hn⟩

end Go.Proofs.YtdbhlepbaepngaaGreatDoor
