/- The document's package of soups: whether a box, a triangle, a hop may be. -/
import Derived.Test.YtonngfogbnfbnaaDoorSoD
import Derived.Test.YtonngfogbnfbnaaDoorWholeJ
namespace Go.Proofs.YtonngfogbnfbnaaDoor
open Go.RowKit
set_option linter.unusedVariables false
set_option maxRecDepth 100000

def heiB (y : Int) : Bool := decide (-2048 ≤ y ∧ y ≤ 2048)
def idB (i : Int) : Bool := decide (1 ≤ i ∧ i ≤ 1073741824)

theorem u_height (y : Int) (w : World) : Calls Tryd.prog 53 #[.int .i64 y] w fun e w' => e = .returned (.bool (heiB y)) ∧ New w w' := by
  unfold heiB
  go_enter Tryd.func53, Tryd.ntmps53
  go_wp2_with fail
  all_goals
    go_ret
    refine ⟨congrArg (fun b => Ending.returned (.bool b)) ?_, New.refl _⟩
    rw [Bool.eq_iff_iff]
    simp only [Bool.and_eq_true, decide_eq_true_eq, Bool.false_eq_true, false_iff]
    omega

theorem BoxR.tests_iff (C : CfgR) (X : BoxR) : X.tests C = true ↔ 0 ≤ X.x0 ∧ X.x0 ≤ X.x1 ∧ X.x1 < C.wd ∧ 0 ≤ X.z0 ∧ X.z0 ≤ X.z1 ∧ X.z1 < C.dp ∧ heiB X.y0 = true ∧ X.y0 ≤ X.y1 ∧ heiB X.y1 = true ∧ 0 ≤ X.ar ∧ X.ar ≤ 7 := by
  simp only [BoxR.tests, ordB, heiB, Bool.and_eq_true, decide_eq_true_eq, Bool.and_true]
  omega
theorem notTrue {b : Bool} (h : ¬ b = true) : b = false := by cases b <;> simp_all

set_option maxHeartbeats 4000000 in
theorem u_mayBox (C : CfgR) (X : BoxR) (w : World) :
    Calls Tryd.prog 33 #[.agg #[.int .i64 C.cl, .int .i64 C.cb, .int .i64 C.ht, .int .i64 C.ri, .int .i64 C.ru, .int .i64 C.wd, .int .i64 C.dp], .agg #[.int .i64 X.i, .int .i64 X.x0, .int .i64 X.z0, .int .i64 X.x1, .int .i64 X.z1, .int .i64 X.y0, .int .i64 X.y1, .int .i64 X.ar]] w fun e w' => e = .returned (.bool (X.tests C)) ∧ New w w' := by
  have K0 := Lib.hid (fun W => u_height X.y0 W)
  have K1 := Lib.hid (fun W => u_height X.y1 W)
  have IF := Lib.hid (BoxR.tests_iff C X)

  by_cases p0 : 0 ≤ X.x0
  rotate_left
  · have q0 : decide (0 ≤ X.x0) = false := decide_eq_false p0
    have E : X.tests C = false := notTrue (fun h => p0 (IF.out.1 h).1)
    rw [E]
    clear E IF p0
    go_enter Tryd.func33, Tryd.ntmps33
    go_wp2_with fail
    go_ret
    exact ⟨rfl, by (repeat (first | (with_reducible exact New.refl _) | (with_reducible assumption) | ((with_reducible refine New.setB ?_ ?_ _); focus (first | omega | (simp; omega) | (simp; done))) | (with_reducible refine New.alloc ?_ _) | (with_reducible refine New.drew ?_) | (with_reducible refine New.drewN ?_ _) | (with_reducible refine New.hat ?_ _) | ((with_reducible apply New.snart); (with_reducible assumption))))⟩
  by_cases p1 : X.x0 ≤ X.x1
  rotate_left
  · have q0 : decide (0 ≤ X.x0) = true := decide_eq_true p0
    have q1 : decide (X.x0 ≤ X.x1) = false := decide_eq_false p1
    have E : X.tests C = false := notTrue (fun h => p1 (IF.out.1 h).2.1)
    rw [E]
    clear E IF p0 p1
    go_enter Tryd.func33, Tryd.ntmps33
    go_wp2_with fail
    go_ret
    exact ⟨rfl, by (repeat (first | (with_reducible exact New.refl _) | (with_reducible assumption) | ((with_reducible refine New.setB ?_ ?_ _); focus (first | omega | (simp; omega) | (simp; done))) | (with_reducible refine New.alloc ?_ _) | (with_reducible refine New.drew ?_) | (with_reducible refine New.drewN ?_ _) | (with_reducible refine New.hat ?_ _) | ((with_reducible apply New.snart); (with_reducible assumption))))⟩
  by_cases p2 : X.x1 < C.wd
  rotate_left
  · have q0 : decide (0 ≤ X.x0) = true := decide_eq_true p0
    have q1 : decide (X.x0 ≤ X.x1) = true := decide_eq_true p1
    have q2 : decide (X.x1 < C.wd) = false := decide_eq_false p2
    have E : X.tests C = false := notTrue (fun h => p2 (IF.out.1 h).2.2.1)
    rw [E]
    clear E IF p0 p1 p2
    go_enter Tryd.func33, Tryd.ntmps33
    go_wp2_with fail
    go_ret
    exact ⟨rfl, by (repeat (first | (with_reducible exact New.refl _) | (with_reducible assumption) | ((with_reducible refine New.setB ?_ ?_ _); focus (first | omega | (simp; omega) | (simp; done))) | (with_reducible refine New.alloc ?_ _) | (with_reducible refine New.drew ?_) | (with_reducible refine New.drewN ?_ _) | (with_reducible refine New.hat ?_ _) | ((with_reducible apply New.snart); (with_reducible assumption))))⟩
  by_cases p3 : 0 ≤ X.z0
  rotate_left
  · have q0 : decide (0 ≤ X.x0) = true := decide_eq_true p0
    have q1 : decide (X.x0 ≤ X.x1) = true := decide_eq_true p1
    have q2 : decide (X.x1 < C.wd) = true := decide_eq_true p2
    have q3 : decide (0 ≤ X.z0) = false := decide_eq_false p3
    have E : X.tests C = false := notTrue (fun h => p3 (IF.out.1 h).2.2.2.1)
    rw [E]
    clear E IF p0 p1 p2 p3
    go_enter Tryd.func33, Tryd.ntmps33
    go_wp2_with fail
    go_ret
    exact ⟨rfl, by (repeat (first | (with_reducible exact New.refl _) | (with_reducible assumption) | ((with_reducible refine New.setB ?_ ?_ _); focus (first | omega | (simp; omega) | (simp; done))) | (with_reducible refine New.alloc ?_ _) | (with_reducible refine New.drew ?_) | (with_reducible refine New.drewN ?_ _) | (with_reducible refine New.hat ?_ _) | ((with_reducible apply New.snart); (with_reducible assumption))))⟩
  by_cases p4 : X.z0 ≤ X.z1
  rotate_left
  · have q0 : decide (0 ≤ X.x0) = true := decide_eq_true p0
    have q1 : decide (X.x0 ≤ X.x1) = true := decide_eq_true p1
    have q2 : decide (X.x1 < C.wd) = true := decide_eq_true p2
    have q3 : decide (0 ≤ X.z0) = true := decide_eq_true p3
    have q4 : decide (X.z0 ≤ X.z1) = false := decide_eq_false p4
    have E : X.tests C = false := notTrue (fun h => p4 (IF.out.1 h).2.2.2.2.1)
    rw [E]
    clear E IF p0 p1 p2 p3 p4
    go_enter Tryd.func33, Tryd.ntmps33
    go_wp2_with fail
    go_ret
    exact ⟨rfl, by (repeat (first | (with_reducible exact New.refl _) | (with_reducible assumption) | ((with_reducible refine New.setB ?_ ?_ _); focus (first | omega | (simp; omega) | (simp; done))) | (with_reducible refine New.alloc ?_ _) | (with_reducible refine New.drew ?_) | (with_reducible refine New.drewN ?_ _) | (with_reducible refine New.hat ?_ _) | ((with_reducible apply New.snart); (with_reducible assumption))))⟩
  by_cases p5 : X.z1 < C.dp
  rotate_left
  · have q0 : decide (0 ≤ X.x0) = true := decide_eq_true p0
    have q1 : decide (X.x0 ≤ X.x1) = true := decide_eq_true p1
    have q2 : decide (X.x1 < C.wd) = true := decide_eq_true p2
    have q3 : decide (0 ≤ X.z0) = true := decide_eq_true p3
    have q4 : decide (X.z0 ≤ X.z1) = true := decide_eq_true p4
    have q5 : decide (X.z1 < C.dp) = false := decide_eq_false p5
    have E : X.tests C = false := notTrue (fun h => p5 (IF.out.1 h).2.2.2.2.2.1)
    rw [E]
    clear E IF p0 p1 p2 p3 p4 p5
    go_enter Tryd.func33, Tryd.ntmps33
    go_wp2_with fail
    go_ret
    exact ⟨rfl, by (repeat (first | (with_reducible exact New.refl _) | (with_reducible assumption) | ((with_reducible refine New.setB ?_ ?_ _); focus (first | omega | (simp; omega) | (simp; done))) | (with_reducible refine New.alloc ?_ _) | (with_reducible refine New.drew ?_) | (with_reducible refine New.drewN ?_ _) | (with_reducible refine New.hat ?_ _) | ((with_reducible apply New.snart); (with_reducible assumption))))⟩
  by_cases p6 : heiB X.y0 = true
  rotate_left
  · have q0 : decide (0 ≤ X.x0) = true := decide_eq_true p0
    have q1 : decide (X.x0 ≤ X.x1) = true := decide_eq_true p1
    have q2 : decide (X.x1 < C.wd) = true := decide_eq_true p2
    have q3 : decide (0 ≤ X.z0) = true := decide_eq_true p3
    have q4 : decide (X.z0 ≤ X.z1) = true := decide_eq_true p4
    have q5 : decide (X.z1 < C.dp) = true := decide_eq_true p5
    have q6 := notTrue p6
    have E : X.tests C = false := notTrue (fun h => p6 (IF.out.1 h).2.2.2.2.2.2.1)
    rw [E]
    clear E IF p0 p1 p2 p3 p4 p5 p6
    rw [q6] at K0
    go_enter Tryd.func33, Tryd.ntmps33
    go_wp2_with fail
    refine Calls.at (fun W hW => ?_)
    have d5 : W.cell? ⟨w.heap.size + 1, 5, none⟩ = some (.int .i64 X.y0) := by subst hW; go_simp
    have d6 : W.cell? ⟨w.heap.size + 1, 6, none⟩ = some (.int .i64 X.y1) := by subst hW; go_simp
    have d7 : W.cell? ⟨w.heap.size + 1, 7, none⟩ = some (.int .i64 X.ar) := by subst hW; go_simp
    have hn : New w W := by subst hW; (repeat (first | (with_reducible exact New.refl _) | (with_reducible assumption) | ((with_reducible refine New.setB ?_ ?_ _); focus (first | omega | (simp; omega) | (simp; done))) | (with_reducible refine New.alloc ?_ _) | (with_reducible refine New.drew ?_) | (with_reducible refine New.drewN ?_ _) | (with_reducible refine New.hat ?_ _) | ((with_reducible apply New.snart); (with_reducible assumption))))
    clear hW
    refine (K0.out _).mono ?_
    rintro e w1 ⟨rfl, n1⟩
    replace d5 := n1.keep d5
    replace d6 := n1.keep d6
    replace d7 := n1.keep d7
    replace hn := hn.trans n1
    go_wp2_with fail
    go_ret
    exact ⟨rfl, hn⟩
  by_cases p7 : X.y0 ≤ X.y1
  rotate_left
  · have q0 : decide (0 ≤ X.x0) = true := decide_eq_true p0
    have q1 : decide (X.x0 ≤ X.x1) = true := decide_eq_true p1
    have q2 : decide (X.x1 < C.wd) = true := decide_eq_true p2
    have q3 : decide (0 ≤ X.z0) = true := decide_eq_true p3
    have q4 : decide (X.z0 ≤ X.z1) = true := decide_eq_true p4
    have q5 : decide (X.z1 < C.dp) = true := decide_eq_true p5
    have q6 := p6
    have q7 : decide (X.y0 ≤ X.y1) = false := decide_eq_false p7
    have E : X.tests C = false := notTrue (fun h => p7 (IF.out.1 h).2.2.2.2.2.2.2.1)
    rw [E]
    clear E IF p0 p1 p2 p3 p4 p5 p6 p7
    rw [q6] at K0
    go_enter Tryd.func33, Tryd.ntmps33
    go_wp2_with fail
    refine Calls.at (fun W hW => ?_)
    have d5 : W.cell? ⟨w.heap.size + 1, 5, none⟩ = some (.int .i64 X.y0) := by subst hW; go_simp
    have d6 : W.cell? ⟨w.heap.size + 1, 6, none⟩ = some (.int .i64 X.y1) := by subst hW; go_simp
    have d7 : W.cell? ⟨w.heap.size + 1, 7, none⟩ = some (.int .i64 X.ar) := by subst hW; go_simp
    have hn : New w W := by subst hW; (repeat (first | (with_reducible exact New.refl _) | (with_reducible assumption) | ((with_reducible refine New.setB ?_ ?_ _); focus (first | omega | (simp; omega) | (simp; done))) | (with_reducible refine New.alloc ?_ _) | (with_reducible refine New.drew ?_) | (with_reducible refine New.drewN ?_ _) | (with_reducible refine New.hat ?_ _) | ((with_reducible apply New.snart); (with_reducible assumption))))
    clear hW
    refine (K0.out _).mono ?_
    rintro e w1 ⟨rfl, n1⟩
    replace d5 := n1.keep d5
    replace d6 := n1.keep d6
    replace d7 := n1.keep d7
    replace hn := hn.trans n1
    go_wp2_with fail
    go_ret
    exact ⟨rfl, hn⟩
  by_cases p8 : heiB X.y1 = true
  rotate_left
  · have q0 : decide (0 ≤ X.x0) = true := decide_eq_true p0
    have q1 : decide (X.x0 ≤ X.x1) = true := decide_eq_true p1
    have q2 : decide (X.x1 < C.wd) = true := decide_eq_true p2
    have q3 : decide (0 ≤ X.z0) = true := decide_eq_true p3
    have q4 : decide (X.z0 ≤ X.z1) = true := decide_eq_true p4
    have q5 : decide (X.z1 < C.dp) = true := decide_eq_true p5
    have q6 := p6
    have q7 : decide (X.y0 ≤ X.y1) = true := decide_eq_true p7
    have q8 := notTrue p8
    have E : X.tests C = false := notTrue (fun h => p8 (IF.out.1 h).2.2.2.2.2.2.2.2.1)
    rw [E]
    clear E IF p0 p1 p2 p3 p4 p5 p6 p7 p8
    rw [q6] at K0
    rw [q8] at K1
    go_enter Tryd.func33, Tryd.ntmps33
    go_wp2_with fail
    refine Calls.at (fun W hW => ?_)
    have d5 : W.cell? ⟨w.heap.size + 1, 5, none⟩ = some (.int .i64 X.y0) := by subst hW; go_simp
    have d6 : W.cell? ⟨w.heap.size + 1, 6, none⟩ = some (.int .i64 X.y1) := by subst hW; go_simp
    have d7 : W.cell? ⟨w.heap.size + 1, 7, none⟩ = some (.int .i64 X.ar) := by subst hW; go_simp
    have hn : New w W := by subst hW; (repeat (first | (with_reducible exact New.refl _) | (with_reducible assumption) | ((with_reducible refine New.setB ?_ ?_ _); focus (first | omega | (simp; omega) | (simp; done))) | (with_reducible refine New.alloc ?_ _) | (with_reducible refine New.drew ?_) | (with_reducible refine New.drewN ?_ _) | (with_reducible refine New.hat ?_ _) | ((with_reducible apply New.snart); (with_reducible assumption))))
    clear hW
    refine (K0.out _).mono ?_
    rintro e w1 ⟨rfl, n1⟩
    replace d5 := n1.keep d5
    replace d6 := n1.keep d6
    replace d7 := n1.keep d7
    replace hn := hn.trans n1
    go_wp2_with fail
    refine (K1.out _).mono ?_
    rintro e w2 ⟨rfl, n2⟩
    replace d7 := n2.keep d7
    replace hn := hn.trans n2
    go_wp2_with fail
    go_ret
    exact ⟨rfl, hn⟩
  by_cases p9 : 0 ≤ X.ar
  rotate_left
  · have q0 : decide (0 ≤ X.x0) = true := decide_eq_true p0
    have q1 : decide (X.x0 ≤ X.x1) = true := decide_eq_true p1
    have q2 : decide (X.x1 < C.wd) = true := decide_eq_true p2
    have q3 : decide (0 ≤ X.z0) = true := decide_eq_true p3
    have q4 : decide (X.z0 ≤ X.z1) = true := decide_eq_true p4
    have q5 : decide (X.z1 < C.dp) = true := decide_eq_true p5
    have q6 := p6
    have q7 : decide (X.y0 ≤ X.y1) = true := decide_eq_true p7
    have q8 := p8
    have q9 : decide (0 ≤ X.ar) = false := decide_eq_false p9
    have E : X.tests C = false := notTrue (fun h => p9 (IF.out.1 h).2.2.2.2.2.2.2.2.2.1)
    rw [E]
    clear E IF p0 p1 p2 p3 p4 p5 p6 p7 p8 p9
    rw [q6] at K0
    rw [q8] at K1
    go_enter Tryd.func33, Tryd.ntmps33
    go_wp2_with fail
    refine Calls.at (fun W hW => ?_)
    have d5 : W.cell? ⟨w.heap.size + 1, 5, none⟩ = some (.int .i64 X.y0) := by subst hW; go_simp
    have d6 : W.cell? ⟨w.heap.size + 1, 6, none⟩ = some (.int .i64 X.y1) := by subst hW; go_simp
    have d7 : W.cell? ⟨w.heap.size + 1, 7, none⟩ = some (.int .i64 X.ar) := by subst hW; go_simp
    have hn : New w W := by subst hW; (repeat (first | (with_reducible exact New.refl _) | (with_reducible assumption) | ((with_reducible refine New.setB ?_ ?_ _); focus (first | omega | (simp; omega) | (simp; done))) | (with_reducible refine New.alloc ?_ _) | (with_reducible refine New.drew ?_) | (with_reducible refine New.drewN ?_ _) | (with_reducible refine New.hat ?_ _) | ((with_reducible apply New.snart); (with_reducible assumption))))
    clear hW
    refine (K0.out _).mono ?_
    rintro e w1 ⟨rfl, n1⟩
    replace d5 := n1.keep d5
    replace d6 := n1.keep d6
    replace d7 := n1.keep d7
    replace hn := hn.trans n1
    go_wp2_with fail
    refine (K1.out _).mono ?_
    rintro e w2 ⟨rfl, n2⟩
    replace d7 := n2.keep d7
    replace hn := hn.trans n2
    go_wp2_with fail
    go_ret
    exact ⟨rfl, hn⟩
  by_cases p10 : X.ar ≤ 7
  rotate_left
  · have q0 : decide (0 ≤ X.x0) = true := decide_eq_true p0
    have q1 : decide (X.x0 ≤ X.x1) = true := decide_eq_true p1
    have q2 : decide (X.x1 < C.wd) = true := decide_eq_true p2
    have q3 : decide (0 ≤ X.z0) = true := decide_eq_true p3
    have q4 : decide (X.z0 ≤ X.z1) = true := decide_eq_true p4
    have q5 : decide (X.z1 < C.dp) = true := decide_eq_true p5
    have q6 := p6
    have q7 : decide (X.y0 ≤ X.y1) = true := decide_eq_true p7
    have q8 := p8
    have q9 : decide (0 ≤ X.ar) = true := decide_eq_true p9
    have q10 : decide (X.ar ≤ 7) = false := decide_eq_false p10
    have E : X.tests C = false := notTrue (fun h => p10 (IF.out.1 h).2.2.2.2.2.2.2.2.2.2)
    rw [E]
    clear E IF p0 p1 p2 p3 p4 p5 p6 p7 p8 p9 p10
    rw [q6] at K0
    rw [q8] at K1
    go_enter Tryd.func33, Tryd.ntmps33
    go_wp2_with fail
    refine Calls.at (fun W hW => ?_)
    have d5 : W.cell? ⟨w.heap.size + 1, 5, none⟩ = some (.int .i64 X.y0) := by subst hW; go_simp
    have d6 : W.cell? ⟨w.heap.size + 1, 6, none⟩ = some (.int .i64 X.y1) := by subst hW; go_simp
    have d7 : W.cell? ⟨w.heap.size + 1, 7, none⟩ = some (.int .i64 X.ar) := by subst hW; go_simp
    have hn : New w W := by subst hW; (repeat (first | (with_reducible exact New.refl _) | (with_reducible assumption) | ((with_reducible refine New.setB ?_ ?_ _); focus (first | omega | (simp; omega) | (simp; done))) | (with_reducible refine New.alloc ?_ _) | (with_reducible refine New.drew ?_) | (with_reducible refine New.drewN ?_ _) | (with_reducible refine New.hat ?_ _) | ((with_reducible apply New.snart); (with_reducible assumption))))
    clear hW
    refine (K0.out _).mono ?_
    rintro e w1 ⟨rfl, n1⟩
    replace d5 := n1.keep d5
    replace d6 := n1.keep d6
    replace d7 := n1.keep d7
    replace hn := hn.trans n1
    go_wp2_with fail
    refine (K1.out _).mono ?_
    rintro e w2 ⟨rfl, n2⟩
    replace d7 := n2.keep d7
    replace hn := hn.trans n2
    go_wp2_with fail
    go_ret
    exact ⟨rfl, hn⟩
  have q0 : decide (0 ≤ X.x0) = true := decide_eq_true p0
  have q1 : decide (X.x0 ≤ X.x1) = true := decide_eq_true p1
  have q2 : decide (X.x1 < C.wd) = true := decide_eq_true p2
  have q3 : decide (0 ≤ X.z0) = true := decide_eq_true p3
  have q4 : decide (X.z0 ≤ X.z1) = true := decide_eq_true p4
  have q5 : decide (X.z1 < C.dp) = true := decide_eq_true p5
  have q6 := p6
  have q7 : decide (X.y0 ≤ X.y1) = true := decide_eq_true p7
  have q8 := p8
  have q9 : decide (0 ≤ X.ar) = true := decide_eq_true p9
  have q10 : decide (X.ar ≤ 7) = true := decide_eq_true p10
  have E : X.tests C = true := IF.out.2 ⟨p0, p1, p2, p3, p4, p5, p6, p7, p8, p9, p10⟩
  rw [E]
  clear E IF p0 p1 p2 p3 p4 p5 p6 p7 p8 p9 p10
  rw [q6] at K0
  rw [q8] at K1
  go_enter Tryd.func33, Tryd.ntmps33
  go_wp2_with fail
  refine Calls.at (fun W hW => ?_)
  have d5 : W.cell? ⟨w.heap.size + 1, 5, none⟩ = some (.int .i64 X.y0) := by subst hW; go_simp
  have d6 : W.cell? ⟨w.heap.size + 1, 6, none⟩ = some (.int .i64 X.y1) := by subst hW; go_simp
  have d7 : W.cell? ⟨w.heap.size + 1, 7, none⟩ = some (.int .i64 X.ar) := by subst hW; go_simp
  have hn : New w W := by subst hW; (repeat (first | (with_reducible exact New.refl _) | (with_reducible assumption) | ((with_reducible refine New.setB ?_ ?_ _); focus (first | omega | (simp; omega) | (simp; done))) | (with_reducible refine New.alloc ?_ _) | (with_reducible refine New.drew ?_) | (with_reducible refine New.drewN ?_ _) | (with_reducible refine New.hat ?_ _) | ((with_reducible apply New.snart); (with_reducible assumption))))
  clear hW
  refine (K0.out _).mono ?_
  rintro e w1 ⟨rfl, n1⟩
  replace d5 := n1.keep d5
  replace d6 := n1.keep d6
  replace d7 := n1.keep d7
  replace hn := hn.trans n1
  go_wp2_with fail
  refine (K1.out _).mono ?_
  rintro e w2 ⟨rfl, n2⟩
  replace d7 := n2.keep d7
  replace hn := hn.trans n2
  go_wp2_with fail
  go_ret
  exact ⟨rfl, hn⟩

end Go.Proofs.YtonngfogbnfbnaaDoor
