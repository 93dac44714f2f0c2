import Derived.Test.YtonngfogbnfbnaaGreatSoDZ8
import Derived.Test.YtonngfogbnfbnaaGreatSoETZ8
import Derived.Test.YtonngfogbnfbnaaGreatSoEBZ8
import Derived.Test.YtonngfogbnfbnaaGreatSoEHZ8

/- The document's package of soups: whether a box, a triangle, a hop may be. -/
namespace Go.Proofs.YtonngfogbnfbnaaGreat
open Go.RowKit
set_option linter.unusedVariables false
set_option maxRecDepth 100000

def heiB (y : Int) : Bool := decide (-2048 ≤ y ∧ y ≤ 2048)
def idB (i : Int) : Bool := decide (1 ≤ i ∧ i ≤ 1073741824)

theorem u_height (y : Int) (w : World) : Calls Tryz.prog 84 #[.int .i64 y] w fun e w' => e = .returned (.bool (heiB y)) ∧ New w w' := by
  unfold heiB
  go_enter Tryz.func84, Tryz.ntmps84
  go_wp2_with fail
  all_goals
    go_ret
    refine ⟨congrArg (fun b => Ending.returned (.bool b)) ?_, New.refl _⟩
    rw [Bool.eq_iff_iff]
    simp only [Bool.and_eq_true, decide_eq_true_eq, Bool.false_eq_true, false_iff]
    omega

theorem u_id (y : Int) (w : World) : Calls Tryz.prog 40 #[.int .i64 y] w fun e w' => e = .returned (.bool (idB y)) ∧ New w w' := by
  unfold idB
  go_enter Tryz.func40, Tryz.ntmps40
  go_wp2_with fail
  all_goals
    go_ret
    refine ⟨congrArg (fun b => Ending.returned (.bool b)) ?_, New.refl _⟩
    rw [Bool.eq_iff_iff]
    simp only [Bool.and_eq_true, decide_eq_true_eq, Bool.false_eq_true, false_iff]
    omega

theorem BoxR.tests_iff (C : CfgR) (X : BoxR) : X.tests C = true ↔ 0 ≤ X.x0 ∧ X.x0 ≤ X.x1 ∧ X.x1 < C.wd ∧ 0 ≤ X.z0 ∧ X.z0 ≤ X.z1 ∧ X.z1 < C.dp ∧ heiB X.y0 = true ∧ X.y0 ≤ X.y1 ∧ heiB X.y1 = true ∧ 0 ≤ X.ar ∧ X.ar ≤ 7 := by
  simp only [BoxR.tests, ordB, heiB, Bool.and_eq_true, decide_eq_true_eq, Bool.and_true]
  omega
theorem notTrue {b : Bool} (h : ¬ b = true) : b = false := by cases b <;> simp_all

set_option maxHeartbeats 4000000 in
theorem u_mayBox (C : CfgR) (X : BoxR) (w : World) :
    Calls Tryz.prog 42 #[.agg #[.int .i64 C.cl, .int .i64 C.cb, .int .i64 C.ht, .int .i64 C.ri, .int .i64 C.ru, .int .i64 C.wd, .int .i64 C.dp], .agg #[.int .i64 X.i, .int .i64 X.x0, .int .i64 X.z0, .int .i64 X.x1, .int .i64 X.z1, .int .i64 X.y0, .int .i64 X.y1, .int .i64 X.ar]] w fun e w' => e = .returned (.bool (X.tests C)) ∧ New w w' := by
  have K0 := Lib.hid (fun W => u_height X.y0 W)
  have K1 := Lib.hid (fun W => u_height X.y1 W)
  have IF := Lib.hid (BoxR.tests_iff C X)

  by_cases p0 : 0 ≤ X.x0
  rotate_left
  · have q0 : decide (0 ≤ X.x0) = false := decide_eq_false p0
    have E : X.tests C = false := notTrue (fun h => p0 (IF.out.1 h).1)
    rw [E]
    clear E IF p0
    go_enter Tryz.func42, Tryz.ntmps42
    go_wp2_with fail
    go_ret
    exact ⟨rfl, by (repeat (first | (with_reducible exact New.refl _) | (with_reducible assumption) | ((with_reducible refine New.setB ?_ ?_ _); focus (first | omega | (simp; omega) | (simp; done))) | (with_reducible refine New.alloc ?_ _) | (with_reducible refine New.drew ?_) | (with_reducible refine New.drewN ?_ _) | (with_reducible refine New.hat ?_ _) | ((with_reducible apply New.snart); (with_reducible assumption))))⟩
  by_cases p1 : X.x0 ≤ X.x1
  rotate_left
  · have q0 : decide (0 ≤ X.x0) = true := decide_eq_true p0
    have q1 : decide (X.x0 ≤ X.x1) = false := decide_eq_false p1
    have E : X.tests C = false := notTrue (fun h => p1 (IF.out.1 h).2.1)
    rw [E]
    clear E IF p0 p1
    go_enter Tryz.func42, Tryz.ntmps42
    go_wp2_with fail
    go_ret
    exact ⟨rfl, by (repeat (first | (with_reducible exact New.refl _) | (with_reducible assumption) | ((with_reducible refine New.setB ?_ ?_ _); focus (first | omega | (simp; omega) | (simp; done))) | (with_reducible refine New.alloc ?_ _) | (with_reducible refine New.drew ?_) | (with_reducible refine New.drewN ?_ _) | (with_reducible refine New.hat ?_ _) | ((with_reducible apply New.snart); (with_reducible assumption))))⟩
  by_cases p2 : X.x1 < C.wd
  rotate_left
  · have q0 : decide (0 ≤ X.x0) = true := decide_eq_true p0
    have q1 : decide (X.x0 ≤ X.x1) = true := decide_eq_true p1
    have q2 : decide (X.x1 < C.wd) = false := decide_eq_false p2
    have E : X.tests C = false := notTrue (fun h => p2 (IF.out.1 h).2.2.1)
    rw [E]
    clear E IF p0 p1 p2
    go_enter Tryz.func42, Tryz.ntmps42
    go_wp2_with fail
    go_ret
    exact ⟨rfl, by (repeat (first | (with_reducible exact New.refl _) | (with_reducible assumption) | ((with_reducible refine New.setB ?_ ?_ _); focus (first | omega | (simp; omega) | (simp; done))) | (with_reducible refine New.alloc ?_ _) | (with_reducible refine New.drew ?_) | (with_reducible refine New.drewN ?_ _) | (with_reducible refine New.hat ?_ _) | ((with_reducible apply New.snart); (with_reducible assumption))))⟩
  by_cases p3 : 0 ≤ X.z0
  rotate_left
  · have q0 : decide (0 ≤ X.x0) = true := decide_eq_true p0
    have q1 : decide (X.x0 ≤ X.x1) = true := decide_eq_true p1
    have q2 : decide (X.x1 < C.wd) = true := decide_eq_true p2
    have q3 : decide (0 ≤ X.z0) = false := decide_eq_false p3
    have E : X.tests C = false := notTrue (fun h => p3 (IF.out.1 h).2.2.2.1)
    rw [E]
    clear E IF p0 p1 p2 p3
    go_enter Tryz.func42, Tryz.ntmps42
    go_wp2_with fail
    go_ret
    exact ⟨rfl, by (repeat (first | (with_reducible exact New.refl _) | (with_reducible assumption) | ((with_reducible refine New.setB ?_ ?_ _); focus (first | omega | (simp; omega) | (simp; done))) | (with_reducible refine New.alloc ?_ _) | (with_reducible refine New.drew ?_) | (with_reducible refine New.drewN ?_ _) | (with_reducible refine New.hat ?_ _) | ((with_reducible apply New.snart); (with_reducible assumption))))⟩
  by_cases p4 : X.z0 ≤ X.z1
  rotate_left
  · have q0 : decide (0 ≤ X.x0) = true := decide_eq_true p0
    have q1 : decide (X.x0 ≤ X.x1) = true := decide_eq_true p1
    have q2 : decide (X.x1 < C.wd) = true := decide_eq_true p2
    have q3 : decide (0 ≤ X.z0) = true := decide_eq_true p3
    have q4 : decide (X.z0 ≤ X.z1) = false := decide_eq_false p4
    have E : X.tests C = false := notTrue (fun h => p4 (IF.out.1 h).2.2.2.2.1)
    rw [E]
    clear E IF p0 p1 p2 p3 p4
    go_enter Tryz.func42, Tryz.ntmps42
    go_wp2_with fail
    go_ret
    exact ⟨rfl, by (repeat (first | (with_reducible exact New.refl _) | (with_reducible assumption) | ((with_reducible refine New.setB ?_ ?_ _); focus (first | omega | (simp; omega) | (simp; done))) | (with_reducible refine New.alloc ?_ _) | (with_reducible refine New.drew ?_) | (with_reducible refine New.drewN ?_ _) | (with_reducible refine New.hat ?_ _) | ((with_reducible apply New.snart); (with_reducible assumption))))⟩
  by_cases p5 : X.z1 < C.dp
  rotate_left
  · have q0 : decide (0 ≤ X.x0) = true := decide_eq_true p0
    have q1 : decide (X.x0 ≤ X.x1) = true := decide_eq_true p1
    have q2 : decide (X.x1 < C.wd) = true := decide_eq_true p2
    have q3 : decide (0 ≤ X.z0) = true := decide_eq_true p3
    have q4 : decide (X.z0 ≤ X.z1) = true := decide_eq_true p4
    have q5 : decide (X.z1 < C.dp) = false := decide_eq_false p5
    have E : X.tests C = false := notTrue (fun h => p5 (IF.out.1 h).2.2.2.2.2.1)
    rw [E]
    clear E IF p0 p1 p2 p3 p4 p5
    go_enter Tryz.func42, Tryz.ntmps42
    go_wp2_with fail
    go_ret
    exact ⟨rfl, by (repeat (first | (with_reducible exact New.refl _) | (with_reducible assumption) | ((with_reducible refine New.setB ?_ ?_ _); focus (first | omega | (simp; omega) | (simp; done))) | (with_reducible refine New.alloc ?_ _) | (with_reducible refine New.drew ?_) | (with_reducible refine New.drewN ?_ _) | (with_reducible refine New.hat ?_ _) | ((with_reducible apply New.snart); (with_reducible assumption))))⟩
  by_cases p6 : heiB X.y0 = true
  rotate_left
  · have q0 : decide (0 ≤ X.x0) = true := decide_eq_true p0
    have q1 : decide (X.x0 ≤ X.x1) = true := decide_eq_true p1
    have q2 : decide (X.x1 < C.wd) = true := decide_eq_true p2
    have q3 : decide (0 ≤ X.z0) = true := decide_eq_true p3
    have q4 : decide (X.z0 ≤ X.z1) = true := decide_eq_true p4
    have q5 : decide (X.z1 < C.dp) = true := decide_eq_true p5
    have q6 := notTrue p6
    have E : X.tests C = false := notTrue (fun h => p6 (IF.out.1 h).2.2.2.2.2.2.1)
    rw [E]
    clear E IF p0 p1 p2 p3 p4 p5 p6
    rw [q6] at K0
    go_enter Tryz.func42, Tryz.ntmps42
    go_wp2_with fail
    refine Calls.at (fun W hW => ?_)
    have d5 : W.cell? ⟨w.heap.size + 1, 5, none⟩ = some (.int .i64 X.y0) := by subst hW; go_simp
    have d6 : W.cell? ⟨w.heap.size + 1, 6, none⟩ = some (.int .i64 X.y1) := by subst hW; go_simp
    have d7 : W.cell? ⟨w.heap.size + 1, 7, none⟩ = some (.int .i64 X.ar) := by subst hW; go_simp
    have hn : New w W := by subst hW; (repeat (first | (with_reducible exact New.refl _) | (with_reducible assumption) | ((with_reducible refine New.setB ?_ ?_ _); focus (first | omega | (simp; omega) | (simp; done))) | (with_reducible refine New.alloc ?_ _) | (with_reducible refine New.drew ?_) | (with_reducible refine New.drewN ?_ _) | (with_reducible refine New.hat ?_ _) | ((with_reducible apply New.snart); (with_reducible assumption))))
    clear hW
    refine (K0.out _).mono ?_
    rintro e w1 ⟨rfl, n1⟩
    replace d5 := n1.keep d5
    replace d6 := n1.keep d6
    replace d7 := n1.keep d7
    replace hn := hn.trans n1
    go_wp2_with fail
    go_ret
    exact ⟨rfl, hn⟩
  by_cases p7 : X.y0 ≤ X.y1
  rotate_left
  · have q0 : decide (0 ≤ X.x0) = true := decide_eq_true p0
    have q1 : decide (X.x0 ≤ X.x1) = true := decide_eq_true p1
    have q2 : decide (X.x1 < C.wd) = true := decide_eq_true p2
    have q3 : decide (0 ≤ X.z0) = true := decide_eq_true p3
    have q4 : decide (X.z0 ≤ X.z1) = true := decide_eq_true p4
    have q5 : decide (X.z1 < C.dp) = true := decide_eq_true p5
    have q6 := p6
    have q7 : decide (X.y0 ≤ X.y1) = false := decide_eq_false p7
    have E : X.tests C = false := notTrue (fun h => p7 (IF.out.1 h).2.2.2.2.2.2.2.1)
    rw [E]
    clear E IF p0 p1 p2 p3 p4 p5 p6 p7
    rw [q6] at K0
    go_enter Tryz.func42, Tryz.ntmps42
    go_wp2_with fail
    refine Calls.at (fun W hW => ?_)
    have d5 : W.cell? ⟨w.heap.size + 1, 5, none⟩ = some (.int .i64 X.y0) := by subst hW; go_simp
    have d6 : W.cell? ⟨w.heap.size + 1, 6, none⟩ = some (.int .i64 X.y1) := by subst hW; go_simp
    have d7 : W.cell? ⟨w.heap.size + 1, 7, none⟩ = some (.int .i64 X.ar) := by subst hW; go_simp
    have hn : New w W := by subst hW; (repeat (first | (with_reducible exact New.refl _) | (with_reducible assumption) | ((with_reducible refine New.setB ?_ ?_ _); focus (first | omega | (simp; omega) | (simp; done))) | (with_reducible refine New.alloc ?_ _) | (with_reducible refine New.drew ?_) | (with_reducible refine New.drewN ?_ _) | (with_reducible refine New.hat ?_ _) | ((with_reducible apply New.snart); (with_reducible assumption))))
    clear hW
    refine (K0.out _).mono ?_
    rintro e w1 ⟨rfl, n1⟩
    replace d5 := n1.keep d5
    replace d6 := n1.keep d6
    replace d7 := n1.keep d7
    replace hn := hn.trans n1
    go_wp2_with fail
    go_ret
    exact ⟨rfl, hn⟩
  by_cases p8 : heiB X.y1 = true
  rotate_left
  · have q0 : decide (0 ≤ X.x0) = true := decide_eq_true p0
    have q1 : decide (X.x0 ≤ X.x1) = true := decide_eq_true p1
    have q2 : decide (X.x1 < C.wd) = true := decide_eq_true p2
    have q3 : decide (0 ≤ X.z0) = true := decide_eq_true p3
    have q4 : decide (X.z0 ≤ X.z1) = true := decide_eq_true p4
    have q5 : decide (X.z1 < C.dp) = true := decide_eq_true p5
    have q6 := p6
    have q7 : decide (X.y0 ≤ X.y1) = true := decide_eq_true p7
    have q8 := notTrue p8
    have E : X.tests C = false := notTrue (fun h => p8 (IF.out.1 h).2.2.2.2.2.2.2.2.1)
    rw [E]
    clear E IF p0 p1 p2 p3 p4 p5 p6 p7 p8
    rw [q6] at K0
    rw [q8] at K1
    go_enter Tryz.func42, Tryz.ntmps42
    go_wp2_with fail
    refine Calls.at (fun W hW => ?_)
    have d5 : W.cell? ⟨w.heap.size + 1, 5, none⟩ = some (.int .i64 X.y0) := by subst hW; go_simp
    have d6 : W.cell? ⟨w.heap.size + 1, 6, none⟩ = some (.int .i64 X.y1) := by subst hW; go_simp
    have d7 : W.cell? ⟨w.heap.size + 1, 7, none⟩ = some (.int .i64 X.ar) := by subst hW; go_simp
    have hn : New w W := by subst hW; (repeat (first | (with_reducible exact New.refl _) | (with_reducible assumption) | ((with_reducible refine New.setB ?_ ?_ _); focus (first | omega | (simp; omega) | (simp; done))) | (with_reducible refine New.alloc ?_ _) | (with_reducible refine New.drew ?_) | (with_reducible refine New.drewN ?_ _) | (with_reducible refine New.hat ?_ _) | ((with_reducible apply New.snart); (with_reducible assumption))))
    clear hW
    refine (K0.out _).mono ?_
    rintro e w1 ⟨rfl, n1⟩
    replace d5 := n1.keep d5
    replace d6 := n1.keep d6
    replace d7 := n1.keep d7
    replace hn := hn.trans n1
    go_wp2_with fail
    refine (K1.out _).mono ?_
    rintro e w2 ⟨rfl, n2⟩
    replace d7 := n2.keep d7
    replace hn := hn.trans n2
    go_wp2_with fail
    go_ret
    exact ⟨rfl, hn⟩
  by_cases p9 : 0 ≤ X.ar
  rotate_left
  · have q0 : decide (0 ≤ X.x0) = true := decide_eq_true p0
    have q1 : decide (X.x0 ≤ X.x1) = true := decide_eq_true p1
    have q2 : decide (X.x1 < C.wd) = true := decide_eq_true p2
    have q3 : decide (0 ≤ X.z0) = true := decide_eq_true p3
    have q4 : decide (X.z0 ≤ X.z1) = true := decide_eq_true p4
    have q5 : decide (X.z1 < C.dp) = true := decide_eq_true p5
    have q6 := p6
    have q7 : decide (X.y0 ≤ X.y1) = true := decide_eq_true p7
    have q8 := p8
    have q9 : decide (0 ≤ X.ar) = false := decide_eq_false p9
    have E : X.tests C = false := notTrue (fun h => p9 (IF.out.1 h).2.2.2.2.2.2.2.2.2.1)
    rw [E]
    clear E IF p0 p1 p2 p3 p4 p5 p6 p7 p8 p9
    rw [q6] at K0
    rw [q8] at K1
    go_enter Tryz.func42, Tryz.ntmps42
    go_wp2_with fail
    refine Calls.at (fun W hW => ?_)
    have d5 : W.cell? ⟨w.heap.size + 1, 5, none⟩ = some (.int .i64 X.y0) := by subst hW; go_simp
    have d6 : W.cell? ⟨w.heap.size + 1, 6, none⟩ = some (.int .i64 X.y1) := by subst hW; go_simp
    have d7 : W.cell? ⟨w.heap.size + 1, 7, none⟩ = some (.int .i64 X.ar) := by subst hW; go_simp
    have hn : New w W := by subst hW; (repeat (first | (with_reducible exact New.refl _) | (with_reducible assumption) | ((with_reducible refine New.setB ?_ ?_ _); focus (first | omega | (simp; omega) | (simp; done))) | (with_reducible refine New.alloc ?_ _) | (with_reducible refine New.drew ?_) | (with_reducible refine New.drewN ?_ _) | (with_reducible refine New.hat ?_ _) | ((with_reducible apply New.snart); (with_reducible assumption))))
    clear hW
    refine (K0.out _).mono ?_
    rintro e w1 ⟨rfl, n1⟩
    replace d5 := n1.keep d5
    replace d6 := n1.keep d6
    replace d7 := n1.keep d7
    replace hn := hn.trans n1
    go_wp2_with fail
    refine (K1.out _).mono ?_
    rintro e w2 ⟨rfl, n2⟩
    replace d7 := n2.keep d7
    replace hn := hn.trans n2
    go_wp2_with fail
    go_ret
    exact ⟨rfl, hn⟩
  by_cases p10 : X.ar ≤ 7
  rotate_left
  · have q0 : decide (0 ≤ X.x0) = true := decide_eq_true p0
    have q1 : decide (X.x0 ≤ X.x1) = true := decide_eq_true p1
    have q2 : decide (X.x1 < C.wd) = true := decide_eq_true p2
    have q3 : decide (0 ≤ X.z0) = true := decide_eq_true p3
    have q4 : decide (X.z0 ≤ X.z1) = true := decide_eq_true p4
    have q5 : decide (X.z1 < C.dp) = true := decide_eq_true p5
    have q6 := p6
    have q7 : decide (X.y0 ≤ X.y1) = true := decide_eq_true p7
    have q8 := p8
    have q9 : decide (0 ≤ X.ar) = true := decide_eq_true p9
    have q10 : decide (X.ar ≤ 7) = false := decide_eq_false p10
    have E : X.tests C = false := notTrue (fun h => p10 (IF.out.1 h).2.2.2.2.2.2.2.2.2.2)
    rw [E]
    clear E IF p0 p1 p2 p3 p4 p5 p6 p7 p8 p9 p10
    rw [q6] at K0
    rw [q8] at K1
    go_enter Tryz.func42, Tryz.ntmps42
    go_wp2_with fail
    refine Calls.at (fun W hW => ?_)
    have d5 : W.cell? ⟨w.heap.size + 1, 5, none⟩ = some (.int .i64 X.y0) := by subst hW; go_simp
    have d6 : W.cell? ⟨w.heap.size + 1, 6, none⟩ = some (.int .i64 X.y1) := by subst hW; go_simp
    have d7 : W.cell? ⟨w.heap.size + 1, 7, none⟩ = some (.int .i64 X.ar) := by subst hW; go_simp
    have hn : New w W := by subst hW; (repeat (first | (with_reducible exact New.refl _) | (with_reducible assumption) | ((with_reducible refine New.setB ?_ ?_ _); focus (first | omega | (simp; omega) | (simp; done))) | (with_reducible refine New.alloc ?_ _) | (with_reducible refine New.drew ?_) | (with_reducible refine New.drewN ?_ _) | (with_reducible refine New.hat ?_ _) | ((with_reducible apply New.snart); (with_reducible assumption))))
    clear hW
    refine (K0.out _).mono ?_
    rintro e w1 ⟨rfl, n1⟩
    replace d5 := n1.keep d5
    replace d6 := n1.keep d6
    replace d7 := n1.keep d7
    replace hn := hn.trans n1
    go_wp2_with fail
    refine (K1.out _).mono ?_
    rintro e w2 ⟨rfl, n2⟩
    replace d7 := n2.keep d7
    replace hn := hn.trans n2
    go_wp2_with fail
    go_ret
    exact ⟨rfl, hn⟩
  have q0 : decide (0 ≤ X.x0) = true := decide_eq_true p0
  have q1 : decide (X.x0 ≤ X.x1) = true := decide_eq_true p1
  have q2 : decide (X.x1 < C.wd) = true := decide_eq_true p2
  have q3 : decide (0 ≤ X.z0) = true := decide_eq_true p3
  have q4 : decide (X.z0 ≤ X.z1) = true := decide_eq_true p4
  have q5 : decide (X.z1 < C.dp) = true := decide_eq_true p5
  have q6 := p6
  have q7 : decide (X.y0 ≤ X.y1) = true := decide_eq_true p7
  have q8 := p8
  have q9 : decide (0 ≤ X.ar) = true := decide_eq_true p9
  have q10 : decide (X.ar ≤ 7) = true := decide_eq_true p10
  have E : X.tests C = true := IF.out.2 ⟨p0, p1, p2, p3, p4, p5, p6, p7, p8, p9, p10⟩
  rw [E]
  clear E IF p0 p1 p2 p3 p4 p5 p6 p7 p8 p9 p10
  rw [q6] at K0
  rw [q8] at K1
  go_enter Tryz.func42, Tryz.ntmps42
  go_wp2_with fail
  refine Calls.at (fun W hW => ?_)
  have d5 : W.cell? ⟨w.heap.size + 1, 5, none⟩ = some (.int .i64 X.y0) := by subst hW; go_simp
  have d6 : W.cell? ⟨w.heap.size + 1, 6, none⟩ = some (.int .i64 X.y1) := by subst hW; go_simp
  have d7 : W.cell? ⟨w.heap.size + 1, 7, none⟩ = some (.int .i64 X.ar) := by subst hW; go_simp
  have hn : New w W := by subst hW; (repeat (first | (with_reducible exact New.refl _) | (with_reducible assumption) | ((with_reducible refine New.setB ?_ ?_ _); focus (first | omega | (simp; omega) | (simp; done))) | (with_reducible refine New.alloc ?_ _) | (with_reducible refine New.drew ?_) | (with_reducible refine New.drewN ?_ _) | (with_reducible refine New.hat ?_ _) | ((with_reducible apply New.snart); (with_reducible assumption))))
  clear hW
  refine (K0.out _).mono ?_
  rintro e w1 ⟨rfl, n1⟩
  replace d5 := n1.keep d5
  replace d6 := n1.keep d6
  replace d7 := n1.keep d7
  replace hn := hn.trans n1
  go_wp2_with fail
  refine (K1.out _).mono ?_
  rintro e w2 ⟨rfl, n2⟩
  replace d7 := n2.keep d7
  replace hn := hn.trans n2
  go_wp2_with fail
  go_ret
  exact ⟨rfl, hn⟩

end Go.Proofs.YtonngfogbnfbnaaGreat

/- The document's package of soups: whether a triangle may be. -/
namespace Go.Proofs.YtonngfogbnfbnaaGreat
open Go.RowKit
set_option linter.unusedVariables false
set_option maxRecDepth 100000

/-- Is a corner out of the columns, or no height? -/
def outV (wd dp x y z : Int) : Bool := decide (x < 0) || decide (wd < x) || decide (z < 0) || decide (dp < z) || !heiB y

/-- May a triangle be, its id apart? -/
def mayTB (wd dp : Int) (X : TriR) : Bool := !outV wd dp X.x0 X.y0 X.z0 && !outV wd dp X.x1 X.y1 X.z1 && !outV wd dp X.x2 X.y2 X.z2 && ((X.x1 - X.x0) * (X.z2 - X.z0) - (X.z1 - X.z0) * (X.x2 - X.x0) != 0)

theorem mayTB_bad {wd dp : Int} {X : TriR} (h : outV wd dp X.x0 X.y0 X.z0 = true ∨ outV wd dp X.x1 X.y1 X.z1 = true ∨ outV wd dp X.x2 X.y2 X.z2 = true) : mayTB wd dp X = false := by
  unfold mayTB
  rcases h with h | h | h <;> simp [h]
theorem outV_in {wd dp x y z : Int} (h1 : 0 ≤ x) (h2 : x ≤ wd) (h3 : 0 ≤ z) (h4 : z ≤ dp) (h5 : heiB y = true) : outV wd dp x y z = false := by
  unfold outV
  rw [h5, decide_eq_false (by omega), decide_eq_false (by omega), decide_eq_false (by omega), decide_eq_false (by omega)]
  rfl
theorem outV_out {wd dp x y z : Int} (h : x < 0 ∨ wd < x ∨ z < 0 ∨ dp < z) : outV wd dp x y z = true := by
  unfold outV
  simp only [Bool.or_eq_true, decide_eq_true_eq]
  omega
theorem outV_hei {wd dp x y z : Int} (h : heiB y = false) : outV wd dp x y z = true := by
  unfold outV
  rw [h]
  simp

def flatI (X : TriR) : Int := (X.x1 - X.x0) * (X.z2 - X.z0) - (X.z1 - X.z0) * (X.x2 - X.x0)
theorem mul_small {a b : Int} (ha : -64 ≤ a ∧ a ≤ 64) (hb : -64 ≤ b ∧ b ≤ 64) : -4096 ≤ a * b ∧ a * b ≤ 4096 := by
  have h1 : a.natAbs ≤ 64 := by omega
  have h2 : b.natAbs ≤ 64 := by omega
  have h3 : (a * b).natAbs ≤ 4096 := by rw [Int.natAbs_mul]; exact Nat.mul_le_mul h1 h2
  omega

set_option maxHeartbeats 4000000 in
theorem u_flat (X : TriR) (hx : (0 ≤ X.x0 ∧ X.x0 ≤ 32) ∧ (0 ≤ X.x1 ∧ X.x1 ≤ 32) ∧ (0 ≤ X.x2 ∧ X.x2 ≤ 32)) (hz : (0 ≤ X.z0 ∧ X.z0 ≤ 32) ∧ (0 ≤ X.z1 ∧ X.z1 ≤ 32) ∧ (0 ≤ X.z2 ∧ X.z2 ≤ 32)) (w : World) :
    Calls Tryz.prog 85 #[.agg #[.int .i64 X.x0, .int .i64 X.y0, .int .i64 X.z0, .int .i64 X.x1, .int .i64 X.y1, .int .i64 X.z1, .int .i64 X.x2, .int .i64 X.y2, .int .i64 X.z2]] w fun e w' => e = .returned (.int .i64 (flatI X)) ∧ New w w' := by
  have m1 := mul_small (a := X.x1 - X.x0) (b := X.z2 - X.z0) (by omega) (by omega)
  have m2 := mul_small (a := X.z1 - X.z0) (b := X.x2 - X.x0) (by omega) (by omega)
  unfold flatI
  go_enter Tryz.func85, Tryz.ntmps85
  go_wp2_with fail
  go_ret
  exact ⟨rfl, by (repeat (first | (with_reducible exact New.refl _) | (with_reducible assumption) | ((with_reducible refine New.setB ?_ ?_ _); focus (first | omega | (simp; omega) | (simp; done))) | (with_reducible refine New.alloc ?_ _) | (with_reducible refine New.drew ?_) | (with_reducible refine New.drewN ?_ _) | (with_reducible refine New.hat ?_ _) | ((with_reducible apply New.snart); (with_reducible assumption))))⟩

set_option maxHeartbeats 8000000 in
theorem u_mayTri (wd dp : Int) (hw : 1 ≤ wd ∧ wd ≤ 32) (hd : 1 ≤ dp ∧ dp ≤ 32) (X : TriR) (w : World) :
    Calls Tryz.prog 41 #[.int .i64 wd, .int .i64 dp, .agg #[.int .i64 X.i, .int .i64 X.x0, .int .i64 X.y0, .int .i64 X.z0, .int .i64 X.x1, .int .i64 X.y1, .int .i64 X.z1, .int .i64 X.x2, .int .i64 X.y2, .int .i64 X.z2]] w fun e w' => e = .returned (.bool (mayTB wd dp X)) ∧ New w w' := by
  have K0 := Lib.hid (fun W => u_height X.y0 W)
  have K1 := Lib.hid (fun W => u_height X.y1 W)
  have K2 := Lib.hid (fun W => u_height X.y2 W)
  have KF := Lib.hid (fun h1 h2 W => u_flat X h1 h2 W)
  have HB := Lib.hid (mayTB_bad (wd := wd) (dp := dp) (X := X))
  have HG : Hid (outV wd dp X.x0 X.y0 X.z0 = false → outV wd dp X.x1 X.y1 X.z1 = false → outV wd dp X.x2 X.y2 X.z2 = false → mayTB wd dp X = (flatI X != 0)) := Lib.hid (fun a b c => by unfold mayTB flatI; rw [a, b, c]; simp)
  obtain ⟨v, hv⟩ : ∃ v, v = mayTB wd dp X := ⟨_, rfl⟩
  rw [← hv] at HB HG ⊢
  clear hv
  go_enter Tryz.func41, Tryz.ntmps41
  go_wp2_with fail
  refine Code.at (fun U0 hW => ?_)
  ((have d0 : (U0).cell? ⟨w.heap.size, 0, none⟩ = some (.int .i64 X.i) := (by subst hW; go_simp)); (have d1 : (U0).cell? ⟨w.heap.size, 1, none⟩ = some (.int .i64 X.x0) := (by subst hW; go_simp)); (have d2 : (U0).cell? ⟨w.heap.size, 2, none⟩ = some (.int .i64 X.y0) := (by subst hW; go_simp)); (have d3 : (U0).cell? ⟨w.heap.size, 3, none⟩ = some (.int .i64 X.z0) := (by subst hW; go_simp)); (have d4 : (U0).cell? ⟨w.heap.size, 4, none⟩ = some (.int .i64 X.x1) := (by subst hW; go_simp)); (have d5 : (U0).cell? ⟨w.heap.size, 5, none⟩ = some (.int .i64 X.y1) := (by subst hW; go_simp)); (have d6 : (U0).cell? ⟨w.heap.size, 6, none⟩ = some (.int .i64 X.z1) := (by subst hW; go_simp)); (have d7 : (U0).cell? ⟨w.heap.size, 7, none⟩ = some (.int .i64 X.x2) := (by subst hW; go_simp)); (have d8 : (U0).cell? ⟨w.heap.size, 8, none⟩ = some (.int .i64 X.y2) := (by subst hW; go_simp)); (have d9 : (U0).cell? ⟨w.heap.size, 9, none⟩ = some (.int .i64 X.z2) := (by subst hW; go_simp)))
  have hn : New w U0 := by subst hW; (repeat (first | (with_reducible exact New.refl _) | (with_reducible assumption) | ((with_reducible refine New.setB ?_ ?_ _); focus (first | omega | (simp; omega) | (simp; done))) | (with_reducible refine New.alloc ?_ _) | (with_reducible refine New.drew ?_) | (with_reducible refine New.drewN ?_ _) | (with_reducible refine New.hat ?_ _) | ((with_reducible apply New.snart); (with_reducible assumption))))
  clear hW
  refine wp_loop_rounds 4 ?_
  rw [rounds_succ]
  cases hy0 : heiB X.y0
  · rw [hy0] at K0
    have hb := Lib.hid (HB.out (.inl (outV_hei hy0)))
    clear HB HG KF K1 K2 hy0
    go_wp2_with fail
    all_goals
      try (refine (K0.out _).mono ?_; rintro e W1 ⟨rfl, n1⟩; replace hn : New w W1 := New.trans (by (repeat (first | (with_reducible exact New.refl _) | (with_reducible assumption) | ((with_reducible refine New.setB ?_ ?_ _); focus (first | omega | (simp; omega) | (simp; done))) | (with_reducible refine New.alloc ?_ _) | (with_reducible refine New.drew ?_) | (with_reducible refine New.drewN ?_ _) | (with_reducible refine New.hat ?_ _) | ((with_reducible apply New.snart); (with_reducible assumption))))) n1; go_wp2_with fail)
      go_ret
      rw [hb.out]
      exact ⟨rfl, by (repeat (first | (with_reducible exact New.refl _) | (with_reducible assumption) | ((with_reducible refine New.setB ?_ ?_ _); focus (first | omega | (simp; omega) | (simp; done))) | (with_reducible refine New.alloc ?_ _) | (with_reducible refine New.drew ?_) | (with_reducible refine New.drewN ?_ _) | (with_reducible refine New.hat ?_ _) | ((with_reducible apply New.snart); (with_reducible assumption))))⟩
  rw [hy0] at K0
  replace hy0 := Lib.hid hy0
  go_wp2_with fail
  all_goals first | (go_ret; rw [HB.out (.inl (outV_out (by omega)))]; exact ⟨rfl, by (repeat (first | (with_reducible exact New.refl _) | (with_reducible assumption) | ((with_reducible refine New.setB ?_ ?_ _); focus (first | omega | (simp; omega) | (simp; done))) | (with_reducible refine New.alloc ?_ _) | (with_reducible refine New.drew ?_) | (with_reducible refine New.drewN ?_ _) | (with_reducible refine New.hat ?_ _) | ((with_reducible apply New.snart); (with_reducible assumption))))⟩) | skip
  have G0 := Lib.hid (outV_in (by assumption : 0 ≤ X.x0) (by assumption : X.x0 ≤ wd) (by assumption : 0 ≤ X.z0) (by assumption : X.z0 ≤ dp) hy0.out)
  have bx0 : Hid (0 ≤ X.x0 ∧ X.x0 ≤ wd) := Lib.hid ⟨by assumption, by assumption⟩
  have bz0 : Hid (0 ≤ X.z0 ∧ X.z0 ≤ dp) := Lib.hid ⟨by assumption, by assumption⟩
  clear hy0
  refine Calls.at (fun V hV => ?_)
  have m1 : New U0 V := by subst hV; (repeat (first | (with_reducible exact New.refl _) | (with_reducible assumption) | ((with_reducible refine New.setB ?_ ?_ _); focus (first | omega | (simp; omega) | (simp; done))) | (with_reducible refine New.alloc ?_ _) | (with_reducible refine New.drew ?_) | (with_reducible refine New.drewN ?_ _) | (with_reducible refine New.hat ?_ _) | ((with_reducible apply New.snart); (with_reducible assumption))))
  clear hV
  ((replace d0 := New.keep m1 d0); (replace d1 := New.keep m1 d1); (replace d2 := New.keep m1 d2); (replace d3 := New.keep m1 d3); (replace d4 := New.keep m1 d4); (replace d5 := New.keep m1 d5); (replace d6 := New.keep m1 d6); (replace d7 := New.keep m1 d7); (replace d8 := New.keep m1 d8); (replace d9 := New.keep m1 d9))
  replace hn := New.trans hn m1
  clear m1
  refine (K0.out _).mono ?_
  rintro e U1 ⟨rfl, n1⟩
  ((replace d0 := New.keep n1 d0); (replace d1 := New.keep n1 d1); (replace d2 := New.keep n1 d2); (replace d3 := New.keep n1 d3); (replace d4 := New.keep n1 d4); (replace d5 := New.keep n1 d5); (replace d6 := New.keep n1 d6); (replace d7 := New.keep n1 d7); (replace d8 := New.keep n1 d8); (replace d9 := New.keep n1 d9))
  replace hn := hn.trans n1
  clear n1 K0
  go_wp2_with fail
  rw [rounds_succ]
  cases hy1 : heiB X.y1
  · rw [hy1] at K1
    have hb := Lib.hid (HB.out (.inr <| .inl <| (outV_hei hy1)))
    clear HB HG KF K2 hy1
    go_wp2_with fail
    all_goals
      try (refine (K1.out _).mono ?_; rintro e W1 ⟨rfl, n1⟩; replace hn : New w W1 := New.trans (by (repeat (first | (with_reducible exact New.refl _) | (with_reducible assumption) | ((with_reducible refine New.setB ?_ ?_ _); focus (first | omega | (simp; omega) | (simp; done))) | (with_reducible refine New.alloc ?_ _) | (with_reducible refine New.drew ?_) | (with_reducible refine New.drewN ?_ _) | (with_reducible refine New.hat ?_ _) | ((with_reducible apply New.snart); (with_reducible assumption))))) n1; go_wp2_with fail)
      go_ret
      rw [hb.out]
      exact ⟨rfl, by (repeat (first | (with_reducible exact New.refl _) | (with_reducible assumption) | ((with_reducible refine New.setB ?_ ?_ _); focus (first | omega | (simp; omega) | (simp; done))) | (with_reducible refine New.alloc ?_ _) | (with_reducible refine New.drew ?_) | (with_reducible refine New.drewN ?_ _) | (with_reducible refine New.hat ?_ _) | ((with_reducible apply New.snart); (with_reducible assumption))))⟩
  rw [hy1] at K1
  replace hy1 := Lib.hid hy1
  go_wp2_with fail
  all_goals first | (go_ret; rw [HB.out (.inr <| .inl <| (outV_out (by omega)))]; exact ⟨rfl, by (repeat (first | (with_reducible exact New.refl _) | (with_reducible assumption) | ((with_reducible refine New.setB ?_ ?_ _); focus (first | omega | (simp; omega) | (simp; done))) | (with_reducible refine New.alloc ?_ _) | (with_reducible refine New.drew ?_) | (with_reducible refine New.drewN ?_ _) | (with_reducible refine New.hat ?_ _) | ((with_reducible apply New.snart); (with_reducible assumption))))⟩) | skip
  have G1 := Lib.hid (outV_in (by assumption : 0 ≤ X.x1) (by assumption : X.x1 ≤ wd) (by assumption : 0 ≤ X.z1) (by assumption : X.z1 ≤ dp) hy1.out)
  have bx1 : Hid (0 ≤ X.x1 ∧ X.x1 ≤ wd) := Lib.hid ⟨by assumption, by assumption⟩
  have bz1 : Hid (0 ≤ X.z1 ∧ X.z1 ≤ dp) := Lib.hid ⟨by assumption, by assumption⟩
  clear hy1
  refine Calls.at (fun V hV => ?_)
  have m1 : New U1 V := by subst hV; (repeat (first | (with_reducible exact New.refl _) | (with_reducible assumption) | ((with_reducible refine New.setB ?_ ?_ _); focus (first | omega | (simp; omega) | (simp; done))) | (with_reducible refine New.alloc ?_ _) | (with_reducible refine New.drew ?_) | (with_reducible refine New.drewN ?_ _) | (with_reducible refine New.hat ?_ _) | ((with_reducible apply New.snart); (with_reducible assumption))))
  clear hV
  ((replace d0 := New.keep m1 d0); (replace d1 := New.keep m1 d1); (replace d2 := New.keep m1 d2); (replace d3 := New.keep m1 d3); (replace d4 := New.keep m1 d4); (replace d5 := New.keep m1 d5); (replace d6 := New.keep m1 d6); (replace d7 := New.keep m1 d7); (replace d8 := New.keep m1 d8); (replace d9 := New.keep m1 d9))
  replace hn := New.trans hn m1
  clear m1
  refine (K1.out _).mono ?_
  rintro e U2 ⟨rfl, n1⟩
  ((replace d0 := New.keep n1 d0); (replace d1 := New.keep n1 d1); (replace d2 := New.keep n1 d2); (replace d3 := New.keep n1 d3); (replace d4 := New.keep n1 d4); (replace d5 := New.keep n1 d5); (replace d6 := New.keep n1 d6); (replace d7 := New.keep n1 d7); (replace d8 := New.keep n1 d8); (replace d9 := New.keep n1 d9))
  replace hn := hn.trans n1
  clear n1 K1
  go_wp2_with fail
  rw [rounds_succ]
  cases hy2 : heiB X.y2
  · rw [hy2] at K2
    have hb := Lib.hid (HB.out (.inr <| .inr <| (outV_hei hy2)))
    clear HB HG KF hy2
    go_wp2_with fail
    all_goals
      try (refine (K2.out _).mono ?_; rintro e W1 ⟨rfl, n1⟩; replace hn : New w W1 := New.trans (by (repeat (first | (with_reducible exact New.refl _) | (with_reducible assumption) | ((with_reducible refine New.setB ?_ ?_ _); focus (first | omega | (simp; omega) | (simp; done))) | (with_reducible refine New.alloc ?_ _) | (with_reducible refine New.drew ?_) | (with_reducible refine New.drewN ?_ _) | (with_reducible refine New.hat ?_ _) | ((with_reducible apply New.snart); (with_reducible assumption))))) n1; go_wp2_with fail)
      go_ret
      rw [hb.out]
      exact ⟨rfl, by (repeat (first | (with_reducible exact New.refl _) | (with_reducible assumption) | ((with_reducible refine New.setB ?_ ?_ _); focus (first | omega | (simp; omega) | (simp; done))) | (with_reducible refine New.alloc ?_ _) | (with_reducible refine New.drew ?_) | (with_reducible refine New.drewN ?_ _) | (with_reducible refine New.hat ?_ _) | ((with_reducible apply New.snart); (with_reducible assumption))))⟩
  rw [hy2] at K2
  replace hy2 := Lib.hid hy2
  go_wp2_with fail
  all_goals first | (go_ret; rw [HB.out (.inr <| .inr <| (outV_out (by omega)))]; exact ⟨rfl, by (repeat (first | (with_reducible exact New.refl _) | (with_reducible assumption) | ((with_reducible refine New.setB ?_ ?_ _); focus (first | omega | (simp; omega) | (simp; done))) | (with_reducible refine New.alloc ?_ _) | (with_reducible refine New.drew ?_) | (with_reducible refine New.drewN ?_ _) | (with_reducible refine New.hat ?_ _) | ((with_reducible apply New.snart); (with_reducible assumption))))⟩) | skip
  have G2 := Lib.hid (outV_in (by assumption : 0 ≤ X.x2) (by assumption : X.x2 ≤ wd) (by assumption : 0 ≤ X.z2) (by assumption : X.z2 ≤ dp) hy2.out)
  have bx2 : Hid (0 ≤ X.x2 ∧ X.x2 ≤ wd) := Lib.hid ⟨by assumption, by assumption⟩
  have bz2 : Hid (0 ≤ X.z2 ∧ X.z2 ≤ dp) := Lib.hid ⟨by assumption, by assumption⟩
  clear hy2
  refine Calls.at (fun V hV => ?_)
  have m1 : New U2 V := by subst hV; (repeat (first | (with_reducible exact New.refl _) | (with_reducible assumption) | ((with_reducible refine New.setB ?_ ?_ _); focus (first | omega | (simp; omega) | (simp; done))) | (with_reducible refine New.alloc ?_ _) | (with_reducible refine New.drew ?_) | (with_reducible refine New.drewN ?_ _) | (with_reducible refine New.hat ?_ _) | ((with_reducible apply New.snart); (with_reducible assumption))))
  clear hV
  ((replace d0 := New.keep m1 d0); (replace d1 := New.keep m1 d1); (replace d2 := New.keep m1 d2); (replace d3 := New.keep m1 d3); (replace d4 := New.keep m1 d4); (replace d5 := New.keep m1 d5); (replace d6 := New.keep m1 d6); (replace d7 := New.keep m1 d7); (replace d8 := New.keep m1 d8); (replace d9 := New.keep m1 d9))
  replace hn := New.trans hn m1
  clear m1
  refine (K2.out _).mono ?_
  rintro e U3 ⟨rfl, n1⟩
  ((replace d0 := New.keep n1 d0); (replace d1 := New.keep n1 d1); (replace d2 := New.keep n1 d2); (replace d3 := New.keep n1 d3); (replace d4 := New.keep n1 d4); (replace d5 := New.keep n1 d5); (replace d6 := New.keep n1 d6); (replace d7 := New.keep n1 d7); (replace d8 := New.keep n1 d8); (replace d9 := New.keep n1 d9))
  replace hn := hn.trans n1
  clear n1 K2
  go_wp2_with fail
  rw [rounds_succ]
  go_wp2_with fail
  refine (KF.out ⟨⟨bx0.out.1, by have := bx0.out.2; omega⟩, ⟨bx1.out.1, by have := bx1.out.2; omega⟩, ⟨bx2.out.1, by have := bx2.out.2; omega⟩⟩ ⟨⟨bz0.out.1, by have := bz0.out.2; omega⟩, ⟨bz1.out.1, by have := bz1.out.2; omega⟩, ⟨bz2.out.1, by have := bz2.out.2; omega⟩⟩ _).mono ?_
  rintro e U4 ⟨rfl, n1⟩
  replace hn := hn.trans n1
  clear n1 KF d0 d1 d2 d3 d4 d5 d6 d7 d8 d9
  go_wp2_with fail
  go_ret
  rw [HG.out G0.out G1.out G2.out]
  exact ⟨rfl, hn⟩

end Go.Proofs.YtonngfogbnfbnaaGreat

/- The document's package of soups: whether a hop may be; and that it says what the package says. -/
namespace Go.Proofs.YtonngfogbnfbnaaGreat
open Go.RowKit
set_option linter.unusedVariables false
set_option linter.unusedSimpArgs false
set_option maxRecDepth 100000

theorem outV_iff {wd dp x y z : Int} : outV wd dp x y z = false ↔ (0 ≤ x ∧ x ≤ wd) ∧ (0 ≤ z ∧ z ≤ dp) ∧ (-2048 ≤ y ∧ y ≤ 2048) := by
  unfold outV heiB
  simp only [Bool.or_eq_false_iff, decide_eq_false_iff_not, Bool.not_eq_false', decide_eq_true_eq]
  omega

/-- It comes to the same as the package's own. -/
theorem mayTB_may (C : CfgR) (hC : C.fine) (X : TriR) : X.may C = (idB X.i && mayTB C.wd C.dp X) := by
  have hce : checkE C.cl C.cb C.ht C.ri C.ru C.wd C.dp = 0 := hC.err
  have w1 := hC.w1
  have w2 := hC.w2
  have d1 := hC.d1
  have d2 := hC.d2
  rw [Bool.eq_iff_iff]
  simp only [TriR.may, TriR.tests, ordB, Bool.and_eq_true, decide_eq_true_eq, beq_iff_eq, Bool.and_true, idB]
  unfold tCheckE
  rw [hce]
  have hn : (X.z1 - X.z0) * (X.x2 - X.x0) - (X.x1 - X.x0) * (X.z2 - X.z0) = -((X.x1 - X.x0) * (X.z2 - X.z0) - (X.z1 - X.z0) * (X.x2 - X.x0)) := by omega
  unfold mayTB okB nyI
  rw [hn]
  generalize (X.x1 - X.x0) * (X.z2 - X.z0) - (X.z1 - X.z0) * (X.x2 - X.x0) = F
  simp only [Bool.and_eq_true, Bool.not_eq_true', outV_iff, bne_iff_ne, ne_eq, stB_iff, StP, StV]
  constructor
  · rintro ⟨h1, h2⟩
    split at h2
    · omega
    split at h2
    · omega
    · exact absurd h2 (by decide)
  · rintro ⟨h1, h2⟩
    refine ⟨h1, ?_⟩
    rw [if_neg (by simp), if_pos (by omega)]

set_option maxHeartbeats 2000000 in
theorem u_spot (C : CfgR) (x z y : Int) (w : World) :
    Calls Tryz.prog 86 #[.agg #[.int .i64 C.cl, .int .i64 C.cb, .int .i64 C.ht, .int .i64 C.ri, .int .i64 C.ru, .int .i64 C.wd, .int .i64 C.dp], .agg #[.int .i64 x, .int .i64 z, .int .i64 y]] w fun e w' => e = .returned (.bool (spotB C x z y)) ∧ New w w' := by
  have K := Lib.hid (fun W => u_height y W)
  have IF : spotB C x z y = true ↔ (0 ≤ x ∧ x < C.wd) ∧ (0 ≤ z ∧ z < C.dp) ∧ heiB y = true := by
    unfold spotB heiB
    simp only [ordB, Bool.and_eq_true, decide_eq_true_eq, Bool.and_true]
    omega
  have IF' := Lib.hid IF
  generalize spotB C x z y = v at *
  clear IF
  cases hy : heiB y
  · have hv : Hid (v = false) := Lib.hid (notTrue fun h => by have := (IF'.out.1 h).2.2; rw [hy] at this; cases this)
    rw [hy] at K
    clear IF' hy
    go_enter Tryz.func86, Tryz.ntmps86
    go_wp2_with fail
    all_goals
      try (refine (K.out _).mono ?_; rintro e W1 ⟨rfl, n1⟩; replace n1 : New w W1 := New.trans (by (repeat (first | (with_reducible exact New.refl _) | (with_reducible assumption) | ((with_reducible refine New.setB ?_ ?_ _); focus (first | omega | (simp; omega) | (simp; done))) | (with_reducible refine New.alloc ?_ _) | (with_reducible refine New.drew ?_) | (with_reducible refine New.drewN ?_ _) | (with_reducible refine New.hat ?_ _) | ((with_reducible apply New.snart); (with_reducible assumption))))) n1; go_wp2_with fail)
      go_ret
      rw [hv.out]
      exact ⟨rfl, by (repeat (first | (with_reducible exact New.refl _) | (with_reducible assumption) | ((with_reducible refine New.setB ?_ ?_ _); focus (first | omega | (simp; omega) | (simp; done))) | (with_reducible refine New.alloc ?_ _) | (with_reducible refine New.drew ?_) | (with_reducible refine New.drewN ?_ _) | (with_reducible refine New.hat ?_ _) | ((with_reducible apply New.snart); (with_reducible assumption))))⟩
  · have hv : Hid (v = true ↔ (0 ≤ x ∧ x < C.wd) ∧ (0 ≤ z ∧ z < C.dp)) := Lib.hid (by rw [IF'.out, hy]; simp)
    rw [hy] at K
    clear IF' hy
    go_enter Tryz.func86, Tryz.ntmps86
    go_wp2_with fail
    all_goals first | (go_ret; rw [notTrue (fun h => by have := hv.out.1 h; omega : ¬ v = true)]; exact ⟨rfl, by (repeat (first | (with_reducible exact New.refl _) | (with_reducible assumption) | ((with_reducible refine New.setB ?_ ?_ _); focus (first | omega | (simp; omega) | (simp; done))) | (with_reducible refine New.alloc ?_ _) | (with_reducible refine New.drew ?_) | (with_reducible refine New.drewN ?_ _) | (with_reducible refine New.hat ?_ _) | ((with_reducible apply New.snart); (with_reducible assumption))))⟩) | skip
    have ht : Hid (v = true) := Lib.hid (hv.out.2 (by omega))
    refine (K.out _).mono ?_
    rintro e W1 ⟨rfl, n1⟩
    replace n1 : New w W1 := New.trans (by (repeat (first | (with_reducible exact New.refl _) | (with_reducible assumption) | ((with_reducible refine New.setB ?_ ?_ _); focus (first | omega | (simp; omega) | (simp; done))) | (with_reducible refine New.alloc ?_ _) | (with_reducible refine New.drew ?_) | (with_reducible refine New.drewN ?_ _) | (with_reducible refine New.hat ?_ _) | ((with_reducible apply New.snart); (with_reducible assumption))))) n1
    go_wp2_with fail
    go_ret
    rw [ht.out]
    exact ⟨rfl, n1⟩

set_option maxHeartbeats 4000000 in
theorem u_mayHop (C : CfgR) (X : HopR) (w : World) :
    Calls Tryz.prog 43 #[.agg #[.int .i64 C.cl, .int .i64 C.cb, .int .i64 C.ht, .int .i64 C.ri, .int .i64 C.ru, .int .i64 C.wd, .int .i64 C.dp], .agg #[.int .i64 X.i, .int .i64 X.fx, .int .i64 X.fz, .int .i64 X.fy, .int .i64 X.tx, .int .i64 X.tz, .int .i64 X.ty, .bool X.bo, .int .i64 X.ar, .int .i64 X.co]] w fun e w' => e = .returned (.bool (X.tests C)) ∧ New w w' := by
  have K0 := Lib.hid (fun W => u_spot C X.fx X.fz X.fy W)
  have K1 := Lib.hid (fun W => u_spot C X.tx X.tz X.ty W)
  have IF := Lib.hid (show X.tests C = true ↔ spotB C X.fx X.fz X.fy = true ∧ spotB C X.tx X.tz X.ty = true ∧ (1 ≤ X.ar ∧ X.ar ≤ 7) ∧ (0 ≤ X.co ∧ X.co ≤ 1048576) by
    simp only [HopR.tests, ordB, Bool.and_eq_true, decide_eq_true_eq, Bool.and_true]
    exact ⟨fun h => ⟨h.1.1.1, h.1.1.2, h.1.2, h.2⟩, fun h => ⟨⟨⟨h.1, h.2.1⟩, h.2.2.1⟩, h.2.2.2⟩⟩)
  generalize X.tests C = v at *
  obtain ⟨s0, hs0⟩ : ∃ b, b = spotB C X.fx X.fz X.fy := ⟨_, rfl⟩
  obtain ⟨s1, hs1⟩ : ∃ b, b = spotB C X.tx X.tz X.ty := ⟨_, rfl⟩
  rw [← hs0, ← hs1] at IF
  rw [← hs0] at K0
  rw [← hs1] at K1
  clear hs0 hs1
  go_enter Tryz.func43, Tryz.ntmps43
  go_wp2_with fail
  refine Calls.at (fun W hW => ?_)
  ((have c0 : W.cell? ⟨w.heap.size, 0, none⟩ = some (.int .i64 C.cl) := (by subst hW; go_simp)); (have c1 : W.cell? ⟨w.heap.size, 1, none⟩ = some (.int .i64 C.cb) := (by subst hW; go_simp)); (have c2 : W.cell? ⟨w.heap.size, 2, none⟩ = some (.int .i64 C.ht) := (by subst hW; go_simp)); (have c3 : W.cell? ⟨w.heap.size, 3, none⟩ = some (.int .i64 C.ri) := (by subst hW; go_simp)); (have c4 : W.cell? ⟨w.heap.size, 4, none⟩ = some (.int .i64 C.ru) := (by subst hW; go_simp)); (have c5 : W.cell? ⟨w.heap.size, 5, none⟩ = some (.int .i64 C.wd) := (by subst hW; go_simp)); (have c6 : W.cell? ⟨w.heap.size, 6, none⟩ = some (.int .i64 C.dp) := (by subst hW; go_simp)))
  have e4 : W.cell? ⟨w.heap.size + 1, 4, none⟩ = some (.int .i64 X.tx) := by subst hW; go_simp
  have e5 : W.cell? ⟨w.heap.size + 1, 5, none⟩ = some (.int .i64 X.tz) := by subst hW; go_simp
  have e6 : W.cell? ⟨w.heap.size + 1, 6, none⟩ = some (.int .i64 X.ty) := by subst hW; go_simp
  have e8 : W.cell? ⟨w.heap.size + 1, 8, none⟩ = some (.int .i64 X.ar) := by subst hW; go_simp
  have e9 : W.cell? ⟨w.heap.size + 1, 9, none⟩ = some (.int .i64 X.co) := by subst hW; go_simp
  have hn : New w W := by subst hW; (repeat (first | (with_reducible exact New.refl _) | (with_reducible assumption) | ((with_reducible refine New.setB ?_ ?_ _); focus (first | omega | (simp; omega) | (simp; done))) | (with_reducible refine New.alloc ?_ _) | (with_reducible refine New.drew ?_) | (with_reducible refine New.drewN ?_ _) | (with_reducible refine New.hat ?_ _) | ((with_reducible apply New.snart); (with_reducible assumption))))
  clear hW
  refine (K0.out _).mono ?_
  rintro e W1 ⟨rfl, n1⟩
  ((replace c0 := New.keep n1 c0); (replace c1 := New.keep n1 c1); (replace c2 := New.keep n1 c2); (replace c3 := New.keep n1 c3); (replace c4 := New.keep n1 c4); (replace c5 := New.keep n1 c5); (replace c6 := New.keep n1 c6))
  replace e4 := New.keep n1 e4
  replace e5 := New.keep n1 e5
  replace e6 := New.keep n1 e6
  replace e8 := New.keep n1 e8
  replace e9 := New.keep n1 e9
  replace hn := hn.trans n1
  clear n1 K0
  cases s0
  · have hv : Hid (v = false) := Lib.hid (notTrue fun h => by have := (IF.out.1 h).1; cases this)
    clear IF K1
    go_wp2_with fail
    go_ret
    rw [hv.out]
    exact ⟨rfl, hn⟩
  go_wp2_with fail
  refine (K1.out _).mono ?_
  rintro e W2 ⟨rfl, n1⟩
  ((replace c0 := New.keep n1 c0); (replace c1 := New.keep n1 c1); (replace c2 := New.keep n1 c2); (replace c3 := New.keep n1 c3); (replace c4 := New.keep n1 c4); (replace c5 := New.keep n1 c5); (replace c6 := New.keep n1 c6))
  replace e8 := New.keep n1 e8
  replace e9 := New.keep n1 e9
  replace hn := hn.trans n1
  clear n1 K1 e4 e5 e6
  cases s1
  · have hv : Hid (v = false) := Lib.hid (notTrue fun h => by have := (IF.out.1 h).2.1; cases this)
    clear IF
    go_wp2_with fail
    go_ret
    rw [hv.out]
    exact ⟨rfl, hn⟩
  have hv : Hid (v = true ↔ (1 ≤ X.ar ∧ X.ar ≤ 7) ∧ (0 ≤ X.co ∧ X.co ≤ 1048576)) := Lib.hid (by rw [IF.out]; simp)
  clear IF
  go_wp2_with fail
  all_goals
    go_ret
    first
      | (rw [hv.out.2 (by omega)]; exact ⟨rfl, hn⟩)
      | (rw [notTrue (fun h => by have := hv.out.1 h; omega : ¬ v = true)]; exact ⟨rfl, hn⟩)
      | (refine ⟨congrArg (fun b => Ending.returned (.bool b)) ?_, hn⟩; rw [Bool.eq_iff_iff, hv.out]; simp only [decide_eq_true_eq, Bool.false_eq_true, false_iff]; omega)

end Go.Proofs.YtonngfogbnfbnaaGreat
