/- The law of points, walked: what is no place on the way. -/
import Derived.Test.YtebpgefmilkioaaCellsV
import Derived.Deep.DeepCutAuto
import Derived.Deep.LoopGhost
namespace Go.Proofs.Ytebpgefmilkioaa
open Go.RowKit
set_option linter.unusedVariables false

set_option maxRecDepth 100000 in
set_option maxHeartbeats 4000000 in
theorem hold_no (p0 q0 p1 q1 k n : Int) (hok : okB p0 q0 p1 q1 = false) (w : World) :
    Calls Try.prog 5 #[.agg #[.int .i64 p0, .int .i64 q0], .agg #[.int .i64 p1, .int .i64 q1], .int .i64 k, .int .i64 n] w fun e w' => e = .returned (.bool true) ∧ New w w' := by
  have CC := Lib.hid (fun W => c_cells p0 q0 p1 q1 W)
  have e0 : errOf p0 q0 p1 q1 = 2 := by unfold errOf; rw [hok]; rfl
  generalize told p0 q0 p1 q1 = L at *
  go_enter Try.func5, Try.ntmps5
  go_wp2_with fail
  generalize hW : World.alloc _ _ = W
  have a0 : W.cell? ⟨w.heap.size, 0, none⟩ = some (.int .i64 p0) := by subst hW; go_simp
  have a1 : W.cell? ⟨w.heap.size, 1, none⟩ = some (.int .i64 q0) := by subst hW; go_simp
  have b0 : W.cell? ⟨w.heap.size + 1, 0, none⟩ = some (.int .i64 p1) := by subst hW; go_simp
  have b1 : W.cell? ⟨w.heap.size + 1, 1, none⟩ = some (.int .i64 q1) := by subst hW; go_simp
  have hn : New w W := by subst hW; (repeat (first | (with_reducible exact New.refl _) | (with_reducible assumption) | ((with_reducible refine New.setB ?_ ?_ _); focus (first | omega | (simp; omega) | (simp; done))) | (with_reducible refine New.alloc ?_ _) | (with_reducible refine New.drew ?_) | (with_reducible refine New.drewN ?_ _) | (with_reducible refine New.hat ?_ _) | ((with_reducible apply New.snart); (with_reducible assumption))))
  clear hW
  refine (CC.out _).mono ?_
  rintro e w1 ⟨v, rfl, r1, n1⟩
  ((replace a0 := n1.keep a0); (replace a1 := n1.keep a1); (replace b0 := n1.keep b0); (replace b1 := n1.keep b1))
  rw [e0]
  have hn1 := hn.trans n1
  clear hn n1 CC
  go_wp2_with fail
  refine (c_wakes _).mono ?_
  rintro e w2 ⟨rfl, n2⟩
  go_wp2_with fail
  go_ret
  exact ⟨rfl, hn1.trans n2⟩

set_option maxRecDepth 100000 in
set_option maxHeartbeats 4000000 in
theorem hold_no0 (p0 q0 p1 q1 k n : Int) (hok : okB p0 q0 p1 q1 = true) (g0 : decide (n < 1) = true) (w : World) :
    Calls Try.prog 5 #[.agg #[.int .i64 p0, .int .i64 q0], .agg #[.int .i64 p1, .int .i64 q1], .int .i64 k, .int .i64 n] w fun e w' => e = .returned (.bool true) ∧ New w w' := by
  have CC := Lib.hid (fun W => c_cells p0 q0 p1 q1 W)
  have e0 : errOf p0 q0 p1 q1 = 0 := by unfold errOf; rw [hok]; rfl
  generalize told p0 q0 p1 q1 = L at *
  go_enter Try.func5, Try.ntmps5
  go_wp2_with fail
  generalize hW : World.alloc _ _ = W
  have a0 : W.cell? ⟨w.heap.size, 0, none⟩ = some (.int .i64 p0) := by subst hW; go_simp
  have a1 : W.cell? ⟨w.heap.size, 1, none⟩ = some (.int .i64 q0) := by subst hW; go_simp
  have b0 : W.cell? ⟨w.heap.size + 1, 0, none⟩ = some (.int .i64 p1) := by subst hW; go_simp
  have b1 : W.cell? ⟨w.heap.size + 1, 1, none⟩ = some (.int .i64 q1) := by subst hW; go_simp
  have hn : New w W := by subst hW; (repeat (first | (with_reducible exact New.refl _) | (with_reducible assumption) | ((with_reducible refine New.setB ?_ ?_ _); focus (first | omega | (simp; omega) | (simp; done))) | (with_reducible refine New.alloc ?_ _) | (with_reducible refine New.drew ?_) | (with_reducible refine New.drewN ?_ _) | (with_reducible refine New.hat ?_ _) | ((with_reducible apply New.snart); (with_reducible assumption))))
  clear hW
  refine (CC.out _).mono ?_
  rintro e w1 ⟨v, rfl, r1, n1⟩
  ((replace a0 := n1.keep a0); (replace a1 := n1.keep a1); (replace b0 := n1.keep b0); (replace b1 := n1.keep b1))
  rw [e0]
  have hn1 := hn.trans n1
  clear hn n1 CC
  go_wp2_with fail
  refine (c_wakes _).mono ?_
  rintro e w2 ⟨rfl, n2⟩
  go_wp2_with fail
  go_ret
  exact ⟨rfl, hn1.trans n2⟩

set_option maxRecDepth 100000 in
set_option maxHeartbeats 4000000 in
theorem hold_no1 (p0 q0 p1 q1 k n : Int) (hok : okB p0 q0 p1 q1 = true) (g0 : decide (n < 1) = false) (g1 : decide ((100 : Int) < n) = true) (w : World) :
    Calls Try.prog 5 #[.agg #[.int .i64 p0, .int .i64 q0], .agg #[.int .i64 p1, .int .i64 q1], .int .i64 k, .int .i64 n] w fun e w' => e = .returned (.bool true) ∧ New w w' := by
  have CC := Lib.hid (fun W => c_cells p0 q0 p1 q1 W)
  have e0 : errOf p0 q0 p1 q1 = 0 := by unfold errOf; rw [hok]; rfl
  generalize told p0 q0 p1 q1 = L at *
  go_enter Try.func5, Try.ntmps5
  go_wp2_with fail
  generalize hW : World.alloc _ _ = W
  have a0 : W.cell? ⟨w.heap.size, 0, none⟩ = some (.int .i64 p0) := by subst hW; go_simp
  have a1 : W.cell? ⟨w.heap.size, 1, none⟩ = some (.int .i64 q0) := by subst hW; go_simp
  have b0 : W.cell? ⟨w.heap.size + 1, 0, none⟩ = some (.int .i64 p1) := by subst hW; go_simp
  have b1 : W.cell? ⟨w.heap.size + 1, 1, none⟩ = some (.int .i64 q1) := by subst hW; go_simp
  have hn : New w W := by subst hW; (repeat (first | (with_reducible exact New.refl _) | (with_reducible assumption) | ((with_reducible refine New.setB ?_ ?_ _); focus (first | omega | (simp; omega) | (simp; done))) | (with_reducible refine New.alloc ?_ _) | (with_reducible refine New.drew ?_) | (with_reducible refine New.drewN ?_ _) | (with_reducible refine New.hat ?_ _) | ((with_reducible apply New.snart); (with_reducible assumption))))
  clear hW
  refine (CC.out _).mono ?_
  rintro e w1 ⟨v, rfl, r1, n1⟩
  ((replace a0 := n1.keep a0); (replace a1 := n1.keep a1); (replace b0 := n1.keep b0); (replace b1 := n1.keep b1))
  rw [e0]
  have hn1 := hn.trans n1
  clear hn n1 CC
  go_wp2_with fail
  refine (c_wakes _).mono ?_
  rintro e w2 ⟨rfl, n2⟩
  go_wp2_with fail
  go_ret
  exact ⟨rfl, hn1.trans n2⟩

set_option maxRecDepth 100000 in
set_option maxHeartbeats 4000000 in
theorem hold_no2 (p0 q0 p1 q1 k n : Int) (hok : okB p0 q0 p1 q1 = true) (g0 : decide (n < 1) = false) (g1 : decide ((100 : Int) < n) = false) (g2 : decide (k < 0) = true) (w : World) :
    Calls Try.prog 5 #[.agg #[.int .i64 p0, .int .i64 q0], .agg #[.int .i64 p1, .int .i64 q1], .int .i64 k, .int .i64 n] w fun e w' => e = .returned (.bool true) ∧ New w w' := by
  have CC := Lib.hid (fun W => c_cells p0 q0 p1 q1 W)
  have e0 : errOf p0 q0 p1 q1 = 0 := by unfold errOf; rw [hok]; rfl
  generalize told p0 q0 p1 q1 = L at *
  go_enter Try.func5, Try.ntmps5
  go_wp2_with fail
  generalize hW : World.alloc _ _ = W
  have a0 : W.cell? ⟨w.heap.size, 0, none⟩ = some (.int .i64 p0) := by subst hW; go_simp
  have a1 : W.cell? ⟨w.heap.size, 1, none⟩ = some (.int .i64 q0) := by subst hW; go_simp
  have b0 : W.cell? ⟨w.heap.size + 1, 0, none⟩ = some (.int .i64 p1) := by subst hW; go_simp
  have b1 : W.cell? ⟨w.heap.size + 1, 1, none⟩ = some (.int .i64 q1) := by subst hW; go_simp
  have hn : New w W := by subst hW; (repeat (first | (with_reducible exact New.refl _) | (with_reducible assumption) | ((with_reducible refine New.setB ?_ ?_ _); focus (first | omega | (simp; omega) | (simp; done))) | (with_reducible refine New.alloc ?_ _) | (with_reducible refine New.drew ?_) | (with_reducible refine New.drewN ?_ _) | (with_reducible refine New.hat ?_ _) | ((with_reducible apply New.snart); (with_reducible assumption))))
  clear hW
  refine (CC.out _).mono ?_
  rintro e w1 ⟨v, rfl, r1, n1⟩
  ((replace a0 := n1.keep a0); (replace a1 := n1.keep a1); (replace b0 := n1.keep b0); (replace b1 := n1.keep b1))
  rw [e0]
  have hn1 := hn.trans n1
  clear hn n1 CC
  go_wp2_with fail
  refine (c_wakes _).mono ?_
  rintro e w2 ⟨rfl, n2⟩
  go_wp2_with fail
  go_ret
  exact ⟨rfl, hn1.trans n2⟩

set_option maxRecDepth 100000 in
set_option maxHeartbeats 4000000 in
theorem hold_no3 (p0 q0 p1 q1 k n : Int) (hok : okB p0 q0 p1 q1 = true) (g0 : decide (n < 1) = false) (g1 : decide ((100 : Int) < n) = false) (g2 : decide (k < 0) = false) (g3 : decide (n < k) = true) (w : World) :
    Calls Try.prog 5 #[.agg #[.int .i64 p0, .int .i64 q0], .agg #[.int .i64 p1, .int .i64 q1], .int .i64 k, .int .i64 n] w fun e w' => e = .returned (.bool true) ∧ New w w' := by
  have CC := Lib.hid (fun W => c_cells p0 q0 p1 q1 W)
  have e0 : errOf p0 q0 p1 q1 = 0 := by unfold errOf; rw [hok]; rfl
  generalize told p0 q0 p1 q1 = L at *
  go_enter Try.func5, Try.ntmps5
  go_wp2_with fail
  generalize hW : World.alloc _ _ = W
  have a0 : W.cell? ⟨w.heap.size, 0, none⟩ = some (.int .i64 p0) := by subst hW; go_simp
  have a1 : W.cell? ⟨w.heap.size, 1, none⟩ = some (.int .i64 q0) := by subst hW; go_simp
  have b0 : W.cell? ⟨w.heap.size + 1, 0, none⟩ = some (.int .i64 p1) := by subst hW; go_simp
  have b1 : W.cell? ⟨w.heap.size + 1, 1, none⟩ = some (.int .i64 q1) := by subst hW; go_simp
  have hn : New w W := by subst hW; (repeat (first | (with_reducible exact New.refl _) | (with_reducible assumption) | ((with_reducible refine New.setB ?_ ?_ _); focus (first | omega | (simp; omega) | (simp; done))) | (with_reducible refine New.alloc ?_ _) | (with_reducible refine New.drew ?_) | (with_reducible refine New.drewN ?_ _) | (with_reducible refine New.hat ?_ _) | ((with_reducible apply New.snart); (with_reducible assumption))))
  clear hW
  refine (CC.out _).mono ?_
  rintro e w1 ⟨v, rfl, r1, n1⟩
  ((replace a0 := n1.keep a0); (replace a1 := n1.keep a1); (replace b0 := n1.keep b0); (replace b1 := n1.keep b1))
  rw [e0]
  have hn1 := hn.trans n1
  clear hn n1 CC
  go_wp2_with fail
  refine (c_wakes _).mono ?_
  rintro e w2 ⟨rfl, n2⟩
  go_wp2_with fail
  go_ret
  exact ⟨rfl, hn1.trans n2⟩
end Go.Proofs.Ytebpgefmilkioaa
