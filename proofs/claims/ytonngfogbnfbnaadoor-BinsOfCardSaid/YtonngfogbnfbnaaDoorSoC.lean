/- Package soup: configs; what a box, a hop, a triangle is asked. -/
import Derived.Test.YtonngfogbnfbnaaDoorSoB
import Derived.Test.YtonngfogbnfbnaaDoorTriD
namespace Go.Proofs.YtonngfogbnfbnaaDoor
open Go.RowKit
set_option linter.unusedVariables false

structure CfgR where
  (cl cb ht ri ru wd dp : Int)
def CfgR.enc (C : CfgR) : List Value := [.int .i64 C.cl, .int .i64 C.cb, .int .i64 C.ht, .int .i64 C.ri, .int .i64 C.ru, .int .i64 C.wd, .int .i64 C.dp]
def CfgR.err (C : CfgR) : Int := checkE C.cl C.cb C.ht C.ri C.ru C.wd C.dp
structure CfgR.fine (C : CfgR) : Prop where
  err : C.err = 0
  w1 : 1 ≤ C.wd
  w2 : C.wd ≤ 32
  d1 : 1 ≤ C.dp
  d2 : C.dp ≤ 32
theorem CfgR.fine_of {C : CfgR} (h : C.err = 0) : C.fine := by
  have h1 := h
  unfold CfgR.err checkE checkB at h1
  split at h1
  · rename_i h2
    simp only [Bool.and_eq_true, decide_eq_true_eq] at h2
    exact ⟨h, h2.1.2.1, h2.1.2.2, h2.2.1, h2.2.2⟩
  · cases h1
theorem CfgR.at {C : CfgR} {w : World} {b : Nat} (H : CellsAt w b 0 C.enc) :
    w.cell? ⟨b, 0, none⟩ = some (.int .i64 C.cl) ∧ w.cell? ⟨b, 1, none⟩ = some (.int .i64 C.cb) ∧ w.cell? ⟨b, 2, none⟩ = some (.int .i64 C.ht) ∧ w.cell? ⟨b, 3, none⟩ = some (.int .i64 C.ri) ∧ w.cell? ⟨b, 4, none⟩ = some (.int .i64 C.ru) ∧ w.cell? ⟨b, 5, none⟩ = some (.int .i64 C.wd) ∧ w.cell? ⟨b, 6, none⟩ = some (.int .i64 C.dp) :=
  ⟨H 0 (by simp [CfgR.enc]), H 1 (by simp [CfgR.enc]), H 2 (by simp [CfgR.enc]), H 3 (by simp [CfgR.enc]), H 4 (by simp [CfgR.enc]), H 5 (by simp [CfgR.enc]), H 6 (by simp [CfgR.enc])⟩
theorem cells_new (w : World) (cs : Array Value) (T : TypeId) : CellsAt (w.alloc (.cells cs T)) w.heap.size 0 cs.toList := fun i hi => by
  have h1 : (w.alloc (.cells cs T)).heap[w.heap.size]? = some (.cells cs T) := heap_new _ _
  rw [Nat.zero_add]
  exact cell_of_heap h1 (by rw [Array.getElem?_eq_getElem (by simpa using hi)]; simp)
theorem ints_new (w : World) (l : List Int) (T : TypeId) : IntsAt (w.alloc (.cells (l.map (Value.int .i64)).toArray T)) w.heap.size l := fun j hj => by
  have := cells_new w (l.map (Value.int .i64)).toArray T j (by simpa using hj)
  rw [Nat.zero_add] at this
  rw [this]
  simp

theorem TriR.at {x : TriR} {w : World} {b : Nat} (H : CellsAt w b 0 x.enc) : w.cell? ⟨b, 0, none⟩ = some (.int .i64 x.i) ∧ w.cell? ⟨b, 1, none⟩ = some (.int .i64 x.x0) ∧ w.cell? ⟨b, 2, none⟩ = some (.int .i64 x.y0) ∧ w.cell? ⟨b, 3, none⟩ = some (.int .i64 x.z0) ∧ w.cell? ⟨b, 4, none⟩ = some (.int .i64 x.x1) ∧ w.cell? ⟨b, 5, none⟩ = some (.int .i64 x.y1) ∧ w.cell? ⟨b, 6, none⟩ = some (.int .i64 x.z1) ∧ w.cell? ⟨b, 7, none⟩ = some (.int .i64 x.x2) ∧ w.cell? ⟨b, 8, none⟩ = some (.int .i64 x.y2) ∧ w.cell? ⟨b, 9, none⟩ = some (.int .i64 x.z2) :=
  ⟨H 0 (by rw [TriR.enc_len]; omega), H 1 (by rw [TriR.enc_len]; omega), H 2 (by rw [TriR.enc_len]; omega), H 3 (by rw [TriR.enc_len]; omega), H 4 (by rw [TriR.enc_len]; omega), H 5 (by rw [TriR.enc_len]; omega), H 6 (by rw [TriR.enc_len]; omega), H 7 (by rw [TriR.enc_len]; omega), H 8 (by rw [TriR.enc_len]; omega), H 9 (by rw [TriR.enc_len]; omega)⟩

theorem BoxR.at {x : BoxR} {w : World} {b : Nat} (H : CellsAt w b 0 x.enc) : w.cell? ⟨b, 0, none⟩ = some (.int .i64 x.i) ∧ w.cell? ⟨b, 1, none⟩ = some (.int .i64 x.x0) ∧ w.cell? ⟨b, 2, none⟩ = some (.int .i64 x.z0) ∧ w.cell? ⟨b, 3, none⟩ = some (.int .i64 x.x1) ∧ w.cell? ⟨b, 4, none⟩ = some (.int .i64 x.z1) ∧ w.cell? ⟨b, 5, none⟩ = some (.int .i64 x.y0) ∧ w.cell? ⟨b, 6, none⟩ = some (.int .i64 x.y1) ∧ w.cell? ⟨b, 7, none⟩ = some (.int .i64 x.ar) :=
  ⟨H 0 (by rw [BoxR.enc_len]; omega), H 1 (by rw [BoxR.enc_len]; omega), H 2 (by rw [BoxR.enc_len]; omega), H 3 (by rw [BoxR.enc_len]; omega), H 4 (by rw [BoxR.enc_len]; omega), H 5 (by rw [BoxR.enc_len]; omega), H 6 (by rw [BoxR.enc_len]; omega), H 7 (by rw [BoxR.enc_len]; omega)⟩

theorem HopR.at {x : HopR} {w : World} {b : Nat} (H : CellsAt w b 0 x.enc) : w.cell? ⟨b, 0, none⟩ = some (.int .i64 x.i) ∧ w.cell? ⟨b, 1, none⟩ = some (.int .i64 x.fx) ∧ w.cell? ⟨b, 2, none⟩ = some (.int .i64 x.fz) ∧ w.cell? ⟨b, 3, none⟩ = some (.int .i64 x.fy) ∧ w.cell? ⟨b, 4, none⟩ = some (.int .i64 x.tx) ∧ w.cell? ⟨b, 5, none⟩ = some (.int .i64 x.tz) ∧ w.cell? ⟨b, 6, none⟩ = some (.int .i64 x.ty) ∧ w.cell? ⟨b, 7, none⟩ = some (.bool x.bo) ∧ w.cell? ⟨b, 8, none⟩ = some (.int .i64 x.ar) ∧ w.cell? ⟨b, 9, none⟩ = some (.int .i64 x.co) :=
  ⟨H 0 (by rw [HopR.enc_len]; omega), H 1 (by rw [HopR.enc_len]; omega), H 2 (by rw [HopR.enc_len]; omega), H 3 (by rw [HopR.enc_len]; omega), H 4 (by rw [HopR.enc_len]; omega), H 5 (by rw [HopR.enc_len]; omega), H 6 (by rw [HopR.enc_len]; omega), H 7 (by rw [HopR.enc_len]; omega), H 8 (by rw [HopR.enc_len]; omega), H 9 (by rw [HopR.enc_len]; omega)⟩
set_option maxHeartbeats 400000 in
theorem b_t1 (C : CfgR) (hC : C.fine) (x : BoxR) (Bc Bx : Nat) (w : World) (hc : CellsAt w Bc 0 C.enc) (hx : CellsAt w Bx 0 x.enc) :
    Calls Tryd.prog 65 #[.pointer (some ⟨Bx, 0, none⟩), .pointer (some ⟨Bc, 0, none⟩)] w fun e w' => e = .returned (.bool (ordB [0, x.x0, x.x1, C.wd - 1])) ∧ New w w' := by
  have w1 := hC.w1
  have w2 := hC.w2
  have d1 := hC.d1
  have d2 := hC.d2
  have c0 : w.cell? ⟨Bx, 1, none⟩ = some (.int .i64 x.x0) := hx 1 (by rw [BoxR.enc_len]; omega)
  have c1 : w.cell? ⟨Bx, 3, none⟩ = some (.int .i64 x.x1) := hx 3 (by rw [BoxR.enc_len]; omega)
  have c2 : w.cell? ⟨Bc, 5, none⟩ = some (.int .i64 C.wd) := hc 5 (by simp [CfgR.enc])
  clear hc hx hC
  go_enter Tryd.func65, Tryd.ntmps65
  go_wp2_with fail
  refine (l_inOrder _ 4 [0, x.x0, x.x1, C.wd - 1] (by simp) (by simp) _ (ints_new _ _ _)).mono ?_
  rintro e w1 ⟨rfl, n1⟩
  have hn : New w w1 := New.trans ((New.refl w).alloc _) n1
  clear n1
  go_wp2_with fail
  go_ret
  exact ⟨rfl, hn⟩

set_option maxHeartbeats 400000 in
theorem b_t2 (C : CfgR) (hC : C.fine) (x : BoxR) (Bc Bx : Nat) (w : World) (hc : CellsAt w Bc 0 C.enc) (hx : CellsAt w Bx 0 x.enc) :
    Calls Tryd.prog 67 #[.pointer (some ⟨Bx, 0, none⟩), .pointer (some ⟨Bc, 0, none⟩)] w fun e w' => e = .returned (.bool (ordB [0, x.z0, x.z1, C.dp - 1])) ∧ New w w' := by
  have w1 := hC.w1
  have w2 := hC.w2
  have d1 := hC.d1
  have d2 := hC.d2
  have c0 : w.cell? ⟨Bx, 2, none⟩ = some (.int .i64 x.z0) := hx 2 (by rw [BoxR.enc_len]; omega)
  have c1 : w.cell? ⟨Bx, 4, none⟩ = some (.int .i64 x.z1) := hx 4 (by rw [BoxR.enc_len]; omega)
  have c2 : w.cell? ⟨Bc, 6, none⟩ = some (.int .i64 C.dp) := hc 6 (by simp [CfgR.enc])
  clear hc hx hC
  go_enter Tryd.func67, Tryd.ntmps67
  go_wp2_with fail
  refine (l_inOrder _ 4 [0, x.z0, x.z1, C.dp - 1] (by simp) (by simp) _ (ints_new _ _ _)).mono ?_
  rintro e w1 ⟨rfl, n1⟩
  have hn : New w w1 := New.trans ((New.refl w).alloc _) n1
  clear n1
  go_wp2_with fail
  go_ret
  exact ⟨rfl, hn⟩

set_option maxHeartbeats 400000 in
theorem b_t3 (C : CfgR) (hC : C.fine) (x : BoxR) (Bc Bx : Nat) (w : World) (hc : CellsAt w Bc 0 C.enc) (hx : CellsAt w Bx 0 x.enc) :
    Calls Tryd.prog 68 #[.pointer (some ⟨Bx, 0, none⟩)] w fun e w' => e = .returned (.bool (ordB [-2048, x.y0, x.y1, 2048])) ∧ New w w' := by
  have w1 := hC.w1
  have w2 := hC.w2
  have d1 := hC.d1
  have d2 := hC.d2
  have c0 : w.cell? ⟨Bx, 5, none⟩ = some (.int .i64 x.y0) := hx 5 (by rw [BoxR.enc_len]; omega)
  have c1 : w.cell? ⟨Bx, 6, none⟩ = some (.int .i64 x.y1) := hx 6 (by rw [BoxR.enc_len]; omega)
  clear hc hx hC
  go_enter Tryd.func68, Tryd.ntmps68
  go_wp2_with fail
  refine (l_inOrder _ 4 [-2048, x.y0, x.y1, 2048] (by simp) (by simp) _ (ints_new _ _ _)).mono ?_
  rintro e w1 ⟨rfl, n1⟩
  have hn : New w w1 := New.trans ((New.refl w).alloc _) n1
  clear n1
  go_wp2_with fail
  go_ret
  exact ⟨rfl, hn⟩

set_option maxHeartbeats 400000 in
theorem b_t4 (C : CfgR) (hC : C.fine) (x : BoxR) (Bc Bx : Nat) (w : World) (hc : CellsAt w Bc 0 C.enc) (hx : CellsAt w Bx 0 x.enc) :
    Calls Tryd.prog 69 #[.pointer (some ⟨Bx, 0, none⟩)] w fun e w' => e = .returned (.bool (ordB [0, x.ar, 7])) ∧ New w w' := by
  have w1 := hC.w1
  have w2 := hC.w2
  have d1 := hC.d1
  have d2 := hC.d2
  have c0 : w.cell? ⟨Bx, 7, none⟩ = some (.int .i64 x.ar) := hx 7 (by rw [BoxR.enc_len]; omega)
  clear hc hx hC
  go_enter Tryd.func69, Tryd.ntmps69
  go_wp2_with fail
  refine (l_inOrder _ 3 [0, x.ar, 7] (by simp) (by simp) _ (ints_new _ _ _)).mono ?_
  rintro e w1 ⟨rfl, n1⟩
  have hn : New w w1 := New.trans ((New.refl w).alloc _) n1
  clear n1
  go_wp2_with fail
  go_ret
  exact ⟨rfl, hn⟩

set_option maxHeartbeats 400000 in
theorem h_t3 (C : CfgR) (hC : C.fine) (x : HopR) (Bc Bx : Nat) (w : World) (hc : CellsAt w Bc 0 C.enc) (hx : CellsAt w Bx 0 x.enc) :
    Calls Tryd.prog 77 #[.pointer (some ⟨Bx, 0, none⟩)] w fun e w' => e = .returned (.bool (ordB [1, x.ar, 7])) ∧ New w w' := by
  have w1 := hC.w1
  have w2 := hC.w2
  have d1 := hC.d1
  have d2 := hC.d2
  have c0 : w.cell? ⟨Bx, 8, none⟩ = some (.int .i64 x.ar) := hx 8 (by rw [HopR.enc_len]; omega)
  clear hc hx hC
  go_enter Tryd.func77, Tryd.ntmps77
  go_wp2_with fail
  refine (l_inOrder _ 3 [1, x.ar, 7] (by simp) (by simp) _ (ints_new _ _ _)).mono ?_
  rintro e w1 ⟨rfl, n1⟩
  have hn : New w w1 := New.trans ((New.refl w).alloc _) n1
  clear n1
  go_wp2_with fail
  go_ret
  exact ⟨rfl, hn⟩

set_option maxHeartbeats 400000 in
theorem h_t4 (C : CfgR) (hC : C.fine) (x : HopR) (Bc Bx : Nat) (w : World) (hc : CellsAt w Bc 0 C.enc) (hx : CellsAt w Bx 0 x.enc) :
    Calls Tryd.prog 78 #[.pointer (some ⟨Bx, 0, none⟩)] w fun e w' => e = .returned (.bool (ordB [0, x.co, 1048576])) ∧ New w w' := by
  have w1 := hC.w1
  have w2 := hC.w2
  have d1 := hC.d1
  have d2 := hC.d2
  have c0 : w.cell? ⟨Bx, 9, none⟩ = some (.int .i64 x.co) := hx 9 (by rw [HopR.enc_len]; omega)
  clear hc hx hC
  go_enter Tryd.func78, Tryd.ntmps78
  go_wp2_with fail
  refine (l_inOrder _ 3 [0, x.co, 1048576] (by simp) (by simp) _ (ints_new _ _ _)).mono ?_
  rintro e w1 ⟨rfl, n1⟩
  have hn : New w w1 := New.trans ((New.refl w).alloc _) n1
  clear n1
  go_wp2_with fail
  go_ret
  exact ⟨rfl, hn⟩

end Go.Proofs.YtonngfogbnfbnaaDoor
