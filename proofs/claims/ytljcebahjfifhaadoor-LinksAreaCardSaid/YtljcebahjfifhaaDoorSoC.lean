/- Package soup: configs; what a box, a hop, a triangle is asked. -/
import Derived.Test.YtljcebahjfifhaaDoorSoB
import Derived.Test.YtljcebahjfifhaaDoorTriD
namespace Go.Proofs.YtljcebahjfifhaaDoor
open Go.RowKit
set_option linter.unusedVariables false

structure CfgR where
  (cl cb ht ri ru wd dp : Int)
def CfgR.enc (C : CfgR) : List Value := [.int .i64 C.cl, .int .i64 C.cb, .int .i64 C.ht, .int .i64 C.ri, .int .i64 C.ru, .int .i64 C.wd, .int .i64 C.dp]
def CfgR.err (C : CfgR) : Int := checkE C.cl C.cb C.ht C.ri C.ru C.wd C.dp
structure CfgR.fine (C : CfgR) : Prop where
  err : C.err = 0
  w1 : 1 ≤ C.wd
  w2 : C.wd ≤ 32
  d1 : 1 ≤ C.dp
  d2 : C.dp ≤ 32
theorem CfgR.fine_of {C : CfgR} (h : C.err = 0) : C.fine := by
  have h1 := h
  unfold CfgR.err checkE checkB at h1
  split at h1
  · rename_i h2
    simp only [Bool.and_eq_true, decide_eq_true_eq] at h2
    exact ⟨h, h2.1.2.1, h2.1.2.2, h2.2.1, h2.2.2⟩
  · cases h1
theorem CfgR.at {C : CfgR} {w : World} {b : Nat} (H : CellsAt w b 0 C.enc) :
    w.cell? ⟨b, 0, none⟩ = some (.int .i64 C.cl) ∧ w.cell? ⟨b, 1, none⟩ = some (.int .i64 C.cb) ∧ w.cell? ⟨b, 2, none⟩ = some (.int .i64 C.ht) ∧ w.cell? ⟨b, 3, none⟩ = some (.int .i64 C.ri) ∧ w.cell? ⟨b, 4, none⟩ = some (.int .i64 C.ru) ∧ w.cell? ⟨b, 5, none⟩ = some (.int .i64 C.wd) ∧ w.cell? ⟨b, 6, none⟩ = some (.int .i64 C.dp) :=
  ⟨H 0 (by simp [CfgR.enc]), H 1 (by simp [CfgR.enc]), H 2 (by simp [CfgR.enc]), H 3 (by simp [CfgR.enc]), H 4 (by simp [CfgR.enc]), H 5 (by simp [CfgR.enc]), H 6 (by simp [CfgR.enc])⟩
theorem cells_new (w : World) (cs : Array Value) (T : TypeId) : CellsAt (w.alloc (.cells cs T)) w.heap.size 0 cs.toList := fun i hi => by
  have h1 : (w.alloc (.cells cs T)).heap[w.heap.size]? = some (.cells cs T) := heap_new _ _
  rw [Nat.zero_add]
  exact cell_of_heap h1 (by rw [Array.getElem?_eq_getElem (by simpa using hi)]; simp)
theorem ints_new (w : World) (l : List Int) (T : TypeId) : IntsAt (w.alloc (.cells (l.map (Value.int .i64)).toArray T)) w.heap.size l := fun j hj => by
  have := cells_new w (l.map (Value.int .i64)).toArray T j (by simpa using hj)
  rw [Nat.zero_add] at this
  rw [this]
  simp

theorem TriR.at {x : TriR} {w : World} {b : Nat} (H : CellsAt w b 0 x.enc) : w.cell? ⟨b, 0, none⟩ = some (.int .i64 x.i) ∧ w.cell? ⟨b, 1, none⟩ = some (.int .i64 x.x0) ∧ w.cell? ⟨b, 2, none⟩ = some (.int .i64 x.y0) ∧ w.cell? ⟨b, 3, none⟩ = some (.int .i64 x.z0) ∧ w.cell? ⟨b, 4, none⟩ = some (.int .i64 x.x1) ∧ w.cell? ⟨b, 5, none⟩ = some (.int .i64 x.y1) ∧ w.cell? ⟨b, 6, none⟩ = some (.int .i64 x.z1) ∧ w.cell? ⟨b, 7, none⟩ = some (.int .i64 x.x2) ∧ w.cell? ⟨b, 8, none⟩ = some (.int .i64 x.y2) ∧ w.cell? ⟨b, 9, none⟩ = some (.int .i64 x.z2) :=
  ⟨H 0 (by rw [TriR.enc_len]; omega), H 1 (by rw [TriR.enc_len]; omega), H 2 (by rw [TriR.enc_len]; omega), H 3 (by rw [TriR.enc_len]; omega), H 4 (by rw [TriR.enc_len]; omega), H 5 (by rw [TriR.enc_len]; omega), H 6 (by rw [TriR.enc_len]; omega), H 7 (by rw [TriR.enc_len]; omega), H 8 (by rw [TriR.enc_len]; omega), H 9 (by rw [TriR.enc_len]; omega)⟩

theorem BoxR.at {x : BoxR} {w : World} {b : Nat} (H : CellsAt w b 0 x.enc) : w.cell? ⟨b, 0, none⟩ = some (.int .i64 x.i) ∧ w.cell? ⟨b, 1, none⟩ = some (.int .i64 x.x0) ∧ w.cell? ⟨b, 2, none⟩ = some (.int .i64 x.z0) ∧ w.cell? ⟨b, 3, none⟩ = some (.int .i64 x.x1) ∧ w.cell? ⟨b, 4, none⟩ = some (.int .i64 x.z1) ∧ w.cell? ⟨b, 5, none⟩ = some (.int .i64 x.y0) ∧ w.cell? ⟨b, 6, none⟩ = some (.int .i64 x.y1) ∧ w.cell? ⟨b, 7, none⟩ = some (.int .i64 x.ar) :=
  ⟨H 0 (by rw [BoxR.enc_len]; omega), H 1 (by rw [BoxR.enc_len]; omega), H 2 (by rw [BoxR.enc_len]; omega), H 3 (by rw [BoxR.enc_len]; omega), H 4 (by rw [BoxR.enc_len]; omega), H 5 (by rw [BoxR.enc_len]; omega), H 6 (by rw [BoxR.enc_len]; omega), H 7 (by rw [BoxR.enc_len]; omega)⟩

end Go.Proofs.YtljcebahjfifhaaDoor
