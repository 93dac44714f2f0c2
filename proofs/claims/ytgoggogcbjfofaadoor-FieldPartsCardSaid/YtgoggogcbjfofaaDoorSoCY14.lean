import Derived.Test.YtgoggogcbjfofaaDoorWholeCY14
import Derived.Handy
import Derived.Test.YtgoggogcbjfofaaDoorRows
import Derived.WalkKit
import Derived.Test.YtgoggogcbjfofaaDoorSteady
import Derived.Deep.DeepCutAuto
import Derived.Deep.CutBlock
import Derived.Test.YtgoggogcbjfofaaDoorSoRY14
import Derived.Test.YtgoggogcbjfofaaDoorHatS
import Derived.Deep.LoopGhost
import Derived.Shelf.Abstract
import Derived.Test.YtgoggogcbjfofaaDoorWholeIY14

/- Contracts of Cross of package whole and of the document's own. -/
namespace Go.Proofs.YtgoggogcbjfofaaDoor
open Go.RowKit

def nearB (n : Int) : Bool := withinB n (-1073741824) 1073741824
def crossB (a b c d : Int) : Bool := nearB a && nearB b && nearB c && nearB d
def crossI (a b c d : Int) : Int := if crossB a b c d then a * d - b * c else 0

theorem nearB_iff (n : Int) : nearB n = decide (-1073741824 ≤ n ∧ n ≤ 1073741824) := by
  unfold nearB withinB clampI
  rw [Bool.eq_iff_iff]; simp; omega

theorem near_mul {a b : Int} (ha : nearB a = true) (hb : nearB b = true) : -1152921504606846976 ≤ a * b ∧ a * b ≤ 1152921504606846976 := by
  rw [nearB_iff] at ha hb
  simp at ha hb
  have h : (a * b).natAbs ≤ 1073741824 * 1073741824 := by
    rw [Int.natAbs_mul]
    exact Nat.mul_le_mul (by omega) (by omega)
  omega

end Go.Proofs.YtgoggogcbjfofaaDoor

/- How great a product may be. No function of the program in sight. -/
namespace Go.Proofs.YtgoggogcbjfofaaDoor

theorem mul_bd {a b A B : Int} (ha : -A ≤ a ∧ a ≤ A) (hb : -B ≤ b ∧ b ≤ B) : -(A * B) ≤ a * b ∧ a * b ≤ A * B := by
  have hA : 0 ≤ A := by omega
  have hB : 0 ≤ B := by omega
  have h1 : 0 ≤ (A - a) * (B - b) := Int.mul_nonneg (by omega) (by omega)
  have h2 : 0 ≤ (A + a) * (B + b) := Int.mul_nonneg (by omega) (by omega)
  have h3 : 0 ≤ (A - a) * (B + b) := Int.mul_nonneg (by omega) (by omega)
  have h4 : 0 ≤ (A + a) * (B - b) := Int.mul_nonneg (by omega) (by omega)
  simp only [Int.sub_mul, Int.mul_sub, Int.add_mul, Int.mul_add] at h1 h2 h3 h4
  omega

end Go.Proofs.YtgoggogcbjfofaaDoor

/- Triangles in plain numbers: which may be, their normals, and how great the numbers on the way may be. No function of the program in sight. -/
namespace Go.Proofs.YtgoggogcbjfofaaDoor
open Go.RowKit
set_option linter.unusedVariables false

def nxI (x0 y0 z0 x1 y1 z1 x2 y2 z2 : Int) : Int := (y1 - y0) * (z2 - z0) - (z1 - z0) * (y2 - y0)
def nyI (x0 y0 z0 x1 y1 z1 x2 y2 z2 : Int) : Int := (z1 - z0) * (x2 - x0) - (x1 - x0) * (z2 - z0)
def nzI (x0 y0 z0 x1 y1 z1 x2 y2 z2 : Int) : Int := (x1 - x0) * (y2 - y0) - (y1 - y0) * (x2 - x0)

def StV (w d x y z : Int) : Prop := (0 ≤ x ∧ x ≤ w) ∧ (0 ≤ z ∧ z ≤ d) ∧ (-2048 ≤ y ∧ y ≤ 2048)
instance (w d x y z : Int) : Decidable (StV w d x y z) := by unfold StV; infer_instance
def StP (w d x0 y0 z0 x1 y1 z1 x2 y2 z2 : Int) : Prop := StV w d x0 y0 z0 ∧ StV w d x1 y1 z1 ∧ StV w d x2 y2 z2
instance (w d x0 y0 z0 x1 y1 z1 x2 y2 z2 : Int) : Decidable (StP w d x0 y0 z0 x1 y1 z1 x2 y2 z2) := by unfold StP; infer_instance
def stB (w d x0 y0 z0 x1 y1 z1 x2 y2 z2 : Int) : Bool := decide (StP w d x0 y0 z0 x1 y1 z1 x2 y2 z2)
theorem stB_iff {w d x0 y0 z0 x1 y1 z1 x2 y2 z2 : Int} : stB w d x0 y0 z0 x1 y1 z1 x2 y2 z2 = true ↔ StP w d x0 y0 z0 x1 y1 z1 x2 y2 z2 := by unfold stB; simp
theorem stB_no {w d x0 y0 z0 x1 y1 z1 x2 y2 z2 : Int} : stB w d x0 y0 z0 x1 y1 z1 x2 y2 z2 = false ↔ ¬ StP w d x0 y0 z0 x1 y1 z1 x2 y2 z2 := by unfold stB; simp

def okB (x0 y0 z0 x1 y1 z1 x2 y2 z2 : Int) : Bool := stB 32 32 x0 y0 z0 x1 y1 z1 x2 y2 z2 && (nyI x0 y0 z0 x1 y1 z1 x2 y2 z2 != 0)
def normX (x0 y0 z0 x1 y1 z1 x2 y2 z2 : Int) : Int := if okB x0 y0 z0 x1 y1 z1 x2 y2 z2 then nxI x0 y0 z0 x1 y1 z1 x2 y2 z2 else 0
def normY (x0 y0 z0 x1 y1 z1 x2 y2 z2 : Int) : Int := if okB x0 y0 z0 x1 y1 z1 x2 y2 z2 then nyI x0 y0 z0 x1 y1 z1 x2 y2 z2 else 0
def normZ (x0 y0 z0 x1 y1 z1 x2 y2 z2 : Int) : Int := if okB x0 y0 z0 x1 y1 z1 x2 y2 z2 then nzI x0 y0 z0 x1 y1 z1 x2 y2 z2 else 0
def normE (x0 y0 z0 x1 y1 z1 x2 y2 z2 : Int) : Int := if okB x0 y0 z0 x1 y1 z1 x2 y2 z2 then 0 else 40

theorem norm_yes {x0 y0 z0 x1 y1 z1 x2 y2 z2 : Int} (h : okB x0 y0 z0 x1 y1 z1 x2 y2 z2 = true) : normX x0 y0 z0 x1 y1 z1 x2 y2 z2 = nxI x0 y0 z0 x1 y1 z1 x2 y2 z2 ∧ normY x0 y0 z0 x1 y1 z1 x2 y2 z2 = nyI x0 y0 z0 x1 y1 z1 x2 y2 z2 ∧ normZ x0 y0 z0 x1 y1 z1 x2 y2 z2 = nzI x0 y0 z0 x1 y1 z1 x2 y2 z2 ∧ normE x0 y0 z0 x1 y1 z1 x2 y2 z2 = 0 := by
  unfold normX normY normZ normE; simp [h]
theorem norm_no {x0 y0 z0 x1 y1 z1 x2 y2 z2 : Int} (h : okB x0 y0 z0 x1 y1 z1 x2 y2 z2 = false) : normX x0 y0 z0 x1 y1 z1 x2 y2 z2 = 0 ∧ normY x0 y0 z0 x1 y1 z1 x2 y2 z2 = 0 ∧ normZ x0 y0 z0 x1 y1 z1 x2 y2 z2 = 0 ∧ normE x0 y0 z0 x1 y1 z1 x2 y2 z2 = 40 := by
  unfold normX normY normZ normE; simp [h]

theorem nx_sum (x0 y0 z0 x1 y1 z1 x2 y2 z2 : Int) : (y0 * z1 - z0 * y1) + (y1 * z2 - z1 * y2) + (y2 * z0 - z2 * y0) = nxI x0 y0 z0 x1 y1 z1 x2 y2 z2 := by unfold nxI; grind
theorem ny_sum (x0 y0 z0 x1 y1 z1 x2 y2 z2 : Int) : (z0 * x1 - x0 * z1) + (z1 * x2 - x1 * z2) + (z2 * x0 - x2 * z0) = nyI x0 y0 z0 x1 y1 z1 x2 y2 z2 := by unfold nyI; grind
theorem nz_sum (x0 y0 z0 x1 y1 z1 x2 y2 z2 : Int) : (x0 * y1 - y0 * x1) + (x1 * y2 - y1 * x2) + (x2 * y0 - y2 * x0) = nzI x0 y0 z0 x1 y1 z1 x2 y2 z2 := by unfold nzI; grind

/-- The numbers of a normal. -/
theorem nI_bd {x0 y0 z0 x1 y1 z1 x2 y2 z2 : Int} (h : StP 32 32 x0 y0 z0 x1 y1 z1 x2 y2 z2) : (-262144 ≤ nxI x0 y0 z0 x1 y1 z1 x2 y2 z2 ∧ nxI x0 y0 z0 x1 y1 z1 x2 y2 z2 ≤ 262144) ∧ (-2048 ≤ nyI x0 y0 z0 x1 y1 z1 x2 y2 z2 ∧ nyI x0 y0 z0 x1 y1 z1 x2 y2 z2 ≤ 2048) ∧ (-262144 ≤ nzI x0 y0 z0 x1 y1 z1 x2 y2 z2 ∧ nzI x0 y0 z0 x1 y1 z1 x2 y2 z2 ≤ 262144) := by
  unfold StP StV at h
  have a1 := mul_bd (a := y1 - y0) (b := z2 - z0) (A := 4096) (B := 32) (by omega) (by omega)
  have a2 := mul_bd (a := z1 - z0) (b := y2 - y0) (A := 32) (B := 4096) (by omega) (by omega)
  have a3 := mul_bd (a := z1 - z0) (b := x2 - x0) (A := 32) (B := 32) (by omega) (by omega)
  have a4 := mul_bd (a := x1 - x0) (b := z2 - z0) (A := 32) (B := 32) (by omega) (by omega)
  have a5 := mul_bd (a := x1 - x0) (b := y2 - y0) (A := 32) (B := 4096) (by omega) (by omega)
  have a6 := mul_bd (a := y1 - y0) (b := x2 - x0) (A := 4096) (B := 32) (by omega) (by omega)
  unfold nxI nyI nzI
  omega

theorem ok_st {x0 y0 z0 x1 y1 z1 x2 y2 z2 : Int} (h : okB x0 y0 z0 x1 y1 z1 x2 y2 z2 = true) : StP 32 32 x0 y0 z0 x1 y1 z1 x2 y2 z2 ∧ nyI x0 y0 z0 x1 y1 z1 x2 y2 z2 ≠ 0 := by
  unfold okB at h
  simp only [Bool.and_eq_true, bne_iff_ne] at h
  exact ⟨stB_iff.1 h.1, h.2⟩

theorem ok_no {x0 y0 z0 x1 y1 z1 x2 y2 z2 : Int} (h : okB x0 y0 z0 x1 y1 z1 x2 y2 z2 = false) (hs : stB 32 32 x0 y0 z0 x1 y1 z1 x2 y2 z2 = true) : nyI x0 y0 z0 x1 y1 z1 x2 y2 z2 = 0 := by
  unfold okB at h
  rw [hs] at h
  simpa using h

end Go.Proofs.YtgoggogcbjfofaaDoor

/- Package tri: within, cross, the closure of Bounds. -/
namespace Go.Proofs.YtgoggogcbjfofaaDoor
open Go.RowKit
set_option linter.unusedVariables false

theorem cross_small {a b c d : Int} (ha : -1073741824 ≤ a ∧ a ≤ 1073741824) (hb : -1073741824 ≤ b ∧ b ≤ 1073741824) (hc : -1073741824 ≤ c ∧ c ≤ 1073741824) (hd : -1073741824 ≤ d ∧ d ≤ 1073741824) : crossI a b c d = a * d - b * c := by
  unfold crossI crossB; simp only [nearB_iff]; rw [if_pos (by simp; omega)]

def minI (a b c : Int) : Int := min (min (min a a) b) c
def maxI (a b c : Int) : Int := max (max (max a a) b) c

end Go.Proofs.YtgoggogcbjfofaaDoor

/- Package tri: stands, Normal. -/
namespace Go.Proofs.YtgoggogcbjfofaaDoor
open Go.RowKit
set_option linter.unusedVariables false

theorem st_eq (wd dp x0 y0 z0 x1 y1 z1 x2 y2 z2 : Int) : stB wd dp x0 y0 z0 x1 y1 z1 x2 y2 z2 = (decide (0 ≤ minI x0 x1 x2) && decide (maxI x0 x1 x2 ≤ wd) && decide (0 ≤ minI z0 z1 z2) && decide (maxI z0 z1 z2 ≤ dp) && decide (-2048 ≤ minI y0 y1 y2) && decide (maxI y0 y1 y2 ≤ 2048)) := by
  rw [Bool.eq_iff_iff, stB_iff]
  unfold StP StV minI maxI
  simp only [Bool.and_eq_true, decide_eq_true_eq]
  omega

theorem kb {a b c d A B : Int} (ha : -A ≤ a ∧ a ≤ A) (hd : -B ≤ d ∧ d ≤ B) (hb : -B ≤ b ∧ b ≤ B) (hc : -A ≤ c ∧ c ≤ A) : ∃ k, a * d - b * c = k ∧ -(2 * (A * B)) ≤ k ∧ k ≤ 2 * (A * B) := by
  have h1 := mul_bd ha hd
  have h2 := mul_bd hb hc
  have h3 : B * A = A * B := Int.mul_comm _ _
  exact ⟨_, rfl, by omega, by omega⟩

end Go.Proofs.YtgoggogcbjfofaaDoor

/- Package soup: what is in order; rows of tests. -/
namespace Go.Proofs.YtgoggogcbjfofaaDoor
open Go.RowKit
set_option linter.unusedVariables false

theorem retBo {a b : Bool} (h : a = b) : Ending.returned (.bool a) = .returned (.bool b) := by rw [h]

/-- None is above the one behind it. -/
def ordB : List Int → Bool
  | a :: b :: l => decide (a ≤ b) && ordB (b :: l)
  | _ => true
theorem ordB_drop : ∀ (l : List Int) (j : Nat), ordB l = true → ordB (l.drop j) = true
  | l, 0, h => h
  | [], _ + 1, _ => rfl
  | [a], j + 1, _ => by simp [ordB]
  | a :: b :: l, j + 1, h => by
    simp only [ordB, Bool.and_eq_true] at h
    exact ordB_drop (b :: l) j h.2
theorem ordB_step (l : List Int) (j : Nat) (h : j + 1 < l.length) : ordB (l.drop j) = (decide (l[j] ≤ l[j + 1]) && ordB (l.drop (j + 1))) := by
  rw [List.drop_eq_getElem_cons (show j < l.length by omega), List.drop_eq_getElem_cons h]
  rfl

/-- A row of numbers at a block's head. -/
def IntsAt (w : World) (b : Nat) (l : List Int) : Prop := ∀ j (h : j < l.length), w.cell? ⟨b, j, none⟩ = some (.int .i64 l[j])
theorem IntsAt.keep {w w' : World} {b : Nat} {l : List Int} (h : IntsAt w b l) (hn : New w w') : IntsAt w' b l := fun j hj => hn.keep (h j hj)

/-! Rows of tests. -/
structure Fn where
  g : Nat
  bnd : Array Value
  b : Bool
def FnAt (w : World) (b : Nat) (l : List Fn) : Prop := ∀ j (h : j < l.length), w.cell? ⟨b, j, none⟩ = some (.func (.func l[j].g) #[] l[j].bnd)
/-- A test: what it answers in every world above w0. -/
structure Good (w0 : World) (f : Fn) : Prop where
  eg : ∀ args w, (callFunc f.g args).run Tryd.prog w = .ok (.enter f.g args) w
  run : ∀ W, New w0 W → Calls Tryd.prog f.g f.bnd W fun e w' => e = .returned (.bool f.b) ∧ New W w'

def FnPost (l : List Fn) (w : World) (e : Ending) (w' : World) : Prop := ∃ i : Int, l.all (·.b) = decide (i < 0) ∧ e = .returned (.int .i64 i) ∧ New w w'

end Go.Proofs.YtgoggogcbjfofaaDoor

/- Package tri: Normal of whatever comes, Check, Walk. -/
namespace Go.Proofs.YtgoggogcbjfofaaDoor
open Go.RowKit
set_option linter.unusedVariables false

def tCheckE (cl cb ht ri ru wd dp i x0 y0 z0 x1 y1 z1 x2 y2 z2 : Int) : Int := if checkE cl cb ht ri ru wd dp ≠ 0 then 20 else if (1 ≤ i ∧ i ≤ 1073741824) ∧ stB wd dp x0 y0 z0 x1 y1 z1 x2 y2 z2 = true ∧ okB x0 y0 z0 x1 y1 z1 x2 y2 z2 = true then 0 else 40

theorem checkE_two (cl cb ht ri ru wd dp : Int) : checkE cl cb ht ri ru wd dp = 0 ∨ checkE cl cb ht ri ru wd dp = 20 := by unfold checkE; split <;> simp

end Go.Proofs.YtgoggogcbjfofaaDoor

/- Package soup: configs; what a box, a hop, a triangle is asked. -/
namespace Go.Proofs.YtgoggogcbjfofaaDoor
open Go.RowKit
set_option linter.unusedVariables false

structure CfgR where
  (cl cb ht ri ru wd dp : Int)
def CfgR.enc (C : CfgR) : List Value := [.int .i64 C.cl, .int .i64 C.cb, .int .i64 C.ht, .int .i64 C.ri, .int .i64 C.ru, .int .i64 C.wd, .int .i64 C.dp]
def CfgR.err (C : CfgR) : Int := checkE C.cl C.cb C.ht C.ri C.ru C.wd C.dp
structure CfgR.fine (C : CfgR) : Prop where
  err : C.err = 0
  w1 : 1 ≤ C.wd
  w2 : C.wd ≤ 32
  d1 : 1 ≤ C.dp
  d2 : C.dp ≤ 32
theorem CfgR.fine_of {C : CfgR} (h : C.err = 0) : C.fine := by
  have h1 := h
  unfold CfgR.err checkE checkB at h1
  split at h1
  · rename_i h2
    simp only [Bool.and_eq_true, decide_eq_true_eq] at h2
    exact ⟨h, h2.1.2.1, h2.1.2.2, h2.2.1, h2.2.2⟩
  · cases h1
theorem CfgR.at {C : CfgR} {w : World} {b : Nat} (H : CellsAt w b 0 C.enc) :
    w.cell? ⟨b, 0, none⟩ = some (.int .i64 C.cl) ∧ w.cell? ⟨b, 1, none⟩ = some (.int .i64 C.cb) ∧ w.cell? ⟨b, 2, none⟩ = some (.int .i64 C.ht) ∧ w.cell? ⟨b, 3, none⟩ = some (.int .i64 C.ri) ∧ w.cell? ⟨b, 4, none⟩ = some (.int .i64 C.ru) ∧ w.cell? ⟨b, 5, none⟩ = some (.int .i64 C.wd) ∧ w.cell? ⟨b, 6, none⟩ = some (.int .i64 C.dp) :=
  ⟨H 0 (by simp [CfgR.enc]), H 1 (by simp [CfgR.enc]), H 2 (by simp [CfgR.enc]), H 3 (by simp [CfgR.enc]), H 4 (by simp [CfgR.enc]), H 5 (by simp [CfgR.enc]), H 6 (by simp [CfgR.enc])⟩
theorem cells_new (w : World) (cs : Array Value) (T : TypeId) : CellsAt (w.alloc (.cells cs T)) w.heap.size 0 cs.toList := fun i hi => by
  have h1 : (w.alloc (.cells cs T)).heap[w.heap.size]? = some (.cells cs T) := heap_new _ _
  rw [Nat.zero_add]
  exact cell_of_heap h1 (by rw [Array.getElem?_eq_getElem (by simpa using hi)]; simp)
theorem ints_new (w : World) (l : List Int) (T : TypeId) : IntsAt (w.alloc (.cells (l.map (Value.int .i64)).toArray T)) w.heap.size l := fun j hj => by
  have := cells_new w (l.map (Value.int .i64)).toArray T j (by simpa using hj)
  rw [Nat.zero_add] at this
  rw [this]
  simp

theorem TriR.at {x : TriR} {w : World} {b : Nat} (H : CellsAt w b 0 x.enc) : w.cell? ⟨b, 0, none⟩ = some (.int .i64 x.i) ∧ w.cell? ⟨b, 1, none⟩ = some (.int .i64 x.x0) ∧ w.cell? ⟨b, 2, none⟩ = some (.int .i64 x.y0) ∧ w.cell? ⟨b, 3, none⟩ = some (.int .i64 x.z0) ∧ w.cell? ⟨b, 4, none⟩ = some (.int .i64 x.x1) ∧ w.cell? ⟨b, 5, none⟩ = some (.int .i64 x.y1) ∧ w.cell? ⟨b, 6, none⟩ = some (.int .i64 x.z1) ∧ w.cell? ⟨b, 7, none⟩ = some (.int .i64 x.x2) ∧ w.cell? ⟨b, 8, none⟩ = some (.int .i64 x.y2) ∧ w.cell? ⟨b, 9, none⟩ = some (.int .i64 x.z2) :=
  ⟨H 0 (by rw [TriR.enc_len]; omega), H 1 (by rw [TriR.enc_len]; omega), H 2 (by rw [TriR.enc_len]; omega), H 3 (by rw [TriR.enc_len]; omega), H 4 (by rw [TriR.enc_len]; omega), H 5 (by rw [TriR.enc_len]; omega), H 6 (by rw [TriR.enc_len]; omega), H 7 (by rw [TriR.enc_len]; omega), H 8 (by rw [TriR.enc_len]; omega), H 9 (by rw [TriR.enc_len]; omega)⟩

theorem BoxR.at {x : BoxR} {w : World} {b : Nat} (H : CellsAt w b 0 x.enc) : w.cell? ⟨b, 0, none⟩ = some (.int .i64 x.i) ∧ w.cell? ⟨b, 1, none⟩ = some (.int .i64 x.x0) ∧ w.cell? ⟨b, 2, none⟩ = some (.int .i64 x.z0) ∧ w.cell? ⟨b, 3, none⟩ = some (.int .i64 x.x1) ∧ w.cell? ⟨b, 4, none⟩ = some (.int .i64 x.z1) ∧ w.cell? ⟨b, 5, none⟩ = some (.int .i64 x.y0) ∧ w.cell? ⟨b, 6, none⟩ = some (.int .i64 x.y1) ∧ w.cell? ⟨b, 7, none⟩ = some (.int .i64 x.ar) :=
  ⟨H 0 (by rw [BoxR.enc_len]; omega), H 1 (by rw [BoxR.enc_len]; omega), H 2 (by rw [BoxR.enc_len]; omega), H 3 (by rw [BoxR.enc_len]; omega), H 4 (by rw [BoxR.enc_len]; omega), H 5 (by rw [BoxR.enc_len]; omega), H 6 (by rw [BoxR.enc_len]; omega), H 7 (by rw [BoxR.enc_len]; omega)⟩

end Go.Proofs.YtgoggogcbjfofaaDoor
