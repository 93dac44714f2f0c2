/- Triangles in plain numbers: which may be, their normals, and how great the numbers on the way may be. No function of the program in sight. -/
import Derived.Test.YtljcebahjfifhaaDoorNumA
namespace Go.Proofs.YtljcebahjfifhaaDoor
open Go.RowKit
set_option linter.unusedVariables false

def nxI (x0 y0 z0 x1 y1 z1 x2 y2 z2 : Int) : Int := (y1 - y0) * (z2 - z0) - (z1 - z0) * (y2 - y0)
def nyI (x0 y0 z0 x1 y1 z1 x2 y2 z2 : Int) : Int := (z1 - z0) * (x2 - x0) - (x1 - x0) * (z2 - z0)
def nzI (x0 y0 z0 x1 y1 z1 x2 y2 z2 : Int) : Int := (x1 - x0) * (y2 - y0) - (y1 - y0) * (x2 - x0)

def StV (w d x y z : Int) : Prop := (0 ≤ x ∧ x ≤ w) ∧ (0 ≤ z ∧ z ≤ d) ∧ (-2048 ≤ y ∧ y ≤ 2048)
instance (w d x y z : Int) : Decidable (StV w d x y z) := by unfold StV; infer_instance
def StP (w d x0 y0 z0 x1 y1 z1 x2 y2 z2 : Int) : Prop := StV w d x0 y0 z0 ∧ StV w d x1 y1 z1 ∧ StV w d x2 y2 z2
instance (w d x0 y0 z0 x1 y1 z1 x2 y2 z2 : Int) : Decidable (StP w d x0 y0 z0 x1 y1 z1 x2 y2 z2) := by unfold StP; infer_instance
def stB (w d x0 y0 z0 x1 y1 z1 x2 y2 z2 : Int) : Bool := decide (StP w d x0 y0 z0 x1 y1 z1 x2 y2 z2)
theorem stB_iff {w d x0 y0 z0 x1 y1 z1 x2 y2 z2 : Int} : stB w d x0 y0 z0 x1 y1 z1 x2 y2 z2 = true ↔ StP w d x0 y0 z0 x1 y1 z1 x2 y2 z2 := by unfold stB; simp
theorem stB_no {w d x0 y0 z0 x1 y1 z1 x2 y2 z2 : Int} : stB w d x0 y0 z0 x1 y1 z1 x2 y2 z2 = false ↔ ¬ StP w d x0 y0 z0 x1 y1 z1 x2 y2 z2 := by unfold stB; simp

def okB (x0 y0 z0 x1 y1 z1 x2 y2 z2 : Int) : Bool := stB 32 32 x0 y0 z0 x1 y1 z1 x2 y2 z2 && (nyI x0 y0 z0 x1 y1 z1 x2 y2 z2 != 0)
def normX (x0 y0 z0 x1 y1 z1 x2 y2 z2 : Int) : Int := if okB x0 y0 z0 x1 y1 z1 x2 y2 z2 then nxI x0 y0 z0 x1 y1 z1 x2 y2 z2 else 0
def normY (x0 y0 z0 x1 y1 z1 x2 y2 z2 : Int) : Int := if okB x0 y0 z0 x1 y1 z1 x2 y2 z2 then nyI x0 y0 z0 x1 y1 z1 x2 y2 z2 else 0
def normZ (x0 y0 z0 x1 y1 z1 x2 y2 z2 : Int) : Int := if okB x0 y0 z0 x1 y1 z1 x2 y2 z2 then nzI x0 y0 z0 x1 y1 z1 x2 y2 z2 else 0
def normE (x0 y0 z0 x1 y1 z1 x2 y2 z2 : Int) : Int := if okB x0 y0 z0 x1 y1 z1 x2 y2 z2 then 0 else 40

theorem norm_yes {x0 y0 z0 x1 y1 z1 x2 y2 z2 : Int} (h : okB x0 y0 z0 x1 y1 z1 x2 y2 z2 = true) : normX x0 y0 z0 x1 y1 z1 x2 y2 z2 = nxI x0 y0 z0 x1 y1 z1 x2 y2 z2 ∧ normY x0 y0 z0 x1 y1 z1 x2 y2 z2 = nyI x0 y0 z0 x1 y1 z1 x2 y2 z2 ∧ normZ x0 y0 z0 x1 y1 z1 x2 y2 z2 = nzI x0 y0 z0 x1 y1 z1 x2 y2 z2 ∧ normE x0 y0 z0 x1 y1 z1 x2 y2 z2 = 0 := by
  unfold normX normY normZ normE; simp [h]
theorem norm_no {x0 y0 z0 x1 y1 z1 x2 y2 z2 : Int} (h : okB x0 y0 z0 x1 y1 z1 x2 y2 z2 = false) : normX x0 y0 z0 x1 y1 z1 x2 y2 z2 = 0 ∧ normY x0 y0 z0 x1 y1 z1 x2 y2 z2 = 0 ∧ normZ x0 y0 z0 x1 y1 z1 x2 y2 z2 = 0 ∧ normE x0 y0 z0 x1 y1 z1 x2 y2 z2 = 40 := by
  unfold normX normY normZ normE; simp [h]

theorem nx_sum (x0 y0 z0 x1 y1 z1 x2 y2 z2 : Int) : (y0 * z1 - z0 * y1) + (y1 * z2 - z1 * y2) + (y2 * z0 - z2 * y0) = nxI x0 y0 z0 x1 y1 z1 x2 y2 z2 := by unfold nxI; grind
theorem ny_sum (x0 y0 z0 x1 y1 z1 x2 y2 z2 : Int) : (z0 * x1 - x0 * z1) + (z1 * x2 - x1 * z2) + (z2 * x0 - x2 * z0) = nyI x0 y0 z0 x1 y1 z1 x2 y2 z2 := by unfold nyI; grind
theorem nz_sum (x0 y0 z0 x1 y1 z1 x2 y2 z2 : Int) : (x0 * y1 - y0 * x1) + (x1 * y2 - y1 * x2) + (x2 * y0 - y2 * x0) = nzI x0 y0 z0 x1 y1 z1 x2 y2 z2 := by unfold nzI; grind

/-- The numbers of a normal. -/
theorem nI_bd {x0 y0 z0 x1 y1 z1 x2 y2 z2 : Int} (h : StP 32 32 x0 y0 z0 x1 y1 z1 x2 y2 z2) : (-262144 ≤ nxI x0 y0 z0 x1 y1 z1 x2 y2 z2 ∧ nxI x0 y0 z0 x1 y1 z1 x2 y2 z2 ≤ 262144) ∧ (-2048 ≤ nyI x0 y0 z0 x1 y1 z1 x2 y2 z2 ∧ nyI x0 y0 z0 x1 y1 z1 x2 y2 z2 ≤ 2048) ∧ (-262144 ≤ nzI x0 y0 z0 x1 y1 z1 x2 y2 z2 ∧ nzI x0 y0 z0 x1 y1 z1 x2 y2 z2 ≤ 262144) := by
  unfold StP StV at h
  have a1 := mul_bd (a := y1 - y0) (b := z2 - z0) (A := 4096) (B := 32) (by omega) (by omega)
  have a2 := mul_bd (a := z1 - z0) (b := y2 - y0) (A := 32) (B := 4096) (by omega) (by omega)
  have a3 := mul_bd (a := z1 - z0) (b := x2 - x0) (A := 32) (B := 32) (by omega) (by omega)
  have a4 := mul_bd (a := x1 - x0) (b := z2 - z0) (A := 32) (B := 32) (by omega) (by omega)
  have a5 := mul_bd (a := x1 - x0) (b := y2 - y0) (A := 32) (B := 4096) (by omega) (by omega)
  have a6 := mul_bd (a := y1 - y0) (b := x2 - x0) (A := 4096) (B := 32) (by omega) (by omega)
  unfold nxI nyI nzI
  omega

theorem ok_st {x0 y0 z0 x1 y1 z1 x2 y2 z2 : Int} (h : okB x0 y0 z0 x1 y1 z1 x2 y2 z2 = true) : StP 32 32 x0 y0 z0 x1 y1 z1 x2 y2 z2 ∧ nyI x0 y0 z0 x1 y1 z1 x2 y2 z2 ≠ 0 := by
  unfold okB at h
  simp only [Bool.and_eq_true, bne_iff_ne] at h
  exact ⟨stB_iff.1 h.1, h.2⟩

theorem ok_no {x0 y0 z0 x1 y1 z1 x2 y2 z2 : Int} (h : okB x0 y0 z0 x1 y1 z1 x2 y2 z2 = false) (hs : stB 32 32 x0 y0 z0 x1 y1 z1 x2 y2 z2 = true) : nyI x0 y0 z0 x1 y1 z1 x2 y2 z2 = 0 := by
  unfold okB at h
  rw [hs] at h
  simpa using h

end Go.Proofs.YtljcebahjfifhaaDoor
