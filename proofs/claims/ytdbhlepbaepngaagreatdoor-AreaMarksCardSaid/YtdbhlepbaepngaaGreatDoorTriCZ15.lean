import Derived.Test.YtdbhlepbaepngaaGreatDoorWholeCZ15
import Derived.Handy
import Derived.Test.YtdbhlepbaepngaaGreatDoorRows
import Derived.WalkKit
import Derived.Test.YtdbhlepbaepngaaGreatDoorSteady
import Derived.Deep.DeepCutAuto
import Derived.Deep.CutBlock

/- Contracts of Cross of package whole and of the document's own. -/
namespace Go.Proofs.YtdbhlepbaepngaaGreatDoor
open Go.RowKit

def nearB (n : Int) : Bool := withinB n (-1073741824) 1073741824
def crossB (a b c d : Int) : Bool := nearB a && nearB b && nearB c && nearB d
def crossI (a b c d : Int) : Int := if crossB a b c d then a * d - b * c else 0

theorem nearB_iff (n : Int) : nearB n = decide (-1073741824 ≤ n ∧ n ≤ 1073741824) := by
  unfold nearB withinB clampI
  rw [Bool.eq_iff_iff]; simp; omega

theorem near_mul {a b : Int} (ha : nearB a = true) (hb : nearB b = true) : -1152921504606846976 ≤ a * b ∧ a * b ≤ 1152921504606846976 := by
  rw [nearB_iff] at ha hb
  simp at ha hb
  have h : (a * b).natAbs ≤ 1073741824 * 1073741824 := by
    rw [Int.natAbs_mul]
    exact Nat.mul_le_mul (by omega) (by omega)
  omega

set_option maxHeartbeats 1000000 in
theorem cross_any (a b c d : Int) (w : World) :
    Calls Tryz.prog 101 #[.int .i64 a, .int .i64 b, .int .i64 c, .int .i64 d] w fun e w' => e = .returned (.tuple #[.int .i64 (crossI a b c d), .int .i64 (errI (crossB a b c d))]) ∧ w = w' := by
  have i0 : ∀ w, (Instr.index 153 (.agg #[.int .i64 a, .int .i64 b, .int .i64 c, .int .i64 d]) (.int .i64 0)).run Tryz.prog w = .ok (.int .i64 a) w := fun _ => by kernel_rfl
  have i1 : ∀ w, (Instr.index 153 (.agg #[.int .i64 a, .int .i64 b, .int .i64 c, .int .i64 d]) (.int .i64 1)).run Tryz.prog w = .ok (.int .i64 b) w := fun _ => by kernel_rfl
  have i2 : ∀ w, (Instr.index 153 (.agg #[.int .i64 a, .int .i64 b, .int .i64 c, .int .i64 d]) (.int .i64 2)).run Tryz.prog w = .ok (.int .i64 c) w := fun _ => by kernel_rfl
  have i3 : ∀ w, (Instr.index 153 (.agg #[.int .i64 a, .int .i64 b, .int .i64 c, .int .i64 d]) (.int .i64 3)).run Tryz.prog w = .ok (.int .i64 d) w := fun _ => by kernel_rfl
  cases hna : nearB a
  · have e1 : crossI a b c d = 0 := by unfold crossI crossB; simp_all
    have e2 : errI (crossB a b c d) = 2 := by unfold errI crossB; simp_all
    rw [e1, e2]
    clear e1 e2
    unfold nearB at *
    go_enter Tryz.func101, Tryz.ntmps101
    go_wp2
    refine wp_loop_rounds 5 ?_
    repeat (rw [rounds_succ]; go_wp2_with (go_at_call 32; refine (within_any _ _ _ _).mono ?_; rintro e w' ⟨rfl, rfl⟩))
    go_ret2
    exact ⟨rfl, rfl⟩
  · cases hnb : nearB b
    · have e1 : crossI a b c d = 0 := by unfold crossI crossB; simp_all
      have e2 : errI (crossB a b c d) = 2 := by unfold errI crossB; simp_all
      rw [e1, e2]
      clear e1 e2
      unfold nearB at *
      go_enter Tryz.func101, Tryz.ntmps101
      go_wp2
      refine wp_loop_rounds 5 ?_
      repeat (rw [rounds_succ]; go_wp2_with (go_at_call 32; refine (within_any _ _ _ _).mono ?_; rintro e w' ⟨rfl, rfl⟩))
      go_ret2
      exact ⟨rfl, rfl⟩
    · cases hnc : nearB c
      · have e1 : crossI a b c d = 0 := by unfold crossI crossB; simp_all
        have e2 : errI (crossB a b c d) = 2 := by unfold errI crossB; simp_all
        rw [e1, e2]
        clear e1 e2
        unfold nearB at *
        go_enter Tryz.func101, Tryz.ntmps101
        go_wp2
        refine wp_loop_rounds 5 ?_
        repeat (rw [rounds_succ]; go_wp2_with (go_at_call 32; refine (within_any _ _ _ _).mono ?_; rintro e w' ⟨rfl, rfl⟩))
        go_ret2
        exact ⟨rfl, rfl⟩
      · cases hnd : nearB d
        · have e1 : crossI a b c d = 0 := by unfold crossI crossB; simp_all
          have e2 : errI (crossB a b c d) = 2 := by unfold errI crossB; simp_all
          rw [e1, e2]
          clear e1 e2
          unfold nearB at *
          go_enter Tryz.func101, Tryz.ntmps101
          go_wp2
          refine wp_loop_rounds 5 ?_
          repeat (rw [rounds_succ]; go_wp2_with (go_at_call 32; refine (within_any _ _ _ _).mono ?_; rintro e w' ⟨rfl, rfl⟩))
          go_ret2
          exact ⟨rfl, rfl⟩
        · have hm1 := near_mul hna hnd
          have hm2 := near_mul hnb hnc
          have e1 : crossI a b c d = a * d - b * c := by unfold crossI crossB; simp_all
          have e2 : errI (crossB a b c d) = 0 := by unfold errI crossB; simp_all
          rw [e1, e2]
          clear e1 e2
          unfold nearB at *
          go_enter Tryz.func101, Tryz.ntmps101
          go_wp2
          refine wp_loop_rounds 5 ?_
          repeat (rw [rounds_succ]; go_wp2_with (go_at_call 32; refine (within_any _ _ _ _).mono ?_; rintro e w' ⟨rfl, rfl⟩))
          go_ret2
          exact ⟨rfl, rfl⟩

end Go.Proofs.YtdbhlepbaepngaaGreatDoor

/- How great a product may be. No function of the program in sight. -/
namespace Go.Proofs.YtdbhlepbaepngaaGreatDoor

theorem mul_bd {a b A B : Int} (ha : -A ≤ a ∧ a ≤ A) (hb : -B ≤ b ∧ b ≤ B) : -(A * B) ≤ a * b ∧ a * b ≤ A * B := by
  have hA : 0 ≤ A := by omega
  have hB : 0 ≤ B := by omega
  have h1 : 0 ≤ (A - a) * (B - b) := Int.mul_nonneg (by omega) (by omega)
  have h2 : 0 ≤ (A + a) * (B + b) := Int.mul_nonneg (by omega) (by omega)
  have h3 : 0 ≤ (A - a) * (B + b) := Int.mul_nonneg (by omega) (by omega)
  have h4 : 0 ≤ (A + a) * (B - b) := Int.mul_nonneg (by omega) (by omega)
  simp only [Int.sub_mul, Int.mul_sub, Int.add_mul, Int.mul_add] at h1 h2 h3 h4
  omega

end Go.Proofs.YtdbhlepbaepngaaGreatDoor

/- Triangles in plain numbers: which may be, their normals, and how great the numbers on the way may be. No function of the program in sight. -/
namespace Go.Proofs.YtdbhlepbaepngaaGreatDoor
open Go.RowKit
set_option linter.unusedVariables false

def nxI (x0 y0 z0 x1 y1 z1 x2 y2 z2 : Int) : Int := (y1 - y0) * (z2 - z0) - (z1 - z0) * (y2 - y0)
def nyI (x0 y0 z0 x1 y1 z1 x2 y2 z2 : Int) : Int := (z1 - z0) * (x2 - x0) - (x1 - x0) * (z2 - z0)
def nzI (x0 y0 z0 x1 y1 z1 x2 y2 z2 : Int) : Int := (x1 - x0) * (y2 - y0) - (y1 - y0) * (x2 - x0)

def StV (w d x y z : Int) : Prop := (0 ≤ x ∧ x ≤ w) ∧ (0 ≤ z ∧ z ≤ d) ∧ (-2048 ≤ y ∧ y ≤ 2048)
instance (w d x y z : Int) : Decidable (StV w d x y z) := by unfold StV; infer_instance
def StP (w d x0 y0 z0 x1 y1 z1 x2 y2 z2 : Int) : Prop := StV w d x0 y0 z0 ∧ StV w d x1 y1 z1 ∧ StV w d x2 y2 z2
instance (w d x0 y0 z0 x1 y1 z1 x2 y2 z2 : Int) : Decidable (StP w d x0 y0 z0 x1 y1 z1 x2 y2 z2) := by unfold StP; infer_instance
def stB (w d x0 y0 z0 x1 y1 z1 x2 y2 z2 : Int) : Bool := decide (StP w d x0 y0 z0 x1 y1 z1 x2 y2 z2)
theorem stB_iff {w d x0 y0 z0 x1 y1 z1 x2 y2 z2 : Int} : stB w d x0 y0 z0 x1 y1 z1 x2 y2 z2 = true ↔ StP w d x0 y0 z0 x1 y1 z1 x2 y2 z2 := by unfold stB; simp
theorem stB_no {w d x0 y0 z0 x1 y1 z1 x2 y2 z2 : Int} : stB w d x0 y0 z0 x1 y1 z1 x2 y2 z2 = false ↔ ¬ StP w d x0 y0 z0 x1 y1 z1 x2 y2 z2 := by unfold stB; simp

def okB (x0 y0 z0 x1 y1 z1 x2 y2 z2 : Int) : Bool := stB 32 32 x0 y0 z0 x1 y1 z1 x2 y2 z2 && (nyI x0 y0 z0 x1 y1 z1 x2 y2 z2 != 0)
def normX (x0 y0 z0 x1 y1 z1 x2 y2 z2 : Int) : Int := if okB x0 y0 z0 x1 y1 z1 x2 y2 z2 then nxI x0 y0 z0 x1 y1 z1 x2 y2 z2 else 0
def normY (x0 y0 z0 x1 y1 z1 x2 y2 z2 : Int) : Int := if okB x0 y0 z0 x1 y1 z1 x2 y2 z2 then nyI x0 y0 z0 x1 y1 z1 x2 y2 z2 else 0
def normZ (x0 y0 z0 x1 y1 z1 x2 y2 z2 : Int) : Int := if okB x0 y0 z0 x1 y1 z1 x2 y2 z2 then nzI x0 y0 z0 x1 y1 z1 x2 y2 z2 else 0
def normE (x0 y0 z0 x1 y1 z1 x2 y2 z2 : Int) : Int := if okB x0 y0 z0 x1 y1 z1 x2 y2 z2 then 0 else 40

theorem norm_yes {x0 y0 z0 x1 y1 z1 x2 y2 z2 : Int} (h : okB x0 y0 z0 x1 y1 z1 x2 y2 z2 = true) : normX x0 y0 z0 x1 y1 z1 x2 y2 z2 = nxI x0 y0 z0 x1 y1 z1 x2 y2 z2 ∧ normY x0 y0 z0 x1 y1 z1 x2 y2 z2 = nyI x0 y0 z0 x1 y1 z1 x2 y2 z2 ∧ normZ x0 y0 z0 x1 y1 z1 x2 y2 z2 = nzI x0 y0 z0 x1 y1 z1 x2 y2 z2 ∧ normE x0 y0 z0 x1 y1 z1 x2 y2 z2 = 0 := by
  unfold normX normY normZ normE; simp [h]
theorem norm_no {x0 y0 z0 x1 y1 z1 x2 y2 z2 : Int} (h : okB x0 y0 z0 x1 y1 z1 x2 y2 z2 = false) : normX x0 y0 z0 x1 y1 z1 x2 y2 z2 = 0 ∧ normY x0 y0 z0 x1 y1 z1 x2 y2 z2 = 0 ∧ normZ x0 y0 z0 x1 y1 z1 x2 y2 z2 = 0 ∧ normE x0 y0 z0 x1 y1 z1 x2 y2 z2 = 40 := by
  unfold normX normY normZ normE; simp [h]

theorem nx_sum (x0 y0 z0 x1 y1 z1 x2 y2 z2 : Int) : (y0 * z1 - z0 * y1) + (y1 * z2 - z1 * y2) + (y2 * z0 - z2 * y0) = nxI x0 y0 z0 x1 y1 z1 x2 y2 z2 := by unfold nxI; grind
theorem ny_sum (x0 y0 z0 x1 y1 z1 x2 y2 z2 : Int) : (z0 * x1 - x0 * z1) + (z1 * x2 - x1 * z2) + (z2 * x0 - x2 * z0) = nyI x0 y0 z0 x1 y1 z1 x2 y2 z2 := by unfold nyI; grind
theorem nz_sum (x0 y0 z0 x1 y1 z1 x2 y2 z2 : Int) : (x0 * y1 - y0 * x1) + (x1 * y2 - y1 * x2) + (x2 * y0 - y2 * x0) = nzI x0 y0 z0 x1 y1 z1 x2 y2 z2 := by unfold nzI; grind

/-- The numbers of a normal. -/
theorem nI_bd {x0 y0 z0 x1 y1 z1 x2 y2 z2 : Int} (h : StP 32 32 x0 y0 z0 x1 y1 z1 x2 y2 z2) : (-262144 ≤ nxI x0 y0 z0 x1 y1 z1 x2 y2 z2 ∧ nxI x0 y0 z0 x1 y1 z1 x2 y2 z2 ≤ 262144) ∧ (-2048 ≤ nyI x0 y0 z0 x1 y1 z1 x2 y2 z2 ∧ nyI x0 y0 z0 x1 y1 z1 x2 y2 z2 ≤ 2048) ∧ (-262144 ≤ nzI x0 y0 z0 x1 y1 z1 x2 y2 z2 ∧ nzI x0 y0 z0 x1 y1 z1 x2 y2 z2 ≤ 262144) := by
  unfold StP StV at h
  have a1 := mul_bd (a := y1 - y0) (b := z2 - z0) (A := 4096) (B := 32) (by omega) (by omega)
  have a2 := mul_bd (a := z1 - z0) (b := y2 - y0) (A := 32) (B := 4096) (by omega) (by omega)
  have a3 := mul_bd (a := z1 - z0) (b := x2 - x0) (A := 32) (B := 32) (by omega) (by omega)
  have a4 := mul_bd (a := x1 - x0) (b := z2 - z0) (A := 32) (B := 32) (by omega) (by omega)
  have a5 := mul_bd (a := x1 - x0) (b := y2 - y0) (A := 32) (B := 4096) (by omega) (by omega)
  have a6 := mul_bd (a := y1 - y0) (b := x2 - x0) (A := 4096) (B := 32) (by omega) (by omega)
  unfold nxI nyI nzI
  omega

theorem ok_st {x0 y0 z0 x1 y1 z1 x2 y2 z2 : Int} (h : okB x0 y0 z0 x1 y1 z1 x2 y2 z2 = true) : StP 32 32 x0 y0 z0 x1 y1 z1 x2 y2 z2 ∧ nyI x0 y0 z0 x1 y1 z1 x2 y2 z2 ≠ 0 := by
  unfold okB at h
  simp only [Bool.and_eq_true, bne_iff_ne] at h
  exact ⟨stB_iff.1 h.1, h.2⟩

theorem ok_no {x0 y0 z0 x1 y1 z1 x2 y2 z2 : Int} (h : okB x0 y0 z0 x1 y1 z1 x2 y2 z2 = false) (hs : stB 32 32 x0 y0 z0 x1 y1 z1 x2 y2 z2 = true) : nyI x0 y0 z0 x1 y1 z1 x2 y2 z2 = 0 := by
  unfold okB at h
  rw [hs] at h
  simpa using h

end Go.Proofs.YtdbhlepbaepngaaGreatDoor

/- Package tri: within, cross, the closure of Bounds. -/
namespace Go.Proofs.YtdbhlepbaepngaaGreatDoor
open Go.RowKit
set_option linter.unusedVariables false

set_option maxHeartbeats 400000 in
theorem t_within (n lo hi : Int) (w : World) :
    Calls Tryz.prog 91 #[.int .i64 n, .int .i64 lo, .int .i64 hi] w fun e w' => e = .returned (.bool (decide (lo ≤ n ∧ n ≤ hi))) ∧ w = w' := by
  go_enter Tryz.func91, Tryz.ntmps91
  go_wp2
  all_goals
    go_ret
    refine ⟨retB ?_, rfl⟩
    simp [*] <;> omega

theorem cross_small {a b c d : Int} (ha : -1073741824 ≤ a ∧ a ≤ 1073741824) (hb : -1073741824 ≤ b ∧ b ≤ 1073741824) (hc : -1073741824 ≤ c ∧ c ≤ 1073741824) (hd : -1073741824 ≤ d ∧ d ≤ 1073741824) : crossI a b c d = a * d - b * c := by
  unfold crossI crossB; simp only [nearB_iff]; rw [if_pos (by simp; omega)]

set_option maxHeartbeats 400000 in
theorem t_cross (a b c d : Int) (w : World) (ha : -1073741824 ≤ a ∧ a ≤ 1073741824) (hb : -1073741824 ≤ b ∧ b ≤ 1073741824) (hc : -1073741824 ≤ c ∧ c ≤ 1073741824) (hd : -1073741824 ≤ d ∧ d ≤ 1073741824) :
    Calls Tryz.prog 98 #[.int .i64 a, .int .i64 b, .int .i64 c, .int .i64 d] w fun e w' => e = .returned (.int .i64 (a * d - b * c)) ∧ w = w' := by
  have e1 := cross_small ha hb hc hd
  go_enter Tryz.func98, Tryz.ntmps98
  go_wp2_with fail
  refine (cross_any _ _ _ _ _).mono ?_
  rw [e1]
  rintro e w' ⟨rfl, rfl⟩
  go_wp2_with fail
  go_ret
  exact ⟨rfl, rfl⟩

set_option maxHeartbeats 2000000 in
theorem t_widen (bl bh : Nat) (x y z lx ly lz hx hy hz : Int) (w : World) (hne : bl ≠ bh)
    (l0 : w.cell? ⟨bl, 0, none⟩ = some (.int .i64 lx)) (l1 : w.cell? ⟨bl, 1, none⟩ = some (.int .i64 ly)) (l2 : w.cell? ⟨bl, 2, none⟩ = some (.int .i64 lz))
    (h0 : w.cell? ⟨bh, 0, none⟩ = some (.int .i64 hx)) (h1 : w.cell? ⟨bh, 1, none⟩ = some (.int .i64 hy)) (h2 : w.cell? ⟨bh, 2, none⟩ = some (.int .i64 hz))
    (fl : ∀ o, w.frozen? ⟨bl, o, none⟩ = false) (fh : ∀ o, w.frozen? ⟨bh, o, none⟩ = false) :
    Calls Tryz.prog 100 (#[.agg #[.int .i64 x, .int .i64 y, .int .i64 z]] ++ #[.pointer (some ⟨bl, 0, none⟩), .pointer (some ⟨bh, 0, none⟩)]) w fun e w' => e = .returned (.tuple #[]) ∧ (∀ a, New a w → a.heap.size ≤ bl → a.heap.size ≤ bh → New a w') ∧
      (w'.cell? ⟨bl, 0, none⟩ = some (.int .i64 (min lx x)) ∧ w'.cell? ⟨bl, 1, none⟩ = some (.int .i64 (min ly y)) ∧ w'.cell? ⟨bl, 2, none⟩ = some (.int .i64 (min lz z))) ∧
      (w'.cell? ⟨bh, 0, none⟩ = some (.int .i64 (max hx x)) ∧ w'.cell? ⟨bh, 1, none⟩ = some (.int .i64 (max hy y)) ∧ w'.cell? ⟨bh, 2, none⟩ = some (.int .i64 (max hz z))) ∧
      (∀ o, w'.frozen? ⟨bl, o, none⟩ = false) ∧ (∀ o, w'.frozen? ⟨bh, o, none⟩ = false) := by
  have bl0 := World.block_lt_of_cell? _ _ l0
  have bh0 := World.block_lt_of_cell? _ _ h0
  simp only [] at bl0 bh0
  have fl0 := fl 0
  have fl1 := fl 1
  have fl2 := fl 2
  have fh0 := fh 0
  have fh1 := fh 1
  have fh2 := fh 2
  show Calls Tryz.prog 100 #[.agg #[.int .i64 x, .int .i64 y, .int .i64 z], .pointer (some ⟨bl, 0, none⟩), .pointer (some ⟨bh, 0, none⟩)] w _
  go_enter Tryz.func100, Tryz.ntmps100
  go_wp2
  refine bodyPost_end (results_none rfl _ _ _) rfl ?_
  refine ⟨rfl, fun a ha k1 k2 => by (repeat (first | (with_reducible exact New.refl _) | (with_reducible assumption) | ((with_reducible refine New.setB ?_ ?_ _); focus (first | omega | (simp; omega) | (simp; done))) | (with_reducible refine New.alloc ?_ _) | (with_reducible refine New.drew ?_) | (with_reducible refine New.drewN ?_ _) | (with_reducible refine New.hat ?_ _) | ((with_reducible apply New.snart); (with_reducible assumption)))), ⟨by go_simp, by go_simp, by go_simp⟩, ⟨by go_simp, by go_simp, by go_simp⟩, fun o => by have := fl o; go_simp, fun o => by have := fh o; go_simp⟩

def minI (a b c : Int) : Int := min (min (min a a) b) c
def maxI (a b c : Int) : Int := max (max (max a a) b) c

set_option maxHeartbeats 2000000 in
set_option maxRecDepth 100000 in
theorem t_bounds (i x0 y0 z0 x1 y1 z1 x2 y2 z2 : Int) (w : World) :
    Calls Tryz.prog 97 #[.agg #[.int .i64 i, .int .i64 x0, .int .i64 y0, .int .i64 z0, .int .i64 x1, .int .i64 y1, .int .i64 z1, .int .i64 x2, .int .i64 y2, .int .i64 z2]] w fun e w' => e = .returned (.tuple #[.agg #[.int .i64 (minI x0 x1 x2), .int .i64 (minI y0 y1 y2), .int .i64 (minI z0 z1 z2)], .agg #[.int .i64 (maxI x0 x1 x2), .int .i64 (maxI y0 y1 y2), .int .i64 (maxI z0 z1 z2)]]) ∧ New w w' := by
  go_enter Tryz.func97, Tryz.ntmps97
  go_upto_region 1 with fail
  obtain ⟨W0, hW⟩ : ∃ W0, W0 = w.alloc (.cells #[.int .i64 i, .int .i64 x0, .int .i64 y0, .int .i64 z0, .int .i64 x1, .int .i64 y1, .int .i64 z1, .int .i64 x2, .int .i64 y2, .int .i64 z2] 98) := ⟨_, rfl⟩
  rw [← hW]
  have c1 : W0.cell? ⟨w.heap.size, 1, none⟩ = some (.int .i64 x0) := by subst hW; go_simp
  have c2 : W0.cell? ⟨w.heap.size, 2, none⟩ = some (.int .i64 y0) := by subst hW; go_simp
  have c3 : W0.cell? ⟨w.heap.size, 3, none⟩ = some (.int .i64 z0) := by subst hW; go_simp
  have c4 : W0.cell? ⟨w.heap.size, 4, none⟩ = some (.int .i64 x1) := by subst hW; go_simp
  have c5 : W0.cell? ⟨w.heap.size, 5, none⟩ = some (.int .i64 y1) := by subst hW; go_simp
  have c6 : W0.cell? ⟨w.heap.size, 6, none⟩ = some (.int .i64 z1) := by subst hW; go_simp
  have c7 : W0.cell? ⟨w.heap.size, 7, none⟩ = some (.int .i64 x2) := by subst hW; go_simp
  have c8 : W0.cell? ⟨w.heap.size, 8, none⟩ = some (.int .i64 y2) := by subst hW; go_simp
  have c9 : W0.cell? ⟨w.heap.size, 9, none⟩ = some (.int .i64 z2) := by subst hW; go_simp
  have hz : W0.heap.size = w.heap.size + 1 := by subst hW; go_simp
  have n0 : New w W0 := by subst hW; (repeat (first | (with_reducible exact New.refl _) | (with_reducible assumption) | ((with_reducible refine New.setB ?_ ?_ _); focus (first | omega | (simp; omega) | (simp; done))) | (with_reducible refine New.alloc ?_ _) | (with_reducible refine New.drew ?_) | (with_reducible refine New.drewN ?_ _) | (with_reducible refine New.hat ?_ _) | ((with_reducible apply New.snart); (with_reducible assumption))))
  clear hW
  go_cut [8] (fun s8 Z => New W0 Z ∧ (Z.cell? ⟨w.heap.size + 1, 0, none⟩ = some (.int .i64 x0) ∧ Z.cell? ⟨w.heap.size + 1, 1, none⟩ = some (.int .i64 y0) ∧ Z.cell? ⟨w.heap.size + 1, 2, none⟩ = some (.int .i64 z0)) ∧
    (Z.cell? ⟨w.heap.size + 1 + 1, 0, none⟩ = some (.int .i64 x0) ∧ Z.cell? ⟨w.heap.size + 1 + 1, 1, none⟩ = some (.int .i64 y0) ∧ Z.cell? ⟨w.heap.size + 1 + 1, 2, none⟩ = some (.int .i64 z0)) ∧ (∀ o, Z.frozen? ⟨w.heap.size + 1, o, none⟩ = false) ∧ (∀ o, Z.frozen? ⟨w.heap.size + 1 + 1, o, none⟩ = false))
  case first =>
    go_region
    all_goals
      go_wp2_with fail
      go_meet
      exact ⟨by (repeat (first | (with_reducible exact New.refl _) | (with_reducible assumption) | ((with_reducible refine New.setB ?_ ?_ _); focus (first | omega | (simp; omega) | (simp; done))) | (with_reducible refine New.alloc ?_ _) | (with_reducible refine New.drew ?_) | (with_reducible refine New.drewN ?_ _) | (with_reducible refine New.hat ?_ _) | ((with_reducible apply New.snart); (with_reducible assumption)))), ⟨by go_simp, by go_simp, by go_simp⟩, ⟨by go_simp, by go_simp, by go_simp⟩, fun o => by go_simp, fun o => by go_simp⟩
  case rest =>
    obtain ⟨nZ, ⟨l0, l1, l2⟩, ⟨h0, h1, h2⟩, fl, fh⟩ := hcut
    have e0 := nZ.keep c1
    have e1 := nZ.keep c2
    have e2 := nZ.keep c3
    go_wp2_with fail
    refine wp_loop_rounds 4 ?_
    rw [rounds_succ]
    go_wp2_with fail
    refine (t_widen _ _ _ _ _ _ _ _ _ _ _ _ (by omega) l0 l1 l2 h0 h1 h2 fl fh).mono ?_
    clear l0 l1 l2 h0 h1 h2 fl fh e0 e1 e2
    rintro e V1 ⟨rfl, nn, ⟨l0, l1, l2⟩, ⟨h0, h1, h2⟩, fl, fh⟩
    replace nZ := nn W0 nZ (by omega) (by omega)
    clear nn
    have e0 := nZ.keep c4
    have e1 := nZ.keep c5
    have e2 := nZ.keep c6
    go_wp2_with fail
    rw [rounds_succ]
    go_wp2_with fail
    refine (t_widen _ _ _ _ _ _ _ _ _ _ _ _ (by omega) l0 l1 l2 h0 h1 h2 fl fh).mono ?_
    clear l0 l1 l2 h0 h1 h2 fl fh e0 e1 e2
    rintro e V2 ⟨rfl, nn, ⟨l0, l1, l2⟩, ⟨h0, h1, h2⟩, fl, fh⟩
    replace nZ := nn W0 nZ (by omega) (by omega)
    clear nn
    have e0 := nZ.keep c7
    have e1 := nZ.keep c8
    have e2 := nZ.keep c9
    go_wp2_with fail
    rw [rounds_succ]
    go_wp2_with fail
    refine (t_widen _ _ _ _ _ _ _ _ _ _ _ _ (by omega) l0 l1 l2 h0 h1 h2 fl fh).mono ?_
    clear l0 l1 l2 h0 h1 h2 fl fh e0 e1 e2
    rintro e V3 ⟨rfl, nn, ⟨l0, l1, l2⟩, ⟨h0, h1, h2⟩, fl, fh⟩
    replace nZ := nn W0 nZ (by omega) (by omega)
    clear nn
    go_wp2_with fail
    rw [rounds_succ]
    go_wp2_with fail
    have fl0 := fl 0
    have fl1 := fl 1
    have fl2 := fl 2
    have fh0 := fh 0
    have fh1 := fh 1
    have fh2 := fh 2
    replace n0 := n0.trans nZ
    go_region
    all_goals
      go_wp2_with fail
      refine bodyPost_ret (v := .tuple #[.agg #[.int .i64 (minI x0 x1 x2), .int .i64 (minI y0 y1 y2), .int .i64 (minI z0 z1 z2)], .agg #[.int .i64 (maxI x0 x1 x2), .int .i64 (maxI y0 y1 y2), .int .i64 (maxI z0 z1 z2)]]) (by simp [results, Tryz.results97, go_sem, minI, maxI, *]) rfl ?_
      exact ⟨rfl, by (repeat (first | (with_reducible exact New.refl _) | (with_reducible assumption) | ((with_reducible refine New.setB ?_ ?_ _); focus (first | omega | (simp; omega) | (simp; done))) | (with_reducible refine New.alloc ?_ _) | (with_reducible refine New.drew ?_) | (with_reducible refine New.drewN ?_ _) | (with_reducible refine New.hat ?_ _) | ((with_reducible apply New.snart); (with_reducible assumption))))⟩

end Go.Proofs.YtdbhlepbaepngaaGreatDoor

/- Package tri: stands, Normal. -/
namespace Go.Proofs.YtdbhlepbaepngaaGreatDoor
open Go.RowKit
set_option linter.unusedVariables false

theorem st_eq (wd dp x0 y0 z0 x1 y1 z1 x2 y2 z2 : Int) : stB wd dp x0 y0 z0 x1 y1 z1 x2 y2 z2 = (decide (0 ≤ minI x0 x1 x2) && decide (maxI x0 x1 x2 ≤ wd) && decide (0 ≤ minI z0 z1 z2) && decide (maxI z0 z1 z2 ≤ dp) && decide (-2048 ≤ minI y0 y1 y2) && decide (maxI y0 y1 y2 ≤ 2048)) := by
  rw [Bool.eq_iff_iff, stB_iff]
  unfold StP StV minI maxI
  simp only [Bool.and_eq_true, decide_eq_true_eq]
  omega

set_option maxHeartbeats 2000000 in
set_option maxRecDepth 100000 in
theorem t_stands (i x0 y0 z0 x1 y1 z1 x2 y2 z2 wd dp : Int) (w : World) :
    Calls Tryz.prog 92 #[.agg #[.int .i64 i, .int .i64 x0, .int .i64 y0, .int .i64 z0, .int .i64 x1, .int .i64 y1, .int .i64 z1, .int .i64 x2, .int .i64 y2, .int .i64 z2], .int .i64 wd, .int .i64 dp] w fun e w' => e = .returned (.bool (stB wd dp x0 y0 z0 x1 y1 z1 x2 y2 z2)) ∧ New w w' := by
  have hv := st_eq wd dp x0 y0 z0 x1 y1 z1 x2 y2 z2
  have hb := fun W => t_bounds i x0 y0 z0 x1 y1 z1 x2 y2 z2 W
  rw [hv]
  clear hv
  generalize minI x0 x1 x2 = lx at *
  generalize minI y0 y1 y2 = ly at *
  generalize minI z0 z1 z2 = lz at *
  generalize maxI x0 x1 x2 = hx at *
  generalize maxI y0 y1 y2 = hy at *
  generalize maxI z0 z1 z2 = hz at *
  go_enter Tryz.func92, Tryz.ntmps92
  go_wp2_with fail
  refine (hb _).mono ?_
  rintro e W1 ⟨rfl, n1⟩
  have hn : New w W1 := New.trans (by (repeat (first | (with_reducible exact New.refl _) | (with_reducible assumption) | ((with_reducible refine New.setB ?_ ?_ _); focus (first | omega | (simp; omega) | (simp; done))) | (with_reducible refine New.alloc ?_ _) | (with_reducible refine New.drew ?_) | (with_reducible refine New.drewN ?_ _) | (with_reducible refine New.hat ?_ _) | ((with_reducible apply New.snart); (with_reducible assumption))))) n1
  clear n1 hb
  go_wp2_with fail
  all_goals
    go_ret
    refine ⟨retB ?_, by (repeat (first | (with_reducible exact New.refl _) | (with_reducible assumption) | ((with_reducible refine New.setB ?_ ?_ _); focus (first | omega | (simp; omega) | (simp; done))) | (with_reducible refine New.alloc ?_ _) | (with_reducible refine New.drew ?_) | (with_reducible refine New.drewN ?_ _) | (with_reducible refine New.hat ?_ _) | ((with_reducible apply New.snart); (with_reducible assumption))))⟩
    simp [*] <;> omega

theorem kb {a b c d A B : Int} (ha : -A ≤ a ∧ a ≤ A) (hd : -B ≤ d ∧ d ≤ B) (hb : -B ≤ b ∧ b ≤ B) (hc : -A ≤ c ∧ c ≤ A) : ∃ k, a * d - b * c = k ∧ -(2 * (A * B)) ≤ k ∧ k ≤ 2 * (A * B) := by
  have h1 := mul_bd ha hd
  have h2 := mul_bd hb hc
  have h3 : B * A = A * B := Int.mul_comm _ _
  exact ⟨_, rfl, by omega, by omega⟩

set_option maxHeartbeats 4000000 in
set_option maxRecDepth 100000 in
theorem t_normal_ok (i x0 y0 z0 x1 y1 z1 x2 y2 z2 : Int) (w : World) (hs : stB 32 32 x0 y0 z0 x1 y1 z1 x2 y2 z2 = true) :
    Calls Tryz.prog 93 #[.agg #[.int .i64 i, .int .i64 x0, .int .i64 y0, .int .i64 z0, .int .i64 x1, .int .i64 y1, .int .i64 z1, .int .i64 x2, .int .i64 y2, .int .i64 z2]] w fun e w' => e = .returned (.tuple #[.int .i64 (normX x0 y0 z0 x1 y1 z1 x2 y2 z2), .int .i64 (normY x0 y0 z0 x1 y1 z1 x2 y2 z2), .int .i64 (normZ x0 y0 z0 x1 y1 z1 x2 y2 z2), .int .i64 (normE x0 y0 z0 x1 y1 z1 x2 y2 z2)]) ∧ New w w' := by
  have hp := stB_iff.1 hs
  unfold StP StV at hp
  obtain ⟨⟨⟨X0, X0'⟩, ⟨Z0, Z0'⟩, ⟨Y0, Y0'⟩⟩, ⟨⟨X1, X1'⟩, ⟨Z1, Z1'⟩, ⟨Y1, Y1'⟩⟩, ⟨⟨X2, X2'⟩, ⟨Z2, Z2'⟩, ⟨Y2, Y2'⟩⟩⟩ := hp
  have hst := fun W => t_stands i x0 y0 z0 x1 y1 z1 x2 y2 z2 32 32 W
  rw [hs] at hst
  obtain ⟨k0, e0, l0, u0⟩ : ∃ k, y0 * z1 - z0 * y1 = k ∧ -131072 ≤ k ∧ k ≤ 131072 := by
    have h1 := mul_bd (a := y0) (b := z1) (A := 2048) (B := 32) (by omega) (by omega)
    have h2 := mul_bd (a := z0) (b := y1) (A := 32) (B := 2048) (by omega) (by omega)
    exact ⟨_, rfl, by omega, by omega⟩
  have T0 := fun W => t_cross y0 z0 y1 z1 W (by omega) (by omega) (by omega) (by omega)
  obtain ⟨k1, e1, l1, u1⟩ : ∃ k, z0 * x1 - x0 * z1 = k ∧ -131072 ≤ k ∧ k ≤ 131072 := by
    have h1 := mul_bd (a := z0) (b := x1) (A := 32) (B := 32) (by omega) (by omega)
    have h2 := mul_bd (a := x0) (b := z1) (A := 32) (B := 32) (by omega) (by omega)
    exact ⟨_, rfl, by omega, by omega⟩
  have T1 := fun W => t_cross z0 x0 z1 x1 W (by omega) (by omega) (by omega) (by omega)
  obtain ⟨k2, e2, l2, u2⟩ : ∃ k, x0 * y1 - y0 * x1 = k ∧ -131072 ≤ k ∧ k ≤ 131072 := by
    have h1 := mul_bd (a := x0) (b := y1) (A := 32) (B := 2048) (by omega) (by omega)
    have h2 := mul_bd (a := y0) (b := x1) (A := 2048) (B := 32) (by omega) (by omega)
    exact ⟨_, rfl, by omega, by omega⟩
  have T2 := fun W => t_cross x0 y0 x1 y1 W (by omega) (by omega) (by omega) (by omega)
  obtain ⟨k3, e3, l3, u3⟩ : ∃ k, y1 * z2 - z1 * y2 = k ∧ -131072 ≤ k ∧ k ≤ 131072 := by
    have h1 := mul_bd (a := y1) (b := z2) (A := 2048) (B := 32) (by omega) (by omega)
    have h2 := mul_bd (a := z1) (b := y2) (A := 32) (B := 2048) (by omega) (by omega)
    exact ⟨_, rfl, by omega, by omega⟩
  have T3 := fun W => t_cross y1 z1 y2 z2 W (by omega) (by omega) (by omega) (by omega)
  obtain ⟨k4, e4, l4, u4⟩ : ∃ k, z1 * x2 - x1 * z2 = k ∧ -131072 ≤ k ∧ k ≤ 131072 := by
    have h1 := mul_bd (a := z1) (b := x2) (A := 32) (B := 32) (by omega) (by omega)
    have h2 := mul_bd (a := x1) (b := z2) (A := 32) (B := 32) (by omega) (by omega)
    exact ⟨_, rfl, by omega, by omega⟩
  have T4 := fun W => t_cross z1 x1 z2 x2 W (by omega) (by omega) (by omega) (by omega)
  obtain ⟨k5, e5, l5, u5⟩ : ∃ k, x1 * y2 - y1 * x2 = k ∧ -131072 ≤ k ∧ k ≤ 131072 := by
    have h1 := mul_bd (a := x1) (b := y2) (A := 32) (B := 2048) (by omega) (by omega)
    have h2 := mul_bd (a := y1) (b := x2) (A := 2048) (B := 32) (by omega) (by omega)
    exact ⟨_, rfl, by omega, by omega⟩
  have T5 := fun W => t_cross x1 y1 x2 y2 W (by omega) (by omega) (by omega) (by omega)
  obtain ⟨k6, e6, l6, u6⟩ : ∃ k, y2 * z0 - z2 * y0 = k ∧ -131072 ≤ k ∧ k ≤ 131072 := by
    have h1 := mul_bd (a := y2) (b := z0) (A := 2048) (B := 32) (by omega) (by omega)
    have h2 := mul_bd (a := z2) (b := y0) (A := 32) (B := 2048) (by omega) (by omega)
    exact ⟨_, rfl, by omega, by omega⟩
  have T6 := fun W => t_cross y2 z2 y0 z0 W (by omega) (by omega) (by omega) (by omega)
  obtain ⟨k7, e7, l7, u7⟩ : ∃ k, z2 * x0 - x2 * z0 = k ∧ -131072 ≤ k ∧ k ≤ 131072 := by
    have h1 := mul_bd (a := z2) (b := x0) (A := 32) (B := 32) (by omega) (by omega)
    have h2 := mul_bd (a := x2) (b := z0) (A := 32) (B := 32) (by omega) (by omega)
    exact ⟨_, rfl, by omega, by omega⟩
  have T7 := fun W => t_cross z2 x2 z0 x0 W (by omega) (by omega) (by omega) (by omega)
  obtain ⟨k8, e8, l8, u8⟩ : ∃ k, x2 * y0 - y2 * x0 = k ∧ -131072 ≤ k ∧ k ≤ 131072 := by
    have h1 := mul_bd (a := x2) (b := y0) (A := 32) (B := 2048) (by omega) (by omega)
    have h2 := mul_bd (a := y2) (b := x0) (A := 2048) (B := 32) (by omega) (by omega)
    exact ⟨_, rfl, by omega, by omega⟩
  have T8 := fun W => t_cross x2 y2 x0 y0 W (by omega) (by omega) (by omega) (by omega)
  have sx : k0 + k3 + k6 = nxI x0 y0 z0 x1 y1 z1 x2 y2 z2 := by rw [← nx_sum, ← e0, ← e3, ← e6]
  have sy : k1 + k4 + k7 = nyI x0 y0 z0 x1 y1 z1 x2 y2 z2 := by rw [← ny_sum, ← e1, ← e4, ← e7]
  have sz : k2 + k5 + k8 = nzI x0 y0 z0 x1 y1 z1 x2 y2 z2 := by rw [← nz_sum, ← e2, ← e5, ← e8]
  obtain ⟨ey, hey⟩ : ∃ b, b = (nyI x0 y0 z0 x1 y1 z1 x2 y2 z2 == 0) := ⟨_, rfl⟩
  have hN : (normX x0 y0 z0 x1 y1 z1 x2 y2 z2 = if ey then 0 else k0 + k3 + k6) ∧ (normY x0 y0 z0 x1 y1 z1 x2 y2 z2 = if ey then 0 else k1 + k4 + k7) ∧ (normZ x0 y0 z0 x1 y1 z1 x2 y2 z2 = if ey then 0 else k2 + k5 + k8) ∧ (normE x0 y0 z0 x1 y1 z1 x2 y2 z2 = if ey then 40 else 0) := by
    unfold normX normY normZ normE okB
    rw [hs, sx, sy, sz, hey]
    cases hq : (nyI x0 y0 z0 x1 y1 z1 x2 y2 z2 == 0) <;> simp_all
  have HN := Lib.hid hN
  have hey' : (k1 + k4 + k7 == 0) = ey := by rw [hey, sy]
  clear hN sx sy sz hey hs
  rw [e0] at T0
  rw [e1] at T1
  rw [e2] at T2
  rw [e3] at T3
  rw [e4] at T4
  rw [e5] at T5
  rw [e6] at T6
  rw [e7] at T7
  rw [e8] at T8
  clear e0 e1 e2 e3 e4 e5 e6 e7 e8 X0 X0' Z0 Z0' Y0 Y0' X1 X1' Z1 Z1' Y1 Y1' X2 X2' Z2 Z2' Y2 Y2'
  replace T0 := Lib.hid T0
  replace T1 := Lib.hid T1
  replace T2 := Lib.hid T2
  replace T3 := Lib.hid T3
  replace T4 := Lib.hid T4
  replace T5 := Lib.hid T5
  replace T6 := Lib.hid T6
  replace T7 := Lib.hid T7
  replace T8 := Lib.hid T8
  go_enter Tryz.func93, Tryz.ntmps93
  go_wp2_with fail
  refine (hst _).mono ?_
  rintro e W0 ⟨rfl, n1⟩
  have c1 : W0.cell? ⟨w.heap.size, 1, none⟩ = some (.int .i64 x0) := n1.keep (by go_simp)
  have c2 : W0.cell? ⟨w.heap.size, 2, none⟩ = some (.int .i64 y0) := n1.keep (by go_simp)
  have c3 : W0.cell? ⟨w.heap.size, 3, none⟩ = some (.int .i64 z0) := n1.keep (by go_simp)
  have c4 : W0.cell? ⟨w.heap.size, 4, none⟩ = some (.int .i64 x1) := n1.keep (by go_simp)
  have c5 : W0.cell? ⟨w.heap.size, 5, none⟩ = some (.int .i64 y1) := n1.keep (by go_simp)
  have c6 : W0.cell? ⟨w.heap.size, 6, none⟩ = some (.int .i64 z1) := n1.keep (by go_simp)
  have c7 : W0.cell? ⟨w.heap.size, 7, none⟩ = some (.int .i64 x2) := n1.keep (by go_simp)
  have c8 : W0.cell? ⟨w.heap.size, 8, none⟩ = some (.int .i64 y2) := n1.keep (by go_simp)
  have c9 : W0.cell? ⟨w.heap.size, 9, none⟩ = some (.int .i64 z2) := n1.keep (by go_simp)
  have hn : New w W0 := New.trans (by (repeat (first | (with_reducible exact New.refl _) | (with_reducible assumption) | ((with_reducible refine New.setB ?_ ?_ _); focus (first | omega | (simp; omega) | (simp; done))) | (with_reducible refine New.alloc ?_ _) | (with_reducible refine New.drew ?_) | (with_reducible refine New.drewN ?_ _) | (with_reducible refine New.hat ?_ _) | ((with_reducible apply New.snart); (with_reducible assumption))))) n1
  have zz := World.block_lt_of_cell? _ _ c1
  simp only [] at zz
  clear n1 hst
  go_wp2_with fail
  refine wp_loop_rounds 4 ?_
  rw [rounds_succ]
  go_upto_region 6 with fail
  go_cut [7, 8] (fun s7 s8 Z => ∃ b b' : Nat, s7 = .pointer (some ⟨b, 0, none⟩) ∧ s8 = .pointer (some ⟨b', 0, none⟩) ∧ New W0 Z ∧ Z.cell? ⟨b, 0, none⟩ = some (.int .i64 x0) ∧ Z.cell? ⟨b, 1, none⟩ = some (.int .i64 y0) ∧ Z.cell? ⟨b, 2, none⟩ = some (.int .i64 z0) ∧
      Z.cell? ⟨b', 0, none⟩ = some (.int .i64 x1) ∧ Z.cell? ⟨b', 1, none⟩ = some (.int .i64 y1) ∧ Z.cell? ⟨b', 2, none⟩ = some (.int .i64 z1))
  case first =>
    go_region
    all_goals
      go_wp2_with fail
      go_meet
      exact ⟨_, _, rfl, rfl, by (repeat (first | (with_reducible exact New.refl _) | (with_reducible assumption) | ((with_reducible refine New.setB ?_ ?_ _); focus (first | omega | (simp; omega) | (simp; done))) | (with_reducible refine New.alloc ?_ _) | (with_reducible refine New.drew ?_) | (with_reducible refine New.drewN ?_ _) | (with_reducible refine New.hat ?_ _) | ((with_reducible apply New.snart); (with_reducible assumption)))), by go_simp, by go_simp, by go_simp, by go_simp, by go_simp, by go_simp⟩
  case rest =>
    obtain ⟨b0, g0, rfl, rfl, nZ, p0, p1, p2, q0, q1, q2⟩ := hcut
    replace c1 := nZ.keep c1
    replace c2 := nZ.keep c2
    replace c3 := nZ.keep c3
    replace c4 := nZ.keep c4
    replace c5 := nZ.keep c5
    replace c6 := nZ.keep c6
    replace c7 := nZ.keep c7
    replace c8 := nZ.keep c8
    replace c9 := nZ.keep c9
    replace zz := World.block_lt_of_cell? _ _ c1
    simp only [] at zz
    replace hn := hn.trans nZ
    clear nZ
    rename World => W1
    go_wp2_with fail
    refine (T0.out _).mono ?_
    rintro e w' ⟨rfl, rfl⟩
    go_wp2_with fail
    refine (T1.out _).mono ?_
    rintro e w' ⟨rfl, rfl⟩
    go_wp2_with fail
    refine (T2.out _).mono ?_
    rintro e w' ⟨rfl, rfl⟩
    clear p0 p1 p2 q0 q1 q2
    go_wp2_with fail
    rw [rounds_succ]
    go_upto_region 6 with fail
    go_cut [7, 8] (fun s7 s8 Z => ∃ b b' : Nat, s7 = .pointer (some ⟨b, 0, none⟩) ∧ s8 = .pointer (some ⟨b', 0, none⟩) ∧ New W1 Z ∧ Z.cell? ⟨b, 0, none⟩ = some (.int .i64 x1) ∧ Z.cell? ⟨b, 1, none⟩ = some (.int .i64 y1) ∧ Z.cell? ⟨b, 2, none⟩ = some (.int .i64 z1) ∧
        Z.cell? ⟨b', 0, none⟩ = some (.int .i64 x2) ∧ Z.cell? ⟨b', 1, none⟩ = some (.int .i64 y2) ∧ Z.cell? ⟨b', 2, none⟩ = some (.int .i64 z2))
    case first =>
      go_region
      all_goals
        go_wp2_with fail
        go_meet
        exact ⟨_, _, rfl, rfl, by (repeat (first | (with_reducible exact New.refl _) | (with_reducible assumption) | ((with_reducible refine New.setB ?_ ?_ _); focus (first | omega | (simp; omega) | (simp; done))) | (with_reducible refine New.alloc ?_ _) | (with_reducible refine New.drew ?_) | (with_reducible refine New.drewN ?_ _) | (with_reducible refine New.hat ?_ _) | ((with_reducible apply New.snart); (with_reducible assumption)))), by go_simp, by go_simp, by go_simp, by go_simp, by go_simp, by go_simp⟩
    case rest =>
      obtain ⟨b1, g1, rfl, rfl, nZ, p0, p1, p2, q0, q1, q2⟩ := hcut
      replace c1 := nZ.keep c1
      replace c2 := nZ.keep c2
      replace c3 := nZ.keep c3
      replace c4 := nZ.keep c4
      replace c5 := nZ.keep c5
      replace c6 := nZ.keep c6
      replace c7 := nZ.keep c7
      replace c8 := nZ.keep c8
      replace c9 := nZ.keep c9
      replace zz := World.block_lt_of_cell? _ _ c1
      simp only [] at zz
      replace hn := hn.trans nZ
      clear nZ
      rename World => W2
      go_wp2_with fail
      refine (T3.out _).mono ?_
      rintro e w' ⟨rfl, rfl⟩
      go_wp2_with fail
      refine (T4.out _).mono ?_
      rintro e w' ⟨rfl, rfl⟩
      go_wp2_with fail
      refine (T5.out _).mono ?_
      rintro e w' ⟨rfl, rfl⟩
      clear p0 p1 p2 q0 q1 q2
      go_wp2_with fail
      rw [rounds_succ]
      go_upto_region 6 with fail
      go_cut [7, 8] (fun s7 s8 Z => ∃ b b' : Nat, s7 = .pointer (some ⟨b, 0, none⟩) ∧ s8 = .pointer (some ⟨b', 0, none⟩) ∧ New W2 Z ∧ Z.cell? ⟨b, 0, none⟩ = some (.int .i64 x2) ∧ Z.cell? ⟨b, 1, none⟩ = some (.int .i64 y2) ∧ Z.cell? ⟨b, 2, none⟩ = some (.int .i64 z2) ∧
          Z.cell? ⟨b', 0, none⟩ = some (.int .i64 x0) ∧ Z.cell? ⟨b', 1, none⟩ = some (.int .i64 y0) ∧ Z.cell? ⟨b', 2, none⟩ = some (.int .i64 z0))
      case first =>
        go_region
        all_goals
          go_wp2_with fail
          go_meet
          exact ⟨_, _, rfl, rfl, by (repeat (first | (with_reducible exact New.refl _) | (with_reducible assumption) | ((with_reducible refine New.setB ?_ ?_ _); focus (first | omega | (simp; omega) | (simp; done))) | (with_reducible refine New.alloc ?_ _) | (with_reducible refine New.drew ?_) | (with_reducible refine New.drewN ?_ _) | (with_reducible refine New.hat ?_ _) | ((with_reducible apply New.snart); (with_reducible assumption)))), by go_simp, by go_simp, by go_simp, by go_simp, by go_simp, by go_simp⟩
      case rest =>
        obtain ⟨b2, g2, rfl, rfl, nZ, p0, p1, p2, q0, q1, q2⟩ := hcut
        clear c1 c2 c3 c4 c5 c6 c7 c8 c9
        replace hn := hn.trans nZ
        clear nZ
        rename World => W3
        go_wp2_with fail
        refine (T6.out _).mono ?_
        rintro e w' ⟨rfl, rfl⟩
        go_wp2_with fail
        refine (T7.out _).mono ?_
        rintro e w' ⟨rfl, rfl⟩
        go_wp2_with fail
        refine (T8.out _).mono ?_
        rintro e w' ⟨rfl, rfl⟩
        clear p0 p1 p2 q0 q1 q2
        go_wp2_with fail
        rw [rounds_succ]
        cases ey
        · go_wp2_with fail
          refine bodyPost_ret (v := .tuple #[.int .i64 (k0 + k3 + k6), .int .i64 (k1 + k4 + k7), .int .i64 (k2 + k5 + k8), .int .i64 0]) (by simp [results, Tryz.results93, go_sem]) rfl ?_
          obtain ⟨h1, h2, h3, h4⟩ := HN.out
          rw [h1, h2, h3, h4]
          exact ⟨rfl, hn⟩
        · go_wp2_with fail
          refine bodyPost_ret (v := .tuple #[.int .i64 0, .int .i64 0, .int .i64 0, .int .i64 40]) (by simp [results, Tryz.results93, go_sem]) rfl ?_
          obtain ⟨h1, h2, h3, h4⟩ := HN.out
          rw [h1, h2, h3, h4]
          exact ⟨rfl, hn⟩

end Go.Proofs.YtdbhlepbaepngaaGreatDoor
