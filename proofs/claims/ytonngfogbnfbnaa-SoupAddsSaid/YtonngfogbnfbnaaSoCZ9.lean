import Derived.Test.YtonngfogbnfbnaaWholeCZ9
import Derived.Handy
import Derived.Test.YtonngfogbnfbnaaRows
import Derived.WalkKit
import Derived.Test.YtonngfogbnfbnaaSteady
import Derived.Deep.DeepCutAuto
import Derived.Deep.CutBlock
import Derived.Test.YtonngfogbnfbnaaSoRZ9
import Derived.Test.YtonngfogbnfbnaaHatS
import Derived.Deep.LoopGhost
import Derived.Shelf.Abstract
import Derived.Test.YtonngfogbnfbnaaWholeIZ9

/- Contracts of Cross of package whole and of the document's own. -/
namespace Go.Proofs.Ytonngfogbnfbnaa
open Go.RowKit

def nearB (n : Int) : Bool := withinB n (-1073741824) 1073741824
def crossB (a b c d : Int) : Bool := nearB a && nearB b && nearB c && nearB d
def crossI (a b c d : Int) : Int := if crossB a b c d then a * d - b * c else 0

theorem nearB_iff (n : Int) : nearB n = decide (-1073741824 ≤ n ∧ n ≤ 1073741824) := by
  unfold nearB withinB clampI
  rw [Bool.eq_iff_iff]; simp; omega

theorem near_mul {a b : Int} (ha : nearB a = true) (hb : nearB b = true) : -1152921504606846976 ≤ a * b ∧ a * b ≤ 1152921504606846976 := by
  rw [nearB_iff] at ha hb
  simp at ha hb
  have h : (a * b).natAbs ≤ 1073741824 * 1073741824 := by
    rw [Int.natAbs_mul]
    exact Nat.mul_le_mul (by omega) (by omega)
  omega

set_option maxHeartbeats 1000000 in
theorem cross_any (a b c d : Int) (w : World) :
    Calls Try.prog 118 #[.int .i64 a, .int .i64 b, .int .i64 c, .int .i64 d] w fun e w' => e = .returned (.tuple #[.int .i64 (crossI a b c d), .int .i64 (errI (crossB a b c d))]) ∧ w = w' := by
  have i0 : ∀ w, (Instr.index 158 (.agg #[.int .i64 a, .int .i64 b, .int .i64 c, .int .i64 d]) (.int .i64 0)).run Try.prog w = .ok (.int .i64 a) w := fun _ => by kernel_rfl
  have i1 : ∀ w, (Instr.index 158 (.agg #[.int .i64 a, .int .i64 b, .int .i64 c, .int .i64 d]) (.int .i64 1)).run Try.prog w = .ok (.int .i64 b) w := fun _ => by kernel_rfl
  have i2 : ∀ w, (Instr.index 158 (.agg #[.int .i64 a, .int .i64 b, .int .i64 c, .int .i64 d]) (.int .i64 2)).run Try.prog w = .ok (.int .i64 c) w := fun _ => by kernel_rfl
  have i3 : ∀ w, (Instr.index 158 (.agg #[.int .i64 a, .int .i64 b, .int .i64 c, .int .i64 d]) (.int .i64 3)).run Try.prog w = .ok (.int .i64 d) w := fun _ => by kernel_rfl
  cases hna : nearB a
  · have e1 : crossI a b c d = 0 := by unfold crossI crossB; simp_all
    have e2 : errI (crossB a b c d) = 2 := by unfold errI crossB; simp_all
    rw [e1, e2]
    clear e1 e2
    unfold nearB at *
    go_enter Try.func118, Try.ntmps118
    go_wp2
    refine wp_loop_rounds 5 ?_
    repeat (rw [rounds_succ]; go_wp2_with (go_at_call 95; refine (within_any _ _ _ _).mono ?_; rintro e w' ⟨rfl, rfl⟩))
    go_ret2
    exact ⟨rfl, rfl⟩
  · cases hnb : nearB b
    · have e1 : crossI a b c d = 0 := by unfold crossI crossB; simp_all
      have e2 : errI (crossB a b c d) = 2 := by unfold errI crossB; simp_all
      rw [e1, e2]
      clear e1 e2
      unfold nearB at *
      go_enter Try.func118, Try.ntmps118
      go_wp2
      refine wp_loop_rounds 5 ?_
      repeat (rw [rounds_succ]; go_wp2_with (go_at_call 95; refine (within_any _ _ _ _).mono ?_; rintro e w' ⟨rfl, rfl⟩))
      go_ret2
      exact ⟨rfl, rfl⟩
    · cases hnc : nearB c
      · have e1 : crossI a b c d = 0 := by unfold crossI crossB; simp_all
        have e2 : errI (crossB a b c d) = 2 := by unfold errI crossB; simp_all
        rw [e1, e2]
        clear e1 e2
        unfold nearB at *
        go_enter Try.func118, Try.ntmps118
        go_wp2
        refine wp_loop_rounds 5 ?_
        repeat (rw [rounds_succ]; go_wp2_with (go_at_call 95; refine (within_any _ _ _ _).mono ?_; rintro e w' ⟨rfl, rfl⟩))
        go_ret2
        exact ⟨rfl, rfl⟩
      · cases hnd : nearB d
        · have e1 : crossI a b c d = 0 := by unfold crossI crossB; simp_all
          have e2 : errI (crossB a b c d) = 2 := by unfold errI crossB; simp_all
          rw [e1, e2]
          clear e1 e2
          unfold nearB at *
          go_enter Try.func118, Try.ntmps118
          go_wp2
          refine wp_loop_rounds 5 ?_
          repeat (rw [rounds_succ]; go_wp2_with (go_at_call 95; refine (within_any _ _ _ _).mono ?_; rintro e w' ⟨rfl, rfl⟩))
          go_ret2
          exact ⟨rfl, rfl⟩
        · have hm1 := near_mul hna hnd
          have hm2 := near_mul hnb hnc
          have e1 : crossI a b c d = a * d - b * c := by unfold crossI crossB; simp_all
          have e2 : errI (crossB a b c d) = 0 := by unfold errI crossB; simp_all
          rw [e1, e2]
          clear e1 e2
          unfold nearB at *
          go_enter Try.func118, Try.ntmps118
          go_wp2
          refine wp_loop_rounds 5 ?_
          repeat (rw [rounds_succ]; go_wp2_with (go_at_call 95; refine (within_any _ _ _ _).mono ?_; rintro e w' ⟨rfl, rfl⟩))
          go_ret2
          exact ⟨rfl, rfl⟩

end Go.Proofs.Ytonngfogbnfbnaa

/- How great a product may be. No function of the program in sight. -/
namespace Go.Proofs.Ytonngfogbnfbnaa

theorem mul_bd {a b A B : Int} (ha : -A ≤ a ∧ a ≤ A) (hb : -B ≤ b ∧ b ≤ B) : -(A * B) ≤ a * b ∧ a * b ≤ A * B := by
  have hA : 0 ≤ A := by omega
  have hB : 0 ≤ B := by omega
  have h1 : 0 ≤ (A - a) * (B - b) := Int.mul_nonneg (by omega) (by omega)
  have h2 : 0 ≤ (A + a) * (B + b) := Int.mul_nonneg (by omega) (by omega)
  have h3 : 0 ≤ (A - a) * (B + b) := Int.mul_nonneg (by omega) (by omega)
  have h4 : 0 ≤ (A + a) * (B - b) := Int.mul_nonneg (by omega) (by omega)
  simp only [Int.sub_mul, Int.mul_sub, Int.add_mul, Int.mul_add] at h1 h2 h3 h4
  omega

end Go.Proofs.Ytonngfogbnfbnaa

/- Triangles in plain numbers: which may be, their normals, and how great the numbers on the way may be. No function of the program in sight. -/
namespace Go.Proofs.Ytonngfogbnfbnaa
open Go.RowKit
set_option linter.unusedVariables false

def nxI (x0 y0 z0 x1 y1 z1 x2 y2 z2 : Int) : Int := (y1 - y0) * (z2 - z0) - (z1 - z0) * (y2 - y0)
def nyI (x0 y0 z0 x1 y1 z1 x2 y2 z2 : Int) : Int := (z1 - z0) * (x2 - x0) - (x1 - x0) * (z2 - z0)
def nzI (x0 y0 z0 x1 y1 z1 x2 y2 z2 : Int) : Int := (x1 - x0) * (y2 - y0) - (y1 - y0) * (x2 - x0)

def StV (w d x y z : Int) : Prop := (0 ≤ x ∧ x ≤ w) ∧ (0 ≤ z ∧ z ≤ d) ∧ (-2048 ≤ y ∧ y ≤ 2048)
instance (w d x y z : Int) : Decidable (StV w d x y z) := by unfold StV; infer_instance
def StP (w d x0 y0 z0 x1 y1 z1 x2 y2 z2 : Int) : Prop := StV w d x0 y0 z0 ∧ StV w d x1 y1 z1 ∧ StV w d x2 y2 z2
instance (w d x0 y0 z0 x1 y1 z1 x2 y2 z2 : Int) : Decidable (StP w d x0 y0 z0 x1 y1 z1 x2 y2 z2) := by unfold StP; infer_instance
def stB (w d x0 y0 z0 x1 y1 z1 x2 y2 z2 : Int) : Bool := decide (StP w d x0 y0 z0 x1 y1 z1 x2 y2 z2)
theorem stB_iff {w d x0 y0 z0 x1 y1 z1 x2 y2 z2 : Int} : stB w d x0 y0 z0 x1 y1 z1 x2 y2 z2 = true ↔ StP w d x0 y0 z0 x1 y1 z1 x2 y2 z2 := by unfold stB; simp
theorem stB_no {w d x0 y0 z0 x1 y1 z1 x2 y2 z2 : Int} : stB w d x0 y0 z0 x1 y1 z1 x2 y2 z2 = false ↔ ¬ StP w d x0 y0 z0 x1 y1 z1 x2 y2 z2 := by unfold stB; simp

def okB (x0 y0 z0 x1 y1 z1 x2 y2 z2 : Int) : Bool := stB 32 32 x0 y0 z0 x1 y1 z1 x2 y2 z2 && (nyI x0 y0 z0 x1 y1 z1 x2 y2 z2 != 0)
def normX (x0 y0 z0 x1 y1 z1 x2 y2 z2 : Int) : Int := if okB x0 y0 z0 x1 y1 z1 x2 y2 z2 then nxI x0 y0 z0 x1 y1 z1 x2 y2 z2 else 0
def normY (x0 y0 z0 x1 y1 z1 x2 y2 z2 : Int) : Int := if okB x0 y0 z0 x1 y1 z1 x2 y2 z2 then nyI x0 y0 z0 x1 y1 z1 x2 y2 z2 else 0
def normZ (x0 y0 z0 x1 y1 z1 x2 y2 z2 : Int) : Int := if okB x0 y0 z0 x1 y1 z1 x2 y2 z2 then nzI x0 y0 z0 x1 y1 z1 x2 y2 z2 else 0
def normE (x0 y0 z0 x1 y1 z1 x2 y2 z2 : Int) : Int := if okB x0 y0 z0 x1 y1 z1 x2 y2 z2 then 0 else 40

theorem norm_yes {x0 y0 z0 x1 y1 z1 x2 y2 z2 : Int} (h : okB x0 y0 z0 x1 y1 z1 x2 y2 z2 = true) : normX x0 y0 z0 x1 y1 z1 x2 y2 z2 = nxI x0 y0 z0 x1 y1 z1 x2 y2 z2 ∧ normY x0 y0 z0 x1 y1 z1 x2 y2 z2 = nyI x0 y0 z0 x1 y1 z1 x2 y2 z2 ∧ normZ x0 y0 z0 x1 y1 z1 x2 y2 z2 = nzI x0 y0 z0 x1 y1 z1 x2 y2 z2 ∧ normE x0 y0 z0 x1 y1 z1 x2 y2 z2 = 0 := by
  unfold normX normY normZ normE; simp [h]
theorem norm_no {x0 y0 z0 x1 y1 z1 x2 y2 z2 : Int} (h : okB x0 y0 z0 x1 y1 z1 x2 y2 z2 = false) : normX x0 y0 z0 x1 y1 z1 x2 y2 z2 = 0 ∧ normY x0 y0 z0 x1 y1 z1 x2 y2 z2 = 0 ∧ normZ x0 y0 z0 x1 y1 z1 x2 y2 z2 = 0 ∧ normE x0 y0 z0 x1 y1 z1 x2 y2 z2 = 40 := by
  unfold normX normY normZ normE; simp [h]

theorem nx_sum (x0 y0 z0 x1 y1 z1 x2 y2 z2 : Int) : (y0 * z1 - z0 * y1) + (y1 * z2 - z1 * y2) + (y2 * z0 - z2 * y0) = nxI x0 y0 z0 x1 y1 z1 x2 y2 z2 := by unfold nxI; grind
theorem ny_sum (x0 y0 z0 x1 y1 z1 x2 y2 z2 : Int) : (z0 * x1 - x0 * z1) + (z1 * x2 - x1 * z2) + (z2 * x0 - x2 * z0) = nyI x0 y0 z0 x1 y1 z1 x2 y2 z2 := by unfold nyI; grind
theorem nz_sum (x0 y0 z0 x1 y1 z1 x2 y2 z2 : Int) : (x0 * y1 - y0 * x1) + (x1 * y2 - y1 * x2) + (x2 * y0 - y2 * x0) = nzI x0 y0 z0 x1 y1 z1 x2 y2 z2 := by unfold nzI; grind

/-- The numbers of a normal. -/
theorem nI_bd {x0 y0 z0 x1 y1 z1 x2 y2 z2 : Int} (h : StP 32 32 x0 y0 z0 x1 y1 z1 x2 y2 z2) : (-262144 ≤ nxI x0 y0 z0 x1 y1 z1 x2 y2 z2 ∧ nxI x0 y0 z0 x1 y1 z1 x2 y2 z2 ≤ 262144) ∧ (-2048 ≤ nyI x0 y0 z0 x1 y1 z1 x2 y2 z2 ∧ nyI x0 y0 z0 x1 y1 z1 x2 y2 z2 ≤ 2048) ∧ (-262144 ≤ nzI x0 y0 z0 x1 y1 z1 x2 y2 z2 ∧ nzI x0 y0 z0 x1 y1 z1 x2 y2 z2 ≤ 262144) := by
  unfold StP StV at h
  have a1 := mul_bd (a := y1 - y0) (b := z2 - z0) (A := 4096) (B := 32) (by omega) (by omega)
  have a2 := mul_bd (a := z1 - z0) (b := y2 - y0) (A := 32) (B := 4096) (by omega) (by omega)
  have a3 := mul_bd (a := z1 - z0) (b := x2 - x0) (A := 32) (B := 32) (by omega) (by omega)
  have a4 := mul_bd (a := x1 - x0) (b := z2 - z0) (A := 32) (B := 32) (by omega) (by omega)
  have a5 := mul_bd (a := x1 - x0) (b := y2 - y0) (A := 32) (B := 4096) (by omega) (by omega)
  have a6 := mul_bd (a := y1 - y0) (b := x2 - x0) (A := 4096) (B := 32) (by omega) (by omega)
  unfold nxI nyI nzI
  omega

theorem ok_st {x0 y0 z0 x1 y1 z1 x2 y2 z2 : Int} (h : okB x0 y0 z0 x1 y1 z1 x2 y2 z2 = true) : StP 32 32 x0 y0 z0 x1 y1 z1 x2 y2 z2 ∧ nyI x0 y0 z0 x1 y1 z1 x2 y2 z2 ≠ 0 := by
  unfold okB at h
  simp only [Bool.and_eq_true, bne_iff_ne] at h
  exact ⟨stB_iff.1 h.1, h.2⟩

theorem ok_no {x0 y0 z0 x1 y1 z1 x2 y2 z2 : Int} (h : okB x0 y0 z0 x1 y1 z1 x2 y2 z2 = false) (hs : stB 32 32 x0 y0 z0 x1 y1 z1 x2 y2 z2 = true) : nyI x0 y0 z0 x1 y1 z1 x2 y2 z2 = 0 := by
  unfold okB at h
  rw [hs] at h
  simpa using h

end Go.Proofs.Ytonngfogbnfbnaa

/- Package tri: within, cross, the closure of Bounds. -/
namespace Go.Proofs.Ytonngfogbnfbnaa
open Go.RowKit
set_option linter.unusedVariables false

set_option maxHeartbeats 400000 in
theorem t_within (n lo hi : Int) (w : World) :
    Calls Try.prog 100 #[.int .i64 n, .int .i64 lo, .int .i64 hi] w fun e w' => e = .returned (.bool (decide (lo ≤ n ∧ n ≤ hi))) ∧ w = w' := by
  go_enter Try.func100, Try.ntmps100
  go_wp2
  all_goals
    go_ret
    refine ⟨retB ?_, rfl⟩
    simp [*] <;> omega

theorem cross_small {a b c d : Int} (ha : -1073741824 ≤ a ∧ a ≤ 1073741824) (hb : -1073741824 ≤ b ∧ b ≤ 1073741824) (hc : -1073741824 ≤ c ∧ c ≤ 1073741824) (hd : -1073741824 ≤ d ∧ d ≤ 1073741824) : crossI a b c d = a * d - b * c := by
  unfold crossI crossB; simp only [nearB_iff]; rw [if_pos (by simp; omega)]

set_option maxHeartbeats 400000 in
theorem t_cross (a b c d : Int) (w : World) (ha : -1073741824 ≤ a ∧ a ≤ 1073741824) (hb : -1073741824 ≤ b ∧ b ≤ 1073741824) (hc : -1073741824 ≤ c ∧ c ≤ 1073741824) (hd : -1073741824 ≤ d ∧ d ≤ 1073741824) :
    Calls Try.prog 115 #[.int .i64 a, .int .i64 b, .int .i64 c, .int .i64 d] w fun e w' => e = .returned (.int .i64 (a * d - b * c)) ∧ w = w' := by
  have e1 := cross_small ha hb hc hd
  go_enter Try.func115, Try.ntmps115
  go_wp2_with fail
  refine (cross_any _ _ _ _ _).mono ?_
  rw [e1]
  rintro e w' ⟨rfl, rfl⟩
  go_wp2_with fail
  go_ret
  exact ⟨rfl, rfl⟩

set_option maxHeartbeats 2000000 in
theorem t_widen (bl bh : Nat) (x y z lx ly lz hx hy hz : Int) (w : World) (hne : bl ≠ bh)
    (l0 : w.cell? ⟨bl, 0, none⟩ = some (.int .i64 lx)) (l1 : w.cell? ⟨bl, 1, none⟩ = some (.int .i64 ly)) (l2 : w.cell? ⟨bl, 2, none⟩ = some (.int .i64 lz))
    (h0 : w.cell? ⟨bh, 0, none⟩ = some (.int .i64 hx)) (h1 : w.cell? ⟨bh, 1, none⟩ = some (.int .i64 hy)) (h2 : w.cell? ⟨bh, 2, none⟩ = some (.int .i64 hz))
    (fl : ∀ o, w.frozen? ⟨bl, o, none⟩ = false) (fh : ∀ o, w.frozen? ⟨bh, o, none⟩ = false) :
    Calls Try.prog 117 (#[.agg #[.int .i64 x, .int .i64 y, .int .i64 z]] ++ #[.pointer (some ⟨bl, 0, none⟩), .pointer (some ⟨bh, 0, none⟩)]) w fun e w' => e = .returned (.tuple #[]) ∧ (∀ a, New a w → a.heap.size ≤ bl → a.heap.size ≤ bh → New a w') ∧
      (w'.cell? ⟨bl, 0, none⟩ = some (.int .i64 (min lx x)) ∧ w'.cell? ⟨bl, 1, none⟩ = some (.int .i64 (min ly y)) ∧ w'.cell? ⟨bl, 2, none⟩ = some (.int .i64 (min lz z))) ∧
      (w'.cell? ⟨bh, 0, none⟩ = some (.int .i64 (max hx x)) ∧ w'.cell? ⟨bh, 1, none⟩ = some (.int .i64 (max hy y)) ∧ w'.cell? ⟨bh, 2, none⟩ = some (.int .i64 (max hz z))) ∧
      (∀ o, w'.frozen? ⟨bl, o, none⟩ = false) ∧ (∀ o, w'.frozen? ⟨bh, o, none⟩ = false) := by
  have bl0 := World.block_lt_of_cell? _ _ l0
  have bh0 := World.block_lt_of_cell? _ _ h0
  simp only [] at bl0 bh0
  have fl0 := fl 0
  have fl1 := fl 1
  have fl2 := fl 2
  have fh0 := fh 0
  have fh1 := fh 1
  have fh2 := fh 2
  show Calls Try.prog 117 #[.agg #[.int .i64 x, .int .i64 y, .int .i64 z], .pointer (some ⟨bl, 0, none⟩), .pointer (some ⟨bh, 0, none⟩)] w _
  go_enter Try.func117, Try.ntmps117
  go_wp2
  refine bodyPost_end (results_none rfl _ _ _) rfl ?_
  refine ⟨rfl, fun a ha k1 k2 => by (repeat (first | (with_reducible exact New.refl _) | (with_reducible assumption) | ((with_reducible refine New.setB ?_ ?_ _); focus (first | omega | (simp; omega) | (simp; done))) | (with_reducible refine New.alloc ?_ _) | (with_reducible refine New.drew ?_) | (with_reducible refine New.drewN ?_ _) | (with_reducible refine New.hat ?_ _) | ((with_reducible apply New.snart); (with_reducible assumption)))), ⟨by go_simp, by go_simp, by go_simp⟩, ⟨by go_simp, by go_simp, by go_simp⟩, fun o => by have := fl o; go_simp, fun o => by have := fh o; go_simp⟩

def minI (a b c : Int) : Int := min (min (min a a) b) c
def maxI (a b c : Int) : Int := max (max (max a a) b) c

set_option maxHeartbeats 2000000 in
set_option maxRecDepth 100000 in
theorem t_bounds (i x0 y0 z0 x1 y1 z1 x2 y2 z2 : Int) (w : World) :
    Calls Try.prog 114 #[.agg #[.int .i64 i, .int .i64 x0, .int .i64 y0, .int .i64 z0, .int .i64 x1, .int .i64 y1, .int .i64 z1, .int .i64 x2, .int .i64 y2, .int .i64 z2]] w fun e w' => e = .returned (.tuple #[.agg #[.int .i64 (minI x0 x1 x2), .int .i64 (minI y0 y1 y2), .int .i64 (minI z0 z1 z2)], .agg #[.int .i64 (maxI x0 x1 x2), .int .i64 (maxI y0 y1 y2), .int .i64 (maxI z0 z1 z2)]]) ∧ New w w' := by
  go_enter Try.func114, Try.ntmps114
  go_upto_region 1 with fail
  obtain ⟨W0, hW⟩ : ∃ W0, W0 = w.alloc (.cells #[.int .i64 i, .int .i64 x0, .int .i64 y0, .int .i64 z0, .int .i64 x1, .int .i64 y1, .int .i64 z1, .int .i64 x2, .int .i64 y2, .int .i64 z2] 33) := ⟨_, rfl⟩
  rw [← hW]
  have c1 : W0.cell? ⟨w.heap.size, 1, none⟩ = some (.int .i64 x0) := by subst hW; go_simp
  have c2 : W0.cell? ⟨w.heap.size, 2, none⟩ = some (.int .i64 y0) := by subst hW; go_simp
  have c3 : W0.cell? ⟨w.heap.size, 3, none⟩ = some (.int .i64 z0) := by subst hW; go_simp
  have c4 : W0.cell? ⟨w.heap.size, 4, none⟩ = some (.int .i64 x1) := by subst hW; go_simp
  have c5 : W0.cell? ⟨w.heap.size, 5, none⟩ = some (.int .i64 y1) := by subst hW; go_simp
  have c6 : W0.cell? ⟨w.heap.size, 6, none⟩ = some (.int .i64 z1) := by subst hW; go_simp
  have c7 : W0.cell? ⟨w.heap.size, 7, none⟩ = some (.int .i64 x2) := by subst hW; go_simp
  have c8 : W0.cell? ⟨w.heap.size, 8, none⟩ = some (.int .i64 y2) := by subst hW; go_simp
  have c9 : W0.cell? ⟨w.heap.size, 9, none⟩ = some (.int .i64 z2) := by subst hW; go_simp
  have hz : W0.heap.size = w.heap.size + 1 := by subst hW; go_simp
  have n0 : New w W0 := by subst hW; (repeat (first | (with_reducible exact New.refl _) | (with_reducible assumption) | ((with_reducible refine New.setB ?_ ?_ _); focus (first | omega | (simp; omega) | (simp; done))) | (with_reducible refine New.alloc ?_ _) | (with_reducible refine New.drew ?_) | (with_reducible refine New.drewN ?_ _) | (with_reducible refine New.hat ?_ _) | ((with_reducible apply New.snart); (with_reducible assumption))))
  clear hW
  go_cut [8] (fun s8 Z => New W0 Z ∧ (Z.cell? ⟨w.heap.size + 1, 0, none⟩ = some (.int .i64 x0) ∧ Z.cell? ⟨w.heap.size + 1, 1, none⟩ = some (.int .i64 y0) ∧ Z.cell? ⟨w.heap.size + 1, 2, none⟩ = some (.int .i64 z0)) ∧
    (Z.cell? ⟨w.heap.size + 1 + 1, 0, none⟩ = some (.int .i64 x0) ∧ Z.cell? ⟨w.heap.size + 1 + 1, 1, none⟩ = some (.int .i64 y0) ∧ Z.cell? ⟨w.heap.size + 1 + 1, 2, none⟩ = some (.int .i64 z0)) ∧ (∀ o, Z.frozen? ⟨w.heap.size + 1, o, none⟩ = false) ∧ (∀ o, Z.frozen? ⟨w.heap.size + 1 + 1, o, none⟩ = false))
  case first =>
    go_region
    all_goals
      go_wp2_with fail
      go_meet
      exact ⟨by (repeat (first | (with_reducible exact New.refl _) | (with_reducible assumption) | ((with_reducible refine New.setB ?_ ?_ _); focus (first | omega | (simp; omega) | (simp; done))) | (with_reducible refine New.alloc ?_ _) | (with_reducible refine New.drew ?_) | (with_reducible refine New.drewN ?_ _) | (with_reducible refine New.hat ?_ _) | ((with_reducible apply New.snart); (with_reducible assumption)))), ⟨by go_simp, by go_simp, by go_simp⟩, ⟨by go_simp, by go_simp, by go_simp⟩, fun o => by go_simp, fun o => by go_simp⟩
  case rest =>
    obtain ⟨nZ, ⟨l0, l1, l2⟩, ⟨h0, h1, h2⟩, fl, fh⟩ := hcut
    have e0 := nZ.keep c1
    have e1 := nZ.keep c2
    have e2 := nZ.keep c3
    go_wp2_with fail
    refine wp_loop_rounds 4 ?_
    rw [rounds_succ]
    go_wp2_with fail
    refine (t_widen _ _ _ _ _ _ _ _ _ _ _ _ (by omega) l0 l1 l2 h0 h1 h2 fl fh).mono ?_
    clear l0 l1 l2 h0 h1 h2 fl fh e0 e1 e2
    rintro e V1 ⟨rfl, nn, ⟨l0, l1, l2⟩, ⟨h0, h1, h2⟩, fl, fh⟩
    replace nZ := nn W0 nZ (by omega) (by omega)
    clear nn
    have e0 := nZ.keep c4
    have e1 := nZ.keep c5
    have e2 := nZ.keep c6
    go_wp2_with fail
    rw [rounds_succ]
    go_wp2_with fail
    refine (t_widen _ _ _ _ _ _ _ _ _ _ _ _ (by omega) l0 l1 l2 h0 h1 h2 fl fh).mono ?_
    clear l0 l1 l2 h0 h1 h2 fl fh e0 e1 e2
    rintro e V2 ⟨rfl, nn, ⟨l0, l1, l2⟩, ⟨h0, h1, h2⟩, fl, fh⟩
    replace nZ := nn W0 nZ (by omega) (by omega)
    clear nn
    have e0 := nZ.keep c7
    have e1 := nZ.keep c8
    have e2 := nZ.keep c9
    go_wp2_with fail
    rw [rounds_succ]
    go_wp2_with fail
    refine (t_widen _ _ _ _ _ _ _ _ _ _ _ _ (by omega) l0 l1 l2 h0 h1 h2 fl fh).mono ?_
    clear l0 l1 l2 h0 h1 h2 fl fh e0 e1 e2
    rintro e V3 ⟨rfl, nn, ⟨l0, l1, l2⟩, ⟨h0, h1, h2⟩, fl, fh⟩
    replace nZ := nn W0 nZ (by omega) (by omega)
    clear nn
    go_wp2_with fail
    rw [rounds_succ]
    go_wp2_with fail
    have fl0 := fl 0
    have fl1 := fl 1
    have fl2 := fl 2
    have fh0 := fh 0
    have fh1 := fh 1
    have fh2 := fh 2
    replace n0 := n0.trans nZ
    go_region
    all_goals
      go_wp2_with fail
      refine bodyPost_ret (v := .tuple #[.agg #[.int .i64 (minI x0 x1 x2), .int .i64 (minI y0 y1 y2), .int .i64 (minI z0 z1 z2)], .agg #[.int .i64 (maxI x0 x1 x2), .int .i64 (maxI y0 y1 y2), .int .i64 (maxI z0 z1 z2)]]) (by simp [results, Try.results114, go_sem, minI, maxI, *]) rfl ?_
      exact ⟨rfl, by (repeat (first | (with_reducible exact New.refl _) | (with_reducible assumption) | ((with_reducible refine New.setB ?_ ?_ _); focus (first | omega | (simp; omega) | (simp; done))) | (with_reducible refine New.alloc ?_ _) | (with_reducible refine New.drew ?_) | (with_reducible refine New.drewN ?_ _) | (with_reducible refine New.hat ?_ _) | ((with_reducible apply New.snart); (with_reducible assumption))))⟩

end Go.Proofs.Ytonngfogbnfbnaa

/- Package tri: stands, Normal. -/
namespace Go.Proofs.Ytonngfogbnfbnaa
open Go.RowKit
set_option linter.unusedVariables false

theorem st_eq (wd dp x0 y0 z0 x1 y1 z1 x2 y2 z2 : Int) : stB wd dp x0 y0 z0 x1 y1 z1 x2 y2 z2 = (decide (0 ≤ minI x0 x1 x2) && decide (maxI x0 x1 x2 ≤ wd) && decide (0 ≤ minI z0 z1 z2) && decide (maxI z0 z1 z2 ≤ dp) && decide (-2048 ≤ minI y0 y1 y2) && decide (maxI y0 y1 y2 ≤ 2048)) := by
  rw [Bool.eq_iff_iff, stB_iff]
  unfold StP StV minI maxI
  simp only [Bool.and_eq_true, decide_eq_true_eq]
  omega

set_option maxHeartbeats 2000000 in
set_option maxRecDepth 100000 in
theorem t_stands (i x0 y0 z0 x1 y1 z1 x2 y2 z2 wd dp : Int) (w : World) :
    Calls Try.prog 101 #[.agg #[.int .i64 i, .int .i64 x0, .int .i64 y0, .int .i64 z0, .int .i64 x1, .int .i64 y1, .int .i64 z1, .int .i64 x2, .int .i64 y2, .int .i64 z2], .int .i64 wd, .int .i64 dp] w fun e w' => e = .returned (.bool (stB wd dp x0 y0 z0 x1 y1 z1 x2 y2 z2)) ∧ New w w' := by
  have hv := st_eq wd dp x0 y0 z0 x1 y1 z1 x2 y2 z2
  have hb := fun W => t_bounds i x0 y0 z0 x1 y1 z1 x2 y2 z2 W
  rw [hv]
  clear hv
  generalize minI x0 x1 x2 = lx at *
  generalize minI y0 y1 y2 = ly at *
  generalize minI z0 z1 z2 = lz at *
  generalize maxI x0 x1 x2 = hx at *
  generalize maxI y0 y1 y2 = hy at *
  generalize maxI z0 z1 z2 = hz at *
  go_enter Try.func101, Try.ntmps101
  go_wp2_with fail
  refine (hb _).mono ?_
  rintro e W1 ⟨rfl, n1⟩
  have hn : New w W1 := New.trans (by (repeat (first | (with_reducible exact New.refl _) | (with_reducible assumption) | ((with_reducible refine New.setB ?_ ?_ _); focus (first | omega | (simp; omega) | (simp; done))) | (with_reducible refine New.alloc ?_ _) | (with_reducible refine New.drew ?_) | (with_reducible refine New.drewN ?_ _) | (with_reducible refine New.hat ?_ _) | ((with_reducible apply New.snart); (with_reducible assumption))))) n1
  clear n1 hb
  go_wp2_with fail
  all_goals
    go_ret
    refine ⟨retB ?_, by (repeat (first | (with_reducible exact New.refl _) | (with_reducible assumption) | ((with_reducible refine New.setB ?_ ?_ _); focus (first | omega | (simp; omega) | (simp; done))) | (with_reducible refine New.alloc ?_ _) | (with_reducible refine New.drew ?_) | (with_reducible refine New.drewN ?_ _) | (with_reducible refine New.hat ?_ _) | ((with_reducible apply New.snart); (with_reducible assumption))))⟩
    simp [*] <;> omega

theorem kb {a b c d A B : Int} (ha : -A ≤ a ∧ a ≤ A) (hd : -B ≤ d ∧ d ≤ B) (hb : -B ≤ b ∧ b ≤ B) (hc : -A ≤ c ∧ c ≤ A) : ∃ k, a * d - b * c = k ∧ -(2 * (A * B)) ≤ k ∧ k ≤ 2 * (A * B) := by
  have h1 := mul_bd ha hd
  have h2 := mul_bd hb hc
  have h3 : B * A = A * B := Int.mul_comm _ _
  exact ⟨_, rfl, by omega, by omega⟩

set_option maxHeartbeats 4000000 in
set_option maxRecDepth 100000 in
theorem t_normal_ok (i x0 y0 z0 x1 y1 z1 x2 y2 z2 : Int) (w : World) (hs : stB 32 32 x0 y0 z0 x1 y1 z1 x2 y2 z2 = true) :
    Calls Try.prog 102 #[.agg #[.int .i64 i, .int .i64 x0, .int .i64 y0, .int .i64 z0, .int .i64 x1, .int .i64 y1, .int .i64 z1, .int .i64 x2, .int .i64 y2, .int .i64 z2]] w fun e w' => e = .returned (.tuple #[.int .i64 (normX x0 y0 z0 x1 y1 z1 x2 y2 z2), .int .i64 (normY x0 y0 z0 x1 y1 z1 x2 y2 z2), .int .i64 (normZ x0 y0 z0 x1 y1 z1 x2 y2 z2), .int .i64 (normE x0 y0 z0 x1 y1 z1 x2 y2 z2)]) ∧ New w w' := by
  have hp := stB_iff.1 hs
  unfold StP StV at hp
  obtain ⟨⟨⟨X0, X0'⟩, ⟨Z0, Z0'⟩, ⟨Y0, Y0'⟩⟩, ⟨⟨X1, X1'⟩, ⟨Z1, Z1'⟩, ⟨Y1, Y1'⟩⟩, ⟨⟨X2, X2'⟩, ⟨Z2, Z2'⟩, ⟨Y2, Y2'⟩⟩⟩ := hp
  have hst := fun W => t_stands i x0 y0 z0 x1 y1 z1 x2 y2 z2 32 32 W
  rw [hs] at hst
  obtain ⟨k0, e0, l0, u0⟩ : ∃ k, y0 * z1 - z0 * y1 = k ∧ -131072 ≤ k ∧ k ≤ 131072 := by
    have h1 := mul_bd (a := y0) (b := z1) (A := 2048) (B := 32) (by omega) (by omega)
    have h2 := mul_bd (a := z0) (b := y1) (A := 32) (B := 2048) (by omega) (by omega)
    exact ⟨_, rfl, by omega, by omega⟩
  have T0 := fun W => t_cross y0 z0 y1 z1 W (by omega) (by omega) (by omega) (by omega)
  obtain ⟨k1, e1, l1, u1⟩ : ∃ k, z0 * x1 - x0 * z1 = k ∧ -131072 ≤ k ∧ k ≤ 131072 := by
    have h1 := mul_bd (a := z0) (b := x1) (A := 32) (B := 32) (by omega) (by omega)
    have h2 := mul_bd (a := x0) (b := z1) (A := 32) (B := 32) (by omega) (by omega)
    exact ⟨_, rfl, by omega, by omega⟩
  have T1 := fun W => t_cross z0 x0 z1 x1 W (by omega) (by omega) (by omega) (by omega)
  obtain ⟨k2, e2, l2, u2⟩ : ∃ k, x0 * y1 - y0 * x1 = k ∧ -131072 ≤ k ∧ k ≤ 131072 := by
    have h1 := mul_bd (a := x0) (b := y1) (A := 32) (B := 2048) (by omega) (by omega)
    have h2 := mul_bd (a := y0) (b := x1) (A := 2048) (B := 32) (by omega) (by omega)
    exact ⟨_, rfl, by omega, by omega⟩
  have T2 := fun W => t_cross x0 y0 x1 y1 W (by omega) (by omega) (by omega) (by omega)
  obtain ⟨k3, e3, l3, u3⟩ : ∃ k, y1 * z2 - z1 * y2 = k ∧ -131072 ≤ k ∧ k ≤ 131072 := by
    have h1 := mul_bd (a := y1) (b := z2) (A := 2048) (B := 32) (by omega) (by omega)
    have h2 := mul_bd (a := z1) (b := y2) (A := 32) (B := 2048) (by omega) (by omega)
    exact ⟨_, rfl, by omega, by omega⟩
  have T3 := fun W => t_cross y1 z1 y2 z2 W (by omega) (by omega) (by omega) (by omega)
  obtain ⟨k4, e4, l4, u4⟩ : ∃ k, z1 * x2 - x1 * z2 = k ∧ -131072 ≤ k ∧ k ≤ 131072 := by
    have h1 := mul_bd (a := z1) (b := x2) (A := 32) (B := 32) (by omega) (by omega)
    have h2 := mul_bd (a := x1) (b := z2) (A := 32) (B := 32) (by omega) (by omega)
    exact ⟨_, rfl, by omega, by omega⟩
  have T4 := fun W => t_cross z1 x1 z2 x2 W (by omega) (by omega) (by omega) (by omega)
  obtain ⟨k5, e5, l5, u5⟩ : ∃ k, x1 * y2 - y1 * x2 = k ∧ -131072 ≤ k ∧ k ≤ 131072 := by
    have h1 := mul_bd (a := x1) (b := y2) (A := 32) (B := 2048) (by omega) (by omega)
    have h2 := mul_bd (a := y1) (b := x2) (A := 2048) (B := 32) (by omega) (by omega)
    exact ⟨_, rfl, by omega, by omega⟩
  have T5 := fun W => t_cross x1 y1 x2 y2 W (by omega) (by omega) (by omega) (by omega)
  obtain ⟨k6, e6, l6, u6⟩ : ∃ k, y2 * z0 - z2 * y0 = k ∧ -131072 ≤ k ∧ k ≤ 131072 := by
    have h1 := mul_bd (a := y2) (b := z0) (A := 2048) (B := 32) (by omega) (by omega)
    have h2 := mul_bd (a := z2) (b := y0) (A := 32) (B := 2048) (by omega) (by omega)
    exact ⟨_, rfl, by omega, by omega⟩
  have T6 := fun W => t_cross y2 z2 y0 z0 W (by omega) (by omega) (by omega) (by omega)
  obtain ⟨k7, e7, l7, u7⟩ : ∃ k, z2 * x0 - x2 * z0 = k ∧ -131072 ≤ k ∧ k ≤ 131072 := by
    have h1 := mul_bd (a := z2) (b := x0) (A := 32) (B := 32) (by omega) (by omega)
    have h2 := mul_bd (a := x2) (b := z0) (A := 32) (B := 32) (by omega) (by omega)
    exact ⟨_, rfl, by omega, by omega⟩
  have T7 := fun W => t_cross z2 x2 z0 x0 W (by omega) (by omega) (by omega) (by omega)
  obtain ⟨k8, e8, l8, u8⟩ : ∃ k, x2 * y0 - y2 * x0 = k ∧ -131072 ≤ k ∧ k ≤ 131072 := by
    have h1 := mul_bd (a := x2) (b := y0) (A := 32) (B := 2048) (by omega) (by omega)
    have h2 := mul_bd (a := y2) (b := x0) (A := 2048) (B := 32) (by omega) (by omega)
    exact ⟨_, rfl, by omega, by omega⟩
  have T8 := fun W => t_cross x2 y2 x0 y0 W (by omega) (by omega) (by omega) (by omega)
  have sx : k0 + k3 + k6 = nxI x0 y0 z0 x1 y1 z1 x2 y2 z2 := by rw [← nx_sum, ← e0, ← e3, ← e6]
  have sy : k1 + k4 + k7 = nyI x0 y0 z0 x1 y1 z1 x2 y2 z2 := by rw [← ny_sum, ← e1, ← e4, ← e7]
  have sz : k2 + k5 + k8 = nzI x0 y0 z0 x1 y1 z1 x2 y2 z2 := by rw [← nz_sum, ← e2, ← e5, ← e8]
  obtain ⟨ey, hey⟩ : ∃ b, b = (nyI x0 y0 z0 x1 y1 z1 x2 y2 z2 == 0) := ⟨_, rfl⟩
  have hN : (normX x0 y0 z0 x1 y1 z1 x2 y2 z2 = if ey then 0 else k0 + k3 + k6) ∧ (normY x0 y0 z0 x1 y1 z1 x2 y2 z2 = if ey then 0 else k1 + k4 + k7) ∧ (normZ x0 y0 z0 x1 y1 z1 x2 y2 z2 = if ey then 0 else k2 + k5 + k8) ∧ (normE x0 y0 z0 x1 y1 z1 x2 y2 z2 = if ey then 40 else 0) := by
    unfold normX normY normZ normE okB
    rw [hs, sx, sy, sz, hey]
    cases hq : (nyI x0 y0 z0 x1 y1 z1 x2 y2 z2 == 0) <;> simp_all
  have HN := Lib.hid hN
  have hey' : (k1 + k4 + k7 == 0) = ey := by rw [hey, sy]
  clear hN sx sy sz hey hs
  rw [e0] at T0
  rw [e1] at T1
  rw [e2] at T2
  rw [e3] at T3
  rw [e4] at T4
  rw [e5] at T5
  rw [e6] at T6
  rw [e7] at T7
  rw [e8] at T8
  clear e0 e1 e2 e3 e4 e5 e6 e7 e8 X0 X0' Z0 Z0' Y0 Y0' X1 X1' Z1 Z1' Y1 Y1' X2 X2' Z2 Z2' Y2 Y2'
  replace T0 := Lib.hid T0
  replace T1 := Lib.hid T1
  replace T2 := Lib.hid T2
  replace T3 := Lib.hid T3
  replace T4 := Lib.hid T4
  replace T5 := Lib.hid T5
  replace T6 := Lib.hid T6
  replace T7 := Lib.hid T7
  replace T8 := Lib.hid T8
  go_enter Try.func102, Try.ntmps102
  go_wp2_with fail
  refine (hst _).mono ?_
  rintro e W0 ⟨rfl, n1⟩
  have c1 : W0.cell? ⟨w.heap.size, 1, none⟩ = some (.int .i64 x0) := n1.keep (by go_simp)
  have c2 : W0.cell? ⟨w.heap.size, 2, none⟩ = some (.int .i64 y0) := n1.keep (by go_simp)
  have c3 : W0.cell? ⟨w.heap.size, 3, none⟩ = some (.int .i64 z0) := n1.keep (by go_simp)
  have c4 : W0.cell? ⟨w.heap.size, 4, none⟩ = some (.int .i64 x1) := n1.keep (by go_simp)
  have c5 : W0.cell? ⟨w.heap.size, 5, none⟩ = some (.int .i64 y1) := n1.keep (by go_simp)
  have c6 : W0.cell? ⟨w.heap.size, 6, none⟩ = some (.int .i64 z1) := n1.keep (by go_simp)
  have c7 : W0.cell? ⟨w.heap.size, 7, none⟩ = some (.int .i64 x2) := n1.keep (by go_simp)
  have c8 : W0.cell? ⟨w.heap.size, 8, none⟩ = some (.int .i64 y2) := n1.keep (by go_simp)
  have c9 : W0.cell? ⟨w.heap.size, 9, none⟩ = some (.int .i64 z2) := n1.keep (by go_simp)
  have hn : New w W0 := New.trans (by (repeat (first | (with_reducible exact New.refl _) | (with_reducible assumption) | ((with_reducible refine New.setB ?_ ?_ _); focus (first | omega | (simp; omega) | (simp; done))) | (with_reducible refine New.alloc ?_ _) | (with_reducible refine New.drew ?_) | (with_reducible refine New.drewN ?_ _) | (with_reducible refine New.hat ?_ _) | ((with_reducible apply New.snart); (with_reducible assumption))))) n1
  have zz := World.block_lt_of_cell? _ _ c1
  simp only [] at zz
  clear n1 hst
  go_wp2_with fail
  refine wp_loop_rounds 4 ?_
  rw [rounds_succ]
  go_upto_region 6 with fail
  go_cut [7, 8] (fun s7 s8 Z => ∃ b b' : Nat, s7 = .pointer (some ⟨b, 0, none⟩) ∧ s8 = .pointer (some ⟨b', 0, none⟩) ∧ New W0 Z ∧ Z.cell? ⟨b, 0, none⟩ = some (.int .i64 x0) ∧ Z.cell? ⟨b, 1, none⟩ = some (.int .i64 y0) ∧ Z.cell? ⟨b, 2, none⟩ = some (.int .i64 z0) ∧
      Z.cell? ⟨b', 0, none⟩ = some (.int .i64 x1) ∧ Z.cell? ⟨b', 1, none⟩ = some (.int .i64 y1) ∧ Z.cell? ⟨b', 2, none⟩ = some (.int .i64 z1))
  case first =>
    go_region
    all_goals
      go_wp2_with fail
      go_meet
      exact ⟨_, _, rfl, rfl, by (repeat (first | (with_reducible exact New.refl _) | (with_reducible assumption) | ((with_reducible refine New.setB ?_ ?_ _); focus (first | omega | (simp; omega) | (simp; done))) | (with_reducible refine New.alloc ?_ _) | (with_reducible refine New.drew ?_) | (with_reducible refine New.drewN ?_ _) | (with_reducible refine New.hat ?_ _) | ((with_reducible apply New.snart); (with_reducible assumption)))), by go_simp, by go_simp, by go_simp, by go_simp, by go_simp, by go_simp⟩
  case rest =>
    obtain ⟨b0, g0, rfl, rfl, nZ, p0, p1, p2, q0, q1, q2⟩ := hcut
    replace c1 := nZ.keep c1
    replace c2 := nZ.keep c2
    replace c3 := nZ.keep c3
    replace c4 := nZ.keep c4
    replace c5 := nZ.keep c5
    replace c6 := nZ.keep c6
    replace c7 := nZ.keep c7
    replace c8 := nZ.keep c8
    replace c9 := nZ.keep c9
    replace zz := World.block_lt_of_cell? _ _ c1
    simp only [] at zz
    replace hn := hn.trans nZ
    clear nZ
    rename World => W1
    go_wp2_with fail
    refine (T0.out _).mono ?_
    rintro e w' ⟨rfl, rfl⟩
    go_wp2_with fail
    refine (T1.out _).mono ?_
    rintro e w' ⟨rfl, rfl⟩
    go_wp2_with fail
    refine (T2.out _).mono ?_
    rintro e w' ⟨rfl, rfl⟩
    clear p0 p1 p2 q0 q1 q2
    go_wp2_with fail
    rw [rounds_succ]
    go_upto_region 6 with fail
    go_cut [7, 8] (fun s7 s8 Z => ∃ b b' : Nat, s7 = .pointer (some ⟨b, 0, none⟩) ∧ s8 = .pointer (some ⟨b', 0, none⟩) ∧ New W1 Z ∧ Z.cell? ⟨b, 0, none⟩ = some (.int .i64 x1) ∧ Z.cell? ⟨b, 1, none⟩ = some (.int .i64 y1) ∧ Z.cell? ⟨b, 2, none⟩ = some (.int .i64 z1) ∧
        Z.cell? ⟨b', 0, none⟩ = some (.int .i64 x2) ∧ Z.cell? ⟨b', 1, none⟩ = some (.int .i64 y2) ∧ Z.cell? ⟨b', 2, none⟩ = some (.int .i64 z2))
    case first =>
      go_region
      all_goals
        go_wp2_with fail
        go_meet
        exact ⟨_, _, rfl, rfl, by (repeat (first | (with_reducible exact New.refl _) | (with_reducible assumption) | ((with_reducible refine New.setB ?_ ?_ _); focus (first | omega | (simp; omega) | (simp; done))) | (with_reducible refine New.alloc ?_ _) | (with_reducible refine New.drew ?_) | (with_reducible refine New.drewN ?_ _) | (with_reducible refine New.hat ?_ _) | ((with_reducible apply New.snart); (with_reducible assumption)))), by go_simp, by go_simp, by go_simp, by go_simp, by go_simp, by go_simp⟩
    case rest =>
      obtain ⟨b1, g1, rfl, rfl, nZ, p0, p1, p2, q0, q1, q2⟩ := hcut
      replace c1 := nZ.keep c1
      replace c2 := nZ.keep c2
      replace c3 := nZ.keep c3
      replace c4 := nZ.keep c4
      replace c5 := nZ.keep c5
      replace c6 := nZ.keep c6
      replace c7 := nZ.keep c7
      replace c8 := nZ.keep c8
      replace c9 := nZ.keep c9
      replace zz := World.block_lt_of_cell? _ _ c1
      simp only [] at zz
      replace hn := hn.trans nZ
      clear nZ
      rename World => W2
      go_wp2_with fail
      refine (T3.out _).mono ?_
      rintro e w' ⟨rfl, rfl⟩
      go_wp2_with fail
      refine (T4.out _).mono ?_
      rintro e w' ⟨rfl, rfl⟩
      go_wp2_with fail
      refine (T5.out _).mono ?_
      rintro e w' ⟨rfl, rfl⟩
      clear p0 p1 p2 q0 q1 q2
      go_wp2_with fail
      rw [rounds_succ]
      go_upto_region 6 with fail
      go_cut [7, 8] (fun s7 s8 Z => ∃ b b' : Nat, s7 = .pointer (some ⟨b, 0, none⟩) ∧ s8 = .pointer (some ⟨b', 0, none⟩) ∧ New W2 Z ∧ Z.cell? ⟨b, 0, none⟩ = some (.int .i64 x2) ∧ Z.cell? ⟨b, 1, none⟩ = some (.int .i64 y2) ∧ Z.cell? ⟨b, 2, none⟩ = some (.int .i64 z2) ∧
          Z.cell? ⟨b', 0, none⟩ = some (.int .i64 x0) ∧ Z.cell? ⟨b', 1, none⟩ = some (.int .i64 y0) ∧ Z.cell? ⟨b', 2, none⟩ = some (.int .i64 z0))
      case first =>
        go_region
        all_goals
          go_wp2_with fail
          go_meet
          exact ⟨_, _, rfl, rfl, by (repeat (first | (with_reducible exact New.refl _) | (with_reducible assumption) | ((with_reducible refine New.setB ?_ ?_ _); focus (first | omega | (simp; omega) | (simp; done))) | (with_reducible refine New.alloc ?_ _) | (with_reducible refine New.drew ?_) | (with_reducible refine New.drewN ?_ _) | (with_reducible refine New.hat ?_ _) | ((with_reducible apply New.snart); (with_reducible assumption)))), by go_simp, by go_simp, by go_simp, by go_simp, by go_simp, by go_simp⟩
      case rest =>
        obtain ⟨b2, g2, rfl, rfl, nZ, p0, p1, p2, q0, q1, q2⟩ := hcut
        clear c1 c2 c3 c4 c5 c6 c7 c8 c9
        replace hn := hn.trans nZ
        clear nZ
        rename World => W3
        go_wp2_with fail
        refine (T6.out _).mono ?_
        rintro e w' ⟨rfl, rfl⟩
        go_wp2_with fail
        refine (T7.out _).mono ?_
        rintro e w' ⟨rfl, rfl⟩
        go_wp2_with fail
        refine (T8.out _).mono ?_
        rintro e w' ⟨rfl, rfl⟩
        clear p0 p1 p2 q0 q1 q2
        go_wp2_with fail
        rw [rounds_succ]
        cases ey
        · go_wp2_with fail
          refine bodyPost_ret (v := .tuple #[.int .i64 (k0 + k3 + k6), .int .i64 (k1 + k4 + k7), .int .i64 (k2 + k5 + k8), .int .i64 0]) (by simp [results, Try.results102, go_sem]) rfl ?_
          obtain ⟨h1, h2, h3, h4⟩ := HN.out
          rw [h1, h2, h3, h4]
          exact ⟨rfl, hn⟩
        · go_wp2_with fail
          refine bodyPost_ret (v := .tuple #[.int .i64 0, .int .i64 0, .int .i64 0, .int .i64 40]) (by simp [results, Try.results102, go_sem]) rfl ?_
          obtain ⟨h1, h2, h3, h4⟩ := HN.out
          rw [h1, h2, h3, h4]
          exact ⟨rfl, hn⟩

end Go.Proofs.Ytonngfogbnfbnaa

/- Package soup: what is in order; rows of tests. -/
namespace Go.Proofs.Ytonngfogbnfbnaa
open Go.RowKit
set_option linter.unusedVariables false

theorem retBo {a b : Bool} (h : a = b) : Ending.returned (.bool a) = .returned (.bool b) := by rw [h]

theorem l_nan (x : Int) (w : World) : Calls Try.prog 98 #[.int .i64 x] w fun e w' => e = .returned (.bool false) ∧ w = w' := by
  go_enter Try.func98, Try.ntmps98
  go_wp2
  go_ret
  exact ⟨rfl, rfl⟩

set_option maxHeartbeats 400000 in
theorem l_less (x y : Int) (w : World) : Calls Try.prog 116 #[.int .i64 x, .int .i64 y] w fun e w' => e = .returned (.bool (decide (x < y))) ∧ w = w' := by
  go_enter Try.func116, Try.ntmps116
  go_wp2_with (go_at_call 98; refine (l_nan _ _).mono ?_; rintro e w' ⟨rfl, rfl⟩)
  all_goals
    go_ret
    exact ⟨rfl, rfl⟩

def cmpI (x y : Int) : Int := if x < y then -1 else if y < x then 1 else 0
set_option maxHeartbeats 400000 in
theorem l_cmp (x y : Int) (w : World) : Calls Try.prog 55 #[.int .i64 x, .int .i64 y] w fun e w' => e = .returned (.int .i64 (cmpI x y)) ∧ w = w' := by
  unfold cmpI
  by_cases h : x < y
  · rw [if_pos h]
    go_enter Try.func55, Try.ntmps55
    go_wp2_with (go_at_call 98; refine (l_nan _ _).mono ?_; rintro e w' ⟨rfl, rfl⟩)
    go_ret
    exact ⟨rfl, rfl⟩
  · rw [if_neg h]
    by_cases h' : y < x
    · rw [if_pos h']
      go_enter Try.func55, Try.ntmps55
      go_wp2_with (go_at_call 98; refine (l_nan _ _).mono ?_; rintro e w' ⟨rfl, rfl⟩)
      go_ret
      exact ⟨rfl, rfl⟩
    · rw [if_neg h']
      go_enter Try.func55, Try.ntmps55
      go_wp2_with (go_at_call 98; refine (l_nan _ _).mono ?_; rintro e w' ⟨rfl, rfl⟩)
      go_ret
      exact ⟨rfl, rfl⟩

/-- None is above the one behind it. -/
def ordB : List Int → Bool
  | a :: b :: l => decide (a ≤ b) && ordB (b :: l)
  | _ => true
theorem ordB_drop : ∀ (l : List Int) (j : Nat), ordB l = true → ordB (l.drop j) = true
  | l, 0, h => h
  | [], _ + 1, _ => rfl
  | [a], j + 1, _ => by simp [ordB]
  | a :: b :: l, j + 1, h => by
    simp only [ordB, Bool.and_eq_true] at h
    exact ordB_drop (b :: l) j h.2
theorem ordB_step (l : List Int) (j : Nat) (h : j + 1 < l.length) : ordB (l.drop j) = (decide (l[j] ≤ l[j + 1]) && ordB (l.drop (j + 1))) := by
  rw [List.drop_eq_getElem_cons (show j < l.length by omega), List.drop_eq_getElem_cons h]
  rfl

/-- A row of numbers at a block's head. -/
def IntsAt (w : World) (b : Nat) (l : List Int) : Prop := ∀ j (h : j < l.length), w.cell? ⟨b, j, none⟩ = some (.int .i64 l[j])
theorem IntsAt.keep {w w' : World} {b : Nat} {l : List Int} (h : IntsAt w b l) (hn : New w w') : IntsAt w' b l := fun j hj => hn.keep (h j hj)

set_option maxHeartbeats 2000000 in
theorem l_sorted (b c : Nat) (l : List Int) (hl : l.length ≤ 100) (h0 : 0 < l.length) (w : World) (H : IntsAt w b l) :
    Calls Try.prog 104 #[.slice (some ⟨b, 0, none⟩) l.length c] w fun e w' => e = .returned (.bool (ordB l)) ∧ New w w' := by
  go_enter Try.func104, Try.ntmps104
  go_wp2_with fail
  go_loopg [3] l.length (fun k s wr => ∃ i : Nat, s = .int .i64 i ∧ i < l.length ∧ i ≤ k ∧ ordB (l.drop i) = true ∧ New w wr)
  case atStart =>
    refine ⟨l.length - 1, by congr 1; omega, by omega, by omega, ?_, New.refl _⟩
    rw [List.drop_eq_getElem_cons (by omega), show l.length - 1 + 1 = l.length by omega, List.drop_length]
    rfl
  case round =>
    obtain ⟨i, rfl, hi, hik, hord, hn⟩ := hrel
    have HO := Lib.hid hord
    clear hord
    cases i with
    | zero =>
      go_wp2_with fail
      go_ret
      exact ⟨retBo HO.out.symm, hn⟩
    | succ i =>
      have c0 := hn.keep (H i (by omega))
      have c1 := hn.keep (H (i + 1) hi)
      have hst := ordB_step l i hi
      rw [HO.out, Bool.and_true] at hst
      have HS := Lib.hid hst
      clear hst
      cases hlt : decide (l[i + 1] < l[i])
      · have HL := Lib.hid hlt
        have hc := Lib.hid (fun W => by have q := l_less l[i + 1] l[i] W; rw [hlt] at q; exact q : ∀ W, Calls Try.prog 116 #[.int .i64 l[i + 1], .int .i64 l[i]] W fun e w' => e = .returned (.bool false) ∧ W = w')
        clear hlt
        go_wp2_with fail
        (refine wp_region_hat (by kernel_rfl) (by kernel_rfl) ?_; intro hatc hatf; (repeat (go_big_quiet_step ((go_at_call 116; exact Calls.hat_same (hc.out _))))); refine wpQuiet_nil ?_; rintro _ ⟨x, rfl⟩)
        go_wp2_with fail
        go_roundg (gk - 1)
        case measure => omega
        case rel =>
          refine ⟨i, by first | rfl | go_num, by omega, by omega, ?_, hn.hat x⟩
          rw [HS.out]
          have := HL.out
          simp at this ⊢
          first | done | omega
      · have HL := Lib.hid hlt
        have hc := Lib.hid (fun W => by have q := l_less l[i + 1] l[i] W; rw [hlt] at q; exact q : ∀ W, Calls Try.prog 116 #[.int .i64 l[i + 1], .int .i64 l[i]] W fun e w' => e = .returned (.bool true) ∧ W = w')
        clear hlt
        go_wp2_with fail
        (refine wp_region_hat (by kernel_rfl) (by kernel_rfl) ?_; intro hatc hatf; (repeat (go_big_quiet_step ((go_at_call 116; exact Calls.hat_same (hc.out _))))); refine wpQuiet_nil ?_; rintro _ ⟨x, rfl⟩)
        go_wp2_with fail
        go_ret
        refine ⟨retBo ?_, hn.hat x⟩
        cases ho : ordB l with
        | false => rfl
        | true =>
          have h1 := ordB_drop l i ho
          rw [HS.out] at h1
          have := HL.out
          simp at this h1
          first | done | omega

set_option maxHeartbeats 400000 in
theorem l_inOrder (b c : Nat) (l : List Int) (hl : l.length ≤ 100) (h0 : 0 < l.length) (w : World) (H : IntsAt w b l) :
    Calls Try.prog 74 #[.slice (some ⟨b, 0, none⟩) l.length c] w fun e w' => e = .returned (.bool (ordB l)) ∧ New w w' := by
  have hc := Lib.hid (l_sorted b c l hl h0 w H)
  go_enter Try.func74, Try.ntmps74
  go_wp2_with fail
  refine hc.out.mono ?_
  rintro e w1 ⟨rfl, n1⟩
  go_wp2_with fail
  go_ret
  exact ⟨rfl, n1⟩

/-! Rows of tests. -/
structure Fn where
  g : Nat
  bnd : Array Value
  b : Bool
def FnAt (w : World) (b : Nat) (l : List Fn) : Prop := ∀ j (h : j < l.length), w.cell? ⟨b, j, none⟩ = some (.func (.func l[j].g) #[] l[j].bnd)
/-- A test: what it answers in every world above w0. -/
structure Good (w0 : World) (f : Fn) : Prop where
  eg : ∀ args w, (callFunc f.g args).run Try.prog w = .ok (.enter f.g args) w
  run : ∀ W, New w0 W → Calls Try.prog f.g f.bnd W fun e w' => e = .returned (.bool f.b) ∧ New W w'

set_option maxHeartbeats 400000 in
theorem l_not (w0 : World) (f : Fn) (hf : Good w0 f) (w : World) (hn : New w0 w) :
    Calls Try.prog 97 #[.func (.func f.g) #[] f.bnd] w fun e w' => e = .returned (.bool (!f.b)) ∧ New w w' := by
  have hc := Lib.hid (hf.run w hn)
  obtain ⟨g, bnd, b⟩ := f
  have eg := hf.eg
  clear hf
  simp only at hc eg ⊢
  go_enter Try.func97, Try.ntmps97
  go_wp2_with (go_at_fn g; refine hc.out.mono ?_; rintro e w1 ⟨rfl, n1⟩)
  go_ret
  exact ⟨rfl, n1⟩

def FnPost (l : List Fn) (w : World) (e : Ending) (w' : World) : Prop := ∃ i : Int, l.all (·.b) = decide (i < 0) ∧ e = .returned (.int .i64 i) ∧ New w w'

set_option maxHeartbeats 2000000 in
theorem l_index (w0 : World) (b c : Nat) (l : List Fn) (hl : l.length ≤ 100) (hg : ∀ j (h : j < l.length), Good w0 l[j]) (w : World) (hn0 : New w0 w) (H : FnAt w b l) :
    Calls Try.prog 113 #[.slice (some ⟨b, 0, none⟩) l.length c, .func (.func 97) #[] #[]] w (FnPost l w) := by
  go_enter Try.func113, Try.ntmps113
  go_wp2_with fail
  go_loopg [8] l.length (fun k s wr => ∃ i : Nat, s = .int .i64 i ∧ i + k = l.length ∧ (l.take i).all (·.b) = true ∧ New w wr)
  case atStart => exact ⟨0, by simp, by omega, by simp, New.refl _⟩
  case round =>
    obtain ⟨i, rfl, hik, hall, hn⟩ := hrel
    have HA := Lib.hid hall
    clear hall
    by_cases hlt : i < l.length
    · have c0 := hn.keep (H i hlt)
      have hgi := hg i hlt
      have hcc := Lib.hid (l_not w0 l[i] hgi wr (hn0.trans hn))
      have hta := List.take_succ_eq_append_getElem hlt
      have HT := Lib.hid hta
      clear hta hgi
      cases hb : l[i].b
      · rw [hb] at hcc
        have HB := Lib.hid hb
        clear hb
        go_wp2_with (go_at_call 97; refine hcc.out.mono ?_; rintro e w1 ⟨rfl, n1⟩)
        go_ret
        refine ⟨i, ?_, rfl, hn.trans n1⟩
        rw [decide_eq_false (by omega)]
        rw [List.all_eq_false]
        exact ⟨l[i], List.getElem_mem hlt, by rw [HB.out]; simp⟩
      · rw [hb] at hcc
        have HB := Lib.hid hb
        clear hb
        go_wp2_with (go_at_call 97; refine hcc.out.mono ?_; rintro e w1 ⟨rfl, n1⟩)
        go_roundg (gk - 1)
        case measure => omega
        case rel => exact ⟨i + 1, by go_num, by omega, by rw [HT.out, List.all_append, HA.out]; simp [HB.out], hn.trans n1⟩
    · go_wp2_with fail
      go_ret
      refine ⟨-1, ?_, rfl, hn⟩
      have := HA.out
      rw [List.take_of_length_le (by omega)] at this
      rw [this]; rfl

set_option maxHeartbeats 400000 in
theorem l_contains (w0 : World) (b c : Nat) (l : List Fn) (hl : l.length ≤ 100) (hg : ∀ j (h : j < l.length), Good w0 l[j]) (w : World) (hn0 : New w0 w) (H : FnAt w b l) :
    Calls Try.prog 96 #[.slice (some ⟨b, 0, none⟩) l.length c, .func (.func 97) #[] #[]] w fun e w' => e = .returned (.bool (!l.all (·.b))) ∧ New w w' := by
  have hc := Lib.hid (l_index w0 b c l hl hg w hn0 H)
  obtain ⟨v, hv⟩ : ∃ v, v = l.all (·.b) := ⟨_, rfl⟩
  rw [← hv]
  have HV := Lib.hid hv
  clear hv
  go_enter Try.func96, Try.ntmps96
  go_wp2_with fail
  refine hc.out.mono ?_
  rintro e w1 ⟨i, hi, rfl, n1⟩
  have HI := Lib.hid hi
  clear hi
  go_wp2_with fail
  go_ret
  refine ⟨retBo ?_, n1⟩
  rw [HV.out, HI.out]
  by_cases h : i < 0
  · simp [h]
  · simp [h]; omega

set_option maxHeartbeats 400000 in
theorem l_all (w0 : World) (b c : Nat) (l : List Fn) (hl : l.length ≤ 100) (hg : ∀ j (h : j < l.length), Good w0 l[j]) (w : World) (hn0 : New w0 w) (H : FnAt w b l) :
    Calls Try.prog 50 #[.slice (some ⟨b, 0, none⟩) l.length c] w fun e w' => e = .returned (.bool (l.all (·.b))) ∧ New w w' := by
  have hc := Lib.hid (l_contains w0 b c l hl hg w hn0 H)
  obtain ⟨v, hv⟩ : ∃ v, v = l.all (·.b) := ⟨_, rfl⟩
  rw [← hv] at hc ⊢
  clear hv
  go_enter Try.func50, Try.ntmps50
  go_wp2_with fail
  refine hc.out.mono ?_
  rintro e w1 ⟨rfl, n1⟩
  go_wp2_with fail
  go_ret
  exact ⟨retBo (by simp), n1⟩

end Go.Proofs.Ytonngfogbnfbnaa

/- Package tri: Normal of whatever comes, Check, Walk. -/
namespace Go.Proofs.Ytonngfogbnfbnaa
open Go.RowKit
set_option linter.unusedVariables false

set_option maxHeartbeats 2000000 in
set_option maxRecDepth 100000 in
theorem t_normal (i x0 y0 z0 x1 y1 z1 x2 y2 z2 : Int) (w : World) :
    Calls Try.prog 102 #[.agg #[.int .i64 i, .int .i64 x0, .int .i64 y0, .int .i64 z0, .int .i64 x1, .int .i64 y1, .int .i64 z1, .int .i64 x2, .int .i64 y2, .int .i64 z2]] w fun e w' => e = .returned (.tuple #[.int .i64 (normX x0 y0 z0 x1 y1 z1 x2 y2 z2), .int .i64 (normY x0 y0 z0 x1 y1 z1 x2 y2 z2), .int .i64 (normZ x0 y0 z0 x1 y1 z1 x2 y2 z2), .int .i64 (normE x0 y0 z0 x1 y1 z1 x2 y2 z2)]) ∧ New w w' := by
  cases hs : stB 32 32 x0 y0 z0 x1 y1 z1 x2 y2 z2
  · have hk : okB x0 y0 z0 x1 y1 z1 x2 y2 z2 = false := by unfold okB; rw [hs]; rfl
    obtain ⟨h1, h2, h3, h4⟩ := norm_no hk
    rw [h1, h2, h3, h4]
    have hst := fun W => t_stands i x0 y0 z0 x1 y1 z1 x2 y2 z2 32 32 W
    rw [hs] at hst
    clear h1 h2 h3 h4 hk hs
    go_enter Try.func102, Try.ntmps102
    go_wp2_with fail
    refine (hst _).mono ?_
    rintro e W0 ⟨rfl, n1⟩
    have hn : New w W0 := New.trans (by (repeat (first | (with_reducible exact New.refl _) | (with_reducible assumption) | ((with_reducible refine New.setB ?_ ?_ _); focus (first | omega | (simp; omega) | (simp; done))) | (with_reducible refine New.alloc ?_ _) | (with_reducible refine New.drew ?_) | (with_reducible refine New.drewN ?_ _) | (with_reducible refine New.hat ?_ _) | ((with_reducible apply New.snart); (with_reducible assumption))))) n1
    clear n1 hst
    go_wp2_with fail
    refine bodyPost_ret (v := .tuple #[.int .i64 0, .int .i64 0, .int .i64 0, .int .i64 40]) (by simp [results, Try.results102, go_sem]) rfl ?_
    exact ⟨rfl, hn⟩
  · exact t_normal_ok i _ _ _ _ _ _ _ _ _ w hs

def tCheckE (cl cb ht ri ru wd dp i x0 y0 z0 x1 y1 z1 x2 y2 z2 : Int) : Int := if checkE cl cb ht ri ru wd dp ≠ 0 then 20 else if (1 ≤ i ∧ i ≤ 1073741824) ∧ stB wd dp x0 y0 z0 x1 y1 z1 x2 y2 z2 = true ∧ okB x0 y0 z0 x1 y1 z1 x2 y2 z2 = true then 0 else 40

theorem checkE_two (cl cb ht ri ru wd dp : Int) : checkE cl cb ht ri ru wd dp = 0 ∨ checkE cl cb ht ri ru wd dp = 20 := by unfold checkE; split <;> simp

set_option maxHeartbeats 2000000 in
set_option maxRecDepth 100000 in
theorem t_check (cl cb ht ri ru wd dp i x0 y0 z0 x1 y1 z1 x2 y2 z2 : Int) (w : World) :
    Calls Try.prog 62 #[.agg #[.int .i64 cl, .int .i64 cb, .int .i64 ht, .int .i64 ri, .int .i64 ru, .int .i64 wd, .int .i64 dp], .agg #[.int .i64 i, .int .i64 x0, .int .i64 y0, .int .i64 z0, .int .i64 x1, .int .i64 y1, .int .i64 z1, .int .i64 x2, .int .i64 y2, .int .i64 z2]] w fun e w' => e = .returned (.int .i64 (tCheckE cl cb ht ri ru wd dp i x0 y0 z0 x1 y1 z1 x2 y2 z2)) ∧ New w w' := by
  obtain ⟨v, hv⟩ : ∃ v, v = tCheckE cl cb ht ri ru wd dp i x0 y0 z0 x1 y1 z1 x2 y2 z2 := ⟨_, rfl⟩
  rw [← hv]
  unfold tCheckE at hv
  have hcc := fun W => check_any cl cb ht ri ru wd dp W
  have htwo := checkE_two cl cb ht ri ru wd dp
  generalize checkE cl cb ht ri ru wd dp = ce at *
  rcases htwo with rfl | rfl
  rotate_left
  · have hv1 : Hid (v = 20) := by show v = 20; rw [hv]; simp
    clear hv
    go_enter Try.func62, Try.ntmps62
    go_wp2_with fail
    refine (hcc _).mono ?_
    rintro e W0 ⟨rfl, n1, -⟩
    have hn : New w W0 := New.trans (by (repeat (first | (with_reducible exact New.refl _) | (with_reducible assumption) | ((with_reducible refine New.setB ?_ ?_ _); focus (first | omega | (simp; omega) | (simp; done))) | (with_reducible refine New.alloc ?_ _) | (with_reducible refine New.drew ?_) | (with_reducible refine New.drewN ?_ _) | (with_reducible refine New.hat ?_ _) | ((with_reducible apply New.snart); (with_reducible assumption))))) n1
    clear n1 hcc
    go_wp2_with fail
    go_ret
    rw [hv1.out]
    exact ⟨rfl, hn⟩
  have hst := fun W => t_stands i x0 y0 z0 x1 y1 z1 x2 y2 z2 wd dp W
  by_cases hi : 1 ≤ i ∧ i ≤ 1073741824
  rotate_left
  · have hv1 : Hid (v = 40) := by show v = 40; rw [hv]; simp [hi]
    have hid : decide (1 ≤ i ∧ i ≤ 1073741824) = false := by simpa using hi
    clear hv hi
    have hwi := fun W => t_within i 1 1073741824 W
    rw [hid] at hwi
    go_enter Try.func62, Try.ntmps62
    go_wp2_with fail
    refine (hcc _).mono ?_
    rintro e W0 ⟨rfl, n1, -⟩
    have d0 : W0.cell? ⟨w.heap.size + 1, 0, none⟩ = some (.int .i64 i) := New.keep n1 (by go_simp)
    have hn : New w W0 := New.trans (by (repeat (first | (with_reducible exact New.refl _) | (with_reducible assumption) | ((with_reducible refine New.setB ?_ ?_ _); focus (first | omega | (simp; omega) | (simp; done))) | (with_reducible refine New.alloc ?_ _) | (with_reducible refine New.drew ?_) | (with_reducible refine New.drewN ?_ _) | (with_reducible refine New.hat ?_ _) | ((with_reducible apply New.snart); (with_reducible assumption))))) n1
    clear n1 hcc
    go_wp2_with fail
    refine (hwi _).mono ?_
    rintro e w' ⟨rfl, rfl⟩
    go_wp2_with fail
    go_ret
    rw [hv1.out]
    exact ⟨rfl, hn⟩
  have hid : decide (1 ≤ i ∧ i ≤ 1073741824) = true := by simpa using hi
  have hwi := fun W => t_within i 1 1073741824 W
  rw [hid] at hwi
  cases hs : stB wd dp x0 y0 z0 x1 y1 z1 x2 y2 z2
  · have hv1 : Hid (v = 40) := by show v = 40; rw [hv, hs]; simp
    rw [hs] at hst
    clear hv hi
    go_enter Try.func62, Try.ntmps62
    go_wp2_with fail
    generalize hW : World.alloc _ _ = W
    (have c0 : (W).cell? ⟨w.heap.size + 1, 0, none⟩ = some (.int .i64 i) := (by subst hW; go_simp)); (have c1 : (W).cell? ⟨w.heap.size + 1, 1, none⟩ = some (.int .i64 x0) := (by subst hW; go_simp)); (have c2 : (W).cell? ⟨w.heap.size + 1, 2, none⟩ = some (.int .i64 y0) := (by subst hW; go_simp)); (have c3 : (W).cell? ⟨w.heap.size + 1, 3, none⟩ = some (.int .i64 z0) := (by subst hW; go_simp)); (have c4 : (W).cell? ⟨w.heap.size + 1, 4, none⟩ = some (.int .i64 x1) := (by subst hW; go_simp)); (have c5 : (W).cell? ⟨w.heap.size + 1, 5, none⟩ = some (.int .i64 y1) := (by subst hW; go_simp)); (have c6 : (W).cell? ⟨w.heap.size + 1, 6, none⟩ = some (.int .i64 z1) := (by subst hW; go_simp)); (have c7 : (W).cell? ⟨w.heap.size + 1, 7, none⟩ = some (.int .i64 x2) := (by subst hW; go_simp)); (have c8 : (W).cell? ⟨w.heap.size + 1, 8, none⟩ = some (.int .i64 y2) := (by subst hW; go_simp)); (have c9 : (W).cell? ⟨w.heap.size + 1, 9, none⟩ = some (.int .i64 z2) := (by subst hW; go_simp))
    have b5 : W.cell? ⟨w.heap.size, 5, none⟩ = some (.int .i64 wd) := by subst hW; go_simp
    have b6 : W.cell? ⟨w.heap.size, 6, none⟩ = some (.int .i64 dp) := by subst hW; go_simp
    have hn : New w W := by subst hW; (repeat (first | (with_reducible exact New.refl _) | (with_reducible assumption) | ((with_reducible refine New.setB ?_ ?_ _); focus (first | omega | (simp; omega) | (simp; done))) | (with_reducible refine New.alloc ?_ _) | (with_reducible refine New.drew ?_) | (with_reducible refine New.drewN ?_ _) | (with_reducible refine New.hat ?_ _) | ((with_reducible apply New.snart); (with_reducible assumption))))
    clear hW
    refine (hcc _).mono ?_
    rintro e W0 ⟨rfl, n1, -⟩
    ((replace c0 := New.keep n1 c0); (replace c1 := New.keep n1 c1); (replace c2 := New.keep n1 c2); (replace c3 := New.keep n1 c3); (replace c4 := New.keep n1 c4); (replace c5 := New.keep n1 c5); (replace c6 := New.keep n1 c6); (replace c7 := New.keep n1 c7); (replace c8 := New.keep n1 c8); (replace c9 := New.keep n1 c9))
    replace b5 := New.keep n1 b5
    replace b6 := New.keep n1 b6
    replace hn : New w W0 := New.trans hn n1
    clear n1 hcc
    go_wp2_with fail
    refine (hwi _).mono ?_
    rintro e w' ⟨rfl, rfl⟩
    go_wp2_with fail
    refine (hst _).mono ?_
    rintro e W1 ⟨rfl, n1⟩
    replace hn : New w W1 := New.trans hn n1
    clear n1
    go_wp2_with fail
    go_ret
    rw [hv1.out]
    exact ⟨rfl, hn⟩
  · have hv1 : Hid (v = normE x0 y0 z0 x1 y1 z1 x2 y2 z2) := by
      show v = _
      rw [hv, hs]
      unfold normE
      cases okB x0 y0 z0 x1 y1 z1 x2 y2 z2 <;> simp [hi]
    rw [hs] at hst
    clear hv hi
    have hno := fun W => t_normal i x0 y0 z0 x1 y1 z1 x2 y2 z2 W
    go_enter Try.func62, Try.ntmps62
    go_wp2_with fail
    generalize hW : World.alloc _ _ = W
    (have c0 : (W).cell? ⟨w.heap.size + 1, 0, none⟩ = some (.int .i64 i) := (by subst hW; go_simp)); (have c1 : (W).cell? ⟨w.heap.size + 1, 1, none⟩ = some (.int .i64 x0) := (by subst hW; go_simp)); (have c2 : (W).cell? ⟨w.heap.size + 1, 2, none⟩ = some (.int .i64 y0) := (by subst hW; go_simp)); (have c3 : (W).cell? ⟨w.heap.size + 1, 3, none⟩ = some (.int .i64 z0) := (by subst hW; go_simp)); (have c4 : (W).cell? ⟨w.heap.size + 1, 4, none⟩ = some (.int .i64 x1) := (by subst hW; go_simp)); (have c5 : (W).cell? ⟨w.heap.size + 1, 5, none⟩ = some (.int .i64 y1) := (by subst hW; go_simp)); (have c6 : (W).cell? ⟨w.heap.size + 1, 6, none⟩ = some (.int .i64 z1) := (by subst hW; go_simp)); (have c7 : (W).cell? ⟨w.heap.size + 1, 7, none⟩ = some (.int .i64 x2) := (by subst hW; go_simp)); (have c8 : (W).cell? ⟨w.heap.size + 1, 8, none⟩ = some (.int .i64 y2) := (by subst hW; go_simp)); (have c9 : (W).cell? ⟨w.heap.size + 1, 9, none⟩ = some (.int .i64 z2) := (by subst hW; go_simp))
    have b5 : W.cell? ⟨w.heap.size, 5, none⟩ = some (.int .i64 wd) := by subst hW; go_simp
    have b6 : W.cell? ⟨w.heap.size, 6, none⟩ = some (.int .i64 dp) := by subst hW; go_simp
    have hn : New w W := by subst hW; (repeat (first | (with_reducible exact New.refl _) | (with_reducible assumption) | ((with_reducible refine New.setB ?_ ?_ _); focus (first | omega | (simp; omega) | (simp; done))) | (with_reducible refine New.alloc ?_ _) | (with_reducible refine New.drew ?_) | (with_reducible refine New.drewN ?_ _) | (with_reducible refine New.hat ?_ _) | ((with_reducible apply New.snart); (with_reducible assumption))))
    clear hW
    refine (hcc _).mono ?_
    rintro e W0 ⟨rfl, n1, -⟩
    ((replace c0 := New.keep n1 c0); (replace c1 := New.keep n1 c1); (replace c2 := New.keep n1 c2); (replace c3 := New.keep n1 c3); (replace c4 := New.keep n1 c4); (replace c5 := New.keep n1 c5); (replace c6 := New.keep n1 c6); (replace c7 := New.keep n1 c7); (replace c8 := New.keep n1 c8); (replace c9 := New.keep n1 c9))
    replace b5 := New.keep n1 b5
    replace b6 := New.keep n1 b6
    replace hn : New w W0 := New.trans hn n1
    clear n1 hcc
    go_wp2_with fail
    refine (hwi _).mono ?_
    rintro e w' ⟨rfl, rfl⟩
    go_wp2_with fail
    refine (hst _).mono ?_
    rintro e W1 ⟨rfl, n1⟩
    ((replace c0 := New.keep n1 c0); (replace c1 := New.keep n1 c1); (replace c2 := New.keep n1 c2); (replace c3 := New.keep n1 c3); (replace c4 := New.keep n1 c4); (replace c5 := New.keep n1 c5); (replace c6 := New.keep n1 c6); (replace c7 := New.keep n1 c7); (replace c8 := New.keep n1 c8); (replace c9 := New.keep n1 c9))
    replace hn : New w W1 := New.trans hn n1
    clear n1
    go_wp2_with fail
    refine (hno _).mono ?_
    rintro e W2 ⟨rfl, n1⟩
    replace hn : New w W2 := New.trans hn n1
    clear n1
    go_wp2_with fail
    go_ret
    rw [hv1.out]
    exact ⟨rfl, hn⟩

end Go.Proofs.Ytonngfogbnfbnaa

/- Package soup: configs; what a box, a hop, a triangle is asked. -/
namespace Go.Proofs.Ytonngfogbnfbnaa
open Go.RowKit
set_option linter.unusedVariables false

structure CfgR where
  (cl cb ht ri ru wd dp : Int)
def CfgR.enc (C : CfgR) : List Value := [.int .i64 C.cl, .int .i64 C.cb, .int .i64 C.ht, .int .i64 C.ri, .int .i64 C.ru, .int .i64 C.wd, .int .i64 C.dp]
def CfgR.err (C : CfgR) : Int := checkE C.cl C.cb C.ht C.ri C.ru C.wd C.dp
structure CfgR.fine (C : CfgR) : Prop where
  err : C.err = 0
  w1 : 1 ≤ C.wd
  w2 : C.wd ≤ 32
  d1 : 1 ≤ C.dp
  d2 : C.dp ≤ 32
theorem CfgR.fine_of {C : CfgR} (h : C.err = 0) : C.fine := by
  have h1 := h
  unfold CfgR.err checkE checkB at h1
  split at h1
  · rename_i h2
    simp only [Bool.and_eq_true, decide_eq_true_eq] at h2
    exact ⟨h, h2.1.2.1, h2.1.2.2, h2.2.1, h2.2.2⟩
  · cases h1
theorem CfgR.at {C : CfgR} {w : World} {b : Nat} (H : CellsAt w b 0 C.enc) :
    w.cell? ⟨b, 0, none⟩ = some (.int .i64 C.cl) ∧ w.cell? ⟨b, 1, none⟩ = some (.int .i64 C.cb) ∧ w.cell? ⟨b, 2, none⟩ = some (.int .i64 C.ht) ∧ w.cell? ⟨b, 3, none⟩ = some (.int .i64 C.ri) ∧ w.cell? ⟨b, 4, none⟩ = some (.int .i64 C.ru) ∧ w.cell? ⟨b, 5, none⟩ = some (.int .i64 C.wd) ∧ w.cell? ⟨b, 6, none⟩ = some (.int .i64 C.dp) :=
  ⟨H 0 (by simp [CfgR.enc]), H 1 (by simp [CfgR.enc]), H 2 (by simp [CfgR.enc]), H 3 (by simp [CfgR.enc]), H 4 (by simp [CfgR.enc]), H 5 (by simp [CfgR.enc]), H 6 (by simp [CfgR.enc])⟩
theorem cells_new (w : World) (cs : Array Value) (T : TypeId) : CellsAt (w.alloc (.cells cs T)) w.heap.size 0 cs.toList := fun i hi => by
  have h1 : (w.alloc (.cells cs T)).heap[w.heap.size]? = some (.cells cs T) := heap_new _ _
  rw [Nat.zero_add]
  exact cell_of_heap h1 (by rw [Array.getElem?_eq_getElem (by simpa using hi)]; simp)
theorem ints_new (w : World) (l : List Int) (T : TypeId) : IntsAt (w.alloc (.cells (l.map (Value.int .i64)).toArray T)) w.heap.size l := fun j hj => by
  have := cells_new w (l.map (Value.int .i64)).toArray T j (by simpa using hj)
  rw [Nat.zero_add] at this
  rw [this]
  simp

theorem TriR.at {x : TriR} {w : World} {b : Nat} (H : CellsAt w b 0 x.enc) : w.cell? ⟨b, 0, none⟩ = some (.int .i64 x.i) ∧ w.cell? ⟨b, 1, none⟩ = some (.int .i64 x.x0) ∧ w.cell? ⟨b, 2, none⟩ = some (.int .i64 x.y0) ∧ w.cell? ⟨b, 3, none⟩ = some (.int .i64 x.z0) ∧ w.cell? ⟨b, 4, none⟩ = some (.int .i64 x.x1) ∧ w.cell? ⟨b, 5, none⟩ = some (.int .i64 x.y1) ∧ w.cell? ⟨b, 6, none⟩ = some (.int .i64 x.z1) ∧ w.cell? ⟨b, 7, none⟩ = some (.int .i64 x.x2) ∧ w.cell? ⟨b, 8, none⟩ = some (.int .i64 x.y2) ∧ w.cell? ⟨b, 9, none⟩ = some (.int .i64 x.z2) :=
  ⟨H 0 (by rw [TriR.enc_len]; omega), H 1 (by rw [TriR.enc_len]; omega), H 2 (by rw [TriR.enc_len]; omega), H 3 (by rw [TriR.enc_len]; omega), H 4 (by rw [TriR.enc_len]; omega), H 5 (by rw [TriR.enc_len]; omega), H 6 (by rw [TriR.enc_len]; omega), H 7 (by rw [TriR.enc_len]; omega), H 8 (by rw [TriR.enc_len]; omega), H 9 (by rw [TriR.enc_len]; omega)⟩

theorem BoxR.at {x : BoxR} {w : World} {b : Nat} (H : CellsAt w b 0 x.enc) : w.cell? ⟨b, 0, none⟩ = some (.int .i64 x.i) ∧ w.cell? ⟨b, 1, none⟩ = some (.int .i64 x.x0) ∧ w.cell? ⟨b, 2, none⟩ = some (.int .i64 x.z0) ∧ w.cell? ⟨b, 3, none⟩ = some (.int .i64 x.x1) ∧ w.cell? ⟨b, 4, none⟩ = some (.int .i64 x.z1) ∧ w.cell? ⟨b, 5, none⟩ = some (.int .i64 x.y0) ∧ w.cell? ⟨b, 6, none⟩ = some (.int .i64 x.y1) ∧ w.cell? ⟨b, 7, none⟩ = some (.int .i64 x.ar) :=
  ⟨H 0 (by rw [BoxR.enc_len]; omega), H 1 (by rw [BoxR.enc_len]; omega), H 2 (by rw [BoxR.enc_len]; omega), H 3 (by rw [BoxR.enc_len]; omega), H 4 (by rw [BoxR.enc_len]; omega), H 5 (by rw [BoxR.enc_len]; omega), H 6 (by rw [BoxR.enc_len]; omega), H 7 (by rw [BoxR.enc_len]; omega)⟩

theorem HopR.at {x : HopR} {w : World} {b : Nat} (H : CellsAt w b 0 x.enc) : w.cell? ⟨b, 0, none⟩ = some (.int .i64 x.i) ∧ w.cell? ⟨b, 1, none⟩ = some (.int .i64 x.fx) ∧ w.cell? ⟨b, 2, none⟩ = some (.int .i64 x.fz) ∧ w.cell? ⟨b, 3, none⟩ = some (.int .i64 x.fy) ∧ w.cell? ⟨b, 4, none⟩ = some (.int .i64 x.tx) ∧ w.cell? ⟨b, 5, none⟩ = some (.int .i64 x.tz) ∧ w.cell? ⟨b, 6, none⟩ = some (.int .i64 x.ty) ∧ w.cell? ⟨b, 7, none⟩ = some (.bool x.bo) ∧ w.cell? ⟨b, 8, none⟩ = some (.int .i64 x.ar) ∧ w.cell? ⟨b, 9, none⟩ = some (.int .i64 x.co) :=
  ⟨H 0 (by rw [HopR.enc_len]; omega), H 1 (by rw [HopR.enc_len]; omega), H 2 (by rw [HopR.enc_len]; omega), H 3 (by rw [HopR.enc_len]; omega), H 4 (by rw [HopR.enc_len]; omega), H 5 (by rw [HopR.enc_len]; omega), H 6 (by rw [HopR.enc_len]; omega), H 7 (by rw [HopR.enc_len]; omega), H 8 (by rw [HopR.enc_len]; omega), H 9 (by rw [HopR.enc_len]; omega)⟩
set_option maxHeartbeats 400000 in
theorem b_t1 (C : CfgR) (hC : C.fine) (x : BoxR) (Bc Bx : Nat) (w : World) (hc : CellsAt w Bc 0 C.enc) (hx : CellsAt w Bx 0 x.enc) :
    Calls Try.prog 73 #[.pointer (some ⟨Bx, 0, none⟩), .pointer (some ⟨Bc, 0, none⟩)] w fun e w' => e = .returned (.bool (ordB [0, x.x0, x.x1, C.wd - 1])) ∧ New w w' := by
  have w1 := hC.w1
  have w2 := hC.w2
  have d1 := hC.d1
  have d2 := hC.d2
  have c0 : w.cell? ⟨Bx, 1, none⟩ = some (.int .i64 x.x0) := hx 1 (by rw [BoxR.enc_len]; omega)
  have c1 : w.cell? ⟨Bx, 3, none⟩ = some (.int .i64 x.x1) := hx 3 (by rw [BoxR.enc_len]; omega)
  have c2 : w.cell? ⟨Bc, 5, none⟩ = some (.int .i64 C.wd) := hc 5 (by simp [CfgR.enc])
  clear hc hx hC
  go_enter Try.func73, Try.ntmps73
  go_wp2_with fail
  refine (l_inOrder _ 4 [0, x.x0, x.x1, C.wd - 1] (by simp) (by simp) _ (ints_new _ _ _)).mono ?_
  rintro e w1 ⟨rfl, n1⟩
  have hn : New w w1 := New.trans ((New.refl w).alloc _) n1
  clear n1
  go_wp2_with fail
  go_ret
  exact ⟨rfl, hn⟩

set_option maxHeartbeats 400000 in
theorem b_t2 (C : CfgR) (hC : C.fine) (x : BoxR) (Bc Bx : Nat) (w : World) (hc : CellsAt w Bc 0 C.enc) (hx : CellsAt w Bx 0 x.enc) :
    Calls Try.prog 75 #[.pointer (some ⟨Bx, 0, none⟩), .pointer (some ⟨Bc, 0, none⟩)] w fun e w' => e = .returned (.bool (ordB [0, x.z0, x.z1, C.dp - 1])) ∧ New w w' := by
  have w1 := hC.w1
  have w2 := hC.w2
  have d1 := hC.d1
  have d2 := hC.d2
  have c0 : w.cell? ⟨Bx, 2, none⟩ = some (.int .i64 x.z0) := hx 2 (by rw [BoxR.enc_len]; omega)
  have c1 : w.cell? ⟨Bx, 4, none⟩ = some (.int .i64 x.z1) := hx 4 (by rw [BoxR.enc_len]; omega)
  have c2 : w.cell? ⟨Bc, 6, none⟩ = some (.int .i64 C.dp) := hc 6 (by simp [CfgR.enc])
  clear hc hx hC
  go_enter Try.func75, Try.ntmps75
  go_wp2_with fail
  refine (l_inOrder _ 4 [0, x.z0, x.z1, C.dp - 1] (by simp) (by simp) _ (ints_new _ _ _)).mono ?_
  rintro e w1 ⟨rfl, n1⟩
  have hn : New w w1 := New.trans ((New.refl w).alloc _) n1
  clear n1
  go_wp2_with fail
  go_ret
  exact ⟨rfl, hn⟩

set_option maxHeartbeats 400000 in
theorem b_t3 (C : CfgR) (hC : C.fine) (x : BoxR) (Bc Bx : Nat) (w : World) (hc : CellsAt w Bc 0 C.enc) (hx : CellsAt w Bx 0 x.enc) :
    Calls Try.prog 76 #[.pointer (some ⟨Bx, 0, none⟩)] w fun e w' => e = .returned (.bool (ordB [-2048, x.y0, x.y1, 2048])) ∧ New w w' := by
  have w1 := hC.w1
  have w2 := hC.w2
  have d1 := hC.d1
  have d2 := hC.d2
  have c0 : w.cell? ⟨Bx, 5, none⟩ = some (.int .i64 x.y0) := hx 5 (by rw [BoxR.enc_len]; omega)
  have c1 : w.cell? ⟨Bx, 6, none⟩ = some (.int .i64 x.y1) := hx 6 (by rw [BoxR.enc_len]; omega)
  clear hc hx hC
  go_enter Try.func76, Try.ntmps76
  go_wp2_with fail
  refine (l_inOrder _ 4 [-2048, x.y0, x.y1, 2048] (by simp) (by simp) _ (ints_new _ _ _)).mono ?_
  rintro e w1 ⟨rfl, n1⟩
  have hn : New w w1 := New.trans ((New.refl w).alloc _) n1
  clear n1
  go_wp2_with fail
  go_ret
  exact ⟨rfl, hn⟩

set_option maxHeartbeats 400000 in
theorem b_t4 (C : CfgR) (hC : C.fine) (x : BoxR) (Bc Bx : Nat) (w : World) (hc : CellsAt w Bc 0 C.enc) (hx : CellsAt w Bx 0 x.enc) :
    Calls Try.prog 77 #[.pointer (some ⟨Bx, 0, none⟩)] w fun e w' => e = .returned (.bool (ordB [0, x.ar, 7])) ∧ New w w' := by
  have w1 := hC.w1
  have w2 := hC.w2
  have d1 := hC.d1
  have d2 := hC.d2
  have c0 : w.cell? ⟨Bx, 7, none⟩ = some (.int .i64 x.ar) := hx 7 (by rw [BoxR.enc_len]; omega)
  clear hc hx hC
  go_enter Try.func77, Try.ntmps77
  go_wp2_with fail
  refine (l_inOrder _ 3 [0, x.ar, 7] (by simp) (by simp) _ (ints_new _ _ _)).mono ?_
  rintro e w1 ⟨rfl, n1⟩
  have hn : New w w1 := New.trans ((New.refl w).alloc _) n1
  clear n1
  go_wp2_with fail
  go_ret
  exact ⟨rfl, hn⟩

set_option maxHeartbeats 400000 in
theorem h_t3 (C : CfgR) (hC : C.fine) (x : HopR) (Bc Bx : Nat) (w : World) (hc : CellsAt w Bc 0 C.enc) (hx : CellsAt w Bx 0 x.enc) :
    Calls Try.prog 89 #[.pointer (some ⟨Bx, 0, none⟩)] w fun e w' => e = .returned (.bool (ordB [1, x.ar, 7])) ∧ New w w' := by
  have w1 := hC.w1
  have w2 := hC.w2
  have d1 := hC.d1
  have d2 := hC.d2
  have c0 : w.cell? ⟨Bx, 8, none⟩ = some (.int .i64 x.ar) := hx 8 (by rw [HopR.enc_len]; omega)
  clear hc hx hC
  go_enter Try.func89, Try.ntmps89
  go_wp2_with fail
  refine (l_inOrder _ 3 [1, x.ar, 7] (by simp) (by simp) _ (ints_new _ _ _)).mono ?_
  rintro e w1 ⟨rfl, n1⟩
  have hn : New w w1 := New.trans ((New.refl w).alloc _) n1
  clear n1
  go_wp2_with fail
  go_ret
  exact ⟨rfl, hn⟩

set_option maxHeartbeats 400000 in
theorem h_t4 (C : CfgR) (hC : C.fine) (x : HopR) (Bc Bx : Nat) (w : World) (hc : CellsAt w Bc 0 C.enc) (hx : CellsAt w Bx 0 x.enc) :
    Calls Try.prog 90 #[.pointer (some ⟨Bx, 0, none⟩)] w fun e w' => e = .returned (.bool (ordB [0, x.co, 1048576])) ∧ New w w' := by
  have w1 := hC.w1
  have w2 := hC.w2
  have d1 := hC.d1
  have d2 := hC.d2
  have c0 : w.cell? ⟨Bx, 9, none⟩ = some (.int .i64 x.co) := hx 9 (by rw [HopR.enc_len]; omega)
  clear hc hx hC
  go_enter Try.func90, Try.ntmps90
  go_wp2_with fail
  refine (l_inOrder _ 3 [0, x.co, 1048576] (by simp) (by simp) _ (ints_new _ _ _)).mono ?_
  rintro e w1 ⟨rfl, n1⟩
  have hn : New w w1 := New.trans ((New.refl w).alloc _) n1
  clear n1
  go_wp2_with fail
  go_ret
  exact ⟨rfl, hn⟩

end Go.Proofs.Ytonngfogbnfbnaa
