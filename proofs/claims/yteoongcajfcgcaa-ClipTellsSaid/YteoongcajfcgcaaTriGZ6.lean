import Derived.Test.YteoongcajfcgcaaTriDZ6
import Derived.Test.YteoongcajfcgcaaTriFZ6

/- Package tri: Walk. -/
namespace Go.Proofs.Yteoongcajfcgcaa
open Go.RowKit
set_option linter.unusedVariables false

def slopeB (ri ru nx ny nz : Int) : Bool := decide ((nx * nx + nz * nz) * ru * ru ≤ ny * ny * ri * ri)
def walkE (cl cb ht ri ru wd dp x0 y0 z0 x1 y1 z1 x2 y2 z2 : Int) : Int := if checkE cl cb ht ri ru wd dp ≠ 0 then 20 else normE x0 y0 z0 x1 y1 z1 x2 y2 z2
def walkB (cl cb ht ri ru wd dp x0 y0 z0 x1 y1 z1 x2 y2 z2 : Int) : Bool := decide (checkE cl cb ht ri ru wd dp = 0) && okB x0 y0 z0 x1 y1 z1 x2 y2 z2 && slopeB ri ru (nxI x0 y0 z0 x1 y1 z1 x2 y2 z2) (nyI x0 y0 z0 x1 y1 z1 x2 y2 z2) (nzI x0 y0 z0 x1 y1 z1 x2 y2 z2)

theorem checkE_ok {cl cb ht ri ru wd dp : Int} (h : checkE cl cb ht ri ru wd dp = 0) : (0 ≤ ri ∧ ri ≤ 100) ∧ (1 ≤ ru ∧ ru ≤ 100) ∧ (1 ≤ wd ∧ wd ≤ 32) ∧ (1 ≤ dp ∧ dp ≤ 32) := by
  unfold checkE at h
  split at h
  · rename_i hb
    simp only [checkB, Bool.and_eq_true, decide_eq_true_eq] at hb
    omega
  · omega

theorem sq_in {a A : Int} (h : -A ≤ a ∧ a ≤ A) : 0 ≤ a * a ∧ a * a ≤ A * A := by
  have h1 := mul_bd h h
  refine ⟨?_, h1.2⟩
  rcases Int.le_total 0 a with k | k
  · exact Int.mul_nonneg k k
  · exact Int.mul_nonneg_of_nonpos_of_nonpos k k

theorem pos_mul {a b A B : Int} (ha : 0 ≤ a ∧ a ≤ A) (hb : 0 ≤ b ∧ b ≤ B) : 0 ≤ a * b ∧ a * b ≤ A * B := by
  refine ⟨Int.mul_nonneg ha.1 hb.1, ?_⟩
  exact Int.mul_le_mul ha.2 hb.2 hb.1 (by omega)

end Go.Proofs.Yteoongcajfcgcaa

/- Package tri: Height. -/
namespace Go.Proofs.Yteoongcajfcgcaa
open Go.RowKit
set_option linter.unusedVariables false

def hTop (x z x0 y0 z0 nx ny nz : Int) : Int := y0 * ny - nx * (x - x0) - nz * (z - z0)
def hOkB (x z x0 y0 z0 x1 y1 z1 x2 y2 z2 : Int) : Bool := okB x0 y0 z0 x1 y1 z1 x2 y2 z2 && decide (-64 ≤ x ∧ x ≤ 64) && decide (-64 ≤ z ∧ z ≤ 64)
def heightN (x z x0 y0 z0 x1 y1 z1 x2 y2 z2 : Int) : Int := if hOkB x z x0 y0 z0 x1 y1 z1 x2 y2 z2 then lowN (hTop x z x0 y0 z0 (nxI x0 y0 z0 x1 y1 z1 x2 y2 z2) (nyI x0 y0 z0 x1 y1 z1 x2 y2 z2) (nzI x0 y0 z0 x1 y1 z1 x2 y2 z2)) (nyI x0 y0 z0 x1 y1 z1 x2 y2 z2) else 0
def heightD (x z x0 y0 z0 x1 y1 z1 x2 y2 z2 : Int) : Int := if hOkB x z x0 y0 z0 x1 y1 z1 x2 y2 z2 then lowD (hTop x z x0 y0 z0 (nxI x0 y0 z0 x1 y1 z1 x2 y2 z2) (nyI x0 y0 z0 x1 y1 z1 x2 y2 z2) (nzI x0 y0 z0 x1 y1 z1 x2 y2 z2)) (nyI x0 y0 z0 x1 y1 z1 x2 y2 z2) else 0
def heightE (x z x0 y0 z0 x1 y1 z1 x2 y2 z2 : Int) : Int := if hOkB x z x0 y0 z0 x1 y1 z1 x2 y2 z2 then 0 else 40

theorem height_no {x z x0 y0 z0 x1 y1 z1 x2 y2 z2 : Int} (h : hOkB x z x0 y0 z0 x1 y1 z1 x2 y2 z2 = false) : heightN x z x0 y0 z0 x1 y1 z1 x2 y2 z2 = 0 ∧ heightD x z x0 y0 z0 x1 y1 z1 x2 y2 z2 = 0 ∧ heightE x z x0 y0 z0 x1 y1 z1 x2 y2 z2 = 40 := by
  unfold heightN heightD heightE; simp [h]
theorem height_yes {x z x0 y0 z0 x1 y1 z1 x2 y2 z2 : Int} (h : hOkB x z x0 y0 z0 x1 y1 z1 x2 y2 z2 = true) : heightN x z x0 y0 z0 x1 y1 z1 x2 y2 z2 = lowN (hTop x z x0 y0 z0 (nxI x0 y0 z0 x1 y1 z1 x2 y2 z2) (nyI x0 y0 z0 x1 y1 z1 x2 y2 z2) (nzI x0 y0 z0 x1 y1 z1 x2 y2 z2)) (nyI x0 y0 z0 x1 y1 z1 x2 y2 z2) ∧
    heightD x z x0 y0 z0 x1 y1 z1 x2 y2 z2 = lowD (hTop x z x0 y0 z0 (nxI x0 y0 z0 x1 y1 z1 x2 y2 z2) (nyI x0 y0 z0 x1 y1 z1 x2 y2 z2) (nzI x0 y0 z0 x1 y1 z1 x2 y2 z2)) (nyI x0 y0 z0 x1 y1 z1 x2 y2 z2) ∧ heightE x z x0 y0 z0 x1 y1 z1 x2 y2 z2 = 0 := by
  unfold heightN heightD heightE; simp [h]

set_option maxHeartbeats 2000000 in
set_option maxRecDepth 100000 in
theorem t_height (i x0 y0 z0 x1 y1 z1 x2 y2 z2 x z : Int) (w : World) :
    Calls Try.prog 63 #[.agg #[.int .i64 i, .int .i64 x0, .int .i64 y0, .int .i64 z0, .int .i64 x1, .int .i64 y1, .int .i64 z1, .int .i64 x2, .int .i64 y2, .int .i64 z2], .int .i64 x, .int .i64 z] w fun e w' => e = .returned (.tuple #[.int .i64 (heightN x z x0 y0 z0 x1 y1 z1 x2 y2 z2), .int .i64 (heightD x z x0 y0 z0 x1 y1 z1 x2 y2 z2), .int .i64 (heightE x z x0 y0 z0 x1 y1 z1 x2 y2 z2)]) ∧ New w w' := by
  have hno := fun W => t_normal i x0 y0 z0 x1 y1 z1 x2 y2 z2 W
  cases hk : okB x0 y0 z0 x1 y1 z1 x2 y2 z2
  · obtain ⟨h1, h2, h3, h4⟩ := norm_no hk
    rw [h1, h2, h3, h4] at hno
    obtain ⟨g1, g2, g3⟩ := height_no (x := x) (z := z) (by unfold hOkB; rw [hk]; rfl : hOkB x z x0 y0 z0 x1 y1 z1 x2 y2 z2 = false)
    rw [g1, g2, g3]
    clear h1 h2 h3 h4 g1 g2 g3 hk
    go_enter Try.func63, Try.ntmps63
    go_wp2_with fail
    refine (hno _).mono ?_
    rintro e W0 ⟨rfl, n1⟩
    have hn : New w W0 := New.trans (by (repeat (first | (with_reducible exact New.refl _) | (with_reducible assumption) | ((with_reducible refine New.setB ?_ ?_ _); focus (first | omega | (simp; omega) | (simp; done))) | (with_reducible refine New.alloc ?_ _) | (with_reducible refine New.drew ?_) | (with_reducible refine New.drewN ?_ _) | (with_reducible refine New.hat ?_ _) | ((with_reducible apply New.snart); (with_reducible assumption))))) n1
    clear n1 hno
    go_wp2_with fail
    go_ret3
    exact ⟨rfl, hn⟩
  · obtain ⟨h1, h2, h3, h4⟩ := norm_yes hk
    rw [h1, h2, h3, h4] at hno
    have hwx := fun W => t_within x (-64) 64 W
    have hwz := fun W => t_within z (-64) 64 W
    clear h1 h2 h3 h4
    by_cases hx : -64 ≤ x ∧ x ≤ 64
    rotate_left
    · have hx' : decide (-64 ≤ x ∧ x ≤ 64) = false := by simpa using hx
      obtain ⟨g1, g2, g3⟩ := height_no (x := x) (z := z) (by unfold hOkB; rw [hk, hx']; rfl : hOkB x z x0 y0 z0 x1 y1 z1 x2 y2 z2 = false)
      rw [g1, g2, g3]
      rw [hx'] at hwx
      clear g1 g2 g3 hx hk hx'
      go_enter Try.func63, Try.ntmps63
      go_wp2_with fail
      refine (hno _).mono ?_
      rintro e W0 ⟨rfl, n1⟩
      have hn : New w W0 := New.trans (by (repeat (first | (with_reducible exact New.refl _) | (with_reducible assumption) | ((with_reducible refine New.setB ?_ ?_ _); focus (first | omega | (simp; omega) | (simp; done))) | (with_reducible refine New.alloc ?_ _) | (with_reducible refine New.drew ?_) | (with_reducible refine New.drewN ?_ _) | (with_reducible refine New.hat ?_ _) | ((with_reducible apply New.snart); (with_reducible assumption))))) n1
      clear n1 hno
      go_wp2_with fail
      refine (hwx _).mono ?_
      rintro e w' ⟨rfl, rfl⟩
      go_wp2_with fail
      go_ret3
      exact ⟨rfl, hn⟩
    by_cases hz : -64 ≤ z ∧ z ≤ 64
    rotate_left
    · have hx' : decide (-64 ≤ x ∧ x ≤ 64) = true := by simpa using hx
      have hz' : decide (-64 ≤ z ∧ z ≤ 64) = false := by simpa using hz
      obtain ⟨g1, g2, g3⟩ := height_no (x := x) (z := z) (by unfold hOkB; rw [hz', Bool.and_false] : hOkB x z x0 y0 z0 x1 y1 z1 x2 y2 z2 = false)
      rw [g1, g2, g3]
      rw [hx'] at hwx
      rw [hz'] at hwz
      clear g1 g2 g3 hx hz hk hx' hz'
      go_enter Try.func63, Try.ntmps63
      go_wp2_with fail
      refine (hno _).mono ?_
      rintro e W0 ⟨rfl, n1⟩
      have hn : New w W0 := New.trans (by (repeat (first | (with_reducible exact New.refl _) | (with_reducible assumption) | ((with_reducible refine New.setB ?_ ?_ _); focus (first | omega | (simp; omega) | (simp; done))) | (with_reducible refine New.alloc ?_ _) | (with_reducible refine New.drew ?_) | (with_reducible refine New.drewN ?_ _) | (with_reducible refine New.hat ?_ _) | ((with_reducible apply New.snart); (with_reducible assumption))))) n1
      clear n1 hno
      go_wp2_with fail
      refine (hwx _).mono ?_
      rintro e w' ⟨rfl, rfl⟩
      go_wp2_with fail
      refine (hwz _).mono ?_
      rintro e w' ⟨rfl, rfl⟩
      go_wp2_with fail
      go_ret3
      exact ⟨rfl, hn⟩
    · have hx' : decide (-64 ≤ x ∧ x ≤ 64) = true := by simpa using hx
      have hz' : decide (-64 ≤ z ∧ z ≤ 64) = true := by simpa using hz
      obtain ⟨g1, g2, g3⟩ := height_yes (x := x) (z := z) (by unfold hOkB; rw [hk, hx', hz']; rfl : hOkB x z x0 y0 z0 x1 y1 z1 x2 y2 z2 = true)
      rw [g1, g2, g3]
      rw [hx'] at hwx
      rw [hz'] at hwz
      obtain ⟨hst, hny⟩ := ok_st hk
      obtain ⟨bx, by', bz⟩ := nI_bd hst
      unfold StP StV at hst
      clear g1 g2 g3 hk hx' hz'
      generalize nxI x0 y0 z0 x1 y1 z1 x2 y2 z2 = nx at *
      generalize nyI x0 y0 z0 x1 y1 z1 x2 y2 z2 = ny at *
      generalize nzI x0 y0 z0 x1 y1 z1 x2 y2 z2 = nz at *
      obtain ⟨⟨⟨X0, X0'⟩, ⟨Z0, Z0'⟩, ⟨Y0, Y0'⟩⟩, -, -⟩ := hst
      have p1 := mul_bd (a := y0) (b := ny) (A := 2048) (B := 2048) (by omega) (by omega)
      have p2 := mul_bd (a := nx) (b := x - x0) (A := 262144) (B := 96) (by omega) (by omega)
      have p3 := mul_bd (a := nz) (b := z - z0) (A := 262144) (B := 96) (by omega) (by omega)
      have hlow := fun W => t_lowest (hTop x z x0 y0 z0 nx ny nz) ny W hny (by unfold hTop; omega) (by omega)
      generalize lowN (hTop x z x0 y0 z0 nx ny nz) ny = A at *
      generalize lowD (hTop x z x0 y0 z0 nx ny nz) ny = B at *
      unfold hTop at hlow
      replace hlow := Lib.hid hlow
      clear hny
      go_enter Try.func63, Try.ntmps63
      go_wp2_with fail
      refine (hno _).mono ?_
      rintro e W0 ⟨rfl, n1⟩
      (have c0 : (W0).cell? ⟨w.heap.size, 0, none⟩ = some (.int .i64 i) := (n1.keep (by go_simp))); (have c1 : (W0).cell? ⟨w.heap.size, 1, none⟩ = some (.int .i64 x0) := (n1.keep (by go_simp))); (have c2 : (W0).cell? ⟨w.heap.size, 2, none⟩ = some (.int .i64 y0) := (n1.keep (by go_simp))); (have c3 : (W0).cell? ⟨w.heap.size, 3, none⟩ = some (.int .i64 z0) := (n1.keep (by go_simp))); (have c4 : (W0).cell? ⟨w.heap.size, 4, none⟩ = some (.int .i64 x1) := (n1.keep (by go_simp))); (have c5 : (W0).cell? ⟨w.heap.size, 5, none⟩ = some (.int .i64 y1) := (n1.keep (by go_simp))); (have c6 : (W0).cell? ⟨w.heap.size, 6, none⟩ = some (.int .i64 z1) := (n1.keep (by go_simp))); (have c7 : (W0).cell? ⟨w.heap.size, 7, none⟩ = some (.int .i64 x2) := (n1.keep (by go_simp))); (have c8 : (W0).cell? ⟨w.heap.size, 8, none⟩ = some (.int .i64 y2) := (n1.keep (by go_simp))); (have c9 : (W0).cell? ⟨w.heap.size, 9, none⟩ = some (.int .i64 z2) := (n1.keep (by go_simp)))
      have hn : New w W0 := New.trans (by (repeat (first | (with_reducible exact New.refl _) | (with_reducible assumption) | ((with_reducible refine New.setB ?_ ?_ _); focus (first | omega | (simp; omega) | (simp; done))) | (with_reducible refine New.alloc ?_ _) | (with_reducible refine New.drew ?_) | (with_reducible refine New.drewN ?_ _) | (with_reducible refine New.hat ?_ _) | ((with_reducible apply New.snart); (with_reducible assumption))))) n1
      clear n1 hno c4 c5 c6 c7 c8 c9 c0
      go_wp2_with fail
      refine (hwx _).mono ?_
      rintro e w' ⟨rfl, rfl⟩
      go_wp2_with fail
      refine (hwz _).mono ?_
      rintro e w' ⟨rfl, rfl⟩
      go_wp2_with fail
      refine (hlow.out _).mono ?_
      rintro e W2 ⟨rfl, n1⟩
      have zz := hn.size
      replace hn : New w W2 := New.trans (by (repeat (first | (with_reducible exact New.refl _) | (with_reducible assumption) | ((with_reducible refine New.setB ?_ ?_ _); focus (first | omega | (simp; omega) | (simp; done))) | (with_reducible refine New.alloc ?_ _) | (with_reducible refine New.drew ?_) | (with_reducible refine New.drewN ?_ _) | (with_reducible refine New.hat ?_ _) | ((with_reducible apply New.snart); (with_reducible assumption))))) n1
      clear n1
      go_wp2_with fail
      go_ret3
      exact ⟨rfl, hn⟩

end Go.Proofs.Yteoongcajfcgcaa
