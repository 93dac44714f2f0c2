/- Layer 4's statement that a plane rises evenly: walked. -/
import Derived.Test.YtmpkciidhopckaaTriK
namespace Go.Proofs.Ytmpkciidhopckaa
open Go.RowKit
set_option linter.unusedVariables false

/-- Three heights in a row. -/
theorem even_low {D n1 n2 n3 : Int} (hD : D ≠ 0) (h : n1 + n3 = 2 * n2) : lowN n1 D * lowD n2 D * lowD n3 D + lowN n3 D * lowD n2 D * lowD n1 D = 2 * lowN n2 D * lowD n1 D * lowD n3 D := by
  obtain ⟨a1, b1, -, -⟩ := low_spec (n := n1) hD
  obtain ⟨a2, b2, -, -⟩ := low_spec (n := n2) hD
  obtain ⟨a3, b3, -, -⟩ := low_spec (n := n3) hD
  generalize lowN n1 D = N1 at *
  generalize lowN n2 D = N2 at *
  generalize lowN n3 D = N3 at *
  generalize lowD n1 D = D1 at *
  generalize lowD n2 D = D2 at *
  generalize lowD n3 D = D3 at *
  have : D * (N1 * D2 * D3 + N3 * D2 * D1) = D * (2 * N2 * D1 * D3) := by grind
  exact Int.eq_of_mul_eq_mul_left hD this

theorem hTop_even (x z dx dz x0 y0 z0 nx ny nz : Int) : hTop x z x0 y0 z0 nx ny nz + hTop (x + 2 * dx) (z + 2 * dz) x0 y0 z0 nx ny nz = 2 * hTop (x + dx) (z + dz) x0 y0 z0 nx ny nz := by
  unfold hTop; grind

def H3 (x z x0 y0 z0 x1 y1 z1 x2 y2 z2 n d : Int) : Prop := n = heightN x z x0 y0 z0 x1 y1 z1 x2 y2 z2 ∧ d = heightD x z x0 y0 z0 x1 y1 z1 x2 y2 z2

theorem hOk_near {x z x0 y0 z0 x1 y1 z1 x2 y2 z2 : Int} (hx : -64 ≤ x ∧ x ≤ 64) (hz : -64 ≤ z ∧ z ≤ 64) : hOkB x z x0 y0 z0 x1 y1 z1 x2 y2 z2 = okB x0 y0 z0 x1 y1 z1 x2 y2 z2 := by
  unfold hOkB; simp [hx, hz]

theorem height_bd {x z x0 y0 z0 x1 y1 z1 x2 y2 z2 : Int} (hx : -64 ≤ x ∧ x ≤ 64) (hz : -64 ≤ z ∧ z ≤ 64) (hk : okB x0 y0 z0 x1 y1 z1 x2 y2 z2 = true) : (-54525952 ≤ heightN x z x0 y0 z0 x1 y1 z1 x2 y2 z2 ∧ heightN x z x0 y0 z0 x1 y1 z1 x2 y2 z2 ≤ 54525952) ∧ (1 ≤ heightD x z x0 y0 z0 x1 y1 z1 x2 y2 z2 ∧ heightD x z x0 y0 z0 x1 y1 z1 x2 y2 z2 ≤ 2048) := by
  obtain ⟨g1, g2, g3⟩ := height_yes (by rw [hOk_near hx hz]; exact hk : hOkB x z x0 y0 z0 x1 y1 z1 x2 y2 z2 = true)
  obtain ⟨hst, hny⟩ := ok_st hk
  obtain ⟨bx, by', bz⟩ := nI_bd hst
  obtain ⟨s0, -, s1, s2⟩ := low_spec (n := hTop x z x0 y0 z0 (nxI x0 y0 z0 x1 y1 z1 x2 y2 z2) (nyI x0 y0 z0 x1 y1 z1 x2 y2 z2) (nzI x0 y0 z0 x1 y1 z1 x2 y2 z2)) hny
  rw [g1, g2]
  clear g1 g2 g3 hk hny
  generalize nxI x0 y0 z0 x1 y1 z1 x2 y2 z2 = nx at *
  generalize nyI x0 y0 z0 x1 y1 z1 x2 y2 z2 = ny at *
  generalize nzI x0 y0 z0 x1 y1 z1 x2 y2 z2 = nz at *
  unfold StP StV at hst
  have p1 := mul_bd (a := y0) (b := ny) (A := 2048) (B := 2048) (by omega) (by omega)
  have p2 := mul_bd (a := nx) (b := x - x0) (A := 262144) (B := 96) (by omega) (by omega)
  have p3 := mul_bd (a := nz) (b := z - z0) (A := 262144) (B := 96) (by omega) (by omega)
  have bT : -54525952 ≤ hTop x z x0 y0 z0 nx ny nz ∧ hTop x z x0 y0 z0 nx ny nz ≤ 54525952 := by unfold hTop; omega
  generalize hTop x z x0 y0 z0 nx ny nz = T at *
  omega

theorem height_even {x z dx dz x0 y0 z0 x1 y1 z1 x2 y2 z2 : Int} (hx : -20 ≤ x ∧ x ≤ 20) (hz : -20 ≤ z ∧ z ≤ 20) (hdx : -20 ≤ dx ∧ dx ≤ 20) (hdz : -20 ≤ dz ∧ dz ≤ 20) (hk : okB x0 y0 z0 x1 y1 z1 x2 y2 z2 = true) :
    heightN x z x0 y0 z0 x1 y1 z1 x2 y2 z2 * heightD (x + dx) (z + dz) x0 y0 z0 x1 y1 z1 x2 y2 z2 * heightD (x + 2 * dx) (z + 2 * dz) x0 y0 z0 x1 y1 z1 x2 y2 z2 + heightN (x + 2 * dx) (z + 2 * dz) x0 y0 z0 x1 y1 z1 x2 y2 z2 * heightD (x + dx) (z + dz) x0 y0 z0 x1 y1 z1 x2 y2 z2 * heightD x z x0 y0 z0 x1 y1 z1 x2 y2 z2 =
    2 * heightN (x + dx) (z + dz) x0 y0 z0 x1 y1 z1 x2 y2 z2 * heightD x z x0 y0 z0 x1 y1 z1 x2 y2 z2 * heightD (x + 2 * dx) (z + 2 * dz) x0 y0 z0 x1 y1 z1 x2 y2 z2 := by
  obtain ⟨a1, a2, -⟩ := height_yes (by rw [hOk_near (by omega) (by omega)]; exact hk : hOkB x z x0 y0 z0 x1 y1 z1 x2 y2 z2 = true)
  obtain ⟨b1, b2, -⟩ := height_yes (by rw [hOk_near (by omega) (by omega)]; exact hk : hOkB (x + dx) (z + dz) x0 y0 z0 x1 y1 z1 x2 y2 z2 = true)
  obtain ⟨c1, c2, -⟩ := height_yes (by rw [hOk_near (by omega) (by omega)]; exact hk : hOkB (x + 2 * dx) (z + 2 * dz) x0 y0 z0 x1 y1 z1 x2 y2 z2 = true)
  rw [a1, a2, b1, b2, c1, c2]
  exact even_low (ok_st hk).2 (hTop_even x z dx dz x0 y0 z0 _ _ _)

theorem tmod21 (x : Int) : -20 ≤ x.tmod 21 ∧ x.tmod 21 ≤ 20 := by
  have h := Int.natAbs_tmod x 21
  rw [show (21 : Int).natAbs = 21 from rfl] at h
  omega

set_option maxHeartbeats 2000000 in
set_option maxRecDepth 100000 in
theorem l_even (i x0 y0 z0 x1 y1 z1 x2 y2 z2 x z dx dz : Int) (w : World) :
    Calls Try.prog 9 #[.agg #[.int .i64 i, .int .i64 x0, .int .i64 y0, .int .i64 z0, .int .i64 x1, .int .i64 y1, .int .i64 z1, .int .i64 x2, .int .i64 y2, .int .i64 z2], .int .i64 x, .int .i64 z, .int .i64 dx, .int .i64 dz] w fun e w' => e = .returned (.bool true) ∧ New w w' := by
  obtain ⟨X, hX⟩ : ∃ X, x.tmod 21 = X := ⟨_, rfl⟩
  obtain ⟨Z, hZ⟩ : ∃ X, z.tmod 21 = X := ⟨_, rfl⟩
  obtain ⟨DX, hDX⟩ : ∃ X, dx.tmod 21 = X := ⟨_, rfl⟩
  obtain ⟨DZ, hDZ⟩ : ∃ X, dz.tmod 21 = X := ⟨_, rfl⟩
  have bX : -20 ≤ X ∧ X ≤ 20 := by rw [← hX]; exact tmod21 x
  have bZ : -20 ≤ Z ∧ Z ≤ 20 := by rw [← hZ]; exact tmod21 z
  have bDX : -20 ≤ DX ∧ DX ≤ 20 := by rw [← hDX]; exact tmod21 dx
  have bDZ : -20 ≤ DZ ∧ DZ ≤ 20 := by rw [← hDZ]; exact tmod21 dz
  have T1 := fun W => t_height i x0 y0 z0 x1 y1 z1 x2 y2 z2 X Z W
  have T2 := fun W => t_height i x0 y0 z0 x1 y1 z1 x2 y2 z2 (X + DX) (Z + DZ) W
  have T3 := fun W => t_height i x0 y0 z0 x1 y1 z1 x2 y2 z2 (X + 2 * DX) (Z + 2 * DZ) W
  cases hk : okB x0 y0 z0 x1 y1 z1 x2 y2 z2
  · obtain ⟨-, -, a3⟩ := height_no (by rw [hOk_near (by omega) (by omega)]; exact hk : hOkB X Z x0 y0 z0 x1 y1 z1 x2 y2 z2 = false)
    obtain ⟨-, -, b3⟩ := height_no (by rw [hOk_near (by omega) (by omega)]; exact hk : hOkB (X + DX) (Z + DZ) x0 y0 z0 x1 y1 z1 x2 y2 z2 = false)
    obtain ⟨-, -, c3⟩ := height_no (by rw [hOk_near (by omega) (by omega)]; exact hk : hOkB (X + 2 * DX) (Z + 2 * DZ) x0 y0 z0 x1 y1 z1 x2 y2 z2 = false)
    rw [a3] at T1
    rw [b3] at T2
    rw [c3] at T3
    clear a3 b3 c3 hk
    generalize heightN X Z x0 y0 z0 x1 y1 z1 x2 y2 z2 = A1 at *
    generalize heightD X Z x0 y0 z0 x1 y1 z1 x2 y2 z2 = B1 at *
    generalize heightN (X + DX) (Z + DZ) x0 y0 z0 x1 y1 z1 x2 y2 z2 = A2 at *
    generalize heightD (X + DX) (Z + DZ) x0 y0 z0 x1 y1 z1 x2 y2 z2 = B2 at *
    generalize heightN (X + 2 * DX) (Z + 2 * DZ) x0 y0 z0 x1 y1 z1 x2 y2 z2 = A3 at *
    generalize heightD (X + 2 * DX) (Z + 2 * DZ) x0 y0 z0 x1 y1 z1 x2 y2 z2 = B3 at *
    replace T1 := Lib.hid T1
    replace T2 := Lib.hid T2
    replace T3 := Lib.hid T3
    go_enter Try.func9, Try.ntmps9
    go_wp2_with fail
    generalize hW : World.alloc _ _ = W
    (have c0 : (W).cell? ⟨w.heap.size, 0, none⟩ = some (.int .i64 i) := (by subst hW; go_simp)); (have c1 : (W).cell? ⟨w.heap.size, 1, none⟩ = some (.int .i64 x0) := (by subst hW; go_simp)); (have c2 : (W).cell? ⟨w.heap.size, 2, none⟩ = some (.int .i64 y0) := (by subst hW; go_simp)); (have c3 : (W).cell? ⟨w.heap.size, 3, none⟩ = some (.int .i64 z0) := (by subst hW; go_simp)); (have c4 : (W).cell? ⟨w.heap.size, 4, none⟩ = some (.int .i64 x1) := (by subst hW; go_simp)); (have c5 : (W).cell? ⟨w.heap.size, 5, none⟩ = some (.int .i64 y1) := (by subst hW; go_simp)); (have c6 : (W).cell? ⟨w.heap.size, 6, none⟩ = some (.int .i64 z1) := (by subst hW; go_simp)); (have c7 : (W).cell? ⟨w.heap.size, 7, none⟩ = some (.int .i64 x2) := (by subst hW; go_simp)); (have c8 : (W).cell? ⟨w.heap.size, 8, none⟩ = some (.int .i64 y2) := (by subst hW; go_simp)); (have c9 : (W).cell? ⟨w.heap.size, 9, none⟩ = some (.int .i64 z2) := (by subst hW; go_simp))
    have hn : New w W := by subst hW; (repeat (first | (with_reducible exact New.refl _) | (with_reducible assumption) | ((with_reducible refine New.setB ?_ ?_ _); focus (first | omega | (simp; omega) | (simp; done))) | (with_reducible refine New.alloc ?_ _) | (with_reducible refine New.drew ?_) | (with_reducible refine New.drewN ?_ _) | (with_reducible refine New.hat ?_ _) | ((with_reducible apply New.snart); (with_reducible assumption))))
    clear hW
    refine (T1.out _).mono ?_
    rintro e W1 ⟨rfl, n1⟩
    ((replace c0 := New.keep n1 c0); (replace c1 := New.keep n1 c1); (replace c2 := New.keep n1 c2); (replace c3 := New.keep n1 c3); (replace c4 := New.keep n1 c4); (replace c5 := New.keep n1 c5); (replace c6 := New.keep n1 c6); (replace c7 := New.keep n1 c7); (replace c8 := New.keep n1 c8); (replace c9 := New.keep n1 c9))
    replace hn := hn.trans n1
    clear n1
    go_wp2_with fail
    refine (T2.out _).mono ?_
    rintro e W2 ⟨rfl, n1⟩
    ((replace c0 := New.keep n1 c0); (replace c1 := New.keep n1 c1); (replace c2 := New.keep n1 c2); (replace c3 := New.keep n1 c3); (replace c4 := New.keep n1 c4); (replace c5 := New.keep n1 c5); (replace c6 := New.keep n1 c6); (replace c7 := New.keep n1 c7); (replace c8 := New.keep n1 c8); (replace c9 := New.keep n1 c9))
    replace hn := hn.trans n1
    clear n1
    go_wp2_with fail
    refine (T3.out _).mono ?_
    rintro e W3 ⟨rfl, n1⟩
    replace hn := hn.trans n1
    clear n1 c0 c1 c2 c3 c4 c5 c6 c7 c8 c9
    go_wp2_with fail
    refine (t_wakes _).mono ?_
    rintro e W4 ⟨rfl, n1⟩
    replace hn := hn.trans n1
    clear n1
    go_wp2_with fail
    go_ret
    exact ⟨rfl, hn⟩
  · obtain ⟨-, -, a3⟩ := height_yes (by rw [hOk_near (by omega) (by omega)]; exact hk : hOkB X Z x0 y0 z0 x1 y1 z1 x2 y2 z2 = true)
    obtain ⟨-, -, b3⟩ := height_yes (by rw [hOk_near (by omega) (by omega)]; exact hk : hOkB (X + DX) (Z + DZ) x0 y0 z0 x1 y1 z1 x2 y2 z2 = true)
    obtain ⟨-, -, c3⟩ := height_yes (by rw [hOk_near (by omega) (by omega)]; exact hk : hOkB (X + 2 * DX) (Z + 2 * DZ) x0 y0 z0 x1 y1 z1 x2 y2 z2 = true)
    rw [a3] at T1
    rw [b3] at T2
    rw [c3] at T3
    obtain ⟨A, B⟩ := height_bd (x := X) (z := Z) (by omega) (by omega) hk
    obtain ⟨C, D⟩ := height_bd (x := X + DX) (z := Z + DZ) (by omega) (by omega) hk
    obtain ⟨E, F⟩ := height_bd (x := X + 2 * DX) (z := Z + 2 * DZ) (by omega) (by omega) hk
    have hev := height_even bX bZ bDX bDZ hk
    clear a3 b3 c3 hk
    generalize heightN X Z x0 y0 z0 x1 y1 z1 x2 y2 z2 = A1 at *
    generalize heightD X Z x0 y0 z0 x1 y1 z1 x2 y2 z2 = B1 at *
    generalize heightN (X + DX) (Z + DZ) x0 y0 z0 x1 y1 z1 x2 y2 z2 = A2 at *
    generalize heightD (X + DX) (Z + DZ) x0 y0 z0 x1 y1 z1 x2 y2 z2 = B2 at *
    generalize heightN (X + 2 * DX) (Z + 2 * DZ) x0 y0 z0 x1 y1 z1 x2 y2 z2 = A3 at *
    generalize heightD (X + 2 * DX) (Z + 2 * DZ) x0 y0 z0 x1 y1 z1 x2 y2 z2 = B3 at *
    have p1 := mul_bd (a := A1) (b := B2) (A := 54525952) (B := 2048) (by omega) (by omega)
    have p2 := mul_bd (a := A1 * B2) (b := B3) (A := 111669149696) (B := 2048) (by omega) (by omega)
    have p3 := mul_bd (a := A3) (b := B2) (A := 54525952) (B := 2048) (by omega) (by omega)
    have p4 := mul_bd (a := A3 * B2) (b := B1) (A := 111669149696) (B := 2048) (by omega) (by omega)
    have p5 := mul_bd (a := 2 * A2) (b := B1) (A := 109051904) (B := 2048) (by omega) (by omega)
    have p6 := mul_bd (a := 2 * A2 * B1) (b := B3) (A := 223338299392) (B := 2048) (by omega) (by omega)
    have hevb : (A1 * B2 * B3 + A3 * B2 * B1 == 2 * A2 * B1 * B3) = true := by rw [beq_iff_eq]; exact hev
    have HT : Hid _ := hev
    clear hev
    replace T1 := Lib.hid T1
    replace T2 := Lib.hid T2
    replace T3 := Lib.hid T3
    go_enter Try.func9, Try.ntmps9
    go_wp2_with fail
    generalize hW : World.alloc _ _ = W
    (have c0 : (W).cell? ⟨w.heap.size, 0, none⟩ = some (.int .i64 i) := (by subst hW; go_simp)); (have c1 : (W).cell? ⟨w.heap.size, 1, none⟩ = some (.int .i64 x0) := (by subst hW; go_simp)); (have c2 : (W).cell? ⟨w.heap.size, 2, none⟩ = some (.int .i64 y0) := (by subst hW; go_simp)); (have c3 : (W).cell? ⟨w.heap.size, 3, none⟩ = some (.int .i64 z0) := (by subst hW; go_simp)); (have c4 : (W).cell? ⟨w.heap.size, 4, none⟩ = some (.int .i64 x1) := (by subst hW; go_simp)); (have c5 : (W).cell? ⟨w.heap.size, 5, none⟩ = some (.int .i64 y1) := (by subst hW; go_simp)); (have c6 : (W).cell? ⟨w.heap.size, 6, none⟩ = some (.int .i64 z1) := (by subst hW; go_simp)); (have c7 : (W).cell? ⟨w.heap.size, 7, none⟩ = some (.int .i64 x2) := (by subst hW; go_simp)); (have c8 : (W).cell? ⟨w.heap.size, 8, none⟩ = some (.int .i64 y2) := (by subst hW; go_simp)); (have c9 : (W).cell? ⟨w.heap.size, 9, none⟩ = some (.int .i64 z2) := (by subst hW; go_simp))
    have hn : New w W := by subst hW; (repeat (first | (with_reducible exact New.refl _) | (with_reducible assumption) | ((with_reducible refine New.setB ?_ ?_ _); focus (first | omega | (simp; omega) | (simp; done))) | (with_reducible refine New.alloc ?_ _) | (with_reducible refine New.drew ?_) | (with_reducible refine New.drewN ?_ _) | (with_reducible refine New.hat ?_ _) | ((with_reducible apply New.snart); (with_reducible assumption))))
    clear hW
    refine (T1.out _).mono ?_
    rintro e W1 ⟨rfl, n1⟩
    ((replace c0 := New.keep n1 c0); (replace c1 := New.keep n1 c1); (replace c2 := New.keep n1 c2); (replace c3 := New.keep n1 c3); (replace c4 := New.keep n1 c4); (replace c5 := New.keep n1 c5); (replace c6 := New.keep n1 c6); (replace c7 := New.keep n1 c7); (replace c8 := New.keep n1 c8); (replace c9 := New.keep n1 c9))
    replace hn := hn.trans n1
    clear n1
    go_wp2_with fail
    refine (T2.out _).mono ?_
    rintro e W2 ⟨rfl, n1⟩
    ((replace c0 := New.keep n1 c0); (replace c1 := New.keep n1 c1); (replace c2 := New.keep n1 c2); (replace c3 := New.keep n1 c3); (replace c4 := New.keep n1 c4); (replace c5 := New.keep n1 c5); (replace c6 := New.keep n1 c6); (replace c7 := New.keep n1 c7); (replace c8 := New.keep n1 c8); (replace c9 := New.keep n1 c9))
    replace hn := hn.trans n1
    clear n1
    go_wp2_with fail
    refine (T3.out _).mono ?_
    rintro e W3 ⟨rfl, n1⟩
    replace hn := hn.trans n1
    clear n1 c0 c1 c2 c3 c4 c5 c6 c7 c8 c9
    go_wp2_with fail
    refine (t_wakes _).mono ?_
    rintro e W4 ⟨rfl, n1⟩
    replace hn := hn.trans n1
    clear n1
    go_wp2_with fail
    go_ret
    exact ⟨rfl, hn⟩

end Go.Proofs.Ytmpkciidhopckaa
