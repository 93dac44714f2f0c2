import Derived.Test.YteoongcajfcgcaaClWZ6

/- The document's own corners over a column: inside. -/
namespace Go.Proofs.Yteoongcajfcgcaa
open Go.RowKit
set_option linter.unusedVariables false
set_option linter.unusedSimpArgs false

/-- What comes of the three signs. -/
def insR (a b c : Int) : Bool := !((b != 0 && a != 0 && b != a) || (c != 0 && (if b = 0 then a else b) != 0 && c != (if b = 0 then a else b)))
theorem insR_eq (T : TriR) (px pz : Int) : insB T px pz = insR (clampI (s0 T px pz) (-1) 1) (clampI (s1 T px pz) (-1) 1) (clampI (s2 T px pz) (-1) 1) := by
  rw [Bool.eq_iff_iff, insB_iff]
  unfold insR
  simp only [Bool.not_eq_true', Bool.or_eq_false_iff, Bool.and_eq_false_iff, bne_eq_false_iff_eq]
  unfold clampI
  split <;> omega

set_option maxHeartbeats 8000000 in
set_option maxRecDepth 100000 in
theorem r_inside (T : TriR) (hk : okT T = true) (px pz : Int) (w : World) (hx : -64 ≤ px ∧ px ≤ 64) (hz : -64 ≤ pz ∧ pz ≤ 64) :
    Calls Try.prog 30 #[.agg #[.int .i64 T.x0, .int .i64 T.y0, .int .i64 T.z0, .int .i64 T.x1, .int .i64 T.y1, .int .i64 T.z1, .int .i64 T.x2, .int .i64 T.y2, .int .i64 T.z2], .int .i64 px, .int .i64 pz, .int .i64 1] w fun e w' => e = .returned (.bool (insB T px pz)) ∧ New w w' := by
  have hs := ok_in hk
  unfold StP StV at hs
  obtain ⟨⟨⟨X0, X0'⟩, ⟨Z0, Z0'⟩, -⟩, ⟨⟨X1, X1'⟩, ⟨Z1, Z1'⟩, -⟩, ⟨⟨X2, X2'⟩, ⟨Z2, Z2'⟩, -⟩⟩ := hs
  have HB := Lib.hid (insR_eq T px pz)
  have ma0 := mul_bd (a := T.x1 - T.x0) (b := pz - T.z0) (A := 32) (B := 128) (by omega) (by omega)
  have mb0 := mul_bd (a := T.z1 - T.z0) (b := px - T.x0) (A := 32) (B := 128) (by omega) (by omega)
  have K0 := Lib.hid (fun W => rsign_any (s0 T px pz) W)
  have E0 : (T.x1 - T.x0) * (pz - T.z0) - (T.z1 - T.z0) * (px - T.x0) = s0 T px pz := rfl
  have ma1 := mul_bd (a := T.x2 - T.x1) (b := pz - T.z1) (A := 32) (B := 128) (by omega) (by omega)
  have mb1 := mul_bd (a := T.z2 - T.z1) (b := px - T.x1) (A := 32) (B := 128) (by omega) (by omega)
  have K1 := Lib.hid (fun W => rsign_any (s1 T px pz) W)
  have E1 : (T.x2 - T.x1) * (pz - T.z1) - (T.z2 - T.z1) * (px - T.x1) = s1 T px pz := rfl
  have ma2 := mul_bd (a := T.x0 - T.x2) (b := pz - T.z2) (A := 32) (B := 128) (by omega) (by omega)
  have mb2 := mul_bd (a := T.z0 - T.z2) (b := px - T.x2) (A := 32) (B := 128) (by omega) (by omega)
  have K2 := Lib.hid (fun W => rsign_any (s2 T px pz) W)
  have E2 : (T.x0 - T.x2) * (pz - T.z2) - (T.z0 - T.z2) * (px - T.x2) = s2 T px pz := rfl
  generalize s0 T px pz = k0 at *
  generalize clampI k0 (-1) 1 = g0 at *
  generalize s1 T px pz = k1 at *
  generalize clampI k1 (-1) 1 = g1 at *
  generalize s2 T px pz = k2 at *
  generalize clampI k2 (-1) 1 = g2 at *
  generalize insB T px pz = res at *
  clear hk
  go_enter Try.func30, Try.ntmps30
  go_wp2_with fail
  refine Code.at (fun W0 hW => ?_)
  have hn : New w W0 := by subst hW; (repeat (first | (with_reducible exact New.refl _) | (with_reducible assumption) | ((with_reducible refine New.setB ?_ ?_ _); focus (first | omega | (simp; omega) | (simp; done))) | (with_reducible refine New.alloc ?_ _) | (with_reducible refine New.drew ?_) | (with_reducible refine New.drewN ?_ _) | (with_reducible refine New.hat ?_ _) | ((with_reducible apply New.snart); (with_reducible assumption))))
  have c0 : W0.cell? ⟨w.heap.size, 0, none⟩ = some (.int .i64 T.x0) := by subst hW; go_simp
  have c1 : W0.cell? ⟨w.heap.size, 1, none⟩ = some (.int .i64 T.y0) := by subst hW; go_simp
  have c2 : W0.cell? ⟨w.heap.size, 2, none⟩ = some (.int .i64 T.z0) := by subst hW; go_simp
  have c3 : W0.cell? ⟨w.heap.size, 3, none⟩ = some (.int .i64 T.x1) := by subst hW; go_simp
  have c4 : W0.cell? ⟨w.heap.size, 4, none⟩ = some (.int .i64 T.y1) := by subst hW; go_simp
  have c5 : W0.cell? ⟨w.heap.size, 5, none⟩ = some (.int .i64 T.z1) := by subst hW; go_simp
  have c6 : W0.cell? ⟨w.heap.size, 6, none⟩ = some (.int .i64 T.x2) := by subst hW; go_simp
  have c7 : W0.cell? ⟨w.heap.size, 7, none⟩ = some (.int .i64 T.y2) := by subst hW; go_simp
  have c8 : W0.cell? ⟨w.heap.size, 8, none⟩ = some (.int .i64 T.z2) := by subst hW; go_simp
  clear hW
  have zz := World.block_lt_of_cell? _ _ c0
  simp only [] at zz
  refine wp_loop_rounds 4 ?_
  rw [rounds_succ]
  go_upto_region 5 with fail
  go_cut [11, 12] (fun s8 s9 Z => ∃ b b' : Nat, s8 = .pointer (some ⟨b, 0, none⟩) ∧ s9 = .pointer (some ⟨b', 0, none⟩) ∧ New W0 Z ∧ Z.cell? ⟨b, 0, none⟩ = some (.int .i64 T.x0) ∧ Z.cell? ⟨b, 2, none⟩ = some (.int .i64 T.z0) ∧ Z.cell? ⟨b', 0, none⟩ = some (.int .i64 T.x1) ∧ Z.cell? ⟨b', 2, none⟩ = some (.int .i64 T.z1))
  case first =>
    go_region
    all_goals
      go_wp2_with fail
      go_meet
      exact ⟨_, _, rfl, rfl, by (repeat (first | (with_reducible exact New.refl _) | (with_reducible assumption) | ((with_reducible refine New.setB ?_ ?_ _); focus (first | omega | (simp; omega) | (simp; done))) | (with_reducible refine New.alloc ?_ _) | (with_reducible refine New.drew ?_) | (with_reducible refine New.drewN ?_ _) | (with_reducible refine New.hat ?_ _) | ((with_reducible apply New.snart); (with_reducible assumption)))), by go_simp, by go_simp, by go_simp, by go_simp⟩
  case rest =>
    obtain ⟨u0, v0, rfl, rfl, nZ, p0, p2, q0, q2⟩ := hcut
    replace c0 := nZ.keep c0
    replace c1 := nZ.keep c1
    replace c2 := nZ.keep c2
    replace c3 := nZ.keep c3
    replace c4 := nZ.keep c4
    replace c5 := nZ.keep c5
    replace c6 := nZ.keep c6
    replace c7 := nZ.keep c7
    replace c8 := nZ.keep c8
    replace zz := World.block_lt_of_cell? _ _ c0
    simp only [] at zz
    replace hn := hn.trans nZ
    clear nZ
    rename World => X1
    go_wp2_with fail
    refine (K0.out _).mono ?_
    rintro e w' ⟨rfl, rfl⟩
    clear p0 p2 q0 q2 K0
    by_cases a0 : g0 = 0
    · have z0 : (g0 != 0) = false := by simpa using a0
      subst a0
      have HA := Lib.hid (True.intro)
      go_wp2_with fail
      rw [rounds_succ]
      go_upto_region 5 with fail
      go_cut [11, 12] (fun s8 s9 Z => ∃ b b' : Nat, s8 = .pointer (some ⟨b, 0, none⟩) ∧ s9 = .pointer (some ⟨b', 0, none⟩) ∧ New X1 Z ∧ Z.cell? ⟨b, 0, none⟩ = some (.int .i64 T.x1) ∧ Z.cell? ⟨b, 2, none⟩ = some (.int .i64 T.z1) ∧ Z.cell? ⟨b', 0, none⟩ = some (.int .i64 T.x2) ∧ Z.cell? ⟨b', 2, none⟩ = some (.int .i64 T.z2))
      case first =>
        go_region
        all_goals
          go_wp2_with fail
          go_meet
          exact ⟨_, _, rfl, rfl, by (repeat (first | (with_reducible exact New.refl _) | (with_reducible assumption) | ((with_reducible refine New.setB ?_ ?_ _); focus (first | omega | (simp; omega) | (simp; done))) | (with_reducible refine New.alloc ?_ _) | (with_reducible refine New.drew ?_) | (with_reducible refine New.drewN ?_ _) | (with_reducible refine New.hat ?_ _) | ((with_reducible apply New.snart); (with_reducible assumption)))), by go_simp, by go_simp, by go_simp, by go_simp⟩
      case rest =>
        obtain ⟨u1, v1, rfl, rfl, nZ, p0, p2, q0, q2⟩ := hcut
        replace c0 := nZ.keep c0
        replace c1 := nZ.keep c1
        replace c2 := nZ.keep c2
        replace c3 := nZ.keep c3
        replace c4 := nZ.keep c4
        replace c5 := nZ.keep c5
        replace c6 := nZ.keep c6
        replace c7 := nZ.keep c7
        replace c8 := nZ.keep c8
        replace zz := World.block_lt_of_cell? _ _ c0
        simp only [] at zz
        replace hn := hn.trans nZ
        clear nZ
        rename World => X2
        go_wp2_with fail
        refine (K1.out _).mono ?_
        rintro e w' ⟨rfl, rfl⟩
        clear p0 p2 q0 q2 K1
        by_cases a1 : g1 = 0
        · have z1 : (g1 != 0) = false := by simpa using a1
          subst a1
          go_wp2_with fail
          rw [rounds_succ]
          go_upto_region 5 with fail
          go_cut [11, 12] (fun s8 s9 Z => ∃ b b' : Nat, s8 = .pointer (some ⟨b, 0, none⟩) ∧ s9 = .pointer (some ⟨b', 0, none⟩) ∧ New X2 Z ∧ Z.cell? ⟨b, 0, none⟩ = some (.int .i64 T.x2) ∧ Z.cell? ⟨b, 2, none⟩ = some (.int .i64 T.z2) ∧ Z.cell? ⟨b', 0, none⟩ = some (.int .i64 T.x0) ∧ Z.cell? ⟨b', 2, none⟩ = some (.int .i64 T.z0))
          case first =>
            go_region
            all_goals
              go_wp2_with fail
              go_meet
              exact ⟨_, _, rfl, rfl, by (repeat (first | (with_reducible exact New.refl _) | (with_reducible assumption) | ((with_reducible refine New.setB ?_ ?_ _); focus (first | omega | (simp; omega) | (simp; done))) | (with_reducible refine New.alloc ?_ _) | (with_reducible refine New.drew ?_) | (with_reducible refine New.drewN ?_ _) | (with_reducible refine New.hat ?_ _) | ((with_reducible apply New.snart); (with_reducible assumption)))), by go_simp, by go_simp, by go_simp, by go_simp⟩
          case rest =>
            obtain ⟨u2, v2, rfl, rfl, nZ, p0, p2, q0, q2⟩ := hcut
            replace hn := hn.trans nZ
            clear nZ
            rename World => X3
            go_wp2_with fail
            refine (K2.out _).mono ?_
            rintro e w' ⟨rfl, rfl⟩
            clear p0 p2 q0 q2 K2
            by_cases a2 : g2 = 0
            · have z2 : (g2 != 0) = false := by simpa using a2
              subst a2
              go_wp2_with fail
              rw [rounds_succ]
              go_wp2_with fail
              go_ret
              exact ⟨retB (by rw [HB.out]; unfold insR; simp []), hn⟩
            · have z2 : (g2 != 0) = true := by simpa using a2
              have HA2 := Lib.hid a2
              clear a2
              go_wp2_with fail
              rw [rounds_succ]
              go_wp2_with fail
              go_ret
              exact ⟨retB (by rw [HB.out]; unfold insR; simp [HA2.out]), hn⟩
        · have z1 : (g1 != 0) = true := by simpa using a1
          have HA1 := Lib.hid a1
          clear a1
          go_wp2_with fail
          rw [rounds_succ]
          go_upto_region 5 with fail
          go_cut [11, 12] (fun s8 s9 Z => ∃ b b' : Nat, s8 = .pointer (some ⟨b, 0, none⟩) ∧ s9 = .pointer (some ⟨b', 0, none⟩) ∧ New X2 Z ∧ Z.cell? ⟨b, 0, none⟩ = some (.int .i64 T.x2) ∧ Z.cell? ⟨b, 2, none⟩ = some (.int .i64 T.z2) ∧ Z.cell? ⟨b', 0, none⟩ = some (.int .i64 T.x0) ∧ Z.cell? ⟨b', 2, none⟩ = some (.int .i64 T.z0))
          case first =>
            go_region
            all_goals
              go_wp2_with fail
              go_meet
              exact ⟨_, _, rfl, rfl, by (repeat (first | (with_reducible exact New.refl _) | (with_reducible assumption) | ((with_reducible refine New.setB ?_ ?_ _); focus (first | omega | (simp; omega) | (simp; done))) | (with_reducible refine New.alloc ?_ _) | (with_reducible refine New.drew ?_) | (with_reducible refine New.drewN ?_ _) | (with_reducible refine New.hat ?_ _) | ((with_reducible apply New.snart); (with_reducible assumption)))), by go_simp, by go_simp, by go_simp, by go_simp⟩
          case rest =>
            obtain ⟨u2, v2, rfl, rfl, nZ, p0, p2, q0, q2⟩ := hcut
            replace hn := hn.trans nZ
            clear nZ
            rename World => X4
            go_wp2_with fail
            refine (K2.out _).mono ?_
            rintro e w' ⟨rfl, rfl⟩
            clear p0 p2 q0 q2 K2
            by_cases a2 : g2 = 0
            · have z2 : (g2 != 0) = false := by simpa using a2
              subst a2
              go_wp2_with fail
              rw [rounds_succ]
              go_wp2_with fail
              go_ret
              exact ⟨retB (by rw [HB.out]; unfold insR; simp [HA1.out]), hn⟩
            · have z2 : (g2 != 0) = true := by simpa using a2
              have HA2 := Lib.hid a2
              clear a2
              by_cases a3 : g2 = g1
              · have z3 : (g2 != g1) = false := by simpa using a3
                have HA3 := Lib.hid a3
                clear a3
                go_wp2_with fail
                rw [rounds_succ]
                go_wp2_with fail
                go_ret
                exact ⟨retB (by rw [HB.out]; unfold insR; simp [HA1.out, HA2.out, HA3.out]), hn⟩
              · have z3 : (g2 != g1) = true := by simpa using a3
                have HA3 := Lib.hid a3
                clear a3
                go_wp2_with fail
                go_ret
                exact ⟨retB (by rw [HB.out]; unfold insR; simp [HA1.out, HA2.out, HA3.out]), hn⟩
    · have z0 : (g0 != 0) = true := by simpa using a0
      have HA := Lib.hid (True.intro)
      have HA0 := Lib.hid a0
      clear a0
      go_wp2_with fail
      rw [rounds_succ]
      go_upto_region 5 with fail
      go_cut [11, 12] (fun s8 s9 Z => ∃ b b' : Nat, s8 = .pointer (some ⟨b, 0, none⟩) ∧ s9 = .pointer (some ⟨b', 0, none⟩) ∧ New X1 Z ∧ Z.cell? ⟨b, 0, none⟩ = some (.int .i64 T.x1) ∧ Z.cell? ⟨b, 2, none⟩ = some (.int .i64 T.z1) ∧ Z.cell? ⟨b', 0, none⟩ = some (.int .i64 T.x2) ∧ Z.cell? ⟨b', 2, none⟩ = some (.int .i64 T.z2))
      case first =>
        go_region
        all_goals
          go_wp2_with fail
          go_meet
          exact ⟨_, _, rfl, rfl, by (repeat (first | (with_reducible exact New.refl _) | (with_reducible assumption) | ((with_reducible refine New.setB ?_ ?_ _); focus (first | omega | (simp; omega) | (simp; done))) | (with_reducible refine New.alloc ?_ _) | (with_reducible refine New.drew ?_) | (with_reducible refine New.drewN ?_ _) | (with_reducible refine New.hat ?_ _) | ((with_reducible apply New.snart); (with_reducible assumption)))), by go_simp, by go_simp, by go_simp, by go_simp⟩
      case rest =>
        obtain ⟨u1, v1, rfl, rfl, nZ, p0, p2, q0, q2⟩ := hcut
        replace c0 := nZ.keep c0
        replace c1 := nZ.keep c1
        replace c2 := nZ.keep c2
        replace c3 := nZ.keep c3
        replace c4 := nZ.keep c4
        replace c5 := nZ.keep c5
        replace c6 := nZ.keep c6
        replace c7 := nZ.keep c7
        replace c8 := nZ.keep c8
        replace zz := World.block_lt_of_cell? _ _ c0
        simp only [] at zz
        replace hn := hn.trans nZ
        clear nZ
        rename World => X5
        go_wp2_with fail
        refine (K1.out _).mono ?_
        rintro e w' ⟨rfl, rfl⟩
        clear p0 p2 q0 q2 K1
        by_cases a1 : g1 = 0
        · have z1 : (g1 != 0) = false := by simpa using a1
          subst a1
          go_wp2_with fail
          rw [rounds_succ]
          go_upto_region 5 with fail
          go_cut [11, 12] (fun s8 s9 Z => ∃ b b' : Nat, s8 = .pointer (some ⟨b, 0, none⟩) ∧ s9 = .pointer (some ⟨b', 0, none⟩) ∧ New X5 Z ∧ Z.cell? ⟨b, 0, none⟩ = some (.int .i64 T.x2) ∧ Z.cell? ⟨b, 2, none⟩ = some (.int .i64 T.z2) ∧ Z.cell? ⟨b', 0, none⟩ = some (.int .i64 T.x0) ∧ Z.cell? ⟨b', 2, none⟩ = some (.int .i64 T.z0))
          case first =>
            go_region
            all_goals
              go_wp2_with fail
              go_meet
              exact ⟨_, _, rfl, rfl, by (repeat (first | (with_reducible exact New.refl _) | (with_reducible assumption) | ((with_reducible refine New.setB ?_ ?_ _); focus (first | omega | (simp; omega) | (simp; done))) | (with_reducible refine New.alloc ?_ _) | (with_reducible refine New.drew ?_) | (with_reducible refine New.drewN ?_ _) | (with_reducible refine New.hat ?_ _) | ((with_reducible apply New.snart); (with_reducible assumption)))), by go_simp, by go_simp, by go_simp, by go_simp⟩
          case rest =>
            obtain ⟨u2, v2, rfl, rfl, nZ, p0, p2, q0, q2⟩ := hcut
            replace hn := hn.trans nZ
            clear nZ
            rename World => X6
            go_wp2_with fail
            refine (K2.out _).mono ?_
            rintro e w' ⟨rfl, rfl⟩
            clear p0 p2 q0 q2 K2
            by_cases a2 : g2 = 0
            · have z2 : (g2 != 0) = false := by simpa using a2
              subst a2
              go_wp2_with fail
              rw [rounds_succ]
              go_wp2_with fail
              go_ret
              exact ⟨retB (by rw [HB.out]; unfold insR; simp [HA0.out]), hn⟩
            · have z2 : (g2 != 0) = true := by simpa using a2
              have HA2 := Lib.hid a2
              clear a2
              by_cases a3 : g2 = g0
              · have z3 : (g2 != g0) = false := by simpa using a3
                have HA3 := Lib.hid a3
                clear a3
                go_wp2_with fail
                rw [rounds_succ]
                go_wp2_with fail
                go_ret
                exact ⟨retB (by rw [HB.out]; unfold insR; simp [HA0.out, HA2.out, HA3.out]), hn⟩
              · have z3 : (g2 != g0) = true := by simpa using a3
                have HA3 := Lib.hid a3
                clear a3
                go_wp2_with fail
                go_ret
                exact ⟨retB (by rw [HB.out]; unfold insR; simp [HA0.out, HA2.out, HA3.out]), hn⟩
        · have z1 : (g1 != 0) = true := by simpa using a1
          have HA1 := Lib.hid a1
          clear a1
          by_cases a4 : g1 = g0
          · have z4 : (g1 != g0) = false := by simpa using a4
            have HA4 := Lib.hid a4
            clear a4
            go_wp2_with fail
            rw [rounds_succ]
            go_upto_region 5 with fail
            go_cut [11, 12] (fun s8 s9 Z => ∃ b b' : Nat, s8 = .pointer (some ⟨b, 0, none⟩) ∧ s9 = .pointer (some ⟨b', 0, none⟩) ∧ New X5 Z ∧ Z.cell? ⟨b, 0, none⟩ = some (.int .i64 T.x2) ∧ Z.cell? ⟨b, 2, none⟩ = some (.int .i64 T.z2) ∧ Z.cell? ⟨b', 0, none⟩ = some (.int .i64 T.x0) ∧ Z.cell? ⟨b', 2, none⟩ = some (.int .i64 T.z0))
            case first =>
              go_region
              all_goals
                go_wp2_with fail
                go_meet
                exact ⟨_, _, rfl, rfl, by (repeat (first | (with_reducible exact New.refl _) | (with_reducible assumption) | ((with_reducible refine New.setB ?_ ?_ _); focus (first | omega | (simp; omega) | (simp; done))) | (with_reducible refine New.alloc ?_ _) | (with_reducible refine New.drew ?_) | (with_reducible refine New.drewN ?_ _) | (with_reducible refine New.hat ?_ _) | ((with_reducible apply New.snart); (with_reducible assumption)))), by go_simp, by go_simp, by go_simp, by go_simp⟩
            case rest =>
              obtain ⟨u2, v2, rfl, rfl, nZ, p0, p2, q0, q2⟩ := hcut
              replace hn := hn.trans nZ
              clear nZ
              rename World => X7
              go_wp2_with fail
              refine (K2.out _).mono ?_
              rintro e w' ⟨rfl, rfl⟩
              clear p0 p2 q0 q2 K2
              by_cases a2 : g2 = 0
              · have z2 : (g2 != 0) = false := by simpa using a2
                subst a2
                go_wp2_with fail
                rw [rounds_succ]
                go_wp2_with fail
                go_ret
                exact ⟨retB (by rw [HB.out]; unfold insR; simp [HA0.out, HA1.out, HA4.out]), hn⟩
              · have z2 : (g2 != 0) = true := by simpa using a2
                have HA2 := Lib.hid a2
                clear a2
                by_cases a3 : g2 = g1
                · have z3 : (g2 != g1) = false := by simpa using a3
                  have HA3 := Lib.hid a3
                  clear a3
                  go_wp2_with fail
                  rw [rounds_succ]
                  go_wp2_with fail
                  go_ret
                  exact ⟨retB (by rw [HB.out]; unfold insR; simp [HA0.out, HA1.out, HA2.out, HA3.out, HA4.out]), hn⟩
                · have z3 : (g2 != g1) = true := by simpa using a3
                  have HA3 := Lib.hid a3
                  clear a3
                  go_wp2_with fail
                  go_ret
                  exact ⟨retB (by rw [HB.out]; unfold insR; simp [HA0.out, HA1.out, HA2.out, HA3.out, HA4.out]; intro e; exact HA3.out (e.trans HA4.out.symm)), hn⟩
          · have z4 : (g1 != g0) = true := by simpa using a4
            have HA4 := Lib.hid a4
            clear a4
            go_wp2_with fail
            go_ret
            exact ⟨retB (by rw [HB.out]; unfold insR; simp [HA0.out, HA1.out, HA4.out]), hn⟩

end Go.Proofs.Yteoongcajfcgcaa
