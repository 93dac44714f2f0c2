import Derived.Test.YtklopjbpfddgfaaGreatClHZ12
import Derived.Test.YtklopjbpfddgfaaGreatWholeHZ12
import Derived.Test.YtklopjbpfddgfaaGreatClKZ12
import Derived.Test.YtklopjbpfddgfaaGreatSoBZ12
import Derived.Deep.LoopGhost

/- Package clip: whether a triangle holds a lattice point; the point above it. -/
namespace Go.Proofs.YtklopjbpfddgfaaGreat
open Go.RowKit
set_option linter.unusedVariables false

theorem c_cross (a b c d : Int) (w : World) (ha : -1024 ≤ a ∧ a ≤ 1024) (hb : -1024 ≤ b ∧ b ≤ 1024) (hc : -1024 ≤ c ∧ c ≤ 1024) (hd : -1024 ≤ d ∧ d ≤ 1024) :
    Calls Tryz.prog 101 #[.int .i64 a, .int .i64 b, .int .i64 c, .int .i64 d] w fun e w' => e = .returned (.tuple #[.int .i64 (a * d - b * c), .int .i64 0]) ∧ w = w' := by
  have h : crossB a b c d = true := by
    unfold crossB
    rw [nearB_iff, nearB_iff, nearB_iff, nearB_iff]
    simp only [Bool.and_eq_true, decide_eq_true_eq]
    omega
  have := cross_any a b c d w
  unfold crossI at this
  rw [h] at this
  exact this

theorem insB_not {T : TriR} {px pz : Int} : insB T px pz = ((min 0 (min (s0 T px pz) (min (s1 T px pz) (s2 T px pz))) == 0) || (max 0 (max (s0 T px pz) (max (s1 T px pz) (s2 T px pz))) == 0)) := by
  rw [Bool.eq_iff_iff, insB_iff]
  simp only [Bool.or_eq_true, beq_iff_eq]
  omega

set_option maxHeartbeats 4000000 in
set_option maxRecDepth 100000 in
theorem k_inside (T : TriR) (px pz : Int) (w : World) (hs : StP 32 32 T.x0 T.y0 T.z0 T.x1 T.y1 T.z1 T.x2 T.y2 T.z2) (hx : -64 ≤ px ∧ px ≤ 64) (hz : -64 ≤ pz ∧ pz ≤ 64) :
    Calls Tryz.prog 140 #[.agg #[.int .i64 T.i, .int .i64 T.x0, .int .i64 T.y0, .int .i64 T.z0, .int .i64 T.x1, .int .i64 T.y1, .int .i64 T.z1, .int .i64 T.x2, .int .i64 T.y2, .int .i64 T.z2], .agg #[.int .i64 px, .int .i64 pz]] w fun e w' => e = .returned (.bool (insB T px pz)) ∧ New w w' := by
  unfold StP StV at hs
  obtain ⟨⟨⟨X0, X0'⟩, ⟨Z0, Z0'⟩, -⟩, ⟨⟨X1, X1'⟩, ⟨Z1, Z1'⟩, -⟩, ⟨⟨X2, X2'⟩, ⟨Z2, Z2'⟩, -⟩⟩ := hs
  have K0 : ∀ W, Calls Tryz.prog 101 #[.int .i64 (T.x1 - T.x0), .int .i64 (T.z1 - T.z0), .int .i64 (px - T.x0), .int .i64 (pz - T.z0)] W fun e w' => e = .returned (.tuple #[.int .i64 (s0 T px pz), .int .i64 0]) ∧ W = w' := fun W => c_cross _ _ _ _ W (by omega) (by omega) (by omega) (by omega)
  have K1 : ∀ W, Calls Tryz.prog 101 #[.int .i64 (T.x2 - T.x1), .int .i64 (T.z2 - T.z1), .int .i64 (px - T.x1), .int .i64 (pz - T.z1)] W fun e w' => e = .returned (.tuple #[.int .i64 (s1 T px pz), .int .i64 0]) ∧ W = w' := fun W => c_cross _ _ _ _ W (by omega) (by omega) (by omega) (by omega)
  have K2 : ∀ W, Calls Tryz.prog 101 #[.int .i64 (T.x0 - T.x2), .int .i64 (T.z0 - T.z2), .int .i64 (px - T.x2), .int .i64 (pz - T.z2)] W fun e w' => e = .returned (.tuple #[.int .i64 (s2 T px pz), .int .i64 0]) ∧ W = w' := fun W => c_cross _ _ _ _ W (by omega) (by omega) (by omega) (by omega)
  have HB := Lib.hid (insB_not (T := T) (px := px) (pz := pz))
  generalize s0 T px pz = k0 at *
  generalize s1 T px pz = k1 at *
  generalize s2 T px pz = k2 at *
  generalize insB T px pz = r at *
  replace K0 := Lib.hid K0
  replace K1 := Lib.hid K1
  replace K2 := Lib.hid K2
  go_enter Tryz.func140, Tryz.ntmps140
  go_wp2_with fail
  refine Code.at (fun W0 hW => ?_)
  have hn : New w W0 := by subst hW; (repeat (first | (with_reducible exact New.refl _) | (with_reducible assumption) | ((with_reducible refine New.setB ?_ ?_ _); focus (first | omega | (simp; omega) | (simp; done))) | (with_reducible refine New.alloc ?_ _) | (with_reducible refine New.drew ?_) | (with_reducible refine New.drewN ?_ _) | (with_reducible refine New.hat ?_ _) | ((with_reducible apply New.snart); (with_reducible assumption))))
  have c1 : W0.cell? ⟨w.heap.size, 1, none⟩ = some (.int .i64 T.x0) := by subst hW; go_simp
  have c2 : W0.cell? ⟨w.heap.size, 2, none⟩ = some (.int .i64 T.y0) := by subst hW; go_simp
  have c3 : W0.cell? ⟨w.heap.size, 3, none⟩ = some (.int .i64 T.z0) := by subst hW; go_simp
  have c4 : W0.cell? ⟨w.heap.size, 4, none⟩ = some (.int .i64 T.x1) := by subst hW; go_simp
  have c5 : W0.cell? ⟨w.heap.size, 5, none⟩ = some (.int .i64 T.y1) := by subst hW; go_simp
  have c6 : W0.cell? ⟨w.heap.size, 6, none⟩ = some (.int .i64 T.z1) := by subst hW; go_simp
  have c7 : W0.cell? ⟨w.heap.size, 7, none⟩ = some (.int .i64 T.x2) := by subst hW; go_simp
  have c8 : W0.cell? ⟨w.heap.size, 8, none⟩ = some (.int .i64 T.y2) := by subst hW; go_simp
  have c9 : W0.cell? ⟨w.heap.size, 9, none⟩ = some (.int .i64 T.z2) := by subst hW; go_simp
  have b0 : W0.cell? ⟨w.heap.size + 1, 0, none⟩ = some (.int .i64 px) := by subst hW; go_simp
  have b1 : W0.cell? ⟨w.heap.size + 1, 1, none⟩ = some (.int .i64 pz) := by subst hW; go_simp
  clear hW
  have zz := World.block_lt_of_cell? _ _ c1
  simp only [] at zz
  refine wp_loop_rounds 4 ?_
  rw [rounds_succ]
  go_upto_region 5 with fail
  go_cut [8, 9] (fun s8 s9 Z => ∃ b b' : Nat, s8 = .pointer (some ⟨b, 0, none⟩) ∧ s9 = .pointer (some ⟨b', 0, none⟩) ∧ New W0 Z ∧ Z.cell? ⟨b, 0, none⟩ = some (.int .i64 T.x0) ∧ Z.cell? ⟨b, 2, none⟩ = some (.int .i64 T.z0) ∧ Z.cell? ⟨b', 0, none⟩ = some (.int .i64 T.x1) ∧ Z.cell? ⟨b', 2, none⟩ = some (.int .i64 T.z1))
  case first =>
    go_region
    all_goals
      go_wp2_with fail
      go_meet
      exact ⟨_, _, rfl, rfl, by (repeat (first | (with_reducible exact New.refl _) | (with_reducible assumption) | ((with_reducible refine New.setB ?_ ?_ _); focus (first | omega | (simp; omega) | (simp; done))) | (with_reducible refine New.alloc ?_ _) | (with_reducible refine New.drew ?_) | (with_reducible refine New.drewN ?_ _) | (with_reducible refine New.hat ?_ _) | ((with_reducible apply New.snart); (with_reducible assumption)))), by go_simp, by go_simp, by go_simp, by go_simp⟩
  case rest =>
    obtain ⟨u0, v0, rfl, rfl, nZ, p0, p2, q0, q2⟩ := hcut
    replace c1 := nZ.keep c1
    replace c2 := nZ.keep c2
    replace c3 := nZ.keep c3
    replace c4 := nZ.keep c4
    replace c5 := nZ.keep c5
    replace c6 := nZ.keep c6
    replace c7 := nZ.keep c7
    replace c8 := nZ.keep c8
    replace c9 := nZ.keep c9
    replace zz := World.block_lt_of_cell? _ _ c1
    simp only [] at zz
    replace b0 := nZ.keep b0
    replace b1 := nZ.keep b1
    replace hn := hn.trans nZ
    clear nZ
    rename World => W1
    go_wp2_with fail
    refine (K0.out _).mono ?_
    rintro e w' ⟨rfl, rfl⟩
    clear p0 p2 q0 q2 K0
    go_wp2_with fail
    rw [rounds_succ]
    go_upto_region 5 with fail
    go_cut [8, 9] (fun s8 s9 Z => ∃ b b' : Nat, s8 = .pointer (some ⟨b, 0, none⟩) ∧ s9 = .pointer (some ⟨b', 0, none⟩) ∧ New W1 Z ∧ Z.cell? ⟨b, 0, none⟩ = some (.int .i64 T.x1) ∧ Z.cell? ⟨b, 2, none⟩ = some (.int .i64 T.z1) ∧ Z.cell? ⟨b', 0, none⟩ = some (.int .i64 T.x2) ∧ Z.cell? ⟨b', 2, none⟩ = some (.int .i64 T.z2))
    case first =>
      go_region
      all_goals
        go_wp2_with fail
        go_meet
        exact ⟨_, _, rfl, rfl, by (repeat (first | (with_reducible exact New.refl _) | (with_reducible assumption) | ((with_reducible refine New.setB ?_ ?_ _); focus (first | omega | (simp; omega) | (simp; done))) | (with_reducible refine New.alloc ?_ _) | (with_reducible refine New.drew ?_) | (with_reducible refine New.drewN ?_ _) | (with_reducible refine New.hat ?_ _) | ((with_reducible apply New.snart); (with_reducible assumption)))), by go_simp, by go_simp, by go_simp, by go_simp⟩
    case rest =>
      obtain ⟨u1, v1, rfl, rfl, nZ, p0, p2, q0, q2⟩ := hcut
      replace c1 := nZ.keep c1
      replace c2 := nZ.keep c2
      replace c3 := nZ.keep c3
      replace c4 := nZ.keep c4
      replace c5 := nZ.keep c5
      replace c6 := nZ.keep c6
      replace c7 := nZ.keep c7
      replace c8 := nZ.keep c8
      replace c9 := nZ.keep c9
      replace zz := World.block_lt_of_cell? _ _ c1
      simp only [] at zz
      replace b0 := nZ.keep b0
      replace b1 := nZ.keep b1
      replace hn := hn.trans nZ
      clear nZ
      rename World => W2
      go_wp2_with fail
      refine (K1.out _).mono ?_
      rintro e w' ⟨rfl, rfl⟩
      clear p0 p2 q0 q2 K1
      go_wp2_with fail
      rw [rounds_succ]
      go_upto_region 5 with fail
      go_cut [8, 9] (fun s8 s9 Z => ∃ b b' : Nat, s8 = .pointer (some ⟨b, 0, none⟩) ∧ s9 = .pointer (some ⟨b', 0, none⟩) ∧ New W2 Z ∧ Z.cell? ⟨b, 0, none⟩ = some (.int .i64 T.x2) ∧ Z.cell? ⟨b, 2, none⟩ = some (.int .i64 T.z2) ∧ Z.cell? ⟨b', 0, none⟩ = some (.int .i64 T.x0) ∧ Z.cell? ⟨b', 2, none⟩ = some (.int .i64 T.z0))
      case first =>
        go_region
        all_goals
          go_wp2_with fail
          go_meet
          exact ⟨_, _, rfl, rfl, by (repeat (first | (with_reducible exact New.refl _) | (with_reducible assumption) | ((with_reducible refine New.setB ?_ ?_ _); focus (first | omega | (simp; omega) | (simp; done))) | (with_reducible refine New.alloc ?_ _) | (with_reducible refine New.drew ?_) | (with_reducible refine New.drewN ?_ _) | (with_reducible refine New.hat ?_ _) | ((with_reducible apply New.snart); (with_reducible assumption)))), by go_simp, by go_simp, by go_simp, by go_simp⟩
      case rest =>
        obtain ⟨u2, v2, rfl, rfl, nZ, p0, p2, q0, q2⟩ := hcut
        replace b0 := nZ.keep b0
        replace b1 := nZ.keep b1
        replace hn := hn.trans nZ
        clear nZ
        rename World => W3
        go_wp2_with fail
        refine (K2.out _).mono ?_
        rintro e w' ⟨rfl, rfl⟩
        clear p0 p2 q0 q2 K2
        go_wp2_with fail
        rw [rounds_succ]
        go_wp2_with fail
        all_goals
          go_ret
          refine ⟨retB ?_, hn⟩
          first | exact HB.out.symm | (rw [HB.out]; symm; simp only [Bool.or_eq_true, beq_iff_eq]; omega) | (rw [HB.out]; symm; simp only [Bool.or_eq_false_iff, beq_eq_false_iff_ne]; omega)

set_option maxHeartbeats 4000000 in
set_option maxRecDepth 100000 in
theorem k_above (T : TriR) (hk : okT T = true) (px pz : Int) (w : World) (hx : -64 ≤ px ∧ px ≤ 64) (hz : -64 ≤ pz ∧ pz ≤ 64) (r : Option Co) (hr : aboveO T (px, pz) = r) :
    Calls Tryz.prog 128 #[.agg #[.int .i64 T.i, .int .i64 T.x0, .int .i64 T.y0, .int .i64 T.z0, .int .i64 T.x1, .int .i64 T.y1, .int .i64 T.z1, .int .i64 T.x2, .int .i64 T.y2, .int .i64 T.z2], .agg #[.int .i64 px, .int .i64 pz]] w fun e w' => e = .returned (.tuple #[.agg #[.int .i64 (r.elim 0 Co.x), .int .i64 (r.elim 0 Co.z), .int .i64 (r.elim 0 Co.y), .int .i64 (r.elim 0 Co.d)], .bool r.isSome]) ∧ New w w' := by
  have KI := fun W => k_inside T px pz W (ok_in hk) hx hz
  have KH := fun W => t_height T.i T.x0 T.y0 T.z0 T.x1 T.y1 T.z1 T.x2 T.y2 T.z2 px pz W
  rw [(hT_ok hk hx hz).2.2] at KH
  have hb := abC_bd hk hx hz
  change ∀ W, Calls Tryz.prog 141 _ W fun e w' => e = .returned (.tuple #[.int .i64 (hnT T px pz), .int .i64 (hdT T px pz), .int .i64 0]) ∧ New W w' at KH
  unfold aboveO at hr
  simp only [abC] at hr
  generalize hnT T px pz = hn' at *
  generalize hdT T px pz = hd' at *
  have m1 := mul_bd (a := px) (b := hd') (A := 64) (B := 2048) hx (by omega)
  have m2 := mul_bd (a := pz) (b := hd') (A := 64) (B := 2048) hz (by omega)
  replace KH := Lib.hid KH
  cases hi : insB T px pz
  · rw [hi] at KI hr
    have e : r = none := by rw [← hr]; rfl
    subst e
    simp only [Option.elim_none, Option.isSome_none]
    replace KI := Lib.hid KI
    clear hr hi KH
    go_enter Tryz.func128, Tryz.ntmps128
    go_wp2_with fail
    refine (KI.out _).mono ?_
    rintro e W1 ⟨rfl, n1⟩
    have fz : W1.cell? ⟨w.heap.size + 1 + 1, 0, none⟩ = some (.int .i64 0) := n1.keep (by go_simp)
    have f0 : ∀ o, o < 4 → W1.frozen? ⟨w.heap.size + 1 + 1, o, none⟩ = false ∧ W1.cell? ⟨w.heap.size + 1 + 1, o, none⟩ = some (.int .i64 0) := fun o ho => by
      match o, ho with
      | 0, _ => exact ⟨n1.keepF (v := .int .i64 0) (by go_simp) (by go_simp), n1.keep (by go_simp)⟩
      | 1, _ => exact ⟨n1.keepF (v := .int .i64 0) (by go_simp) (by go_simp), n1.keep (by go_simp)⟩
      | 2, _ => exact ⟨n1.keepF (v := .int .i64 0) (by go_simp) (by go_simp), n1.keep (by go_simp)⟩
      | 3, _ => exact ⟨n1.keepF (v := .int .i64 0) (by go_simp) (by go_simp), n1.keep (by go_simp)⟩
    obtain ⟨g0, c0⟩ := f0 0 (by omega)
    obtain ⟨g1, c1⟩ := f0 1 (by omega)
    obtain ⟨g2, c2⟩ := f0 2 (by omega)
    obtain ⟨g3, c3⟩ := f0 3 (by omega)
    have hn : New w W1 := New.trans (by (repeat (first | (with_reducible exact New.refl _) | (with_reducible assumption) | ((with_reducible refine New.setB ?_ ?_ _); focus (first | omega | (simp; omega) | (simp; done))) | (with_reducible refine New.alloc ?_ _) | (with_reducible refine New.drew ?_) | (with_reducible refine New.drewN ?_ _) | (with_reducible refine New.hat ?_ _) | ((with_reducible apply New.snart); (with_reducible assumption))))) n1
    clear f0 fz n1
    go_wp2_with fail
    refine bodyPost_ret (v := .tuple #[.agg #[.int .i64 0, .int .i64 0, .int .i64 0, .int .i64 0], .bool false]) (by simp [results, Tryz.results128, go_sem, *]) rfl ?_
    exact ⟨rfl, by (repeat (first | (with_reducible exact New.refl _) | (with_reducible assumption) | ((with_reducible refine New.setB ?_ ?_ _); focus (first | omega | (simp; omega) | (simp; done))) | (with_reducible refine New.alloc ?_ _) | (with_reducible refine New.drew ?_) | (with_reducible refine New.drewN ?_ _) | (with_reducible refine New.hat ?_ _) | ((with_reducible apply New.snart); (with_reducible assumption))))⟩
  · rw [hi] at KI hr
    have e : r = some ⟨px * hd', pz * hd', hn', hd'⟩ := by rw [← hr]; rfl
    subst e
    simp only [Option.elim_some, Option.isSome_some]
    replace KI := Lib.hid KI
    clear hr hi
    go_enter Tryz.func128, Tryz.ntmps128
    go_wp2_with fail
    refine (KI.out _).mono ?_
    rintro e W1 ⟨rfl, n1⟩
    have c0 : W1.cell? ⟨w.heap.size, 0, none⟩ = some (.int .i64 T.i) := n1.keep (by go_simp)
    have c1 : W1.cell? ⟨w.heap.size, 1, none⟩ = some (.int .i64 T.x0) := n1.keep (by go_simp)
    have c2 : W1.cell? ⟨w.heap.size, 2, none⟩ = some (.int .i64 T.y0) := n1.keep (by go_simp)
    have c3 : W1.cell? ⟨w.heap.size, 3, none⟩ = some (.int .i64 T.z0) := n1.keep (by go_simp)
    have c4 : W1.cell? ⟨w.heap.size, 4, none⟩ = some (.int .i64 T.x1) := n1.keep (by go_simp)
    have c5 : W1.cell? ⟨w.heap.size, 5, none⟩ = some (.int .i64 T.y1) := n1.keep (by go_simp)
    have c6 : W1.cell? ⟨w.heap.size, 6, none⟩ = some (.int .i64 T.z1) := n1.keep (by go_simp)
    have c7 : W1.cell? ⟨w.heap.size, 7, none⟩ = some (.int .i64 T.x2) := n1.keep (by go_simp)
    have c8 : W1.cell? ⟨w.heap.size, 8, none⟩ = some (.int .i64 T.y2) := n1.keep (by go_simp)
    have c9 : W1.cell? ⟨w.heap.size, 9, none⟩ = some (.int .i64 T.z2) := n1.keep (by go_simp)
    have b0 : W1.cell? ⟨w.heap.size + 1, 0, none⟩ = some (.int .i64 px) := n1.keep (by go_simp)
    have b1 : W1.cell? ⟨w.heap.size + 1, 1, none⟩ = some (.int .i64 pz) := n1.keep (by go_simp)
    have f0 : W1.frozen? ⟨w.heap.size + 1 + 1, 0, none⟩ = false := n1.keepF (v := .int .i64 0) (by go_simp) (by go_simp)
    have e0 : W1.cell? ⟨w.heap.size + 1 + 1, 0, none⟩ = some (.int .i64 0) := n1.keep (by go_simp)
    have f1 : W1.frozen? ⟨w.heap.size + 1 + 1, 1, none⟩ = false := n1.keepF (v := .int .i64 0) (by go_simp) (by go_simp)
    have e1 : W1.cell? ⟨w.heap.size + 1 + 1, 1, none⟩ = some (.int .i64 0) := n1.keep (by go_simp)
    have f2 : W1.frozen? ⟨w.heap.size + 1 + 1, 2, none⟩ = false := n1.keepF (v := .int .i64 0) (by go_simp) (by go_simp)
    have e2 : W1.cell? ⟨w.heap.size + 1 + 1, 2, none⟩ = some (.int .i64 0) := n1.keep (by go_simp)
    have f3 : W1.frozen? ⟨w.heap.size + 1 + 1, 3, none⟩ = false := n1.keepF (v := .int .i64 0) (by go_simp) (by go_simp)
    have e3 : W1.cell? ⟨w.heap.size + 1 + 1, 3, none⟩ = some (.int .i64 0) := n1.keep (by go_simp)
    have hn : New w W1 := New.trans (by (repeat (first | (with_reducible exact New.refl _) | (with_reducible assumption) | ((with_reducible refine New.setB ?_ ?_ _); focus (first | omega | (simp; omega) | (simp; done))) | (with_reducible refine New.alloc ?_ _) | (with_reducible refine New.drew ?_) | (with_reducible refine New.drewN ?_ _) | (with_reducible refine New.hat ?_ _) | ((with_reducible apply New.snart); (with_reducible assumption))))) n1
    clear n1
    go_wp2_with fail
    refine (KH.out _).mono ?_
    rintro e W2 ⟨rfl, n2⟩
    replace b0 := n2.keep b0
    replace b1 := n2.keep b1
    replace f0 := n2.keepF e0 f0
    replace e0 := n2.keep e0
    replace f1 := n2.keepF e1 f1
    replace e1 := n2.keep e1
    replace f2 := n2.keepF e2 f2
    replace e2 := n2.keep e2
    replace f3 := n2.keepF e3 f3
    replace e3 := n2.keep e3
    replace hn := hn.trans n2
    clear n2 c0 c1 c2 c3 c4 c5 c6 c7 c8 c9
    go_wp2_with fail
    refine bodyPost_ret (v := .tuple #[.agg #[.int .i64 (px * hd'), .int .i64 (pz * hd'), .int .i64 hn', .int .i64 hd'], .bool true]) (by simp [results, Tryz.results128, go_sem, *]) rfl ?_
    exact ⟨rfl, by (repeat (first | (with_reducible exact New.refl _) | (with_reducible assumption) | ((with_reducible refine New.setB ?_ ?_ _); focus (first | omega | (simp; omega) | (simp; done))) | (with_reducible refine New.alloc ?_ _) | (with_reducible refine New.drew ?_) | (with_reducible refine New.drewN ?_ _) | (with_reducible refine New.hat ?_ _) | ((with_reducible apply New.snart); (with_reducible assumption))))⟩

end Go.Proofs.YtklopjbpfddgfaaGreat

/- Package clip: worlds in which rows of corners alone may have changed. -/
namespace Go.Proofs.YtklopjbpfddgfaaGreat
open Go.RowKit
set_option linter.unusedVariables false

/-- All blocks that are no corners stay. -/
structure Ex (w w' : World) : Prop where
  os : w'.os = w.os
  tape : w'.tape = w.tape
  output : w'.output = w.output
  size : w.heap.size ≤ w'.heap.size
  block : ∀ k, k < w.heap.size → (∀ cs fr, w.heap[k]? ≠ some (.cells cs 117 fr)) → w'.heap[k]? = w.heap[k]?
theorem Ex.refl (w : World) : Ex w w := ⟨rfl, rfl, rfl, Nat.le_refl _, fun _ _ _ => rfl⟩
theorem Ex.trans {a b c : World} (h : Ex a b) (k : Ex b c) : Ex a c :=
  ⟨k.os.trans h.os, k.tape.trans h.tape, k.output.trans h.output, Nat.le_trans h.size k.size, fun i hi hn => by
    have e := h.block i hi hn
    rw [k.block i (Nat.lt_of_lt_of_le hi h.size) (fun cs fr => by rw [e]; exact hn cs fr), e]⟩
theorem Ex.of_new {a b : World} (h : New a b) : Ex a b := ⟨h.os, h.tape, h.output, h.size, fun k hk _ => h.block k hk⟩
theorem Ex.new {a b c : World} (h : Ex a b) (k : New b c) : Ex a c := h.trans (Ex.of_new k)
/-- The block is of this type. -/
def Typ (w : World) (b : Nat) (t : TypeId) : Prop := ∃ cs fr, w.heap[b]? = some (.cells cs t fr)
theorem Typ.lt {w : World} {b : Nat} {t : TypeId} (h : Typ w b t) : b < w.heap.size := by
  obtain ⟨cs, fr, h⟩ := h
  rcases Nat.lt_or_ge b w.heap.size with q | q
  · exact q
  · rw [Array.getElem?_eq_none q] at h; cases h
theorem Typ.not {w : World} {b : Nat} {t : TypeId} (h : Typ w b t) (ht : t ≠ 117) : ∀ cs fr, w.heap[b]? ≠ some (.cells cs 117 fr) := by
  obtain ⟨cs, fr, h⟩ := h
  intro cs' fr' e
  rw [h] at e
  injection e with e
  injection e with _ e _
  exact ht e
theorem Ex.heap {w w' : World} (h : Ex w w') {b : Nat} {t : TypeId} (hb : Typ w b t) (ht : t ≠ 117) : w'.heap[b]? = w.heap[b]? := h.block b hb.lt (hb.not ht)
theorem Ex.typ {w w' : World} (h : Ex w w') {b : Nat} {t : TypeId} (hb : Typ w b t) (ht : t ≠ 117) : Typ w' b t := by
  have e := h.heap hb ht
  obtain ⟨cs, fr, k⟩ := hb
  exact ⟨cs, fr, e.trans k⟩
theorem Ex.cell {w w' : World} (h : Ex w w') {b o : Nat} {t : TypeId} {v : Value} (hb : Typ w b t) (ht : t ≠ 117) (hc : w.cell? ⟨b, o, none⟩ = some v) : w'.cell? ⟨b, o, none⟩ = some v := cell_block (h.heap hb ht) hc
theorem Typ.keep {w w' : World} {b : Nat} {t : TypeId} (h : Typ w b t) (n : New w w') : Typ w' b t := by
  have hl := h.lt
  obtain ⟨cs, fr, k⟩ := h
  exact ⟨cs, fr, (n.block b hl).trans k⟩
theorem Typ.made (w : World) (cs : Array Value) (t : TypeId) : Typ (w.alloc (.cells cs t)) w.heap.size t := ⟨_, _, heap_new w (.cells cs t)⟩
theorem Ex.rows {α : Type} {enc : α → List Value} {k : Nat} {w w' : World} (h : Ex w w') {b off : Nat} {l : List α} {t : TypeId} (hb : Typ w b t) (ht : t ≠ 117) (hr : RowAt enc k w b off l) : RowAt enc k w' b off l :=
  fun j hj i hi => h.cell hb ht (hr j hj i hi)

/-- What the grown row leaves. -/
theorem Ex.grown {w w' : World} {base : Nat} {v : Value} {n : Nat} {xs : List Value} (hown : w.ownsRow base 117 4 v n xs) (hg : w.grownBy w' v.ownBlock) : Ex w w' :=
  ⟨hg.os, hg.tape, hg.output, hg.size, fun k hk hn => hg.block k hk fun e => by
    rcases hown.2 with ⟨rfl, _⟩ | ⟨g, cap, cur, rfl, _, hh, _⟩
    · cases e
    · simp only [Value.ownBlock, Option.some.injEq] at e
      subst e
      exact hn _ _ hh⟩

/-- Worlds with no older block than base changed. -/
def Past (w : World) (base : Nat) (w' : World) : Prop := ∀ a, New a w → a.heap.size ≤ base → New a w'
theorem Past.refl (w : World) (base : Nat) : Past w base w := fun _ h _ => h
theorem Past.trans {a b c : World} {base : Nat} (h : Past a base b) (k : Past b base c) : Past a base c := fun x hx hg => k x (h x hx hg) hg
theorem Past.new {a b c : World} {base : Nat} (h : Past a base b) (k : New b c) : Past a base c := fun x hx hg => (h x hx hg).trans k
theorem Past.grown {w w' : World} {base : Nat} {v : Value} {n : Nat} {xs : List Value} (hown : w.ownsRow base 117 4 v n xs) (hg : w.grownBy w' v.ownBlock) : Past w base w' :=
  fun a hn hb => newGrown hn hg (fun j hj => Nat.le_trans hb (own_block hown j hj))

theorem co_info : (Tryz.prog.info? 117).map (fun i => (i.zero, i.size, i.bytes)) = some (some (.agg #[.int .i64 0, .int .i64 0, .int .i64 0, .int .i64 0]), 4, 32) := by kernel_rfl

theorem co_new (w : World) (c : Co) (t : TypeId) : ∀ j u, c.enc[j]? = some u → (w.alloc (.cells #[.int .i64 c.x, .int .i64 c.z, .int .i64 c.y, .int .i64 c.d] t)).cell? ((⟨w.heap.size, 0, none⟩ : Addr).add j) = some u := by
  intro j u hu
  have hh := heap_new w (.cells #[.int .i64 c.x, .int .i64 c.z, .int .i64 c.y, .int .i64 c.d] t)
  rw [Addr.add_lit, Nat.zero_add]
  refine cell_of_heap hh ?_
  rw [← Array.getElem?_toList]
  exact hu

/-- The whole of what a round of gathering keeps. -/
structure Gat (w0 : World) (base : Nat) (wr : World) (v : Value) (l : List Co) : Prop where
  ex : Ex w0 wr
  past : Past w0 base wr
  own : wr.ownsRow base 117 4 v l.length (l.flatMap Co.enc)
theorem Gat.new {w0 wr wr' : World} {base : Nat} {v : Value} {l : List Co} (h : Gat w0 base wr v l) (n : New wr wr') : Gat w0 base wr' v l :=
  ⟨h.ex.new n, h.past.new n, own_new h.own n⟩
theorem Gat.more {w0 wr wr' : World} {base : Nat} {v v' : Value} {l : List Co} {c : Co} (h : Gat w0 base wr v l) (ho : wr'.ownsRow base 117 4 v' (l.length + 1) (l.flatMap Co.enc ++ c.enc)) (hg : wr.grownBy wr' v.ownBlock) : Gat w0 base wr' v' (l ++ [c]) :=
  ⟨h.ex.trans (Ex.grown h.own hg), h.past.trans (Past.grown h.own hg), by rw [List.length_append, List.flatMap_append]; simpa using ho⟩

end Go.Proofs.YtklopjbpfddgfaaGreat
