import Derived.Test.YteoongcajfcgcaaClTZ7

/- Package clip: the law of flat, turned and lifted triangles. -/
namespace Go.Proofs.Yteoongcajfcgcaa
open Go.RowKit
set_option linter.unusedVariables false

set_option maxHeartbeats 8000000 in
set_option maxRecDepth 100000 in
theorem l_flat (T : TriR) (x z u : Int) (w : World) :
    Calls Try.prog 5 #[.agg #[.int .i64 T.i, .int .i64 T.x0, .int .i64 T.y0, .int .i64 T.z0, .int .i64 T.x1, .int .i64 T.y1, .int .i64 T.z1, .int .i64 T.x2, .int .i64 T.y2, .int .i64 T.z2], .int .i64 x, .int .i64 z, .int .i64 u] w fun e w' => e = .returned (.bool true) ∧ New w w' := by
  have KW := Lib.hid (fun W => k_wakes W)
  have KM := fun W => u_mayTri 32 32 (by omega) (by omega) T W
  rw [may_ok] at KM
  cases hk : okT T
  · rw [hk] at KM
    replace KM := Lib.hid KM
    clear hk
    go_enter Try.func5, Try.ntmps5
    go_wp2_with fail
    refine (KM.out _).mono ?_
    rintro e W1 ⟨rfl, n1⟩
    have hn : New w W1 := New.trans (by (repeat (first | (with_reducible exact New.refl _) | (with_reducible assumption) | ((with_reducible refine New.setB ?_ ?_ _); focus (first | omega | (simp; omega) | (simp; done))) | (with_reducible refine New.alloc ?_ _) | (with_reducible refine New.drew ?_) | (with_reducible refine New.drewN ?_ _) | (with_reducible refine New.hat ?_ _) | ((with_reducible apply New.snart); (with_reducible assumption))))) n1
    clear n1 KM
    go_wp2_with fail
    refine (KW.out _).mono ?_
    rintro e W3 ⟨rfl, n2⟩
    go_wp2_with fail
    go_ret
    exact ⟨rfl, hn.trans n2⟩
  rw [hk] at KM
  replace KM := Lib.hid KM
  by_cases hr : -2048 ≤ u ∧ u ≤ 2048
  rotate_left
  · have t : decide (u < -2048) = true ∨ (decide (u < -2048) = false ∧ decide (2048 < u) = true) := by
      by_cases q : u < -2048
      · left; exact decide_eq_true q
      · right; exact ⟨decide_eq_false q, decide_eq_true (by omega)⟩
    clear hk hr
    rcases t with t1 | ⟨t1, t2⟩
    · go_enter Try.func5, Try.ntmps5
      go_wp2_with fail
      refine (KM.out _).mono ?_
      rintro e W1 ⟨rfl, n1⟩
      have hn : New w W1 := New.trans (by (repeat (first | (with_reducible exact New.refl _) | (with_reducible assumption) | ((with_reducible refine New.setB ?_ ?_ _); focus (first | omega | (simp; omega) | (simp; done))) | (with_reducible refine New.alloc ?_ _) | (with_reducible refine New.drew ?_) | (with_reducible refine New.drewN ?_ _) | (with_reducible refine New.hat ?_ _) | ((with_reducible apply New.snart); (with_reducible assumption))))) n1
      clear n1 KM
      go_wp2_with fail
      refine (KW.out _).mono ?_
      rintro e W3 ⟨rfl, n2⟩
      go_wp2_with fail
      go_ret
      exact ⟨rfl, hn.trans n2⟩
    · go_enter Try.func5, Try.ntmps5
      go_wp2_with fail
      refine (KM.out _).mono ?_
      rintro e W1 ⟨rfl, n1⟩
      have hn : New w W1 := New.trans (by (repeat (first | (with_reducible exact New.refl _) | (with_reducible assumption) | ((with_reducible refine New.setB ?_ ?_ _); focus (first | omega | (simp; omega) | (simp; done))) | (with_reducible refine New.alloc ?_ _) | (with_reducible refine New.drew ?_) | (with_reducible refine New.drewN ?_ _) | (with_reducible refine New.hat ?_ _) | ((with_reducible apply New.snart); (with_reducible assumption))))) n1
      clear n1 KM
      go_wp2_with fail
      refine (KW.out _).mono ?_
      rintro e W3 ⟨rfl, n2⟩
      go_wp2_with fail
      go_ret
      exact ⟨rfl, hn.trans n2⟩
  have t1 : decide (u < -2048) = false := decide_eq_false (by omega)
  have t2 : decide (2048 < u) = false := decide_eq_false (by omega)
  obtain ⟨y0, y1, y2⟩ := ok_y hk
  have KO := Lib.hid (fun W => k_over T x z W)
  have KR : Hid (∀ W, Calls Try.prog 7 #[.agg #[.int .i64 1, .int .i64 T.x1, .int .i64 T.y1, .int .i64 T.z1, .int .i64 T.x2, .int .i64 T.y2, .int .i64 T.z2, .int .i64 T.x0, .int .i64 T.y0, .int .i64 T.z0], .int .i64 x, .int .i64 z] W fun e w' => e = .returned (.tuple #[.int .i64 (ovLo T x z), .int .i64 (ovHi T x z), .bool (ovB T x z), .int .i64 (corE T x z)]) ∧ New W w') := Lib.hid (fun W => by
    have k := k_over (rotT T) x z W
    obtain ⟨e1, e2, e3, e4⟩ := rot_ov (T := T) x z
    rw [e1, e2, e3, e4] at k
    exact k)
  have KU : Hid (-2048 ≤ T.y0 + u ∧ T.y0 + u ≤ 2048 → -2048 ≤ T.y1 + u ∧ T.y1 + u ≤ 2048 → -2048 ≤ T.y2 + u ∧ T.y2 + u ≤ 2048 → ∃ lo2 hi2 : Int, (∀ W, Calls Try.prog 7 #[.agg #[.int .i64 T.i, .int .i64 T.x0, .int .i64 (T.y0 + u), .int .i64 T.z0, .int .i64 T.x1, .int .i64 (T.y1 + u), .int .i64 T.z1, .int .i64 T.x2, .int .i64 (T.y2 + u), .int .i64 T.z2], .int .i64 x, .int .i64 z] W fun e w' => e = .returned (.tuple #[.int .i64 lo2, .int .i64 hi2, .bool (ovB T x z), .int .i64 (corE T x z)]) ∧ New W w') ∧ (ovB T x z = true → lo2 = ovLo T x z + u ∧ hi2 = ovHi T x z + u)) := Lib.hid (fun h0 h1 h2 => by
    obtain ⟨e1, e2, e3⟩ := up_ov (u := u) hk (up_ok hk h0 h1 h2) x z
    refine ⟨_, _, fun W => ?_, e3⟩
    have k := k_over (upT T u) x z W
    rw [e1, e2] at k
    exact k)
  have HF := Lib.hid (fun h h1 h2 => ov_flat (T := T) (x := x) (z := z) h h1 h2)
  have hbd := ov_bd T x z
  generalize ovLo T x z = lo at *
  generalize ovHi T x z = hi at *
  generalize ovB T x z = b at *
  generalize corE T x z = er at *
  have q1 : (lo != lo) = false := by simp
  have q2 : (hi != hi) = false := by simp
  have q3 : (b != b) = false := by simp
  have q4 : (er != er) = false := by simp
  clear hk
  go_enter Try.func5, Try.ntmps5
  go_wp2_with fail
  refine (KM.out _).mono ?_
  rintro e W1 ⟨rfl, n1⟩
  have c0 : W1.cell? ⟨w.heap.size, 0, none⟩ = some (.int .i64 T.i) := n1.keep (by go_simp)
  have c1 : W1.cell? ⟨w.heap.size, 1, none⟩ = some (.int .i64 T.x0) := n1.keep (by go_simp)
  have c2 : W1.cell? ⟨w.heap.size, 2, none⟩ = some (.int .i64 T.y0) := n1.keep (by go_simp)
  have c3 : W1.cell? ⟨w.heap.size, 3, none⟩ = some (.int .i64 T.z0) := n1.keep (by go_simp)
  have c4 : W1.cell? ⟨w.heap.size, 4, none⟩ = some (.int .i64 T.x1) := n1.keep (by go_simp)
  have c5 : W1.cell? ⟨w.heap.size, 5, none⟩ = some (.int .i64 T.y1) := n1.keep (by go_simp)
  have c6 : W1.cell? ⟨w.heap.size, 6, none⟩ = some (.int .i64 T.z1) := n1.keep (by go_simp)
  have c7 : W1.cell? ⟨w.heap.size, 7, none⟩ = some (.int .i64 T.x2) := n1.keep (by go_simp)
  have c8 : W1.cell? ⟨w.heap.size, 8, none⟩ = some (.int .i64 T.y2) := n1.keep (by go_simp)
  have c9 : W1.cell? ⟨w.heap.size, 9, none⟩ = some (.int .i64 T.z2) := n1.keep (by go_simp)
  have hn : New w W1 := New.trans (by (repeat (first | (with_reducible exact New.refl _) | (with_reducible assumption) | ((with_reducible refine New.setB ?_ ?_ _); focus (first | omega | (simp; omega) | (simp; done))) | (with_reducible refine New.alloc ?_ _) | (with_reducible refine New.drew ?_) | (with_reducible refine New.drewN ?_ _) | (with_reducible refine New.hat ?_ _) | ((with_reducible apply New.snart); (with_reducible assumption))))) n1
  clear n1 KM
  go_wp2_with fail
  refine (KO.out _).mono ?_
  rintro e W2 ⟨rfl, n2⟩
  (replace c0 := New.keep n2 c0; replace c1 := New.keep n2 c1; replace c2 := New.keep n2 c2; replace c3 := New.keep n2 c3; replace c4 := New.keep n2 c4; replace c5 := New.keep n2 c5; replace c6 := New.keep n2 c6; replace c7 := New.keep n2 c7; replace c8 := New.keep n2 c8; replace c9 := New.keep n2 c9)
  replace hn := hn.trans n2
  clear n2 KO
  have zt : w.heap.size < W2.heap.size := World.block_lt_of_cell? _ _ c0
  go_wp2_with fail
  refine Calls.at (fun V hV => ?_)
  have n1 : New W2 V := by subst hV; (repeat (first | (with_reducible exact New.refl _) | (with_reducible assumption) | ((with_reducible refine New.setB ?_ ?_ _); focus (first | omega | (simp; omega) | (simp; done))) | (with_reducible refine New.alloc ?_ _) | (with_reducible refine New.drew ?_) | (with_reducible refine New.drewN ?_ _) | (with_reducible refine New.hat ?_ _) | ((with_reducible apply New.snart); (with_reducible assumption))))
  clear hV
  refine (KR.out V).mono ?_
  rintro e W3 ⟨rfl, n2⟩
  replace n2 := n1.trans n2
  (replace c0 := New.keep n2 c0; replace c1 := New.keep n2 c1; replace c2 := New.keep n2 c2; replace c3 := New.keep n2 c3; replace c4 := New.keep n2 c4; replace c5 := New.keep n2 c5; replace c6 := New.keep n2 c6; replace c7 := New.keep n2 c7; replace c8 := New.keep n2 c8; replace c9 := New.keep n2 c9)
  replace hn := hn.trans n2
  clear n2 n1 KR zt
  have zt : w.heap.size < W3.heap.size := World.block_lt_of_cell? _ _ c0
  go_upto_region 8 with fail
  go_cut [118] (fun s118 Z => s118 = .bool false ∧ W3 = Z)
  case first =>
    cases b
    · go_wp2_with fail
      all_goals
        go_meet
        exact ⟨rfl, rfl⟩
    · by_cases f1 : T.y0 = T.y1
      · have g1 : (T.y0 == T.y1) = true := by simpa using f1
        by_cases f2 : T.y1 = T.y2
        · have g2 : (T.y1 == T.y2) = true := by simpa using f2
          obtain ⟨g3, g4⟩ := HF.out rfl f1 f2
          have g5 : (lo != T.y0) = false := by rw [g3]; simp
          have g6 : (hi != lo) = false := by rw [g3, g4]; simp
          clear f1 f2 g3 g4
          go_wp2_with fail
          all_goals
            go_meet
            exact ⟨rfl, rfl⟩
        · have g2 : (T.y1 == T.y2) = false := by simpa using f2
          clear f1 f2
          go_wp2_with fail
          all_goals
            go_meet
            exact ⟨rfl, rfl⟩
      · have g1 : (T.y0 == T.y1) = false := by simpa using f1
        clear f1
        go_wp2_with fail
        all_goals
          go_meet
          exact ⟨rfl, rfl⟩
  case rest =>
  obtain ⟨rfl, rfl⟩ := hcut
  clear HF
  go_wp2_with fail
  refine Code.at (fun W4 hW => ?_)
  have n4 : New W3 W4 := by subst hW; (repeat (first | (with_reducible exact New.refl _) | (with_reducible assumption) | ((with_reducible refine New.setB ?_ ?_ _); focus (first | omega | (simp; omega) | (simp; done))) | (with_reducible refine New.alloc ?_ _) | (with_reducible refine New.drew ?_) | (with_reducible refine New.drewN ?_ _) | (with_reducible refine New.hat ?_ _) | ((with_reducible apply New.snart); (with_reducible assumption))))
  have d0 : W4.cell? ⟨W3.heap.size, 0, none⟩ = some (.int .i64 T.i) := by subst hW; go_simp
  have d1 : W4.cell? ⟨W3.heap.size, 1, none⟩ = some (.int .i64 T.x0) := by subst hW; go_simp
  have d2 : W4.cell? ⟨W3.heap.size, 2, none⟩ = some (.int .i64 T.y0) := by subst hW; go_simp
  have d3 : W4.cell? ⟨W3.heap.size, 3, none⟩ = some (.int .i64 T.z0) := by subst hW; go_simp
  have d4 : W4.cell? ⟨W3.heap.size, 4, none⟩ = some (.int .i64 T.x1) := by subst hW; go_simp
  have d5 : W4.cell? ⟨W3.heap.size, 5, none⟩ = some (.int .i64 T.y1) := by subst hW; go_simp
  have d6 : W4.cell? ⟨W3.heap.size, 6, none⟩ = some (.int .i64 T.z1) := by subst hW; go_simp
  have d7 : W4.cell? ⟨W3.heap.size, 7, none⟩ = some (.int .i64 T.x2) := by subst hW; go_simp
  have d8 : W4.cell? ⟨W3.heap.size, 8, none⟩ = some (.int .i64 T.y2) := by subst hW; go_simp
  have d9 : W4.cell? ⟨W3.heap.size, 9, none⟩ = some (.int .i64 T.z2) := by subst hW; go_simp
  have f2 : W4.frozen? ⟨W3.heap.size, 2, none⟩ = false := by subst hW; go_simp
  have f5 : W4.frozen? ⟨W3.heap.size, 5, none⟩ = false := by subst hW; go_simp
  have f8 : W4.frozen? ⟨W3.heap.size, 8, none⟩ = false := by subst hW; go_simp
  clear hW
  replace hn := hn.trans n4
  have zw : w.heap.size ≤ W3.heap.size := by omega
  clear n4 c0 c1 c2 c3 c4 c5 c6 c7 c8 c9 zt
  have q5 : (b == b) = true := by simp
  have q6 : (er == er) = true := by simp
  refine wp_loop_rounds 4 ?_
  by_cases h0 : -2048 ≤ T.y0 + u ∧ T.y0 + u ≤ 2048
  rotate_left
  · have t : decide (T.y0 + u < -2048) = true ∨ (decide (T.y0 + u < -2048) = false ∧ decide (2048 < T.y0 + u) = true) := by
      by_cases q : T.y0 + u < -2048
      · left; exact decide_eq_true q
      · right; exact ⟨decide_eq_false q, decide_eq_true (by omega)⟩
    clear h0 KU
    rcases t with ta | ⟨ta, tb⟩
    · rw [rounds_succ]
      go_wp2_with fail
      refine Calls.at (fun V hV => ?_)
      have n1 : New w V := by subst hV; (repeat (first | (with_reducible exact New.refl _) | (with_reducible assumption) | ((with_reducible refine New.setB ?_ ?_ _); focus (first | omega | (simp; omega) | (simp; done))) | (with_reducible refine New.alloc ?_ _) | (with_reducible refine New.drew ?_) | (with_reducible refine New.drewN ?_ _) | (with_reducible refine New.hat ?_ _) | ((with_reducible apply New.snart); (with_reducible assumption))))
      clear hV
      refine (KW.out V).mono ?_
      rintro e W9 ⟨rfl, n2⟩
      go_wp2_with fail
      go_ret
      exact ⟨rfl, n1.trans n2⟩
    · rw [rounds_succ]
      go_wp2_with fail
      refine Calls.at (fun V hV => ?_)
      have n1 : New w V := by subst hV; (repeat (first | (with_reducible exact New.refl _) | (with_reducible assumption) | ((with_reducible refine New.setB ?_ ?_ _); focus (first | omega | (simp; omega) | (simp; done))) | (with_reducible refine New.alloc ?_ _) | (with_reducible refine New.drew ?_) | (with_reducible refine New.drewN ?_ _) | (with_reducible refine New.hat ?_ _) | ((with_reducible apply New.snart); (with_reducible assumption))))
      clear hV
      refine (KW.out V).mono ?_
      rintro e W9 ⟨rfl, n2⟩
      go_wp2_with fail
      go_ret
      exact ⟨rfl, n1.trans n2⟩
  have ta0 : decide (T.y0 + u < -2048) = false := decide_eq_false (by omega)
  have tb0 : decide (2048 < T.y0 + u) = false := decide_eq_false (by omega)
  rw [rounds_succ]
  go_wp2_with fail
  by_cases h1 : -2048 ≤ T.y1 + u ∧ T.y1 + u ≤ 2048
  rotate_left
  · have t : decide (T.y1 + u < -2048) = true ∨ (decide (T.y1 + u < -2048) = false ∧ decide (2048 < T.y1 + u) = true) := by
      by_cases q : T.y1 + u < -2048
      · left; exact decide_eq_true q
      · right; exact ⟨decide_eq_false q, decide_eq_true (by omega)⟩
    clear h1 KU
    rcases t with ta | ⟨ta, tb⟩
    · rw [rounds_succ]
      go_wp2_with fail
      refine Calls.at (fun V hV => ?_)
      have n1 : New w V := by subst hV; (repeat (first | (with_reducible exact New.refl _) | (with_reducible assumption) | ((with_reducible refine New.setB ?_ ?_ _); focus (first | omega | (simp; omega) | (simp; done))) | (with_reducible refine New.alloc ?_ _) | (with_reducible refine New.drew ?_) | (with_reducible refine New.drewN ?_ _) | (with_reducible refine New.hat ?_ _) | ((with_reducible apply New.snart); (with_reducible assumption))))
      clear hV
      refine (KW.out V).mono ?_
      rintro e W9 ⟨rfl, n2⟩
      go_wp2_with fail
      go_ret
      exact ⟨rfl, n1.trans n2⟩
    · rw [rounds_succ]
      go_wp2_with fail
      refine Calls.at (fun V hV => ?_)
      have n1 : New w V := by subst hV; (repeat (first | (with_reducible exact New.refl _) | (with_reducible assumption) | ((with_reducible refine New.setB ?_ ?_ _); focus (first | omega | (simp; omega) | (simp; done))) | (with_reducible refine New.alloc ?_ _) | (with_reducible refine New.drew ?_) | (with_reducible refine New.drewN ?_ _) | (with_reducible refine New.hat ?_ _) | ((with_reducible apply New.snart); (with_reducible assumption))))
      clear hV
      refine (KW.out V).mono ?_
      rintro e W9 ⟨rfl, n2⟩
      go_wp2_with fail
      go_ret
      exact ⟨rfl, n1.trans n2⟩
  have ta1 : decide (T.y1 + u < -2048) = false := decide_eq_false (by omega)
  have tb1 : decide (2048 < T.y1 + u) = false := decide_eq_false (by omega)
  rw [rounds_succ]
  go_wp2_with fail
  by_cases h2 : -2048 ≤ T.y2 + u ∧ T.y2 + u ≤ 2048
  rotate_left
  · have t : decide (T.y2 + u < -2048) = true ∨ (decide (T.y2 + u < -2048) = false ∧ decide (2048 < T.y2 + u) = true) := by
      by_cases q : T.y2 + u < -2048
      · left; exact decide_eq_true q
      · right; exact ⟨decide_eq_false q, decide_eq_true (by omega)⟩
    clear h2 KU
    rcases t with ta | ⟨ta, tb⟩
    · rw [rounds_succ]
      go_wp2_with fail
      refine Calls.at (fun V hV => ?_)
      have n1 : New w V := by subst hV; (repeat (first | (with_reducible exact New.refl _) | (with_reducible assumption) | ((with_reducible refine New.setB ?_ ?_ _); focus (first | omega | (simp; omega) | (simp; done))) | (with_reducible refine New.alloc ?_ _) | (with_reducible refine New.drew ?_) | (with_reducible refine New.drewN ?_ _) | (with_reducible refine New.hat ?_ _) | ((with_reducible apply New.snart); (with_reducible assumption))))
      clear hV
      refine (KW.out V).mono ?_
      rintro e W9 ⟨rfl, n2⟩
      go_wp2_with fail
      go_ret
      exact ⟨rfl, n1.trans n2⟩
    · rw [rounds_succ]
      go_wp2_with fail
      refine Calls.at (fun V hV => ?_)
      have n1 : New w V := by subst hV; (repeat (first | (with_reducible exact New.refl _) | (with_reducible assumption) | ((with_reducible refine New.setB ?_ ?_ _); focus (first | omega | (simp; omega) | (simp; done))) | (with_reducible refine New.alloc ?_ _) | (with_reducible refine New.drew ?_) | (with_reducible refine New.drewN ?_ _) | (with_reducible refine New.hat ?_ _) | ((with_reducible apply New.snart); (with_reducible assumption))))
      clear hV
      refine (KW.out V).mono ?_
      rintro e W9 ⟨rfl, n2⟩
      go_wp2_with fail
      go_ret
      exact ⟨rfl, n1.trans n2⟩
  have ta2 : decide (T.y2 + u < -2048) = false := decide_eq_false (by omega)
  have tb2 : decide (2048 < T.y2 + u) = false := decide_eq_false (by omega)
  rw [rounds_succ]
  go_wp2_with fail
  obtain ⟨lo2, hi2, K2, e3⟩ := KU.out h0 h1 h2
  replace K2 := Lib.hid K2
  rw [rounds_succ]
  go_wp2_with fail
  refine Calls.at (fun V hV => ?_)
  have n1 : New w V := by subst hV; (repeat (first | (with_reducible exact New.refl _) | (with_reducible assumption) | ((with_reducible refine New.setB ?_ ?_ _); focus (first | omega | (simp; omega) | (simp; done))) | (with_reducible refine New.alloc ?_ _) | (with_reducible refine New.drew ?_) | (with_reducible refine New.drewN ?_ _) | (with_reducible refine New.hat ?_ _) | ((with_reducible apply New.snart); (with_reducible assumption))))
  clear hV
  refine (K2.out V).mono ?_
  rintro e W9 ⟨rfl, n2⟩
  replace n1 := n1.trans n2
  clear KU K2 n2 ta0 tb0 ta1 tb1 ta2 tb2 d0 d1 d2 d3 d4 d5 d6 d7 d8 d9 f2 f5 f8
  cases b
  · clear e3
    go_wp2_with fail
    refine (KW.out _).mono ?_
    rintro e W5 ⟨rfl, n2⟩
    go_wp2_with fail
    go_ret
    exact ⟨rfl, n1.trans n2⟩
  · obtain ⟨rfl, rfl⟩ := e3 rfl
    have g1 : (lo + u == lo + u) = true := by simp
    have g2 : (hi + u == hi + u) = true := by simp
    clear e3
    go_wp2_with fail
    refine (KW.out _).mono ?_
    rintro e W5 ⟨rfl, n2⟩
    go_wp2_with fail
    go_ret
    exact ⟨rfl, n1.trans n2⟩

end Go.Proofs.Yteoongcajfcgcaa
