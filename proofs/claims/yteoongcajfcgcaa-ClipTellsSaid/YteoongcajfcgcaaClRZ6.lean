import Derived.Test.YteoongcajfcgcaaClQZ6

/- Package clip: what the document says of three columns; the law of neighbours. -/
namespace Go.Proofs.Yteoongcajfcgcaa
open Go.RowKit
set_option linter.unusedVariables false

set_option maxHeartbeats 8000000 in
set_option maxRecDepth 100000 in
theorem k_half (w : World) : Calls Try.prog 36 #[] w fun e w' => e = .returned (.agg #[.int .i64 1, .int .i64 0, .int .i64 0, .int .i64 0, .int .i64 2, .int .i64 2, .int .i64 0, .int .i64 0, .int .i64 0, .int .i64 2]) ∧ New w w' := by
  go_enter Try.func36, Try.ntmps36
  go_wp2_with fail
  refine bodyPost_ret (v := .agg #[.int .i64 1, .int .i64 0, .int .i64 0, .int .i64 0, .int .i64 2, .int .i64 2, .int .i64 0, .int .i64 0, .int .i64 0, .int .i64 2]) (by simp [results, Try.results36, go_sem, *]) rfl ?_
  exact ⟨rfl, by (repeat (first | (with_reducible exact New.refl _) | (with_reducible assumption) | ((with_reducible refine New.setB ?_ ?_ _); focus (first | omega | (simp; omega) | (simp; done))) | (with_reducible refine New.alloc ?_ _) | (with_reducible refine New.drew ?_) | (with_reducible refine New.drewN ?_ _) | (with_reducible refine New.hat ?_ _) | ((with_reducible apply New.snart); (with_reducible assumption))))⟩

theorem half_over (x z lo hi : Int) (b : Bool) (h : corE halfT x z = 0 ∧ ovB halfT x z = b ∧ ovLo halfT x z = lo ∧ ovHi halfT x z = hi) (w : World) :
    Calls Try.prog 7 #[.agg #[.int .i64 1, .int .i64 0, .int .i64 0, .int .i64 0, .int .i64 2, .int .i64 2, .int .i64 0, .int .i64 0, .int .i64 0, .int .i64 2], .int .i64 x, .int .i64 z] w fun e w' => e = .returned (.tuple #[.int .i64 lo, .int .i64 hi, .bool b, .int .i64 0]) ∧ New w w' := by
  have k := k_over halfT x z w
  rw [h.1, h.2.1, h.2.2.1, h.2.2.2] at k
  exact k

set_option maxHeartbeats 8000000 in
set_option maxRecDepth 100000 in
theorem k_wakes (w : World) : Calls Try.prog 14 #[] w fun e w' => e = .returned (.bool true) ∧ New w w' := by
  have K0 := Lib.hid (fun W => half_over 0 0 _ _ _ half_0 W)
  have K1 := Lib.hid (fun W => half_over 1 0 _ _ _ half_1 W)
  have K2 := Lib.hid (fun W => half_over 1 1 _ _ _ half_2 W)
  have K3 := Lib.hid (fun W => half_over 2 2 _ _ _ half_3 W)
  have KH := Lib.hid (fun W => k_half W)
  go_enter Try.func14, Try.ntmps14
  go_wp2_with fail
  refine (KH.out _).mono ?_
  rintro e W0a ⟨rfl, n0a⟩
  go_wp2_with fail
  refine (K0.out _).mono ?_
  rintro e W0 ⟨rfl, n0⟩
  go_wp2_with fail
  refine (KH.out _).mono ?_
  rintro e W1a ⟨rfl, n1a⟩
  go_wp2_with fail
  refine (K1.out _).mono ?_
  rintro e W1 ⟨rfl, n1⟩
  go_wp2_with fail
  refine (KH.out _).mono ?_
  rintro e W2a ⟨rfl, n2a⟩
  go_wp2_with fail
  refine (K2.out _).mono ?_
  rintro e W2 ⟨rfl, n2⟩
  go_wp2_with fail
  refine (KH.out _).mono ?_
  rintro e W3a ⟨rfl, n3a⟩
  go_wp2_with fail
  refine (K3.out _).mono ?_
  rintro e W3 ⟨rfl, n3⟩
  have hn : New w W3 := (((((((n0a.trans n0).trans n1a).trans n1).trans n2a).trans n2).trans n3a).trans n3)
  clear n0a n0 n1a n1 n2a n2 n3a n3 K0 K1 K2 K3 KH
  go_wp2_with fail
  go_ret
  exact ⟨rfl, hn⟩

theorem ov_no {T : TriR} {x z : Int} (h : ovB T x z = false) : ovLo T x z = 0 ∧ ovHi T x z = 0 := by unfold ovLo ovHi; rw [h]; exact ⟨rfl, rfl⟩

set_option maxHeartbeats 8000000 in
set_option maxRecDepth 100000 in
theorem l_between (T : TriR) (x z : Int) (w : World) :
    Calls Try.prog 4 #[.agg #[.int .i64 T.i, .int .i64 T.x0, .int .i64 T.y0, .int .i64 T.z0, .int .i64 T.x1, .int .i64 T.y1, .int .i64 T.z1, .int .i64 T.x2, .int .i64 T.y2, .int .i64 T.z2], .int .i64 x, .int .i64 z] w fun e w' => e = .returned (.bool true) ∧ New w w' := by
  have KW := Lib.hid (fun W => k_wakes W)
  have KO := fun W => k_over T x z W
  have KC := fun W => k_columns T W
  cases hb : ovB T x z with
  | false =>
    obtain ⟨e1, e2⟩ := ov_no hb
    rw [hb, e1, e2] at KO
    by_cases hE : corE T x z = 0
    · rw [hE] at KO
      have hk := (cor_zero hE).1
      unfold chkE at KC
      rw [hk] at KC
      simp only [if_true] at KC
      replace KO := Lib.hid KO
      replace KC := Lib.hid KC
      clear e1 e2 hE hb hk
      go_enter Try.func4, Try.ntmps4
      go_wp2_with fail
      refine (KO.out _).mono ?_
      rintro e W1 ⟨rfl, n1⟩
      have c0 : W1.cell? ⟨w.heap.size, 0, none⟩ = some (.int .i64 T.i) := n1.keep (by go_simp)
      have c1 : W1.cell? ⟨w.heap.size, 1, none⟩ = some (.int .i64 T.x0) := n1.keep (by go_simp)
      have c2 : W1.cell? ⟨w.heap.size, 2, none⟩ = some (.int .i64 T.y0) := n1.keep (by go_simp)
      have c3 : W1.cell? ⟨w.heap.size, 3, none⟩ = some (.int .i64 T.z0) := n1.keep (by go_simp)
      have c4 : W1.cell? ⟨w.heap.size, 4, none⟩ = some (.int .i64 T.x1) := n1.keep (by go_simp)
      have c5 : W1.cell? ⟨w.heap.size, 5, none⟩ = some (.int .i64 T.y1) := n1.keep (by go_simp)
      have c6 : W1.cell? ⟨w.heap.size, 6, none⟩ = some (.int .i64 T.z1) := n1.keep (by go_simp)
      have c7 : W1.cell? ⟨w.heap.size, 7, none⟩ = some (.int .i64 T.x2) := n1.keep (by go_simp)
      have c8 : W1.cell? ⟨w.heap.size, 8, none⟩ = some (.int .i64 T.y2) := n1.keep (by go_simp)
      have c9 : W1.cell? ⟨w.heap.size, 9, none⟩ = some (.int .i64 T.z2) := n1.keep (by go_simp)
      have hn : New w W1 := New.trans (by (repeat (first | (with_reducible exact New.refl _) | (with_reducible assumption) | ((with_reducible refine New.setB ?_ ?_ _); focus (first | omega | (simp; omega) | (simp; done))) | (with_reducible refine New.alloc ?_ _) | (with_reducible refine New.drew ?_) | (with_reducible refine New.drewN ?_ _) | (with_reducible refine New.hat ?_ _) | ((with_reducible apply New.snart); (with_reducible assumption))))) n1
      clear n1 KO
      go_wp2_with fail
      refine (KC.out _).mono ?_
      rintro e W2 ⟨rfl, n2⟩
      replace hn := hn.trans n2
      clear n2 KC c0 c1 c2 c3 c4 c5 c6 c7 c8 c9
      go_wp2_with fail
      refine (KW.out _).mono ?_
      rintro e W3 ⟨rfl, n2⟩
      go_wp2_with fail
      go_ret
      exact ⟨rfl, hn.trans n2⟩
    · have hne : (corE T x z != 0) = true := by rw [bne_iff_ne]; exact hE
      generalize corE T x z = er at *
      replace KO := Lib.hid KO
      clear e1 e2 hE hb KC
      go_enter Try.func4, Try.ntmps4
      go_wp2_with fail
      refine (KO.out _).mono ?_
      rintro e W1 ⟨rfl, n1⟩
      have hn : New w W1 := New.trans (by (repeat (first | (with_reducible exact New.refl _) | (with_reducible assumption) | ((with_reducible refine New.setB ?_ ?_ _); focus (first | omega | (simp; omega) | (simp; done))) | (with_reducible refine New.alloc ?_ _) | (with_reducible refine New.drew ?_) | (with_reducible refine New.drewN ?_ _) | (with_reducible refine New.hat ?_ _) | ((with_reducible apply New.snart); (with_reducible assumption))))) n1
      clear n1 KO
      go_wp2_with fail
      refine (KW.out _).mono ?_
      rintro e W3 ⟨rfl, n2⟩
      go_wp2_with fail
      go_ret
      exact ⟨rfl, hn.trans n2⟩
  | true =>
    have hE := (ov_iff.1 hb).1
    have hbt := ov_between hb
    obtain ⟨hk, -, -, hx, hz⟩ := cor_zero hE
    rw [hb, hE] at KO
    unfold chkE at KC
    rw [hk] at KC
    simp only [if_true] at KC
    have KO2 := fun W => k_over T (x + 1) z W
    have hbd := ov_bd T x z
    have hbd2 := ov_bd T (x + 1) z
    have HM := Lib.hid (fun (h' : ovB T (x + 1) z = true) c hc hc' => ov_meet hb h' (c := c) hc hc')
    have KK := Lib.hid (fun W => k_cor T x z W hE)
    have KK2 := Lib.hid (fun W h => k_cor T (x + 1) z W h)
    have HI := Lib.hid (ov_iff (T := T) (x := x + 1) (z := z))
    generalize ovLo T x z = lo at *
    generalize ovHi T x z = hi at *
    generalize ovLo T (x + 1) z = lo2 at *
    generalize ovHi T (x + 1) z = hi2 at *
    obtain ⟨h1, h2, h3, ⟨h4, h5⟩, h6, h7⟩ := hbt
    have q2 : decide (lo < min T.y0 (min T.y1 T.y2)) = false := decide_eq_false (by unfold minI at h2; omega)
    have q3 : decide (max T.y0 (max T.y1 T.y2) < hi) = false := decide_eq_false (by unfold maxI at h3; omega)
    clear h2 h3
    generalize minI T.x0 T.x1 T.x2 = lx at *
    generalize minI T.z0 T.z1 T.z2 = lz at *
    generalize maxI T.x0 T.x1 T.x2 = gx at *
    generalize maxI T.z0 T.z1 T.z2 = gz at *
    replace KO := Lib.hid KO
    replace KC := Lib.hid KC
    clear hE hb hk
    generalize hb2 : ovB T (x + 1) z = b2 at *
    generalize hE2 : corE T (x + 1) z = er2 at *
    replace hb2 := Lib.hid hb2
    replace hE2 := Lib.hid hE2
    replace KO2 := Lib.hid KO2
    go_enter Try.func4, Try.ntmps4
    go_wp2_with fail
    refine (KO.out _).mono ?_
    rintro e W1 ⟨rfl, n1⟩
    have c0 : W1.cell? ⟨w.heap.size, 0, none⟩ = some (.int .i64 T.i) := n1.keep (by go_simp)
    have c1 : W1.cell? ⟨w.heap.size, 1, none⟩ = some (.int .i64 T.x0) := n1.keep (by go_simp)
    have c2 : W1.cell? ⟨w.heap.size, 2, none⟩ = some (.int .i64 T.y0) := n1.keep (by go_simp)
    have c3 : W1.cell? ⟨w.heap.size, 3, none⟩ = some (.int .i64 T.z0) := n1.keep (by go_simp)
    have c4 : W1.cell? ⟨w.heap.size, 4, none⟩ = some (.int .i64 T.x1) := n1.keep (by go_simp)
    have c5 : W1.cell? ⟨w.heap.size, 5, none⟩ = some (.int .i64 T.y1) := n1.keep (by go_simp)
    have c6 : W1.cell? ⟨w.heap.size, 6, none⟩ = some (.int .i64 T.z1) := n1.keep (by go_simp)
    have c7 : W1.cell? ⟨w.heap.size, 7, none⟩ = some (.int .i64 T.x2) := n1.keep (by go_simp)
    have c8 : W1.cell? ⟨w.heap.size, 8, none⟩ = some (.int .i64 T.y2) := n1.keep (by go_simp)
    have c9 : W1.cell? ⟨w.heap.size, 9, none⟩ = some (.int .i64 T.z2) := n1.keep (by go_simp)
    have hn : New w W1 := New.trans (by (repeat (first | (with_reducible exact New.refl _) | (with_reducible assumption) | ((with_reducible refine New.setB ?_ ?_ _); focus (first | omega | (simp; omega) | (simp; done))) | (with_reducible refine New.alloc ?_ _) | (with_reducible refine New.drew ?_) | (with_reducible refine New.drewN ?_ _) | (with_reducible refine New.hat ?_ _) | ((with_reducible apply New.snart); (with_reducible assumption))))) n1
    clear n1 KO
    go_wp2_with fail
    refine (KC.out _).mono ?_
    rintro e W2 ⟨rfl, n2⟩
    (replace c0 := New.keep n2 c0; replace c1 := New.keep n2 c1; replace c2 := New.keep n2 c2; replace c3 := New.keep n2 c3; replace c4 := New.keep n2 c4; replace c5 := New.keep n2 c5; replace c6 := New.keep n2 c6; replace c7 := New.keep n2 c7; replace c8 := New.keep n2 c8; replace c9 := New.keep n2 c9)
    replace hn := hn.trans n2
    clear n2 KC
    go_upto_region 9 with fail
    go_cut [16] (fun s16 Z => s16 = .int .i64 (min T.y0 (min T.y1 T.y2)) ∧ W2 = Z)
    case first =>
      go_wp2_with fail
      all_goals
        go_meet
        exact ⟨by congr 1; omega, rfl⟩
    case rest =>
    obtain ⟨rfl, rfl⟩ := hcut
    go_upto_region 10 with fail
    go_cut [17] (fun s17 Z => s17 = .int .i64 (max T.y0 (max T.y1 T.y2)) ∧ W2 = Z)
    case first =>
      go_wp2_with fail
      all_goals
        go_meet
        exact ⟨by congr 1; omega, rfl⟩
    case rest =>
    obtain ⟨rfl, rfl⟩ := hcut
    go_wp2_with fail
    refine (KO2.out _).mono ?_
    rintro e W3 ⟨rfl, n2⟩
    (replace c0 := New.keep n2 c0; replace c1 := New.keep n2 c1; replace c2 := New.keep n2 c2; replace c3 := New.keep n2 c3; replace c4 := New.keep n2 c4; replace c5 := New.keep n2 c5; replace c6 := New.keep n2 c6; replace c7 := New.keep n2 c7; replace c8 := New.keep n2 c8; replace c9 := New.keep n2 c9)
    replace hn := hn.trans n2
    clear n2 KO2
    by_cases hg : er2 = 0 ∧ b2 = true
    rotate_left
    · have q1 : (er2 != 0) = true ∨ ((er2 != 0) = false ∧ b2 = false) := by
        by_cases q : er2 = 0
        · right; refine ⟨by simp [q], ?_⟩; cases b2; rfl; exact absurd ⟨q, rfl⟩ hg
        · left; rw [bne_iff_ne]; exact q
      clear hg
      rcases q1 with q1 | ⟨q1, rfl⟩
      · go_wp2_with fail
        refine (KW.out _).mono ?_
        rintro e W4 ⟨rfl, n2⟩
        go_wp2_with fail
        go_ret
        exact ⟨rfl, hn.trans n2⟩
      · go_wp2_with fail
        refine (KW.out _).mono ?_
        rintro e W4 ⟨rfl, n2⟩
        go_wp2_with fail
        go_ret
        exact ⟨rfl, hn.trans n2⟩
    obtain ⟨rfl, rfl⟩ := hg
    replace HM := Lib.hid (HM.out rfl)
    replace KK2 := Lib.hid (fun W => KK2.out W rfl)
    clear hb2 hE2 HI
    go_wp2_with fail
    refine (KK.out _).mono ?_
    rintro e W4 ⟨v, R, rfl, hs, hc, n2⟩
    obtain ⟨a1, cap1, rfl, cl1, cm1, -, hr1⟩ := hs
    (replace c0 := New.keep n2 c0; replace c1 := New.keep n2 c1; replace c2 := New.keep n2 c2; replace c3 := New.keep n2 c3; replace c4 := New.keep n2 c4; replace c5 := New.keep n2 c5; replace c6 := New.keep n2 c6; replace c7 := New.keep n2 c7; replace c8 := New.keep n2 c8; replace c9 := New.keep n2 c9)
    replace hn := hn.trans n2
    clear n2 KK
    have HR1 := Lib.hid hr1
    have HC1 := Lib.hid hc
    clear hr1 hc
    go_wp2_with fail
    refine (KK2.out _).mono ?_
    rintro e W5 ⟨v, R2, rfl, hs, hc, n2⟩
    obtain ⟨a2, cap2, rfl, cl2, cm2, -, hr2⟩ := hs
    replace hn := hn.trans n2
    have HR1' := Lib.hid (HR1.out.keep n2)
    have HR2 := Lib.hid hr2
    have HC2 := Lib.hid hc
    clear n2 KK2 HR1 hr2 hc c0 c1 c2 c3 c4 c5 c6 c7 c8 c9
    unfold maxLen at cm1 cm2
    obtain ⟨n, hnl⟩ : ∃ n, n = R.length := ⟨_, rfl⟩
    obtain ⟨m, hml⟩ : ∃ m, m = R2.length := ⟨_, rfl⟩
    rw [← hnl, ← hml]
    have bn : n ≤ 9223372036854775807 := by rw [hnl]; omega
    have bm : m ≤ 9223372036854775807 := by rw [hml]; omega
    have HNL := Lib.hid hnl
    have HML := Lib.hid hml
    clear hnl hml cm1 cm2 cl1 cl2
    go_wp2_with fail
    go_loopg [163] n (fun gk s163 wr => ∃ j : Nat, s163 = .int .i64 j ∧ j ≤ n ∧ n - j ≤ gk ∧ Hid (New W5 wr))
    case atStart => exact ⟨0, rfl, by omega, by omega, Lib.hid (New.refl _)⟩
    case round =>
      obtain ⟨j, rfl, hj, hgk, HN⟩ := hrel
      rename World => wo
      by_cases hlt : j < n
      · have hjl : j < R.length := by rw [← HNL.out]; exact hlt
        obtain ⟨g1, off1, rfl, hA1⟩ := HR1'.out (by omega)
        have hrow := hA1.keep HN.out
        have r0 : wo.cell? ⟨g1, off1 + j * 4, none⟩ = some (.int .i64 R[j].x) := hrow j hjl 0 (by rw [Co.enc_len]; omega)
        have r1 : wo.cell? ⟨g1, off1 + j * 4 + 1, none⟩ = some (.int .i64 R[j].z) := hrow j hjl 1 (by rw [Co.enc_len]; omega)
        have r2 : wo.cell? ⟨g1, off1 + j * 4 + 2, none⟩ = some (.int .i64 R[j].y) := hrow j hjl 2 (by rw [Co.enc_len]; omega)
        have r3 : wo.cell? ⟨g1, off1 + j * 4 + 3, none⟩ = some (.int .i64 R[j].d) := hrow j hjl 3 (by rw [Co.enc_len]; omega)
        have zg : g1 < wo.heap.size := World.block_lt_of_cell? _ _ r0
        have HMJ : R[j] ∈ comL T x z := (HC1.out.mem _).1 (List.getElem_mem hjl)
        have HJ := Lib.hid HMJ
        clear hrow hA1 HMJ
        go_wp2_with fail
        refine Code.at (fun V hV => ?_)
        have n3 : New wo V := by subst hV; (repeat (first | (with_reducible exact New.refl _) | (with_reducible assumption) | ((with_reducible refine New.setB ?_ ?_ _); focus (first | omega | (simp; omega) | (simp; done))) | (with_reducible refine New.alloc ?_ _) | (with_reducible refine New.drew ?_) | (with_reducible refine New.drewN ?_ _) | (with_reducible refine New.hat ?_ _) | ((with_reducible apply New.snart); (with_reducible assumption))))
        have k0 : V.cell? ⟨wo.heap.size, 0, none⟩ = some (.int .i64 R[j].x) := by subst hV; go_simp
        have k1 : V.cell? ⟨wo.heap.size, 1, none⟩ = some (.int .i64 R[j].z) := by subst hV; go_simp
        have k2 : V.cell? ⟨wo.heap.size, 2, none⟩ = some (.int .i64 R[j].y) := by subst hV; go_simp
        have k3 : V.cell? ⟨wo.heap.size, 3, none⟩ = some (.int .i64 R[j].d) := by subst hV; go_simp
        have HKC := Lib.hid (And.intro k0 (And.intro k1 (And.intro k2 k3)))
        clear hV r0 r1 r2 r3 k0 k1 k2 k3
        replace HN := Lib.hid (HN.out.trans n3)
        clear n3
        go_loopg [169] m (fun gj s169 wq => ∃ i : Nat, s169 = .int .i64 i ∧ i ≤ m ∧ m - i ≤ gj ∧ Hid (New V wq))
        case atStart => exact ⟨0, rfl, by omega, by omega, Lib.hid (New.refl _)⟩
        case round =>
          obtain ⟨i, rfl, hi', hgj, HQ⟩ := hrel
          by_cases hlt2 : i < m
          · have hil : i < R2.length := by rw [← HML.out]; exact hlt2
            obtain ⟨g2, off2, rfl, hA2⟩ := HR2.out (by omega)
            have hrow := (hA2.keep HN.out).keep HQ.out
            have r0 : wr.cell? ⟨g2, off2 + i * 4, none⟩ = some (.int .i64 R2[i].x) := hrow i hil 0 (by rw [Co.enc_len]; omega)
            have r1 : wr.cell? ⟨g2, off2 + i * 4 + 1, none⟩ = some (.int .i64 R2[i].z) := hrow i hil 1 (by rw [Co.enc_len]; omega)
            have r2 : wr.cell? ⟨g2, off2 + i * 4 + 2, none⟩ = some (.int .i64 R2[i].y) := hrow i hil 2 (by rw [Co.enc_len]; omega)
            have r3 : wr.cell? ⟨g2, off2 + i * 4 + 3, none⟩ = some (.int .i64 R2[i].d) := hrow i hil 3 (by rw [Co.enc_len]; omega)
            have k0 := HQ.out.keep HKC.out.1
            have k1 := HQ.out.keep HKC.out.2.1
            have k2 := HQ.out.keep HKC.out.2.2.1
            have k3 := HQ.out.keep HKC.out.2.2.2
            have zg2 : g2 < wr.heap.size := World.block_lt_of_cell? _ _ r0
            have zk2 : wo.heap.size < wr.heap.size := World.block_lt_of_cell? _ _ k0
            have HI2 := Lib.hid ((HC2.out.mem _).1 (List.getElem_mem hil))
            have EQ := fun W => co_eql W R[j] R2[i]
            clear hrow hA2
            by_cases he : R[j] = R2[i]
            · rw [eqB_of he] at EQ
              obtain ⟨m1, m2⟩ := HM.out R[j] HJ.out (by rw [he]; exact HI2.out)
              have q4 : decide (hi < lo2) = false := decide_eq_false (by omega)
              have q5 : decide (hi2 < lo) = false := decide_eq_false (by omega)
              clear he
              go_wp2_with fail
              go_roundg (m - (i + 1))
              case measure => omega
              case rel => exact ⟨i + 1, by go_num, by omega, by omega, Lib.hid (HQ.out.trans (by (repeat (first | (with_reducible exact New.refl _) | (with_reducible assumption) | ((with_reducible refine New.setB ?_ ?_ _); focus (first | omega | (simp; omega) | (simp; done))) | (with_reducible refine New.alloc ?_ _) | (with_reducible refine New.drew ?_) | (with_reducible refine New.drewN ?_ _) | (with_reducible refine New.hat ?_ _) | ((with_reducible apply New.snart); (with_reducible assumption))))))⟩
            · rw [eqB_ne he] at EQ
              clear he
              go_wp2_with fail
              go_roundg (m - (i + 1))
              case measure => omega
              case rel => exact ⟨i + 1, by go_num, by omega, by omega, Lib.hid (HQ.out.trans (by (repeat (first | (with_reducible exact New.refl _) | (with_reducible assumption) | ((with_reducible refine New.setB ?_ ?_ _); focus (first | omega | (simp; omega) | (simp; done))) | (with_reducible refine New.alloc ?_ _) | (with_reducible refine New.drew ?_) | (with_reducible refine New.drewN ?_ _) | (with_reducible refine New.hat ?_ _) | ((with_reducible apply New.snart); (with_reducible assumption))))))⟩
          · go_wp2_with fail
            go_roundg (n - (j + 1))
            case measure => omega
            case rel => exact ⟨j + 1, by go_num, by omega, by omega, Lib.hid (HN.out.trans HQ.out)⟩
      · go_wp2_with fail
        refine (KW.out _).mono ?_
        rintro e W6 ⟨rfl, n2⟩
        go_wp2_with fail
        go_ret
        exact ⟨rfl, (hn.trans HN.out).trans n2⟩

end Go.Proofs.Yteoongcajfcgcaa
