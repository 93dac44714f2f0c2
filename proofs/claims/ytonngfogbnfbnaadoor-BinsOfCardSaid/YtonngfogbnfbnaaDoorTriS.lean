/- The document's Check of a triangle. -/
import Derived.Test.YtonngfogbnfbnaaDoorTriQ
import Derived.Test.YtonngfogbnfbnaaDoorTriD
import Derived.Test.YtonngfogbnfbnaaDoorWholeJ
namespace Go.Proofs.YtonngfogbnfbnaaDoor
open Go.RowKit
set_option linter.unusedVariables false

def outB (wd dp x z : Int) : Bool := decide (wd < x) || decide (dp < z)

set_option maxHeartbeats 4000000 in
set_option maxRecDepth 100000 in
theorem r_check (cl cb ht ri ru wd dp i x0 y0 z0 x1 y1 z1 x2 y2 z2 : Int) (w : World) :
    Calls Tryd.prog 30 #[.agg #[.int .i64 cl, .int .i64 cb, .int .i64 ht, .int .i64 ri, .int .i64 ru, .int .i64 wd, .int .i64 dp], .agg #[.int .i64 i, .int .i64 x0, .int .i64 y0, .int .i64 z0, .int .i64 x1, .int .i64 y1, .int .i64 z1, .int .i64 x2, .int .i64 y2, .int .i64 z2]] w fun e w' => e = .returned (.int .i64 (tCheckE cl cb ht ri ru wd dp i x0 y0 z0 x1 y1 z1 x2 y2 z2)) ∧ New w w' := by
  obtain ⟨v, hv⟩ : ∃ v, v = tCheckE cl cb ht ri ru wd dp i x0 y0 z0 x1 y1 z1 x2 y2 z2 := ⟨_, rfl⟩
  rw [← hv]
  unfold tCheckE at hv
  have hcc := fun W => rcheck_any cl cb ht ri ru wd dp W
  have htwo := checkE_two cl cb ht ri ru wd dp
  generalize checkE cl cb ht ri ru wd dp = ce at *
  rcases htwo with rfl | rfl
  rotate_left
  · have hv1 : Hid (v = 20) := by show v = 20; rw [hv]; simp
    clear hv
    go_enter Tryd.func30, Tryd.ntmps30
    go_wp2_with fail
    refine (hcc _).mono ?_
    rintro e W0 ⟨rfl, n1, -⟩
    have hn : New w W0 := New.trans (by (repeat (first | (with_reducible exact New.refl _) | (with_reducible assumption) | ((with_reducible refine New.setB ?_ ?_ _); focus (first | omega | (simp; omega) | (simp; done))) | (with_reducible refine New.alloc ?_ _) | (with_reducible refine New.drew ?_) | (with_reducible refine New.drewN ?_ _) | (with_reducible refine New.hat ?_ _) | ((with_reducible apply New.snart); (with_reducible assumption))))) n1
    clear n1 hcc
    go_wp2_with fail
    go_ret
    rw [hv1.out]
    exact ⟨rfl, hn⟩
  obtain ⟨k0, hk0⟩ : ∃ b, b = outB wd dp x0 z0 := ⟨_, rfl⟩
  obtain ⟨k1, hk1⟩ : ∃ b, b = outB wd dp x1 z1 := ⟨_, rfl⟩
  obtain ⟨k2, hk2⟩ : ∃ b, b = outB wd dp x2 z2 := ⟨_, rfl⟩
  have HB : Hid ((k0 || (k1 || k2)) = true → v = 40) := by
    show _ → _
    intro h
    have hs : ¬ stB wd dp x0 y0 z0 x1 y1 z1 x2 y2 z2 = true := by
      rw [stB_iff]
      unfold StP StV
      rw [hk0, hk1, hk2] at h
      simp only [outB, Bool.or_eq_true, decide_eq_true_eq] at h
      omega
    rw [hv]
    simp [hs]
  have HG : Hid (k0 = false → k1 = false → k2 = false → v = if okB x0 y0 z0 x1 y1 z1 x2 y2 z2 = true ∧ (1 ≤ i ∧ i ≤ 1073741824) then 0 else 40) := by
    show _ → _
    intro h0 h1 h2
    rw [hv]
    rw [hk0] at h0
    rw [hk1] at h1
    rw [hk2] at h2
    simp only [outB, Bool.or_eq_false_iff, decide_eq_false_iff_not] at h0 h1 h2
    cases hok : okB x0 y0 z0 x1 y1 z1 x2 y2 z2
    · simp
    · have hst := (ok_st hok).1
      have hs : stB wd dp x0 y0 z0 x1 y1 z1 x2 y2 z2 = true := by
        rw [stB_iff]
        unfold StP StV at *
        omega
      simp [hs]
  have K0 : Hid _ := hk0
  have K1 : Hid _ := hk1
  have K2 : Hid _ := hk2
  have hno := fun W => r_normal i x0 y0 z0 x1 y1 z1 x2 y2 z2 W
  clear hv hk0 hk1 hk2
  go_enter Tryd.func30, Tryd.ntmps30
  go_wp2_with fail
  generalize hW : World.alloc _ _ = W
  (have c0 : (W).cell? ⟨w.heap.size + 1, 0, none⟩ = some (.int .i64 i) := (by subst hW; go_simp)); (have c1 : (W).cell? ⟨w.heap.size + 1, 1, none⟩ = some (.int .i64 x0) := (by subst hW; go_simp)); (have c2 : (W).cell? ⟨w.heap.size + 1, 2, none⟩ = some (.int .i64 y0) := (by subst hW; go_simp)); (have c3 : (W).cell? ⟨w.heap.size + 1, 3, none⟩ = some (.int .i64 z0) := (by subst hW; go_simp)); (have c4 : (W).cell? ⟨w.heap.size + 1, 4, none⟩ = some (.int .i64 x1) := (by subst hW; go_simp)); (have c5 : (W).cell? ⟨w.heap.size + 1, 5, none⟩ = some (.int .i64 y1) := (by subst hW; go_simp)); (have c6 : (W).cell? ⟨w.heap.size + 1, 6, none⟩ = some (.int .i64 z1) := (by subst hW; go_simp)); (have c7 : (W).cell? ⟨w.heap.size + 1, 7, none⟩ = some (.int .i64 x2) := (by subst hW; go_simp)); (have c8 : (W).cell? ⟨w.heap.size + 1, 8, none⟩ = some (.int .i64 y2) := (by subst hW; go_simp)); (have c9 : (W).cell? ⟨w.heap.size + 1, 9, none⟩ = some (.int .i64 z2) := (by subst hW; go_simp))
  have b5 : W.cell? ⟨w.heap.size, 5, none⟩ = some (.int .i64 wd) := by subst hW; go_simp
  have b6 : W.cell? ⟨w.heap.size, 6, none⟩ = some (.int .i64 dp) := by subst hW; go_simp
  have hn : New w W := by subst hW; (repeat (first | (with_reducible exact New.refl _) | (with_reducible assumption) | ((with_reducible refine New.setB ?_ ?_ _); focus (first | omega | (simp; omega) | (simp; done))) | (with_reducible refine New.alloc ?_ _) | (with_reducible refine New.drew ?_) | (with_reducible refine New.drewN ?_ _) | (with_reducible refine New.hat ?_ _) | ((with_reducible apply New.snart); (with_reducible assumption))))
  clear hW
  refine (hcc _).mono ?_
  rintro e W0 ⟨rfl, n1, -⟩
  ((replace c0 := New.keep n1 c0); (replace c1 := New.keep n1 c1); (replace c2 := New.keep n1 c2); (replace c3 := New.keep n1 c3); (replace c4 := New.keep n1 c4); (replace c5 := New.keep n1 c5); (replace c6 := New.keep n1 c6); (replace c7 := New.keep n1 c7); (replace c8 := New.keep n1 c8); (replace c9 := New.keep n1 c9))
  replace b5 := New.keep n1 b5
  replace b6 := New.keep n1 b6
  replace hn : New w W0 := New.trans hn n1
  clear n1 hcc
  go_wp2_with fail
  refine wp_loop_rounds 4 ?_
  rw [rounds_succ]
  go_upto_region 7 with fail
  go_cut [37] (fun s37 Z => s37 = .bool k0 ∧ New W0 Z)
  case first =>
    clear HB HG hno
    by_cases h1 : wd < x0
    · have hr : k0 = true := by rw [show k0 = _ from K0.out]; simp [outB, h1]
      clear K0 K1 K2
      subst hr
      have h1' : decide (wd < x0) = true := by simpa using h1
      go_quiet (fail)
      go_wp2_with fail
      go_meet
      exact ⟨rfl, by (repeat (first | (with_reducible exact New.refl _) | (with_reducible assumption) | ((with_reducible refine New.setB ?_ ?_ _); focus (first | omega | (simp; omega) | (simp; done))) | (with_reducible refine New.alloc ?_ _) | (with_reducible refine New.drew ?_) | (with_reducible refine New.drewN ?_ _) | (with_reducible refine New.hat ?_ _) | ((with_reducible apply New.snart); (with_reducible assumption))))⟩
    · have h1' : decide (wd < x0) = false := by simpa using h1
      have hr : k0 = decide (dp < z0) := by rw [show k0 = _ from K0.out]; simp [outB, h1]
      clear K0 K1 K2
      subst hr
      go_quiet (fail)
      go_wp2_with fail
      go_meet
      exact ⟨rfl, by (repeat (first | (with_reducible exact New.refl _) | (with_reducible assumption) | ((with_reducible refine New.setB ?_ ?_ _); focus (first | omega | (simp; omega) | (simp; done))) | (with_reducible refine New.alloc ?_ _) | (with_reducible refine New.drew ?_) | (with_reducible refine New.drewN ?_ _) | (with_reducible refine New.hat ?_ _) | ((with_reducible apply New.snart); (with_reducible assumption))))⟩
  case rest =>
    obtain ⟨rfl, nZ⟩ := hcut
    ((replace c0 := New.keep nZ c0); (replace c1 := New.keep nZ c1); (replace c2 := New.keep nZ c2); (replace c3 := New.keep nZ c3); (replace c4 := New.keep nZ c4); (replace c5 := New.keep nZ c5); (replace c6 := New.keep nZ c6); (replace c7 := New.keep nZ c7); (replace c8 := New.keep nZ c8); (replace c9 := New.keep nZ c9))
    replace b5 := New.keep nZ b5
    replace b6 := New.keep nZ b6
    replace hn := hn.trans nZ
    clear nZ
    rename World => W1
    cases k0
    rotate_left
    · have hb := HB.out (by simp)
      have hb' : Hid _ := hb
      clear hb HB HG K0 K1 K2
      go_wp2_with fail
      go_ret
      rw [hb'.out]
      exact ⟨rfl, hn⟩
    go_wp2_with fail
    rw [rounds_succ]
    go_upto_region 7 with fail
    go_cut [37] (fun s37 Z => s37 = .bool k1 ∧ New W1 Z)
    case first =>
      clear HB HG hno
      by_cases h1 : wd < x1
      · have hr : k1 = true := by rw [show k1 = _ from K1.out]; simp [outB, h1]
        clear K0 K1 K2
        subst hr
        have h1' : decide (wd < x1) = true := by simpa using h1
        go_quiet (fail)
        go_wp2_with fail
        go_meet
        exact ⟨rfl, by (repeat (first | (with_reducible exact New.refl _) | (with_reducible assumption) | ((with_reducible refine New.setB ?_ ?_ _); focus (first | omega | (simp; omega) | (simp; done))) | (with_reducible refine New.alloc ?_ _) | (with_reducible refine New.drew ?_) | (with_reducible refine New.drewN ?_ _) | (with_reducible refine New.hat ?_ _) | ((with_reducible apply New.snart); (with_reducible assumption))))⟩
      · have h1' : decide (wd < x1) = false := by simpa using h1
        have hr : k1 = decide (dp < z1) := by rw [show k1 = _ from K1.out]; simp [outB, h1]
        clear K0 K1 K2
        subst hr
        go_quiet (fail)
        go_wp2_with fail
        go_meet
        exact ⟨rfl, by (repeat (first | (with_reducible exact New.refl _) | (with_reducible assumption) | ((with_reducible refine New.setB ?_ ?_ _); focus (first | omega | (simp; omega) | (simp; done))) | (with_reducible refine New.alloc ?_ _) | (with_reducible refine New.drew ?_) | (with_reducible refine New.drewN ?_ _) | (with_reducible refine New.hat ?_ _) | ((with_reducible apply New.snart); (with_reducible assumption))))⟩
    case rest =>
      obtain ⟨rfl, nZ⟩ := hcut
      ((replace c0 := New.keep nZ c0); (replace c1 := New.keep nZ c1); (replace c2 := New.keep nZ c2); (replace c3 := New.keep nZ c3); (replace c4 := New.keep nZ c4); (replace c5 := New.keep nZ c5); (replace c6 := New.keep nZ c6); (replace c7 := New.keep nZ c7); (replace c8 := New.keep nZ c8); (replace c9 := New.keep nZ c9))
      replace b5 := New.keep nZ b5
      replace b6 := New.keep nZ b6
      replace hn := hn.trans nZ
      clear nZ
      rename World => W2
      cases k1
      rotate_left
      · have hb := HB.out (by simp)
        have hb' : Hid _ := hb
        clear hb HB HG K0 K1 K2
        go_wp2_with fail
        go_ret
        rw [hb'.out]
        exact ⟨rfl, hn⟩
      go_wp2_with fail
      rw [rounds_succ]
      go_upto_region 7 with fail
      go_cut [37] (fun s37 Z => s37 = .bool k2 ∧ New W2 Z)
      case first =>
        clear HB HG hno
        by_cases h1 : wd < x2
        · have hr : k2 = true := by rw [show k2 = _ from K2.out]; simp [outB, h1]
          clear K0 K1 K2
          subst hr
          have h1' : decide (wd < x2) = true := by simpa using h1
          go_quiet (fail)
          go_wp2_with fail
          go_meet
          exact ⟨rfl, by (repeat (first | (with_reducible exact New.refl _) | (with_reducible assumption) | ((with_reducible refine New.setB ?_ ?_ _); focus (first | omega | (simp; omega) | (simp; done))) | (with_reducible refine New.alloc ?_ _) | (with_reducible refine New.drew ?_) | (with_reducible refine New.drewN ?_ _) | (with_reducible refine New.hat ?_ _) | ((with_reducible apply New.snart); (with_reducible assumption))))⟩
        · have h1' : decide (wd < x2) = false := by simpa using h1
          have hr : k2 = decide (dp < z2) := by rw [show k2 = _ from K2.out]; simp [outB, h1]
          clear K0 K1 K2
          subst hr
          go_quiet (fail)
          go_wp2_with fail
          go_meet
          exact ⟨rfl, by (repeat (first | (with_reducible exact New.refl _) | (with_reducible assumption) | ((with_reducible refine New.setB ?_ ?_ _); focus (first | omega | (simp; omega) | (simp; done))) | (with_reducible refine New.alloc ?_ _) | (with_reducible refine New.drew ?_) | (with_reducible refine New.drewN ?_ _) | (with_reducible refine New.hat ?_ _) | ((with_reducible apply New.snart); (with_reducible assumption))))⟩
      case rest =>
        obtain ⟨rfl, nZ⟩ := hcut
        ((replace c0 := New.keep nZ c0); (replace c1 := New.keep nZ c1); (replace c2 := New.keep nZ c2); (replace c3 := New.keep nZ c3); (replace c4 := New.keep nZ c4); (replace c5 := New.keep nZ c5); (replace c6 := New.keep nZ c6); (replace c7 := New.keep nZ c7); (replace c8 := New.keep nZ c8); (replace c9 := New.keep nZ c9))
        replace b5 := New.keep nZ b5
        replace b6 := New.keep nZ b6
        replace hn := hn.trans nZ
        clear nZ
        rename World => W3
        cases k2
        rotate_left
        · have hb := HB.out (by simp)
          have hb' : Hid _ := hb
          clear hb HB HG K0 K1 K2
          go_wp2_with fail
          go_ret
          rw [hb'.out]
          exact ⟨rfl, hn⟩
        go_wp2_with fail
        have hg := HG.out (by trivial) (by trivial) (by trivial)
        clear HB HG K0 K1 K2
        rw [rounds_succ]
        cases hok : okB x0 y0 z0 x1 y1 z1 x2 y2 z2
        · obtain ⟨h1, h2, h3, h4⟩ := norm_no hok
          rw [h1, h2, h3, h4] at hno
          have hb : Hid (v = 40) := by show v = 40; rw [hg, hok]; simp
          clear hg h1 h2 h3 h4 hok
          go_wp2_with fail
          refine (hno _).mono ?_
          rintro e W4 ⟨rfl, n1⟩
          replace hn : New w W4 := hn.trans n1
          clear n1 hno
          go_wp2_with fail
          go_ret
          rw [hb.out]
          exact ⟨rfl, hn⟩
        · obtain ⟨h1, h2, h3, h4⟩ := norm_yes hok
          rw [h1, h2, h3, h4] at hno
          rw [hok] at hg
          have hg' : Hid _ := hg
          clear hg h1 h2 h3 h4 hok
          go_wp2_with fail
          refine (hno _).mono ?_
          rintro e W4 ⟨rfl, n1⟩
          ((replace c0 := New.keep n1 c0); (replace c1 := New.keep n1 c1); (replace c2 := New.keep n1 c2); (replace c3 := New.keep n1 c3); (replace c4 := New.keep n1 c4); (replace c5 := New.keep n1 c5); (replace c6 := New.keep n1 c6); (replace c7 := New.keep n1 c7); (replace c8 := New.keep n1 c8); (replace c9 := New.keep n1 c9))
          replace hn : New w W4 := hn.trans n1
          clear n1 hno b5 b6
          by_cases q1 : i < 1
          · have hb : Hid (v = 40) := by show v = 40; rw [hg'.out, if_neg (by omega)]
            clear hg'
            go_wp2_with fail
            go_ret
            rw [hb.out]
            exact ⟨rfl, hn⟩
          by_cases q2 : 1073741824 < i
          · have hb : Hid (v = 40) := by show v = 40; rw [hg'.out, if_neg (by omega)]
            clear hg'
            go_wp2_with fail
            go_ret
            rw [hb.out]
            exact ⟨rfl, hn⟩
          · have hb : Hid (v = 0) := by show v = 0; rw [hg'.out, if_pos ⟨by trivial, by omega, by omega⟩]
            clear hg'
            go_wp2_with fail
            go_ret
            rw [hb.out]
            exact ⟨rfl, hn⟩

end Go.Proofs.YtonngfogbnfbnaaDoor
