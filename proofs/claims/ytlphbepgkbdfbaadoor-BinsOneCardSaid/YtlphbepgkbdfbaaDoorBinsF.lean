/- The law of the one column. -/
import Derived.Test.YtlphbepgkbdfbaaDoorBinsD
import Derived.Outline
import Derived.Deep.DeepCutAuto
import Derived.Deep.LoopGhost
namespace Go.Proofs.YtlphbepgkbdfbaaDoor
open Go.RowKit
set_option linter.unusedVariables false
set_option maxRecDepth 100000

theorem tmod_bd (a : Int) {m : Int} (h : 0 < m) : -m < a.tmod m ∧ a.tmod m < m := by
  have h1 := Int.natAbs_tmod a m
  have h2 : a.natAbs % m.natAbs < m.natAbs := Nat.mod_lt _ (by omega)
  omega

theorem touch_one {cl wd dp m x z wi n : Int} (hok : checkB cl 1 3 1 1 wd dp = true) (e : countN cl 1 3 1 1 wd dp = n) (r : rowN wd = wi) (hm : 0 ≤ m ∧ m < n) (hx : 0 ≤ x ∧ x < wd) (hz : 0 ≤ z ∧ z < dp) :
    touchB cl 1 3 1 1 wd dp m x z x z = true ↔ m % wi * 8 - cl - 4 ≤ x ∧ x ≤ min (m % wi * 8 + 7) (wd - 1) + cl + 4 ∧ m / wi * 8 - cl - 4 ≤ z ∧ z ≤ min (m / wi * 8 + 7) (dp - 1) + cl + 4 := by
  have hc := (checkB_iff.1 hok).1
  unfold touchB
  rw [decide_eq_true (by rw [e]; exact hm), Bool.true_and, ← Bool.decide_and, decide_eq_true_iff]
  unfold padX0 padX1 padZ0 padZ1 lowS highS
  rw [r]
  generalize m % wi = a
  generalize m / wi = b
  omega

theorem touch_round {cl cb ht ri ru wd dp m x z q : Int} (h : touchB cl cb ht ri ru wd dp m x z x z = true) (hq : 0 ≤ q) :
    touchB cl cb ht ri ru wd dp m (x - q) (z - q) (x + q) (z + q) = true := by
  unfold touchB at *
  simp only [Bool.and_eq_true, decide_eq_true_eq] at *
  omega

set_option maxHeartbeats 2000000 in
theorem l_one (cl0 wd0 dp0 x0 z0 by0 : Int) (w : World) (hl : Nowhere w) :
    Calls Tryd.prog 5 #[.int .i64 cl0, .int .i64 wd0, .int .i64 dp0, .int .i64 x0, .int .i64 z0, .int .i64 by0] w fun e w' => e = .returned (.bool true) ∧ New w w' := by
  have L := Lib.hid hl
  clear hl
  have t1 := tmod_bd cl0 (m := 4) (by omega)
  have t2 := tmod_bd wd0 (m := 32) (by omega)
  have t3 := tmod_bd dp0 (m := 32) (by omega)
  have t4 := tmod_bd by0 (m := 9) (by omega)
  go_enter Tryd.func5, Tryd.ntmps5
  go_upto_region 4 with fail
  have b1 : 0 ≤ (cl0.tmod 4 + 4) % 4 ∧ (cl0.tmod 4 + 4) % 4 ≤ 3 := by omega
  have b2 : 1 ≤ 1 + wd0.tmod 32 % 32 ∧ 1 + wd0.tmod 32 % 32 ≤ 32 := by omega
  have b3 : 1 ≤ 1 + dp0.tmod 32 % 32 ∧ 1 + dp0.tmod 32 % 32 ≤ 32 := by omega
  generalize (cl0.tmod 4 + 4) % 4 = cl at *
  generalize 1 + wd0.tmod 32 % 32 = wd at *
  generalize 1 + dp0.tmod 32 % 32 = dp at *
  have t5 := tmod_bd x0 (m := wd) (by omega)
  have t6 := tmod_bd z0 (m := dp) (by omega)
  have z1 : wd ≠ 0 := by omega
  have z2 : dp ≠ 0 := by omega
  clear t1 t2 t3
  go_upto_region 7 with fail
  have b4 : 0 ≤ (x0.tmod wd + wd) % wd ∧ (x0.tmod wd + wd) % wd < wd := ⟨Int.emod_nonneg _ z1, Int.emod_lt_of_pos _ (by omega)⟩
  have b5 : 0 ≤ (z0.tmod dp + dp) % dp ∧ (z0.tmod dp + dp) % dp < dp := ⟨Int.emod_nonneg _ z2, Int.emod_lt_of_pos _ (by omega)⟩
  have b6 : 0 ≤ (by0.tmod 9 + 9) % 9 ∧ (by0.tmod 9 + 9) % 9 < 9 := by omega
  generalize (x0.tmod wd + wd) % wd = x at *
  generalize (z0.tmod dp + dp) % dp = z at *
  generalize (by0.tmod 9 + 9) % 9 = by' at *
  clear t4 t5 t6 z1 z2
  have GC := Lib.hid (fun W => config_any cl wd dp W)
  have hok : checkB cl 1 3 1 1 wd dp = true := checkB_iff.2 (by omega)
  have NN := fun W => Count_any cl 1 3 1 1 wd dp W
  have TT := Lib.hid (fun k x0 z0 x1 z1 W h => Touch_any cl 1 3 1 1 wd dp k x0 z0 x1 z1 W h)
  have e1 : countN cl 1 3 1 1 wd dp = rowN wd * rowN dp := by unfold countN; rw [hok]; rfl
  rw [e1] at NN
  have r1 : rowN wd = (wd + 7) / 8 := by unfold rowN; rw [Int.tdiv_eq_ediv_of_nonneg (by omega)]; omega
  have r2 : rowN dp = (dp + 7) / 8 := by unfold rowN; rw [Int.tdiv_eq_ediv_of_nonneg (by omega)]; omega
  have b7 := rowN_bd b2
  have b8 := rowN_bd b3
  have b9 : 0 ≤ rowN wd * rowN dp ∧ rowN wd * rowN dp ≤ 16 := by
    have := count_bd cl 1 3 1 1 wd dp
    rwa [e1] at this
  have N := Lib.hid NN
  clear NN
  have R1 := Lib.hid r1
  have hok' := Lib.hid hok
  clear hok
  have e1' := Lib.hid e1
  clear e1
  rw [r1] at b7 b9 N e1'
  generalize hwi : (wd + 7) / 8 = wi at *
  have hwi' := Lib.hid hwi
  have r2' := Lib.hid r2
  clear hwi r1 r2
  generalize hni : wi * rowN dp = n at *
  have hni' := Lib.hid hni
  clear hni
  go_wp2_with fail
  refine (GC.out _).mono ?_
  rintro e w1 ⟨rfl, n1⟩
  go_wp2_with fail
  rw [hwi'.out]
  refine Code.at (fun W hW => ?_)
  ((have c0 : W.cell? ⟨w1.heap.size, 0, none⟩ = some (.int .i64 cl) := (by subst hW; go_simp)); (have c1 : W.cell? ⟨w1.heap.size, 1, none⟩ = some (.int .i64 1) := (by subst hW; go_simp)); (have c2 : W.cell? ⟨w1.heap.size, 2, none⟩ = some (.int .i64 3) := (by subst hW; go_simp)); (have c3 : W.cell? ⟨w1.heap.size, 3, none⟩ = some (.int .i64 1) := (by subst hW; go_simp)); (have c4 : W.cell? ⟨w1.heap.size, 4, none⟩ = some (.int .i64 1) := (by subst hW; go_simp)); (have c5 : W.cell? ⟨w1.heap.size, 5, none⟩ = some (.int .i64 wd) := (by subst hW; go_simp)); (have c6 : W.cell? ⟨w1.heap.size, 6, none⟩ = some (.int .i64 dp) := (by subst hW; go_simp)))
  have hn : New w W := by subst hW; (repeat (first | (with_reducible exact New.refl _) | (with_reducible assumption) | ((with_reducible refine New.setB ?_ ?_ _); focus (first | omega | (simp; omega) | (simp; done))) | (with_reducible refine New.alloc ?_ _) | (with_reducible refine New.drew ?_) | (with_reducible refine New.drewN ?_ _) | (with_reducible refine New.hat ?_ _) | ((with_reducible apply New.snart); (with_reducible assumption))))
  have LW := Lib.hid (L.out.new hn)
  clear hW L n1 GC
  go_loopg [15] n.toNat (fun k i wr => ∃ m : Int, i = .int .i64 m ∧ 0 ≤ m ∧ m ≤ n ∧ k = (n - m).toNat ∧ New W wr)
  case atStart => exact ⟨0, rfl, by omega, by omega, by omega, New.refl _⟩
  case round =>
    obtain ⟨m, rfl, hm0, hm1, hk, hw⟩ := hrel
    ((replace c0 := New.keep hw c0); (replace c1 := New.keep hw c1); (replace c2 := New.keep hw c2); (replace c3 := New.keep hw c3); (replace c4 := New.keep hw c4); (replace c5 := New.keep hw c5); (replace c6 := New.keep hw c6))
    by_cases hlt : m < n
    · have bl : decide (m < n) = true := decide_eq_true hlt
      have z3 : wi ≠ 0 := by omega
      have a0 : 0 ≤ m % wi ∧ m % wi ≤ 3 := by
        have := Int.emod_nonneg m z3
        have := Int.emod_lt_of_pos m (b := wi) (by omega)
        omega
      have a1 : 0 ≤ m / wi ∧ m / wi ≤ 16 :=
        ⟨Int.ediv_nonneg (by omega) (by omega), Int.le_trans (Int.ediv_le_self _ (by omega)) (by omega)⟩
      by_cases p0 : m % wi * 8 - cl - 4 ≤ x
      · -- on
        by_cases p1 : x ≤ min (m % wi * 8 + 7) (wd - 1) + cl + 4
        · -- on
          by_cases p2 : m / wi * 8 - cl - 4 ≤ z
          · -- on
            by_cases p3 : z ≤ min (m / wi * 8 + 7) (dp - 1) + cl + 4
            · have q0 : decide (m % wi * 8 - cl - 4 ≤ x) = true := decide_eq_true p0
              have q1 : decide (x ≤ min (m % wi * 8 + 7) (wd - 1) + cl + 4) = true := decide_eq_true p1
              have q2 : decide (m / wi * 8 - cl - 4 ≤ z) = true := decide_eq_true p2
              have q3 : decide (z ≤ min (m / wi * 8 + 7) (dp - 1) + cl + 4) = true := decide_eq_true p3
              have E1 : touchB cl 1 3 1 1 wd dp m x z x z = true := (touch_one hok'.out e1'.out R1.out ⟨hm0, hlt⟩ b4 b5).2 ⟨p0, p1, p2, p3⟩
              have E2 := touch_round (q := by') E1 b6.1
              have T2 := TT.out m (x - by') (z - by') (x + by') (z + by')
              rw [E2] at T2
              have U2 := Lib.hid T2
              clear T2 E2
              have T1 := TT.out m x z x z
              rw [E1] at T1
              have U1 := Lib.hid T1
              clear T1 E1
              clear TT hok' e1' R1 hwi' r2' hni' b8 p0 p1 p2 p3
              go_wp2_with fail
              refine (N.out _).mono ?_
              rintro e w2 ⟨rfl, n2⟩
              ((replace c0 := New.keep n2 c0); (replace c1 := New.keep n2 c1); (replace c2 := New.keep n2 c2); (replace c3 := New.keep n2 c3); (replace c4 := New.keep n2 c4); (replace c5 := New.keep n2 c5); (replace c6 := New.keep n2 c6))
              replace hw := hw.trans n2
              clear N n2
              go_wp2_with fail
              (refine wp_region_hat (by kernel_rfl) (by kernel_rfl) ?_; intro hatc hatf; (repeat (go_big_quiet_step ((fail)))); refine wpQuiet_nil ?_; rintro _ ⟨xx, rfl⟩)
              clear hatc hatf
              ((replace c0 := New.keep xx.h c0); (replace c1 := New.keep xx.h c1); (replace c2 := New.keep xx.h c2); (replace c3 := New.keep xx.h c3); (replace c4 := New.keep xx.h c4); (replace c5 := New.keep xx.h c5); (replace c6 := New.keep xx.h c6))
              replace hw := hw.trans xx.h
              generalize xx.w = w3 at *
              clear xx
              go_wp2_with fail
              refine (U1.out _ (LW.out.new hw)).mono ?_
              rintro e w4 ⟨rfl, n4⟩
              replace hw := hw.trans n4
              ((replace c0 := New.keep n4 c0); (replace c1 := New.keep n4 c1); (replace c2 := New.keep n4 c2); (replace c3 := New.keep n4 c3); (replace c4 := New.keep n4 c4); (replace c5 := New.keep n4 c5); (replace c6 := New.keep n4 c6))
              clear n4
              go_wp2_with fail
              refine (U2.out _ (LW.out.new hw)).mono ?_
              rintro e w5 ⟨rfl, n5⟩
              replace hw := hw.trans n5
              go_wp2_with fail
              go_roundg (gk - 1)
              case measure => omega
              case rel => exact ⟨m + 1, rfl, by omega, by omega, by omega, hw⟩
            · have q0 : decide (m % wi * 8 - cl - 4 ≤ x) = true := decide_eq_true p0
              have q1 : decide (x ≤ min (m % wi * 8 + 7) (wd - 1) + cl + 4) = true := decide_eq_true p1
              have q2 : decide (m / wi * 8 - cl - 4 ≤ z) = true := decide_eq_true p2
              have q3 : decide (z ≤ min (m / wi * 8 + 7) (dp - 1) + cl + 4) = false := decide_eq_false p3
              have E1 : touchB cl 1 3 1 1 wd dp m x z x z = false := by
                cases hh : touchB cl 1 3 1 1 wd dp m x z x z with
                | false => rfl
                | true => exact absurd ((touch_one hok'.out e1'.out R1.out ⟨hm0, hlt⟩ b4 b5).1 hh) (fun h => p3 h.2.2.2)
              have T1 := TT.out m x z x z
              rw [E1] at T1
              have U1 := Lib.hid T1
              clear T1 E1
              clear TT hok' e1' R1 hwi' r2' hni' b8 p0 p1 p2 p3
              go_wp2_with fail
              refine (N.out _).mono ?_
              rintro e w2 ⟨rfl, n2⟩
              ((replace c0 := New.keep n2 c0); (replace c1 := New.keep n2 c1); (replace c2 := New.keep n2 c2); (replace c3 := New.keep n2 c3); (replace c4 := New.keep n2 c4); (replace c5 := New.keep n2 c5); (replace c6 := New.keep n2 c6))
              replace hw := hw.trans n2
              clear N n2
              go_wp2_with fail
              (refine wp_region_hat (by kernel_rfl) (by kernel_rfl) ?_; intro hatc hatf; (repeat (go_big_quiet_step ((fail)))); refine wpQuiet_nil ?_; rintro _ ⟨xx, rfl⟩)
              clear hatc hatf
              ((replace c0 := New.keep xx.h c0); (replace c1 := New.keep xx.h c1); (replace c2 := New.keep xx.h c2); (replace c3 := New.keep xx.h c3); (replace c4 := New.keep xx.h c4); (replace c5 := New.keep xx.h c5); (replace c6 := New.keep xx.h c6))
              replace hw := hw.trans xx.h
              generalize xx.w = w3 at *
              clear xx
              go_wp2_with fail
              refine (U1.out _ (LW.out.new hw)).mono ?_
              rintro e w4 ⟨rfl, n4⟩
              replace hw := hw.trans n4
              go_wp2_with fail
              go_roundg (gk - 1)
              case measure => omega
              case rel => exact ⟨m + 1, rfl, by omega, by omega, by omega, hw⟩
          · have q0 : decide (m % wi * 8 - cl - 4 ≤ x) = true := decide_eq_true p0
            have q1 : decide (x ≤ min (m % wi * 8 + 7) (wd - 1) + cl + 4) = true := decide_eq_true p1
            have q2 : decide (m / wi * 8 - cl - 4 ≤ z) = false := decide_eq_false p2
            have E1 : touchB cl 1 3 1 1 wd dp m x z x z = false := by
              cases hh : touchB cl 1 3 1 1 wd dp m x z x z with
              | false => rfl
              | true => exact absurd ((touch_one hok'.out e1'.out R1.out ⟨hm0, hlt⟩ b4 b5).1 hh) (fun h => p2 h.2.2.1)
            have T1 := TT.out m x z x z
            rw [E1] at T1
            have U1 := Lib.hid T1
            clear T1 E1
            clear TT hok' e1' R1 hwi' r2' hni' b8 p0 p1 p2
            go_wp2_with fail
            refine (N.out _).mono ?_
            rintro e w2 ⟨rfl, n2⟩
            ((replace c0 := New.keep n2 c0); (replace c1 := New.keep n2 c1); (replace c2 := New.keep n2 c2); (replace c3 := New.keep n2 c3); (replace c4 := New.keep n2 c4); (replace c5 := New.keep n2 c5); (replace c6 := New.keep n2 c6))
            replace hw := hw.trans n2
            clear N n2
            go_wp2_with fail
            (refine wp_region_hat (by kernel_rfl) (by kernel_rfl) ?_; intro hatc hatf; (repeat (go_big_quiet_step ((fail)))); refine wpQuiet_nil ?_; rintro _ ⟨xx, rfl⟩)
            clear hatc hatf
            ((replace c0 := New.keep xx.h c0); (replace c1 := New.keep xx.h c1); (replace c2 := New.keep xx.h c2); (replace c3 := New.keep xx.h c3); (replace c4 := New.keep xx.h c4); (replace c5 := New.keep xx.h c5); (replace c6 := New.keep xx.h c6))
            replace hw := hw.trans xx.h
            generalize xx.w = w3 at *
            clear xx
            go_wp2_with fail
            refine (U1.out _ (LW.out.new hw)).mono ?_
            rintro e w4 ⟨rfl, n4⟩
            replace hw := hw.trans n4
            go_wp2_with fail
            go_roundg (gk - 1)
            case measure => omega
            case rel => exact ⟨m + 1, rfl, by omega, by omega, by omega, hw⟩
        · have q0 : decide (m % wi * 8 - cl - 4 ≤ x) = true := decide_eq_true p0
          have q1 : decide (x ≤ min (m % wi * 8 + 7) (wd - 1) + cl + 4) = false := decide_eq_false p1
          have E1 : touchB cl 1 3 1 1 wd dp m x z x z = false := by
            cases hh : touchB cl 1 3 1 1 wd dp m x z x z with
            | false => rfl
            | true => exact absurd ((touch_one hok'.out e1'.out R1.out ⟨hm0, hlt⟩ b4 b5).1 hh) (fun h => p1 h.2.1)
          have T1 := TT.out m x z x z
          rw [E1] at T1
          have U1 := Lib.hid T1
          clear T1 E1
          clear TT hok' e1' R1 hwi' r2' hni' b8 p0 p1
          go_wp2_with fail
          refine (N.out _).mono ?_
          rintro e w2 ⟨rfl, n2⟩
          ((replace c0 := New.keep n2 c0); (replace c1 := New.keep n2 c1); (replace c2 := New.keep n2 c2); (replace c3 := New.keep n2 c3); (replace c4 := New.keep n2 c4); (replace c5 := New.keep n2 c5); (replace c6 := New.keep n2 c6))
          replace hw := hw.trans n2
          clear N n2
          go_wp2_with fail
          (refine wp_region_hat (by kernel_rfl) (by kernel_rfl) ?_; intro hatc hatf; (repeat (go_big_quiet_step ((fail)))); refine wpQuiet_nil ?_; rintro _ ⟨xx, rfl⟩)
          clear hatc hatf
          ((replace c0 := New.keep xx.h c0); (replace c1 := New.keep xx.h c1); (replace c2 := New.keep xx.h c2); (replace c3 := New.keep xx.h c3); (replace c4 := New.keep xx.h c4); (replace c5 := New.keep xx.h c5); (replace c6 := New.keep xx.h c6))
          replace hw := hw.trans xx.h
          generalize xx.w = w3 at *
          clear xx
          go_wp2_with fail
          refine (U1.out _ (LW.out.new hw)).mono ?_
          rintro e w4 ⟨rfl, n4⟩
          replace hw := hw.trans n4
          go_wp2_with fail
          go_roundg (gk - 1)
          case measure => omega
          case rel => exact ⟨m + 1, rfl, by omega, by omega, by omega, hw⟩
      · have q0 : decide (m % wi * 8 - cl - 4 ≤ x) = false := decide_eq_false p0
        have E1 : touchB cl 1 3 1 1 wd dp m x z x z = false := by
          cases hh : touchB cl 1 3 1 1 wd dp m x z x z with
          | false => rfl
          | true => exact absurd ((touch_one hok'.out e1'.out R1.out ⟨hm0, hlt⟩ b4 b5).1 hh) (fun h => p0 h.1)
        have T1 := TT.out m x z x z
        rw [E1] at T1
        have U1 := Lib.hid T1
        clear T1 E1
        clear TT hok' e1' R1 hwi' r2' hni' b8 p0
        go_wp2_with fail
        refine (N.out _).mono ?_
        rintro e w2 ⟨rfl, n2⟩
        ((replace c0 := New.keep n2 c0); (replace c1 := New.keep n2 c1); (replace c2 := New.keep n2 c2); (replace c3 := New.keep n2 c3); (replace c4 := New.keep n2 c4); (replace c5 := New.keep n2 c5); (replace c6 := New.keep n2 c6))
        replace hw := hw.trans n2
        clear N n2
        go_wp2_with fail
        (refine wp_region_hat (by kernel_rfl) (by kernel_rfl) ?_; intro hatc hatf; (repeat (go_big_quiet_step ((fail)))); refine wpQuiet_nil ?_; rintro _ ⟨xx, rfl⟩)
        clear hatc hatf
        ((replace c0 := New.keep xx.h c0); (replace c1 := New.keep xx.h c1); (replace c2 := New.keep xx.h c2); (replace c3 := New.keep xx.h c3); (replace c4 := New.keep xx.h c4); (replace c5 := New.keep xx.h c5); (replace c6 := New.keep xx.h c6))
        replace hw := hw.trans xx.h
        generalize xx.w = w3 at *
        clear xx
        go_wp2_with fail
        refine (U1.out _ (LW.out.new hw)).mono ?_
        rintro e w4 ⟨rfl, n4⟩
        replace hw := hw.trans n4
        go_wp2_with fail
        go_roundg (gk - 1)
        case measure => omega
        case rel => exact ⟨m + 1, rfl, by omega, by omega, by omega, hw⟩
    · have bl : decide (m < n) = false := decide_eq_false hlt
      have z3 : wi ≠ 0 := by omega
      have s0 : wi = rowN wd := R1.out.symm
      have hwd := hwi'.out
      have hdp := r2'.out
      have hn' := hni'.out
      have k0 : 0 ≤ z / 8 ∧ z / 8 < rowN dp := by omega
      have k1 : 0 ≤ x / 8 ∧ x / 8 < wi := by omega
      have k2 : 0 ≤ z / 8 * wi + x / 8 ∧ z / 8 * wi + x / 8 < n := by
        have h1 : 0 ≤ z / 8 * wi := Int.mul_nonneg k0.1 (by omega)
        have h2 : (z / 8 + 1) * wi ≤ rowN dp * wi := Int.mul_le_mul_of_nonneg_right (by omega) (by omega)
        rw [Int.add_mul, Int.mul_comm (rowN dp) wi, hn'] at h2
        omega
      have d1 : (z / 8 * wi + x / 8) % wi = x / 8 := by rw [Int.add_comm, Int.add_mul_emod_self_right]; exact Int.emod_eq_of_lt k1.1 k1.2
      have d2 : (z / 8 * wi + x / 8) / wi = z / 8 := by rw [Int.add_comm, Int.add_mul_ediv_right _ _ z3, Int.ediv_eq_zero_of_lt k1.1 k1.2]; omega
      have E1 : touchB cl 1 3 1 1 wd dp (z / 8 * wi + x / 8) x z x z = true := by
        refine (touch_one hok'.out e1'.out R1.out k2 b4 b5).2 ?_
        rw [d1, d2]
        omega
      have T1 := TT.out (z / 8 * wi + x / 8) x z x z
      rw [E1] at T1
      have U1 := Lib.hid T1
      have hp : (dp + 7) / 8 = rowN dp := by omega
      have q0 : (n == wi * ((dp + 7) / 8)) = true := by rw [hp, hn']; simp
      have k3 : 0 ≤ z / 8 * wi ∧ z / 8 * wi ≤ 16 := ⟨Int.mul_nonneg k0.1 (by omega), by omega⟩
      have k4 : 0 ≤ wi * ((dp + 7) / 8) ∧ wi * ((dp + 7) / 8) ≤ 16 := by rw [hp, hn']; omega
      clear T1 E1 TT d1 d2 hwd hdp hn' s0 hp
      go_wp2_with fail
      refine (N.out _).mono ?_
      rintro e w2 ⟨rfl, n2⟩
      ((replace c0 := New.keep n2 c0); (replace c1 := New.keep n2 c1); (replace c2 := New.keep n2 c2); (replace c3 := New.keep n2 c3); (replace c4 := New.keep n2 c4); (replace c5 := New.keep n2 c5); (replace c6 := New.keep n2 c6))
      replace hw := hw.trans n2
      clear n2
      go_wp2_with fail
      refine (N.out _).mono ?_
      rintro e w3 ⟨rfl, n3⟩
      ((replace c0 := New.keep n3 c0); (replace c1 := New.keep n3 c1); (replace c2 := New.keep n3 c2); (replace c3 := New.keep n3 c3); (replace c4 := New.keep n3 c4); (replace c5 := New.keep n3 c5); (replace c6 := New.keep n3 c6))
      replace hw := hw.trans n3
      clear n3
      go_wp2_with fail
      refine (U1.out _ (LW.out.new hw)).mono ?_
      rintro e w4 ⟨rfl, n4⟩
      replace hw := hw.trans n4
      go_wp2_with fail
      refine (wakes_any _ (LW.out.new hw)).mono ?_
      rintro e w5 ⟨rfl, n5⟩
      replace hw := hw.trans n5
      go_wp2_with fail
      go_ret
      exact ⟨rfl, hn.trans hw⟩

end Go.Proofs.YtlphbepgkbdfbaaDoor
