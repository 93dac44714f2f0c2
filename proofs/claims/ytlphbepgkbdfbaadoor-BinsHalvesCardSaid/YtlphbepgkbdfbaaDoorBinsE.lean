/- The law of the halves. -/
import Derived.Test.YtlphbepgkbdfbaaDoorBinsD
import Derived.Outline
import Derived.Deep.DeepCutAuto
import Derived.Deep.LoopGhost
namespace Go.Proofs.YtlphbepgkbdfbaaDoor
open Go.RowKit
set_option linter.unusedVariables false
set_option maxRecDepth 100000

set_option maxHeartbeats 2000000 in
theorem l_halves (cl cb ht ri ru wd dp x0 z0 x1 z1 cut : Int) (up : Bool) (w : World) (hl : Nowhere w) :
    Calls Tryd.prog 6 #[.agg #[.int .i64 cl, .int .i64 cb, .int .i64 ht, .int .i64 ri, .int .i64 ru, .int .i64 wd, .int .i64 dp], .int .i64 x0, .int .i64 z0, .int .i64 x1, .int .i64 z1, .int .i64 cut, .bool up] w fun e w' => e = .returned (.bool true) ∧ New w w' := by
  have L := Lib.hid hl
  have WK := Lib.hid (fun W h => wakes_any W h)
  clear hl
  by_cases hx : x1 < x0
  · have bx : decide (x1 < x0) = true := decide_eq_true hx
    clear hx
    go_enter Tryd.func6, Tryd.ntmps6
    go_wp2_with fail
    refine (WK.out _ (L.out.new (by (repeat (first | (with_reducible exact New.refl _) | (with_reducible assumption) | ((with_reducible refine New.setB ?_ ?_ _); focus (first | omega | (simp; omega) | (simp; done))) | (with_reducible refine New.alloc ?_ _) | (with_reducible refine New.drew ?_) | (with_reducible refine New.drewN ?_ _) | (with_reducible refine New.hat ?_ _) | ((with_reducible apply New.snart); (with_reducible assumption))))))).mono ?_
    rintro e w1 ⟨rfl, n1⟩
    go_wp2_with fail
    go_ret
    exact ⟨rfl, New.trans (by (repeat (first | (with_reducible exact New.refl _) | (with_reducible assumption) | ((with_reducible refine New.setB ?_ ?_ _); focus (first | omega | (simp; omega) | (simp; done))) | (with_reducible refine New.alloc ?_ _) | (with_reducible refine New.drew ?_) | (with_reducible refine New.drewN ?_ _) | (with_reducible refine New.hat ?_ _) | ((with_reducible apply New.snart); (with_reducible assumption))))) n1⟩
  have bx : decide (x1 < x0) = false := decide_eq_false hx
  by_cases hz : z1 < z0
  · have bz : decide (z1 < z0) = true := decide_eq_true hz
    clear hx hz
    go_enter Tryd.func6, Tryd.ntmps6
    go_wp2_with fail
    refine (WK.out _ (L.out.new (by (repeat (first | (with_reducible exact New.refl _) | (with_reducible assumption) | ((with_reducible refine New.setB ?_ ?_ _); focus (first | omega | (simp; omega) | (simp; done))) | (with_reducible refine New.alloc ?_ _) | (with_reducible refine New.drew ?_) | (with_reducible refine New.drewN ?_ _) | (with_reducible refine New.hat ?_ _) | ((with_reducible apply New.snart); (with_reducible assumption))))))).mono ?_
    rintro e w1 ⟨rfl, n1⟩
    go_wp2_with fail
    go_ret
    exact ⟨rfl, New.trans (by (repeat (first | (with_reducible exact New.refl _) | (with_reducible assumption) | ((with_reducible refine New.setB ?_ ?_ _); focus (first | omega | (simp; omega) | (simp; done))) | (with_reducible refine New.alloc ?_ _) | (with_reducible refine New.drew ?_) | (with_reducible refine New.drewN ?_ _) | (with_reducible refine New.hat ?_ _) | ((with_reducible apply New.snart); (with_reducible assumption))))) n1⟩
  have bz : decide (z1 < z0) = false := decide_eq_false hz
  have hb := count_bd cl cb ht ri ru wd dp
  have N := Lib.hid (fun W => Count_any cl cb ht ri ru wd dp W)
  have TT := Lib.hid (fun k W h => Touch_any cl cb ht ri ru wd dp k x0 z0 x1 z1 W h)
  generalize hn : countN cl cb ht ri ru wd dp = n at *
  clear hn
  go_enter Tryd.func6, Tryd.ntmps6
  go_wp2_with fail
  refine Code.at (fun W hW => ?_)
  ((have c0 : W.cell? ⟨w.heap.size, 0, none⟩ = some (.int .i64 cl) := (by subst hW; go_simp)); (have c1 : W.cell? ⟨w.heap.size, 1, none⟩ = some (.int .i64 cb) := (by subst hW; go_simp)); (have c2 : W.cell? ⟨w.heap.size, 2, none⟩ = some (.int .i64 ht) := (by subst hW; go_simp)); (have c3 : W.cell? ⟨w.heap.size, 3, none⟩ = some (.int .i64 ri) := (by subst hW; go_simp)); (have c4 : W.cell? ⟨w.heap.size, 4, none⟩ = some (.int .i64 ru) := (by subst hW; go_simp)); (have c5 : W.cell? ⟨w.heap.size, 5, none⟩ = some (.int .i64 wd) := (by subst hW; go_simp)); (have c6 : W.cell? ⟨w.heap.size, 6, none⟩ = some (.int .i64 dp) := (by subst hW; go_simp)))
  have hn : New w W := by subst hW; (repeat (first | (with_reducible exact New.refl _) | (with_reducible assumption) | ((with_reducible refine New.setB ?_ ?_ _); focus (first | omega | (simp; omega) | (simp; done))) | (with_reducible refine New.alloc ?_ _) | (with_reducible refine New.drew ?_) | (with_reducible refine New.drewN ?_ _) | (with_reducible refine New.hat ?_ _) | ((with_reducible apply New.snart); (with_reducible assumption))))
  have LW := Lib.hid (L.out.new hn)
  clear hW L
  go_loopg [15] (n + 2).toNat (fun k i wr => ∃ m : Int, i = .int .i64 m ∧ -1 ≤ m ∧ m ≤ n + 1 ∧ k = (n + 1 - m).toNat ∧ New W wr)
  case atStart => exact ⟨-1, rfl, by omega, by omega, by omega, New.refl _⟩
  case round =>
    obtain ⟨m, rfl, hm0, hm1, hk, hw⟩ := hrel
    ((replace c0 := New.keep hw c0); (replace c1 := New.keep hw c1); (replace c2 := New.keep hw c2); (replace c3 := New.keep hw c3); (replace c4 := New.keep hw c4); (replace c5 := New.keep hw c5); (replace c6 := New.keep hw c6))
    by_cases hlt : m ≤ n
    · have bl : decide (m ≤ n) = true := decide_eq_true hlt
      have T0 := Lib.hid (fun W h => TT.out m W h)
      clear TT
      cases up
      · have hm : z0 ≤ min (max cut z0) z1 ∧ min (max cut z0) z1 ≤ z1 := by omega
        have hh := halves_z cl cb ht ri ru wd dp m x0 z0 x1 z1 (min (max cut z0) z1) hm
        have T1 := Lib.hid (fun W h => Touch_any cl cb ht ri ru wd dp m x0 z0 x1 (min (max cut z0) z1) W h)
        have T2 := Lib.hid (fun W h => Touch_any cl cb ht ri ru wd dp m x0 (min (max cut z0) z1) x1 z1 W h)
        clear hm hx hz
        generalize touchB cl cb ht ri ru wd dp m x0 z0 x1 z1 = A at *
        generalize touchB cl cb ht ri ru wd dp m x0 z0 x1 (min (max cut z0) z1) = B at *
        generalize touchB cl cb ht ri ru wd dp m x0 (min (max cut z0) z1) x1 z1 = C at *
        subst hh
        go_wp2_with fail
        refine (N.out _).mono ?_
        rintro e w2 ⟨rfl, n2⟩
        ((replace c0 := New.keep n2 c0); (replace c1 := New.keep n2 c1); (replace c2 := New.keep n2 c2); (replace c3 := New.keep n2 c3); (replace c4 := New.keep n2 c4); (replace c5 := New.keep n2 c5); (replace c6 := New.keep n2 c6))
        replace hw := hw.trans n2
        go_wp2_with fail
        refine (T0.out _ (LW.out.new hw)).mono ?_
        rintro e w3 ⟨rfl, n3⟩
        ((replace c0 := New.keep n3 c0); (replace c1 := New.keep n3 c1); (replace c2 := New.keep n3 c2); (replace c3 := New.keep n3 c3); (replace c4 := New.keep n3 c4); (replace c5 := New.keep n3 c5); (replace c6 := New.keep n3 c6))
        replace hw := hw.trans n3
        go_wp2_with fail
        refine (T1.out _ (LW.out.new hw)).mono ?_
        rintro e w4 ⟨rfl, n4⟩
        ((replace c0 := New.keep n4 c0); (replace c1 := New.keep n4 c1); (replace c2 := New.keep n4 c2); (replace c3 := New.keep n4 c3); (replace c4 := New.keep n4 c4); (replace c5 := New.keep n4 c5); (replace c6 := New.keep n4 c6))
        replace hw := hw.trans n4
        go_wp2_with fail
        refine (T2.out _ (LW.out.new hw)).mono ?_
        rintro e w5 ⟨rfl, n5⟩
        replace hw := hw.trans n5
        clear n2 n3 n4 n5 c0 c1 c2 c3 c4 c5 c6 T0 T1 T2 N
        cases B with
        | true =>
          go_wp2_with fail
          go_roundg (gk - 1)
          case measure => omega
          case rel => exact ⟨m + 1, rfl, by omega, by omega, by omega, hw⟩
        | false =>
          cases C with
          | true =>
            go_wp2_with fail
            go_roundg (gk - 1)
            case measure => omega
            case rel => exact ⟨m + 1, rfl, by omega, by omega, by omega, hw⟩
          | false =>
            go_wp2_with fail
            go_roundg (gk - 1)
            case measure => omega
            case rel => exact ⟨m + 1, rfl, by omega, by omega, by omega, hw⟩
      · have hm : x0 ≤ min (max cut x0) x1 ∧ min (max cut x0) x1 ≤ x1 := by omega
        have hh := halves_x cl cb ht ri ru wd dp m x0 z0 x1 z1 (min (max cut x0) x1) hm
        have T1 := Lib.hid (fun W h => Touch_any cl cb ht ri ru wd dp m x0 z0 (min (max cut x0) x1) z1 W h)
        have T2 := Lib.hid (fun W h => Touch_any cl cb ht ri ru wd dp m (min (max cut x0) x1) z0 x1 z1 W h)
        clear hm hx hz
        generalize touchB cl cb ht ri ru wd dp m x0 z0 x1 z1 = A at *
        generalize touchB cl cb ht ri ru wd dp m x0 z0 (min (max cut x0) x1) z1 = B at *
        generalize touchB cl cb ht ri ru wd dp m (min (max cut x0) x1) z0 x1 z1 = C at *
        subst hh
        go_wp2_with fail
        refine (N.out _).mono ?_
        rintro e w2 ⟨rfl, n2⟩
        ((replace c0 := New.keep n2 c0); (replace c1 := New.keep n2 c1); (replace c2 := New.keep n2 c2); (replace c3 := New.keep n2 c3); (replace c4 := New.keep n2 c4); (replace c5 := New.keep n2 c5); (replace c6 := New.keep n2 c6))
        replace hw := hw.trans n2
        go_wp2_with fail
        refine (T0.out _ (LW.out.new hw)).mono ?_
        rintro e w3 ⟨rfl, n3⟩
        ((replace c0 := New.keep n3 c0); (replace c1 := New.keep n3 c1); (replace c2 := New.keep n3 c2); (replace c3 := New.keep n3 c3); (replace c4 := New.keep n3 c4); (replace c5 := New.keep n3 c5); (replace c6 := New.keep n3 c6))
        replace hw := hw.trans n3
        go_wp2_with fail
        refine (T1.out _ (LW.out.new hw)).mono ?_
        rintro e w4 ⟨rfl, n4⟩
        ((replace c0 := New.keep n4 c0); (replace c1 := New.keep n4 c1); (replace c2 := New.keep n4 c2); (replace c3 := New.keep n4 c3); (replace c4 := New.keep n4 c4); (replace c5 := New.keep n4 c5); (replace c6 := New.keep n4 c6))
        replace hw := hw.trans n4
        go_wp2_with fail
        refine (T2.out _ (LW.out.new hw)).mono ?_
        rintro e w5 ⟨rfl, n5⟩
        replace hw := hw.trans n5
        clear n2 n3 n4 n5 c0 c1 c2 c3 c4 c5 c6 T0 T1 T2 N
        cases B with
        | true =>
          go_wp2_with fail
          go_roundg (gk - 1)
          case measure => omega
          case rel => exact ⟨m + 1, rfl, by omega, by omega, by omega, hw⟩
        | false =>
          cases C with
          | true =>
            go_wp2_with fail
            go_roundg (gk - 1)
            case measure => omega
            case rel => exact ⟨m + 1, rfl, by omega, by omega, by omega, hw⟩
          | false =>
            go_wp2_with fail
            go_roundg (gk - 1)
            case measure => omega
            case rel => exact ⟨m + 1, rfl, by omega, by omega, by omega, hw⟩
    · have bl : decide (m ≤ n) = false := decide_eq_false hlt
      clear TT
      go_wp2_with fail
      refine (N.out _).mono ?_
      rintro e w2 ⟨rfl, n2⟩
      replace hw := hw.trans n2
      go_wp2_with fail
      refine (WK.out _ (LW.out.new hw)).mono ?_
      rintro e w3 ⟨rfl, n3⟩
      replace hw := hw.trans n3
      go_wp2_with fail
      go_ret
      exact ⟨rfl, hn.trans hw⟩

end Go.Proofs.YtlphbepgkbdfbaaDoor
