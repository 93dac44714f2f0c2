/- The law of what the tiles are, walked. -/
import Derived.Test.YtonngfogbnfbnaaDoorBinsK
namespace Go.Proofs.YtonngfogbnfbnaaDoor
open Go.RowKit
set_option linter.unusedVariables false
set_option maxRecDepth 100000

set_option maxHeartbeats 4000000 in
theorem l_touch (cl cb ht ri ru wd dp x0 z0 x1 z1 leave : Int) (w : World) (hl : Nowhere w) :
    Calls Tryd.prog 3 #[.agg #[.int .i64 cl, .int .i64 cb, .int .i64 ht, .int .i64 ri, .int .i64 ru, .int .i64 wd, .int .i64 dp], .int .i64 x0, .int .i64 z0, .int .i64 x1, .int .i64 z1, .int .i64 leave] w fun e w' => e = .returned (.bool true) ∧ New w w' := by
  have L := Lib.hid hl
  have WK := Lib.hid (fun W h => wakes_any W h)
  have RA := Lib.hid (fun W => rAll_any cl cb ht ri ru wd dp x0 z0 x1 z1 W)
  have CN := Lib.hid (fun W => Count_any cl cb ht ri ru wd dp W)
  have RN := Lib.hid (fun W => rCount_any cl cb ht ri ru wd dp W)
  have GG := Lib.hid (fun v W h s => goes_any cl cb ht ri ru wd dp x0 z0 x1 z1 leave v W h s)
  have T1 := Lib.hid (fun k W h => Touch_any cl cb ht ri ru wd dp k x0 z0 x1 z1 W h)
  have T2 := Lib.hid (fun k W => rTouch_any cl cb ht ri ru wd dp k x0 z0 x1 z1 W)
  have hb := count_bd cl cb ht ri ru wd dp
  generalize countN cl cb ht ri ru wd dp = n at *
  clear hl
  go_enter Tryd.func3, Tryd.ntmps3
  go_wp2_with fail
  refine Calls.at (fun W hW => ?_)
  ((have c0 : W.cell? ⟨w.heap.size, 0, none⟩ = some (.int .i64 cl) := (by subst hW; go_simp)); (have c1 : W.cell? ⟨w.heap.size, 1, none⟩ = some (.int .i64 cb) := (by subst hW; go_simp)); (have c2 : W.cell? ⟨w.heap.size, 2, none⟩ = some (.int .i64 ht) := (by subst hW; go_simp)); (have c3 : W.cell? ⟨w.heap.size, 3, none⟩ = some (.int .i64 ri) := (by subst hW; go_simp)); (have c4 : W.cell? ⟨w.heap.size, 4, none⟩ = some (.int .i64 ru) := (by subst hW; go_simp)); (have c5 : W.cell? ⟨w.heap.size, 5, none⟩ = some (.int .i64 wd) := (by subst hW; go_simp)); (have c6 : W.cell? ⟨w.heap.size, 6, none⟩ = some (.int .i64 dp) := (by subst hW; go_simp)))
  have hn : New w W := by subst hW; (repeat (first | (with_reducible exact New.refl _) | (with_reducible assumption) | ((with_reducible refine New.setB ?_ ?_ _); focus (first | omega | (simp; omega) | (simp; done))) | (with_reducible refine New.alloc ?_ _) | (with_reducible refine New.drew ?_) | (with_reducible refine New.drewN ?_ _) | (with_reducible refine New.hat ?_ _) | ((with_reducible apply New.snart); (with_reducible assumption))))
  clear hW
  refine (RA.out _).mono ?_
  rintro e w2 ⟨v, rfl, hrow, n2⟩
  have hS := Lib.hid (own_sl iE_len hrow)
  obtain ⟨at0, cap, rfl, -, -, -⟩ := sl_at hS.out
  ((replace c0 := New.keep n2 c0); (replace c1 := New.keep n2 c1); (replace c2 := New.keep n2 c2); (replace c3 := New.keep n2 c3); (replace c4 := New.keep n2 c4); (replace c5 := New.keep n2 c5); (replace c6 := New.keep n2 c6))
  replace hn := hn.trans n2
  clear hrow n2 RA
  go_wp2_with fail
  refine (CN.out _).mono ?_
  rintro e w3 ⟨rfl, n3⟩
  ((replace c0 := New.keep n3 c0); (replace c1 := New.keep n3 c1); (replace c2 := New.keep n3 c2); (replace c3 := New.keep n3 c3); (replace c4 := New.keep n3 c4); (replace c5 := New.keep n3 c5); (replace c6 := New.keep n3 c6))
  replace hn := hn.trans n3
  go_wp2_with fail
  refine (RN.out _).mono ?_
  rintro e w4 ⟨rfl, n4⟩
  ((replace c0 := New.keep n4 c0); (replace c1 := New.keep n4 c1); (replace c2 := New.keep n4 c2); (replace c3 := New.keep n4 c3); (replace c4 := New.keep n4 c4); (replace c5 := New.keep n4 c5); (replace c6 := New.keep n4 c6))
  replace hn := hn.trans n4
  go_wp2_with fail
  refine (GG.out _ _ (L.out.new hn) (hS.out.keep (n3.trans n4))).mono ?_
  rintro e w5 ⟨rfl, n5⟩
  ((replace c0 := New.keep n5 c0); (replace c1 := New.keep n5 c1); (replace c2 := New.keep n5 c2); (replace c3 := New.keep n5 c3); (replace c4 := New.keep n5 c4); (replace c5 := New.keep n5 c5); (replace c6 := New.keep n5 c6))
  replace hn := hn.trans n5
  clear n3 n4 n5 GG RN CN hS
  have LW := Lib.hid (L.out.new hn)
  go_wp2_with fail
  go_loopg [15] (n + 2).toNat (fun k i wr => ∃ m : Int, i = .int .i64 m ∧ -1 ≤ m ∧ m ≤ n + 1 ∧ k = (n + 1 - m).toNat ∧ New w5 wr)
  case atStart => exact ⟨-1, rfl, by omega, by omega, by omega, New.refl _⟩
  case round =>
    obtain ⟨m, rfl, hm0, hm1, hk, hw⟩ := hrel
    ((replace c0 := New.keep hw c0); (replace c1 := New.keep hw c1); (replace c2 := New.keep hw c2); (replace c3 := New.keep hw c3); (replace c4 := New.keep hw c4); (replace c5 := New.keep hw c5); (replace c6 := New.keep hw c6))
    by_cases hlt : m ≤ n
    · have bl : decide (m ≤ n) = true := decide_eq_true hlt
      have U1 := Lib.hid (fun x : Hat wr => T1.out m x.w (LW.out.new (hw.trans x.h)))
      have U2 := Lib.hid (fun W => T2.out m W)
      clear T1 T2
      generalize touchB cl cb ht ri ru wd dp m x0 z0 x1 z1 = b at *
      have hbb : (b != b) = false := by simp
      go_wp2_with fail
      cases b <;>
      · (refine wp_region_hat (by kernel_rfl) (by kernel_rfl) ?_; intro hatc hatf; (repeat (go_big_quiet_step ((first | (go_at_call 11; exact Calls.hat (U1.out _)) | (go_at_call 12; exact Calls.hat (U2.out _)))))); refine wpQuiet_nil ?_; rintro _ ⟨x, rfl⟩)
        clear c0 c1 c2 c3 c4 c5 c6 hatc hatf
        replace hw := New.trans hw x.h
        generalize x.w = V at *
        go_wp2_with fail
        go_roundg (gk - 1)
        case measure => omega
        case rel => exact ⟨m + 1, rfl, by omega, by omega, by omega, hw⟩
    · have bl : decide (m ≤ n) = false := decide_eq_false hlt
      clear T1 T2
      go_wp2_with fail
      refine (WK.out _ (LW.out.new hw)).mono ?_
      rintro e w6 ⟨rfl, n6⟩
      go_wp2_with fail
      go_ret
      exact ⟨rfl, hn.trans (hw.trans n6)⟩

end Go.Proofs.YtonngfogbnfbnaaDoor
