/- Of the law's package: config, wakes; and plain facts of stretches. -/
import Derived.Test.YtonngfogbnfbnaaDoorBinsC
namespace Go.Proofs.YtonngfogbnfbnaaDoor
open Go.RowKit
set_option linter.unusedVariables false

set_option maxHeartbeats 400000 in
theorem config_any (cl wd dp : Int) (w : World) :
    Calls Tryd.prog 19 #[.int .i64 cl, .int .i64 wd, .int .i64 dp] w fun e w' => e = .returned (.agg #[.int .i64 cl, .int .i64 1, .int .i64 3, .int .i64 1, .int .i64 1, .int .i64 wd, .int .i64 dp]) ∧ New w w' := by
  go_enter Tryd.func19, Tryd.ntmps19
  go_wp2
  refine bodyPost_ret (v := .agg #[.int .i64 cl, .int .i64 1, .int .i64 3, .int .i64 1, .int .i64 1, .int .i64 wd, .int .i64 dp]) (by simp [results, Tryd.results19, go_sem, *]) rfl ?_
  exact ⟨rfl, by (repeat (first | (with_reducible exact New.refl _) | (with_reducible assumption) | ((with_reducible refine New.setB ?_ ?_ _); focus (first | omega | (simp; omega) | (simp; done))) | (with_reducible refine New.alloc ?_ _) | (with_reducible refine New.drew ?_) | (with_reducible refine New.drewN ?_ _) | (with_reducible refine New.hat ?_ _) | ((with_reducible apply New.snart); (with_reducible assumption))))⟩

set_option maxHeartbeats 1000000 in
theorem wakes_any (w : World) (hl : Nowhere w) :
    Calls Tryd.prog 13 #[] w fun e w' => e = .returned (.bool true) ∧ New w w' := by
  have CC : ∀ W, Calls Tryd.prog 8 #[.agg #[.int .i64 0, .int .i64 1, .int .i64 3, .int .i64 1, .int .i64 1, .int .i64 32, .int .i64 32]] W fun e w' => e = .returned (.int .i64 16) ∧ New W w' := fun W => Count_any 0 1 3 1 1 32 32 W
  have T1 : ∀ W, Nowhere W → Calls Tryd.prog 11 #[.agg #[.int .i64 0, .int .i64 1, .int .i64 3, .int .i64 1, .int .i64 1, .int .i64 32, .int .i64 32], .int .i64 0, .int .i64 4, .int .i64 0, .int .i64 4, .int .i64 0] W fun e w' => e = .returned (.bool true) ∧ New W w' := fun W h => Touch_any 0 1 3 1 1 32 32 0 4 0 4 0 W h
  have T2 : ∀ W, Nowhere W → Calls Tryd.prog 11 #[.agg #[.int .i64 0, .int .i64 1, .int .i64 3, .int .i64 1, .int .i64 1, .int .i64 32, .int .i64 32], .int .i64 1, .int .i64 4, .int .i64 0, .int .i64 4, .int .i64 0] W fun e w' => e = .returned (.bool true) ∧ New W w' := fun W h => Touch_any 0 1 3 1 1 32 32 1 4 0 4 0 W h
  have T3 : ∀ W, Nowhere W → Calls Tryd.prog 11 #[.agg #[.int .i64 0, .int .i64 1, .int .i64 3, .int .i64 1, .int .i64 1, .int .i64 32, .int .i64 32], .int .i64 1, .int .i64 0, .int .i64 0, .int .i64 3, .int .i64 0] W fun e w' => e = .returned (.bool false) ∧ New W w' := fun W h => Touch_any 0 1 3 1 1 32 32 1 0 0 3 0 W h
  have T4 : ∀ W, Nowhere W → Calls Tryd.prog 11 #[.agg #[.int .i64 0, .int .i64 1, .int .i64 3, .int .i64 1, .int .i64 1, .int .i64 32, .int .i64 32], .int .i64 16, .int .i64 0, .int .i64 0, .int .i64 99, .int .i64 99] W fun e w' => e = .returned (.bool false) ∧ New W w' := fun W h => Touch_any 0 1 3 1 1 32 32 16 0 0 99 99 W h
  have C1 := Lib.hid CC
  have U1 := Lib.hid T1
  have U2 := Lib.hid T2
  have U3 := Lib.hid T3
  have U4 := Lib.hid T4
  have GC := Lib.hid (fun W => config_any 0 32 32 W)
  have L := Lib.hid hl
  clear CC T1 T2 T3 T4 hl
  go_enter Tryd.func13, Tryd.ntmps13
  go_wp2_with fail
  refine (GC.out _).mono ?_
  rintro e w1 ⟨rfl, n1⟩
  go_wp2_with fail
  refine Calls.at (fun W hW => ?_)
  ((have c0 : W.cell? ⟨w1.heap.size, 0, none⟩ = some (.int .i64 0) := (by subst hW; go_simp)); (have c1 : W.cell? ⟨w1.heap.size, 1, none⟩ = some (.int .i64 1) := (by subst hW; go_simp)); (have c2 : W.cell? ⟨w1.heap.size, 2, none⟩ = some (.int .i64 3) := (by subst hW; go_simp)); (have c3 : W.cell? ⟨w1.heap.size, 3, none⟩ = some (.int .i64 1) := (by subst hW; go_simp)); (have c4 : W.cell? ⟨w1.heap.size, 4, none⟩ = some (.int .i64 1) := (by subst hW; go_simp)); (have c5 : W.cell? ⟨w1.heap.size, 5, none⟩ = some (.int .i64 32) := (by subst hW; go_simp)); (have c6 : W.cell? ⟨w1.heap.size, 6, none⟩ = some (.int .i64 32) := (by subst hW; go_simp)))
  have hn : New w W := by subst hW; (repeat (first | (with_reducible exact New.refl _) | (with_reducible assumption) | ((with_reducible refine New.setB ?_ ?_ _); focus (first | omega | (simp; omega) | (simp; done))) | (with_reducible refine New.alloc ?_ _) | (with_reducible refine New.drew ?_) | (with_reducible refine New.drewN ?_ _) | (with_reducible refine New.hat ?_ _) | ((with_reducible apply New.snart); (with_reducible assumption))))
  clear hW n1
  refine (C1.out _).mono ?_
  rintro e w2 ⟨rfl, n2⟩
  ((replace c0 := New.keep n2 c0); (replace c1 := New.keep n2 c1); (replace c2 := New.keep n2 c2); (replace c3 := New.keep n2 c3); (replace c4 := New.keep n2 c4); (replace c5 := New.keep n2 c5); (replace c6 := New.keep n2 c6))
  replace hn := hn.trans n2
  go_wp2_with fail
  refine (U1.out _ (L.out.new hn)).mono ?_
  rintro e w3 ⟨rfl, n3⟩
  ((replace c0 := New.keep n3 c0); (replace c1 := New.keep n3 c1); (replace c2 := New.keep n3 c2); (replace c3 := New.keep n3 c3); (replace c4 := New.keep n3 c4); (replace c5 := New.keep n3 c5); (replace c6 := New.keep n3 c6))
  replace hn := hn.trans n3
  go_wp2_with fail
  refine (U2.out _ (L.out.new hn)).mono ?_
  rintro e w4 ⟨rfl, n4⟩
  ((replace c0 := New.keep n4 c0); (replace c1 := New.keep n4 c1); (replace c2 := New.keep n4 c2); (replace c3 := New.keep n4 c3); (replace c4 := New.keep n4 c4); (replace c5 := New.keep n4 c5); (replace c6 := New.keep n4 c6))
  replace hn := hn.trans n4
  go_wp2_with fail
  refine (U3.out _ (L.out.new hn)).mono ?_
  rintro e w5 ⟨rfl, n5⟩
  ((replace c0 := New.keep n5 c0); (replace c1 := New.keep n5 c1); (replace c2 := New.keep n5 c2); (replace c3 := New.keep n5 c3); (replace c4 := New.keep n5 c4); (replace c5 := New.keep n5 c5); (replace c6 := New.keep n5 c6))
  replace hn := hn.trans n5
  go_wp2_with fail
  refine (U4.out _ (L.out.new hn)).mono ?_
  rintro e w6 ⟨rfl, n6⟩
  replace hn := hn.trans n6
  clear n2 n3 n4 n5 n6
  go_wp2_with fail
  go_ret
  exact ⟨rfl, hn⟩

/-- A stretch in two halves, the one way. -/
theorem halves_x (cl cb ht ri ru wd dp k x0 z0 x1 z1 m : Int) (h : x0 ≤ m ∧ m ≤ x1) :
    touchB cl cb ht ri ru wd dp k x0 z0 x1 z1 = (touchB cl cb ht ri ru wd dp k x0 z0 m z1 || touchB cl cb ht ri ru wd dp k m z0 x1 z1) := by
  by_cases hk : 0 ≤ k ∧ k < countN cl cb ht ri ru wd dp
  · have hok : checkB cl cb ht ri ru wd dp = true := by
      cases hh : checkB cl cb ht ri ru wd dp with
      | true => rfl
      | false => unfold countN at hk; rw [hh] at hk; simp at hk; omega
    have hp := pad_facts hok hk
    unfold touchB
    rw [decide_eq_true hk, Bool.true_and, Bool.true_and, Bool.true_and, ← Bool.decide_and, ← Bool.decide_and, ← Bool.decide_and, ← Bool.decide_or, decide_eq_decide]
    omega
  · unfold touchB
    rw [decide_eq_false hk]; rfl

/-- A stretch in two halves, the other way. -/
theorem halves_z (cl cb ht ri ru wd dp k x0 z0 x1 z1 m : Int) (h : z0 ≤ m ∧ m ≤ z1) :
    touchB cl cb ht ri ru wd dp k x0 z0 x1 z1 = (touchB cl cb ht ri ru wd dp k x0 z0 x1 m || touchB cl cb ht ri ru wd dp k x0 m x1 z1) := by
  by_cases hk : 0 ≤ k ∧ k < countN cl cb ht ri ru wd dp
  · have hok : checkB cl cb ht ri ru wd dp = true := by
      cases hh : checkB cl cb ht ri ru wd dp with
      | true => rfl
      | false => unfold countN at hk; rw [hh] at hk; simp at hk; omega
    have hp := pad_facts hok hk
    unfold touchB
    rw [decide_eq_true hk, Bool.true_and, Bool.true_and, Bool.true_and, ← Bool.decide_and, ← Bool.decide_and, ← Bool.decide_and, ← Bool.decide_or, decide_eq_decide]
    omega
  · unfold touchB
    rw [decide_eq_false hk]; rfl

end Go.Proofs.YtonngfogbnfbnaaDoor
