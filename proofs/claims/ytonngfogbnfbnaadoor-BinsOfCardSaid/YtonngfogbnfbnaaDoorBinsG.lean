/- The document's own answers on tiles: wide, Count, Touch, All. -/
import Derived.Test.YtonngfogbnfbnaaDoorSoW
import Derived.Test.YtonngfogbnfbnaaDoorBinsD
import Derived.Test.YtonngfogbnfbnaaDoorWholeJ
import Derived.Outline
import Derived.Deep.DeepCutAuto
import Derived.Deep.LoopGhost
namespace Go.Proofs.YtonngfogbnfbnaaDoor
open Go.RowKit
set_option linter.unusedVariables false
set_option maxRecDepth 100000

theorem rwide_any (n : Int) (h : 1 ≤ n ∧ n ≤ 32) (w : World) :
    Calls Tryd.prog 23 #[.int .i64 n] w fun e w' => e = .returned (.int .i64 (rowN n)) ∧ New w w' := by
  have hb := rowN_bd h
  unfold rowN at hb
  go_enter Tryd.func23, Tryd.ntmps23
  go_wp2
  go_ret
  exact ⟨rfl, New.refl _⟩

set_option maxHeartbeats 400000 in
theorem rCount_any (cl cb ht ri ru wd dp : Int) (w : World) :
    Calls Tryd.prog 9 #[.agg #[.int .i64 cl, .int .i64 cb, .int .i64 ht, .int .i64 ri, .int .i64 ru, .int .i64 wd, .int .i64 dp]] w fun e w' => e = .returned (.int .i64 (countN cl cb ht ri ru wd dp)) ∧ New w w' := by
  cases hok : checkB cl cb ht ri ru wd dp with
  | false =>
    have e0 := checkE_bad hok
    have e1 : countN cl cb ht ri ru wd dp = 0 := by unfold countN; rw [hok]; rfl
    rw [e1]
    have C0 : ∀ W, Calls Tryd.prog 22 #[.agg #[.int .i64 cl, .int .i64 cb, .int .i64 ht, .int .i64 ri, .int .i64 ru, .int .i64 wd, .int .i64 dp]] W fun e w' => e = .returned (.int .i64 20) ∧ New W w' := fun W => (rcheck_any cl cb ht ri ru wd dp W).mono fun e w' h => ⟨by rw [h.1, e0], h.2.1⟩
    have CC := Lib.hid C0
    clear C0 hok e0 e1
    go_enter Tryd.func9, Tryd.ntmps9
    go_wp2_with fail
    refine (CC.out _).mono ?_
    rintro e w' ⟨rfl, n1⟩
    go_wp2_with fail
    go_ret
    exact ⟨rfl, New.trans (by (repeat (first | (with_reducible exact New.refl _) | (with_reducible assumption) | ((with_reducible refine New.setB ?_ ?_ _); focus (first | omega | (simp; omega) | (simp; done))) | (with_reducible refine New.alloc ?_ _) | (with_reducible refine New.drew ?_) | (with_reducible refine New.drewN ?_ _) | (with_reducible refine New.hat ?_ _) | ((with_reducible apply New.snart); (with_reducible assumption))))) n1⟩
  | true =>
    have e0 := checkE_zero hok
    have e1 : countN cl cb ht ri ru wd dp = rowN wd * rowN dp := by unfold countN; rw [hok]; rfl
    have hb := count_bd cl cb ht ri ru wd dp
    rw [e1] at hb
    rw [e1]
    have hk := checkB_iff.1 hok
    have IW := Lib.hid (fun W => rwide_any wd hk.2.2.2.2.2.1 W)
    have ID := Lib.hid (fun W => rwide_any dp hk.2.2.2.2.2.2 W)
    have C0 : ∀ W, Calls Tryd.prog 22 #[.agg #[.int .i64 cl, .int .i64 cb, .int .i64 ht, .int .i64 ri, .int .i64 ru, .int .i64 wd, .int .i64 dp]] W fun e w' => e = .returned (.int .i64 0) ∧ New W w' := fun W => (rcheck_any cl cb ht ri ru wd dp W).mono fun e w' h => ⟨by rw [h.1, e0], h.2.1⟩
    have CC := Lib.hid C0
    clear C0 hok e0 e1 hk
    go_enter Tryd.func9, Tryd.ntmps9
    go_wp2_with fail
    refine (CC.out _).mono ?_
    rintro e w1 ⟨rfl, n1⟩
    go_wp2_with fail
    have c5 : w1.cell? ⟨w.heap.size, 5, none⟩ = some (.int .i64 wd) := n1.keep (by go_simp)
    have c6 : w1.cell? ⟨w.heap.size, 6, none⟩ = some (.int .i64 dp) := n1.keep (by go_simp)
    replace n1 : New w w1 := New.trans (by (repeat (first | (with_reducible exact New.refl _) | (with_reducible assumption) | ((with_reducible refine New.setB ?_ ?_ _); focus (first | omega | (simp; omega) | (simp; done))) | (with_reducible refine New.alloc ?_ _) | (with_reducible refine New.drew ?_) | (with_reducible refine New.drewN ?_ _) | (with_reducible refine New.hat ?_ _) | ((with_reducible apply New.snart); (with_reducible assumption))))) n1
    (refine wp_region_hat (by kernel_rfl) (by kernel_rfl) ?_; intro hatc hatf; (repeat (go_big_quiet_step ((go_at_call 23; first | (with_reducible exact Calls.hat (IW.out _)) | (with_reducible exact Calls.hat (ID.out _)))))); refine wpQuiet_nil ?_; rintro _ ⟨x, rfl⟩)
    go_wp2_with fail
    go_ret
    exact ⟨rfl, New.trans n1 x.h⟩

theorem touch_out {cl cb ht ri ru wd dp k x0 z0 x1 z1 : Int} (h : ¬ (0 ≤ k ∧ k < countN cl cb ht ri ru wd dp)) : touchB cl cb ht ri ru wd dp k x0 z0 x1 z1 = false := by
  unfold touchB; rw [decide_eq_false h]; rfl
theorem touch_cross {cl cb ht ri ru wd dp k x0 z0 x1 z1 : Int} (h : ¬ (x0 ≤ x1 ∧ z0 ≤ z1)) : touchB cl cb ht ri ru wd dp k x0 z0 x1 z1 = false := by
  unfold touchB; rw [decide_eq_false h]; simp

set_option maxHeartbeats 1000000 in
theorem rTouch_in (cl cb ht ri ru wd dp k x0 z0 x1 z1 : Int) (hk : 0 ≤ k ∧ k < countN cl cb ht ri ru wd dp) (hxz : x0 ≤ x1 ∧ z0 ≤ z1) (w : World) :
    Calls Tryd.prog 12 #[.agg #[.int .i64 cl, .int .i64 cb, .int .i64 ht, .int .i64 ri, .int .i64 ru, .int .i64 wd, .int .i64 dp], .int .i64 k, .int .i64 x0, .int .i64 z0, .int .i64 x1, .int .i64 z1] w fun e w' => e = .returned (.bool (touchB cl cb ht ri ru wd dp k x0 z0 x1 z1)) ∧ New w w' := by
  have hok : checkB cl cb ht ri ru wd dp = true := by
    cases hh : checkB cl cb ht ri ru wd dp with
    | true => rfl
    | false => unfold countN at hk; rw [hh] at hk; simp at hk; omega
  have e1 : touchB cl cb ht ri ru wd dp k x0 z0 x1 z1 = decide (x0 ≤ padX1 cl wd k ∧ padX0 cl wd k ≤ x1 ∧ z0 ≤ padZ1 cl wd dp k ∧ padZ0 cl wd k ≤ z1) := by
    unfold touchB; rw [decide_eq_true hk, decide_eq_true hxz, Bool.true_and, Bool.true_and]
  rw [e1]
  have hc := checkB_iff.1 hok
  have hb := count_bd cl cb ht ri ru wd dp
  have hr := rowN_bd hc.2.2.2.2.2.1
  have hz : rowN wd ≠ 0 := by omega
  have hm : 0 ≤ k % rowN wd ∧ k % rowN wd ≤ 4 := by
    have := Int.emod_lt_of_pos k (b := rowN wd) (by omega)
    have := Int.emod_nonneg k hz
    omega
  have hd : 0 ≤ k / rowN wd ∧ k / rowN wd ≤ 16 :=
    ⟨Int.ediv_nonneg (by omega) (by omega), Int.le_trans (Int.ediv_le_self _ (by omega)) (by omega)⟩
  have IW := Lib.hid (fun W => rwide_any wd hc.2.2.2.2.2.1 W)
  have CC := Lib.hid (fun W => rCount_any cl cb ht ri ru wd dp W)
  have b0 : decide (k < 0) = false := decide_eq_false (by omega)
  have b1 : decide (countN cl cb ht ri ru wd dp ≤ k) = false := decide_eq_false (by omega)
  have b2 : decide (x1 < x0) = false := decide_eq_false (by omega)
  have b3 : decide (z1 < z0) = false := decide_eq_false (by omega)
  have hcl := hc.1
  have hwd := hc.2.2.2.2.2.1
  have hdp := hc.2.2.2.2.2.2
  unfold padX0 padX1 padZ0 padZ1 lowS highS
  generalize countN cl cb ht ri ru wd dp = n at *
  clear e1 hok hc hxz
  go_enter Tryd.func12, Tryd.ntmps12
  go_wp2_with fail
  refine (CC.out _).mono ?_
  rintro e w1 ⟨rfl, n1⟩
  have c0 : w1.cell? ⟨w.heap.size, 0, none⟩ = some (.int .i64 cl) := n1.keep (by go_simp)
  have c5 : w1.cell? ⟨w.heap.size, 5, none⟩ = some (.int .i64 wd) := n1.keep (by go_simp)
  have c6 : w1.cell? ⟨w.heap.size, 6, none⟩ = some (.int .i64 dp) := n1.keep (by go_simp)
  replace n1 : New w w1 := New.trans (by (repeat (first | (with_reducible exact New.refl _) | (with_reducible assumption) | ((with_reducible refine New.setB ?_ ?_ _); focus (first | omega | (simp; omega) | (simp; done))) | (with_reducible refine New.alloc ?_ _) | (with_reducible refine New.drew ?_) | (with_reducible refine New.drewN ?_ _) | (with_reducible refine New.hat ?_ _) | ((with_reducible apply New.snart); (with_reducible assumption))))) n1
  clear CC
  go_wp2_with fail
  (refine wp_region_hat (by kernel_rfl) (by kernel_rfl) ?_; intro hatc hatf; (repeat (go_big_quiet_step ((go_at_call 23; (with_reducible exact Calls.hat (IW.out _)))))); refine wpQuiet_nil ?_; rintro _ ⟨x, rfl⟩)
  clear hatc hatf
  replace c0 := New.keep x.h c0
  replace c5 := New.keep x.h c5
  replace c6 := New.keep x.h c6
  replace n1 := New.trans n1 x.h
  generalize x.w = w2 at *
  clear x IW hz
  generalize hA : k % rowN wd = a at *
  generalize hB : k / rowN wd = b at *
  have HA := Lib.hid hA
  have HB := Lib.hid hB
  clear hA hB
  go_wp2_with fail
  (refine wp_region_hat (by kernel_rfl) (by kernel_rfl) ?_; intro hatc hatf; (repeat (go_big_quiet_step ((fail)))); refine wpQuiet_nil ?_; rintro _ ⟨x, rfl⟩)
  clear hatc hatf
  replace c0 := New.keep x.h c0
  replace c5 := New.keep x.h c5
  replace c6 := New.keep x.h c6
  replace n1 := New.trans n1 x.h
  generalize x.w = w3 at *
  clear x
  go_wp2_with fail
  (refine wp_region_hat (by kernel_rfl) (by kernel_rfl) ?_; intro hatc hatf; (repeat (go_big_quiet_step ((fail)))); refine wpQuiet_nil ?_; rintro _ ⟨x, rfl⟩)
  clear hatc hatf c0 c5 c6
  replace n1 := New.trans n1 x.h
  generalize x.w = w4 at *
  clear x
  go_wp2_with fail
  all_goals
    go_ret
    refine ⟨congrArg (fun b => Ending.returned (.bool b)) ?_, n1⟩
    simp only [HA.out, HB.out]
    rw [Bool.eq_iff_iff]
    simp only [Bool.and_eq_true, decide_eq_true_eq, Bool.false_eq_true, false_iff]
    omega

set_option maxHeartbeats 1000000 in
theorem rTouch_any (cl cb ht ri ru wd dp k x0 z0 x1 z1 : Int) (w : World) :
    Calls Tryd.prog 12 #[.agg #[.int .i64 cl, .int .i64 cb, .int .i64 ht, .int .i64 ri, .int .i64 ru, .int .i64 wd, .int .i64 dp], .int .i64 k, .int .i64 x0, .int .i64 z0, .int .i64 x1, .int .i64 z1] w fun e w' => e = .returned (.bool (touchB cl cb ht ri ru wd dp k x0 z0 x1 z1)) ∧ New w w' := by
  have CC := Lib.hid (fun W => rCount_any cl cb ht ri ru wd dp W)
  by_cases h0 : k < 0
  · rw [touch_out (by omega)]
    have b0 : decide (k < 0) = true := decide_eq_true h0
    clear h0
    go_enter Tryd.func12, Tryd.ntmps12
    go_wp2_with fail
    go_ret
    exact ⟨rfl, by (repeat (first | (with_reducible exact New.refl _) | (with_reducible assumption) | ((with_reducible refine New.setB ?_ ?_ _); focus (first | omega | (simp; omega) | (simp; done))) | (with_reducible refine New.alloc ?_ _) | (with_reducible refine New.drew ?_) | (with_reducible refine New.drewN ?_ _) | (with_reducible refine New.hat ?_ _) | ((with_reducible apply New.snart); (with_reducible assumption))))⟩
  have b0 : decide (k < 0) = false := decide_eq_false h0
  by_cases h1 : k < countN cl cb ht ri ru wd dp
  · by_cases h2 : x1 < x0
    · rw [touch_cross (by omega)]
      have b1 : decide (countN cl cb ht ri ru wd dp ≤ k) = false := decide_eq_false (by omega)
      have b2 : decide (x1 < x0) = true := decide_eq_true h2
      generalize countN cl cb ht ri ru wd dp = n at *
      clear h0 h1 h2
      go_enter Tryd.func12, Tryd.ntmps12
      go_wp2_with fail
      refine (CC.out _).mono ?_
      rintro e w1 ⟨rfl, n1⟩
      go_wp2_with fail
      go_ret
      exact ⟨rfl, New.trans (by (repeat (first | (with_reducible exact New.refl _) | (with_reducible assumption) | ((with_reducible refine New.setB ?_ ?_ _); focus (first | omega | (simp; omega) | (simp; done))) | (with_reducible refine New.alloc ?_ _) | (with_reducible refine New.drew ?_) | (with_reducible refine New.drewN ?_ _) | (with_reducible refine New.hat ?_ _) | ((with_reducible apply New.snart); (with_reducible assumption))))) n1⟩
    · by_cases h3 : z1 < z0
      · rw [touch_cross (by omega)]
        have b1 : decide (countN cl cb ht ri ru wd dp ≤ k) = false := decide_eq_false (by omega)
        have b2 : decide (x1 < x0) = false := decide_eq_false h2
        have b3 : decide (z1 < z0) = true := decide_eq_true h3
        generalize countN cl cb ht ri ru wd dp = n at *
        clear h0 h1 h2 h3
        go_enter Tryd.func12, Tryd.ntmps12
        go_wp2_with fail
        refine (CC.out _).mono ?_
        rintro e w1 ⟨rfl, n1⟩
        go_wp2_with fail
        go_ret
        exact ⟨rfl, New.trans (by (repeat (first | (with_reducible exact New.refl _) | (with_reducible assumption) | ((with_reducible refine New.setB ?_ ?_ _); focus (first | omega | (simp; omega) | (simp; done))) | (with_reducible refine New.alloc ?_ _) | (with_reducible refine New.drew ?_) | (with_reducible refine New.drewN ?_ _) | (with_reducible refine New.hat ?_ _) | ((with_reducible apply New.snart); (with_reducible assumption))))) n1⟩
      · exact rTouch_in cl cb ht ri ru wd dp k x0 z0 x1 z1 ⟨by omega, h1⟩ ⟨by omega, by omega⟩ w
  · rw [touch_out (by omega)]
    have b1 : decide (countN cl cb ht ri ru wd dp ≤ k) = true := decide_eq_true (by omega)
    generalize countN cl cb ht ri ru wd dp = n at *
    clear h0 h1
    go_enter Tryd.func12, Tryd.ntmps12
    go_wp2_with fail
    refine (CC.out _).mono ?_
    rintro e w1 ⟨rfl, n1⟩
    go_wp2_with fail
    go_ret
    exact ⟨rfl, New.trans (by (repeat (first | (with_reducible exact New.refl _) | (with_reducible assumption) | ((with_reducible refine New.setB ?_ ?_ _); focus (first | omega | (simp; omega) | (simp; done))) | (with_reducible refine New.alloc ?_ _) | (with_reducible refine New.drew ?_) | (with_reducible refine New.drewN ?_ _) | (with_reducible refine New.hat ?_ _) | ((with_reducible apply New.snart); (with_reducible assumption))))) n1⟩

/-- Those of the first m numbers that T says. -/
def upTo (T : Int → Bool) (m : Nat) : List Int := ((List.range m).map (fun j : Nat => (j : Int))).filter T
theorem upTo_succ (T : Int → Bool) (m : Nat) : upTo T (m + 1) = upTo T m ++ (if T m then [(m : Int)] else []) := by
  unfold upTo
  rw [List.range_succ, List.map_append, List.filter_append, List.map_cons, List.map_nil, List.filter_cons, List.filter_nil]
theorem upTo_len (T : Int → Bool) (m : Nat) : (upTo T m).length ≤ m := by
  unfold upTo
  refine Nat.le_trans (List.length_filter_le _ _) ?_
  simp

/-- The tiles that the stretch touches, rising. -/
def tilesL (cl cb ht ri ru wd dp x0 z0 x1 z1 : Int) : List Int := upTo (fun k => touchB cl cb ht ri ru wd dp k x0 z0 x1 z1) (countN cl cb ht ri ru wd dp).toNat
theorem tilesL_len (cl cb ht ri ru wd dp x0 z0 x1 z1 : Int) : (tilesL cl cb ht ri ru wd dp x0 z0 x1 z1).length ≤ 16 := by
  have := count_bd cl cb ht ri ru wd dp
  exact Nat.le_trans (upTo_len _ _) (by omega)

theorem own_mono {w : World} {base b0 size : Nat} {e : TypeId} {v : Value} {n : Nat} {xs : List Value} (h : w.ownsRow base e size v n xs) (hb : b0 ≤ base) : w.ownsRow b0 e size v n xs := by
  obtain ⟨h1, h2⟩ := h
  refine ⟨h1, h2.imp id ?_⟩
  rintro ⟨g, cap, cur, rfl, hg, r⟩
  exact ⟨g, cap, cur, rfl, Nat.le_trans hb hg, r⟩

abbrev iE (t : Int) : List Value := [.int .i64 t]
theorem iE_len (t : Int) : (iE t).length = 1 := rfl
theorem int_info : (Tryd.prog.info? 3).map (fun i => (i.zero, i.size, i.bytes)) = some (some (.int .i64 0), 1, 8) := by kernel_rfl
theorem cells_int (w : World) (t : Int) (ty : TypeId) : ∀ j u, (iE t)[j]? = some u → (w.alloc (.cells #[.int .i64 t] ty)).cell? ((⟨w.heap.size, 0, none⟩ : Addr).add j) = some u := by
  intro j u hj
  match j, hj with
  | 0, hj => simp at hj; subst hj; simp [Addr.add]
  | j + 1, hj => simp at hj

set_option maxHeartbeats 4000000 in
theorem rAll_any (cl cb ht ri ru wd dp x0 z0 x1 z1 : Int) (w : World) :
    Calls Tryd.prog 7 #[.agg #[.int .i64 cl, .int .i64 cb, .int .i64 ht, .int .i64 ri, .int .i64 ru, .int .i64 wd, .int .i64 dp], .int .i64 x0, .int .i64 z0, .int .i64 x1, .int .i64 z1] w fun e w' => ∃ v, e = .returned v ∧ w'.ownsRow w.heap.size 3 1 v (tilesL cl cb ht ri ru wd dp x0 z0 x1 z1).length ((tilesL cl cb ht ri ru wd dp x0 z0 x1 z1).flatMap iE) ∧ New w w' := by
  obtain ⟨i0, hi, hz0, hz1, hz2⟩ := info_parts int_info
  have CC := Lib.hid (fun W => rCount_any cl cb ht ri ru wd dp W)
  have T0 : ∀ k W, Calls Tryd.prog 12 #[.agg #[.int .i64 cl, .int .i64 cb, .int .i64 ht, .int .i64 ri, .int .i64 ru, .int .i64 wd, .int .i64 dp], .int .i64 k, .int .i64 x0, .int .i64 z0, .int .i64 x1, .int .i64 z1] W fun e w' => e = .returned (.bool ((fun k => touchB cl cb ht ri ru wd dp k x0 z0 x1 z1) k)) ∧ New W w' := fun k W => rTouch_any cl cb ht ri ru wd dp k x0 z0 x1 z1 W
  have hb := count_bd cl cb ht ri ru wd dp
  unfold tilesL
  generalize (fun k => touchB cl cb ht ri ru wd dp k x0 z0 x1 z1) = T at T0 ⊢
  have TT := Lib.hid T0
  clear T0
  have HI := Lib.hid hi
  clear hi
  generalize hn : countN cl cb ht ri ru wd dp = n at *
  clear hn
  go_enter Tryd.func7, Tryd.ntmps7
  go_wp2_with fail
  refine Calls.at (fun W hW => ?_)
  ((have c0 : W.cell? ⟨w.heap.size, 0, none⟩ = some (.int .i64 cl) := (by subst hW; go_simp)); (have c1 : W.cell? ⟨w.heap.size, 1, none⟩ = some (.int .i64 cb) := (by subst hW; go_simp)); (have c2 : W.cell? ⟨w.heap.size, 2, none⟩ = some (.int .i64 ht) := (by subst hW; go_simp)); (have c3 : W.cell? ⟨w.heap.size, 3, none⟩ = some (.int .i64 ri) := (by subst hW; go_simp)); (have c4 : W.cell? ⟨w.heap.size, 4, none⟩ = some (.int .i64 ru) := (by subst hW; go_simp)); (have c5 : W.cell? ⟨w.heap.size, 5, none⟩ = some (.int .i64 wd) := (by subst hW; go_simp)); (have c6 : W.cell? ⟨w.heap.size, 6, none⟩ = some (.int .i64 dp) := (by subst hW; go_simp)))
  have hn : New w W := by subst hW; (repeat (first | (with_reducible exact New.refl _) | (with_reducible assumption) | ((with_reducible refine New.setB ?_ ?_ _); focus (first | omega | (simp; omega) | (simp; done))) | (with_reducible refine New.alloc ?_ _) | (with_reducible refine New.drew ?_) | (with_reducible refine New.drewN ?_ _) | (with_reducible refine New.hat ?_ _) | ((with_reducible apply New.snart); (with_reducible assumption))))
  clear hW
  refine (CC.out _).mono ?_
  rintro e w1 ⟨rfl, n1⟩
  ((replace c0 := New.keep n1 c0); (replace c1 := New.keep n1 c1); (replace c2 := New.keep n1 c2); (replace c3 := New.keep n1 c3); (replace c4 := New.keep n1 c4); (replace c5 := New.keep n1 c5); (replace c6 := New.keep n1 c6))
  replace hn := hn.trans n1
  clear n1 CC
  go_wp2_with fail
  go_loopg [11, 13] n.toNat (fun k s i wr => ∃ m : Nat, i = .int .i64 m ∧ m + k = n.toNat ∧ wr.ownsRow w1.heap.size 3 1 s (upTo T m).length ((upTo T m).flatMap iE) ∧ New w1 wr)
  case atStart => exact ⟨0, by simp, by omega, World.ownsRow_nil _ _ _ _, New.refl _⟩
  case round =>
    obtain ⟨m, rfl, hm, hown, hw⟩ := hrel
    ((replace c0 := New.keep hw c0); (replace c1 := New.keep hw c1); (replace c2 := New.keep hw c2); (replace c3 := New.keep hw c3); (replace c4 := New.keep hw c4); (replace c5 := New.keep hw c5); (replace c6 := New.keep hw c6))
    have OW := Lib.hid hown
    clear hown
    have hs := upTo_succ T m
    have hlen := upTo_len T m
    by_cases hlt : (m : Int) < n
    · have bl : decide ((m : Int) < n) = true := decide_eq_true hlt
      cases hT : T m with
      | false =>
        rw [hT] at hs
        have T1 := TT.out m
        rw [hT] at T1
        have U1 := Lib.hid T1
        have HS := Lib.hid hs
        clear T1 hs hT TT
        go_wp2_with fail
        refine (U1.out _).mono ?_
        rintro e w2 ⟨rfl, n2⟩
        go_wp2_with fail
        go_roundg (gk - 1)
        case measure => omega
        case rel => exact ⟨m + 1, by go_num, by omega, by rw [HS.out]; simpa using own_new OW.out n2, hw.trans n2⟩
      | true =>
        rw [hT] at hs
        have T1 := TT.out m
        rw [hT] at T1
        have U1 := Lib.hid T1
        have HS := Lib.hid hs
        clear T1 hs hT TT
        go_wp2_with fail
        refine (U1.out _).mono ?_
        rintro e w2 ⟨rfl, n2⟩
        have O2 := Lib.hid (own_new OW.out n2)
        have hws := (hw.trans n2).size
        go_wp2_with (at_builtin; refine wpList_append_own _ rfl _ _ 24 rfl w1.heap.size 3 i0 (.int .i64 0) 1 8 Tryd.underlying24 HI.out hz0 hz1 hz2 rfl (by decide) _ _ _ rfl (World.ownsRow.alloc O2.out _) ⟨w2.heap.size, 0, none⟩ 1 1 (iE m) rfl rfl (cells_int _ _ _) (by intro u hu; simp at hu; subst hu; rfl) (by unfold maxLen; omega) (by omega) (by simp; omega) ?_)
        intro v' w3 hown' hgrow _
        have hn3 : New w1 w3 := newGrown (New.alloc (hw.trans n2) _) hgrow (own_block O2.out)
        go_wp2_with fail
        go_roundg (gk - 1)
        case measure => omega
        case rel => exact ⟨m + 1, by go_num, by omega, by rw [HS.out]; simpa using hown', hn3⟩
    · have bl : decide ((m : Int) < n) = false := decide_eq_false hlt
      have em : m = n.toNat := by omega
      have E := Lib.hid em
      clear em hs
      go_wp2_with fail
      go_ret
      rw [← E.out]
      exact ⟨_, rfl, own_mono OW.out hn.size, hn.trans hw⟩

end Go.Proofs.YtonngfogbnfbnaaDoor
