import Derived.Test.YtdbhlepbaepngaaGreatDoorSoWZ15
import Derived.Test.YtdbhlepbaepngaaGreatDoorHatS
import Derived.Outline
import Derived.Deep.DeepCutAuto
import Derived.Deep.LoopGhost
import Derived.Test.YtdbhlepbaepngaaGreatDoorBinsDZ15
import Derived.Test.YtdbhlepbaepngaaGreatDoorWholeJZ15
import Derived.RangeFuncNested
import Derived.RangeFuncWrites
import Derived.RangeFuncBound
import Derived.RangeFuncCalls
import Derived.RangeFuncLeaves
import Derived.Shelf.Abstract
import Derived.Shelf.RegionOpen
import Derived.WalkKit
import Derived.OwnWalkIn
import Derived.TacticsInMore
import Derived.LoopNIn
import Derived.LoopIn
import Derived.Sort.WalkA

/- Rows of whole numbers, and how two are compared. -/
namespace Go.Proofs.YtdbhlepbaepngaaGreatDoor
open Go.RowKit
set_option linter.unusedVariables false
set_option maxRecDepth 100000

abbrev iE (t : Int) : List Value := [.int .i64 t]
theorem iE_len (t : Int) : (iE t).length = 1 := rfl
theorem int_info : (Tryz.prog.info? 3).map (fun i => (i.zero, i.size, i.bytes)) = some (some (.int .i64 0), 1, 8) := by kernel_rfl
theorem cells_int (w : World) (t : Int) (ty : TypeId) : ∀ j u, (iE t)[j]? = some u → (w.alloc (.cells #[.int .i64 t] ty)).cell? ((⟨w.heap.size, 0, none⟩ : Addr).add j) = some u := by
  intro j u hj
  match j, hj with
  | 0, hj => simp at hj; subst hj; simp [Addr.add]
  | j + 1, hj => simp at hj

theorem sl_at {w : World} {v : Value} {l : List Int} (h : Sl iE 1 w v l) : ∃ at0 c, v = .slice at0 l.length c ∧ l.length ≤ c ∧ c ≤ maxLen ∧ ∀ j (hj : j < l.length), ∃ b off, at0 = some ⟨b, off, none⟩ ∧ w.cell? ⟨b, off + j, none⟩ = some (.int .i64 l[j]) := by
  obtain ⟨at0, c, e, h1, h2, -, h3⟩ := h
  refine ⟨at0, c, e, h1, h2, fun j hj => ?_⟩
  obtain ⟨b, off, e1, h4⟩ := h3 (by omega)
  refine ⟨b, off, e1, ?_⟩
  have := h4 j hj 0 (by simp)
  simpa using this

end Go.Proofs.YtdbhlepbaepngaaGreatDoor

/- The document's own answers on tiles: wide, Count, Touch, All. -/
namespace Go.Proofs.YtdbhlepbaepngaaGreatDoor
open Go.RowKit
set_option linter.unusedVariables false
set_option maxRecDepth 100000

theorem rwide_any (n : Int) (h : 1 ≤ n ∧ n ≤ 32) (w : World) :
    Calls Tryz.prog 61 #[.int .i64 n] w fun e w' => e = .returned (.int .i64 (rowN n)) ∧ New w w' := by
  have hb := rowN_bd h
  unfold rowN at hb
  go_enter Tryz.func61, Tryz.ntmps61
  go_wp2
  go_ret
  exact ⟨rfl, New.refl _⟩

set_option maxHeartbeats 400000 in
theorem rCount_any (cl cb ht ri ru wd dp : Int) (w : World) :
    Calls Tryz.prog 43 #[.agg #[.int .i64 cl, .int .i64 cb, .int .i64 ht, .int .i64 ri, .int .i64 ru, .int .i64 wd, .int .i64 dp]] w fun e w' => e = .returned (.int .i64 (countN cl cb ht ri ru wd dp)) ∧ New w w' := by
  cases hok : checkB cl cb ht ri ru wd dp with
  | false =>
    have e0 := checkE_bad hok
    have e1 : countN cl cb ht ri ru wd dp = 0 := by unfold countN; rw [hok]; rfl
    rw [e1]
    have C0 : ∀ W, Calls Tryz.prog 15 #[.agg #[.int .i64 cl, .int .i64 cb, .int .i64 ht, .int .i64 ri, .int .i64 ru, .int .i64 wd, .int .i64 dp]] W fun e w' => e = .returned (.int .i64 20) ∧ New W w' := fun W => (rcheck_any cl cb ht ri ru wd dp W).mono fun e w' h => ⟨by rw [h.1, e0], h.2.1⟩
    have CC := Lib.hid C0
    clear C0 hok e0 e1
    go_enter Tryz.func43, Tryz.ntmps43
    go_wp2_with fail
    refine (CC.out _).mono ?_
    rintro e w' ⟨rfl, n1⟩
    go_wp2_with fail
    go_ret
    exact ⟨rfl, New.trans (by (repeat (first | (with_reducible exact New.refl _) | (with_reducible assumption) | ((with_reducible refine New.setB ?_ ?_ _); focus (first | omega | (simp; omega) | (simp; done))) | (with_reducible refine New.alloc ?_ _) | (with_reducible refine New.drew ?_) | (with_reducible refine New.drewN ?_ _) | (with_reducible refine New.hat ?_ _) | ((with_reducible apply New.snart); (with_reducible assumption))))) n1⟩
  | true =>
    have e0 := checkE_zero hok
    have e1 : countN cl cb ht ri ru wd dp = rowN wd * rowN dp := by unfold countN; rw [hok]; rfl
    have hb := count_bd cl cb ht ri ru wd dp
    rw [e1] at hb
    rw [e1]
    have hk := checkB_iff.1 hok
    have IW := Lib.hid (fun W => rwide_any wd hk.2.2.2.2.2.1 W)
    have ID := Lib.hid (fun W => rwide_any dp hk.2.2.2.2.2.2 W)
    have C0 : ∀ W, Calls Tryz.prog 15 #[.agg #[.int .i64 cl, .int .i64 cb, .int .i64 ht, .int .i64 ri, .int .i64 ru, .int .i64 wd, .int .i64 dp]] W fun e w' => e = .returned (.int .i64 0) ∧ New W w' := fun W => (rcheck_any cl cb ht ri ru wd dp W).mono fun e w' h => ⟨by rw [h.1, e0], h.2.1⟩
    have CC := Lib.hid C0
    clear C0 hok e0 e1 hk
    go_enter Tryz.func43, Tryz.ntmps43
    go_wp2_with fail
    refine (CC.out _).mono ?_
    rintro e w1 ⟨rfl, n1⟩
    go_wp2_with fail
    have c5 : w1.cell? ⟨w.heap.size, 5, none⟩ = some (.int .i64 wd) := n1.keep (by go_simp)
    have c6 : w1.cell? ⟨w.heap.size, 6, none⟩ = some (.int .i64 dp) := n1.keep (by go_simp)
    replace n1 : New w w1 := New.trans (by (repeat (first | (with_reducible exact New.refl _) | (with_reducible assumption) | ((with_reducible refine New.setB ?_ ?_ _); focus (first | omega | (simp; omega) | (simp; done))) | (with_reducible refine New.alloc ?_ _) | (with_reducible refine New.drew ?_) | (with_reducible refine New.drewN ?_ _) | (with_reducible refine New.hat ?_ _) | ((with_reducible apply New.snart); (with_reducible assumption))))) n1
    (refine wp_region_hat (by kernel_rfl) (by kernel_rfl) ?_; intro hatc hatf; (repeat (go_big_quiet_step ((go_at_call 61; first | (with_reducible exact Calls.hat (IW.out _)) | (with_reducible exact Calls.hat (ID.out _)))))); refine wpQuiet_nil ?_; rintro _ ⟨x, rfl⟩)
    go_wp2_with fail
    go_ret
    exact ⟨rfl, New.trans n1 x.h⟩

theorem touch_out {cl cb ht ri ru wd dp k x0 z0 x1 z1 : Int} (h : ¬ (0 ≤ k ∧ k < countN cl cb ht ri ru wd dp)) : touchB cl cb ht ri ru wd dp k x0 z0 x1 z1 = false := by
  unfold touchB; rw [decide_eq_false h]; rfl
theorem touch_cross {cl cb ht ri ru wd dp k x0 z0 x1 z1 : Int} (h : ¬ (x0 ≤ x1 ∧ z0 ≤ z1)) : touchB cl cb ht ri ru wd dp k x0 z0 x1 z1 = false := by
  unfold touchB; rw [decide_eq_false h]; simp

set_option maxHeartbeats 1000000 in
theorem rTouch_in (cl cb ht ri ru wd dp k x0 z0 x1 z1 : Int) (hk : 0 ≤ k ∧ k < countN cl cb ht ri ru wd dp) (hxz : x0 ≤ x1 ∧ z0 ≤ z1) (w : World) :
    Calls Tryz.prog 44 #[.agg #[.int .i64 cl, .int .i64 cb, .int .i64 ht, .int .i64 ri, .int .i64 ru, .int .i64 wd, .int .i64 dp], .int .i64 k, .int .i64 x0, .int .i64 z0, .int .i64 x1, .int .i64 z1] w fun e w' => e = .returned (.bool (touchB cl cb ht ri ru wd dp k x0 z0 x1 z1)) ∧ New w w' := by
  have hok : checkB cl cb ht ri ru wd dp = true := by
    cases hh : checkB cl cb ht ri ru wd dp with
    | true => rfl
    | false => unfold countN at hk; rw [hh] at hk; simp at hk; omega
  have e1 : touchB cl cb ht ri ru wd dp k x0 z0 x1 z1 = decide (x0 ≤ padX1 cl wd k ∧ padX0 cl wd k ≤ x1 ∧ z0 ≤ padZ1 cl wd dp k ∧ padZ0 cl wd k ≤ z1) := by
    unfold touchB; rw [decide_eq_true hk, decide_eq_true hxz, Bool.true_and, Bool.true_and]
  rw [e1]
  have hc := checkB_iff.1 hok
  have hb := count_bd cl cb ht ri ru wd dp
  have hr := rowN_bd hc.2.2.2.2.2.1
  have hz : rowN wd ≠ 0 := by omega
  have hm : 0 ≤ k % rowN wd ∧ k % rowN wd ≤ 4 := by
    have := Int.emod_lt_of_pos k (b := rowN wd) (by omega)
    have := Int.emod_nonneg k hz
    omega
  have hd : 0 ≤ k / rowN wd ∧ k / rowN wd ≤ 16 :=
    ⟨Int.ediv_nonneg (by omega) (by omega), Int.le_trans (Int.ediv_le_self _ (by omega)) (by omega)⟩
  have IW := Lib.hid (fun W => rwide_any wd hc.2.2.2.2.2.1 W)
  have CC := Lib.hid (fun W => rCount_any cl cb ht ri ru wd dp W)
  have b0 : decide (k < 0) = false := decide_eq_false (by omega)
  have b1 : decide (countN cl cb ht ri ru wd dp ≤ k) = false := decide_eq_false (by omega)
  have b2 : decide (x1 < x0) = false := decide_eq_false (by omega)
  have b3 : decide (z1 < z0) = false := decide_eq_false (by omega)
  have hcl := hc.1
  have hwd := hc.2.2.2.2.2.1
  have hdp := hc.2.2.2.2.2.2
  unfold padX0 padX1 padZ0 padZ1 lowS highS
  generalize countN cl cb ht ri ru wd dp = n at *
  clear e1 hok hc hxz
  go_enter Tryz.func44, Tryz.ntmps44
  go_wp2_with fail
  refine (CC.out _).mono ?_
  rintro e w1 ⟨rfl, n1⟩
  have c0 : w1.cell? ⟨w.heap.size, 0, none⟩ = some (.int .i64 cl) := n1.keep (by go_simp)
  have c5 : w1.cell? ⟨w.heap.size, 5, none⟩ = some (.int .i64 wd) := n1.keep (by go_simp)
  have c6 : w1.cell? ⟨w.heap.size, 6, none⟩ = some (.int .i64 dp) := n1.keep (by go_simp)
  replace n1 : New w w1 := New.trans (by (repeat (first | (with_reducible exact New.refl _) | (with_reducible assumption) | ((with_reducible refine New.setB ?_ ?_ _); focus (first | omega | (simp; omega) | (simp; done))) | (with_reducible refine New.alloc ?_ _) | (with_reducible refine New.drew ?_) | (with_reducible refine New.drewN ?_ _) | (with_reducible refine New.hat ?_ _) | ((with_reducible apply New.snart); (with_reducible assumption))))) n1
  clear CC
  go_wp2_with fail
  (refine wp_region_hat (by kernel_rfl) (by kernel_rfl) ?_; intro hatc hatf; (repeat (go_big_quiet_step ((go_at_call 61; (with_reducible exact Calls.hat (IW.out _)))))); refine wpQuiet_nil ?_; rintro _ ⟨x, rfl⟩)
  clear hatc hatf
  replace c0 := New.keep x.h c0
  replace c5 := New.keep x.h c5
  replace c6 := New.keep x.h c6
  replace n1 := New.trans n1 x.h
  generalize x.w = w2 at *
  clear x IW hz
  generalize hA : k % rowN wd = a at *
  generalize hB : k / rowN wd = b at *
  have HA := Lib.hid hA
  have HB := Lib.hid hB
  clear hA hB
  go_wp2_with fail
  (refine wp_region_hat (by kernel_rfl) (by kernel_rfl) ?_; intro hatc hatf; (repeat (go_big_quiet_step ((fail)))); refine wpQuiet_nil ?_; rintro _ ⟨x, rfl⟩)
  clear hatc hatf
  replace c0 := New.keep x.h c0
  replace c5 := New.keep x.h c5
  replace c6 := New.keep x.h c6
  replace n1 := New.trans n1 x.h
  generalize x.w = w3 at *
  clear x
  go_wp2_with fail
  (refine wp_region_hat (by kernel_rfl) (by kernel_rfl) ?_; intro hatc hatf; (repeat (go_big_quiet_step ((fail)))); refine wpQuiet_nil ?_; rintro _ ⟨x, rfl⟩)
  clear hatc hatf c0 c5 c6
  replace n1 := New.trans n1 x.h
  generalize x.w = w4 at *
  clear x
  go_wp2_with fail
  all_goals
    go_ret
    refine ⟨congrArg (fun b => Ending.returned (.bool b)) ?_, n1⟩
    simp only [HA.out, HB.out]
    rw [Bool.eq_iff_iff]
    simp only [Bool.and_eq_true, decide_eq_true_eq, Bool.false_eq_true, false_iff]
    omega

set_option maxHeartbeats 1000000 in
theorem rTouch_any (cl cb ht ri ru wd dp k x0 z0 x1 z1 : Int) (w : World) :
    Calls Tryz.prog 44 #[.agg #[.int .i64 cl, .int .i64 cb, .int .i64 ht, .int .i64 ri, .int .i64 ru, .int .i64 wd, .int .i64 dp], .int .i64 k, .int .i64 x0, .int .i64 z0, .int .i64 x1, .int .i64 z1] w fun e w' => e = .returned (.bool (touchB cl cb ht ri ru wd dp k x0 z0 x1 z1)) ∧ New w w' := by
  have CC := Lib.hid (fun W => rCount_any cl cb ht ri ru wd dp W)
  by_cases h0 : k < 0
  · rw [touch_out (by omega)]
    have b0 : decide (k < 0) = true := decide_eq_true h0
    clear h0
    go_enter Tryz.func44, Tryz.ntmps44
    go_wp2_with fail
    go_ret
    exact ⟨rfl, by (repeat (first | (with_reducible exact New.refl _) | (with_reducible assumption) | ((with_reducible refine New.setB ?_ ?_ _); focus (first | omega | (simp; omega) | (simp; done))) | (with_reducible refine New.alloc ?_ _) | (with_reducible refine New.drew ?_) | (with_reducible refine New.drewN ?_ _) | (with_reducible refine New.hat ?_ _) | ((with_reducible apply New.snart); (with_reducible assumption))))⟩
  have b0 : decide (k < 0) = false := decide_eq_false h0
  by_cases h1 : k < countN cl cb ht ri ru wd dp
  · by_cases h2 : x1 < x0
    · rw [touch_cross (by omega)]
      have b1 : decide (countN cl cb ht ri ru wd dp ≤ k) = false := decide_eq_false (by omega)
      have b2 : decide (x1 < x0) = true := decide_eq_true h2
      generalize countN cl cb ht ri ru wd dp = n at *
      clear h0 h1 h2
      go_enter Tryz.func44, Tryz.ntmps44
      go_wp2_with fail
      refine (CC.out _).mono ?_
      rintro e w1 ⟨rfl, n1⟩
      go_wp2_with fail
      go_ret
      exact ⟨rfl, New.trans (by (repeat (first | (with_reducible exact New.refl _) | (with_reducible assumption) | ((with_reducible refine New.setB ?_ ?_ _); focus (first | omega | (simp; omega) | (simp; done))) | (with_reducible refine New.alloc ?_ _) | (with_reducible refine New.drew ?_) | (with_reducible refine New.drewN ?_ _) | (with_reducible refine New.hat ?_ _) | ((with_reducible apply New.snart); (with_reducible assumption))))) n1⟩
    · by_cases h3 : z1 < z0
      · rw [touch_cross (by omega)]
        have b1 : decide (countN cl cb ht ri ru wd dp ≤ k) = false := decide_eq_false (by omega)
        have b2 : decide (x1 < x0) = false := decide_eq_false h2
        have b3 : decide (z1 < z0) = true := decide_eq_true h3
        generalize countN cl cb ht ri ru wd dp = n at *
        clear h0 h1 h2 h3
        go_enter Tryz.func44, Tryz.ntmps44
        go_wp2_with fail
        refine (CC.out _).mono ?_
        rintro e w1 ⟨rfl, n1⟩
        go_wp2_with fail
        go_ret
        exact ⟨rfl, New.trans (by (repeat (first | (with_reducible exact New.refl _) | (with_reducible assumption) | ((with_reducible refine New.setB ?_ ?_ _); focus (first | omega | (simp; omega) | (simp; done))) | (with_reducible refine New.alloc ?_ _) | (with_reducible refine New.drew ?_) | (with_reducible refine New.drewN ?_ _) | (with_reducible refine New.hat ?_ _) | ((with_reducible apply New.snart); (with_reducible assumption))))) n1⟩
      · exact rTouch_in cl cb ht ri ru wd dp k x0 z0 x1 z1 ⟨by omega, h1⟩ ⟨by omega, by omega⟩ w
  · rw [touch_out (by omega)]
    have b1 : decide (countN cl cb ht ri ru wd dp ≤ k) = true := decide_eq_true (by omega)
    generalize countN cl cb ht ri ru wd dp = n at *
    clear h0 h1
    go_enter Tryz.func44, Tryz.ntmps44
    go_wp2_with fail
    refine (CC.out _).mono ?_
    rintro e w1 ⟨rfl, n1⟩
    go_wp2_with fail
    go_ret
    exact ⟨rfl, New.trans (by (repeat (first | (with_reducible exact New.refl _) | (with_reducible assumption) | ((with_reducible refine New.setB ?_ ?_ _); focus (first | omega | (simp; omega) | (simp; done))) | (with_reducible refine New.alloc ?_ _) | (with_reducible refine New.drew ?_) | (with_reducible refine New.drewN ?_ _) | (with_reducible refine New.hat ?_ _) | ((with_reducible apply New.snart); (with_reducible assumption))))) n1⟩

/-- Those of the first m numbers that T says. -/
def upTo (T : Int → Bool) (m : Nat) : List Int := ((List.range m).map (fun j : Nat => (j : Int))).filter T
theorem upTo_succ (T : Int → Bool) (m : Nat) : upTo T (m + 1) = upTo T m ++ (if T m then [(m : Int)] else []) := by
  unfold upTo
  rw [List.range_succ, List.map_append, List.filter_append, List.map_cons, List.map_nil, List.filter_cons, List.filter_nil]
theorem upTo_len (T : Int → Bool) (m : Nat) : (upTo T m).length ≤ m := by
  unfold upTo
  refine Nat.le_trans (List.length_filter_le _ _) ?_
  simp

/-- The tiles that the stretch touches, rising. -/
def tilesL (cl cb ht ri ru wd dp x0 z0 x1 z1 : Int) : List Int := upTo (fun k => touchB cl cb ht ri ru wd dp k x0 z0 x1 z1) (countN cl cb ht ri ru wd dp).toNat
theorem tilesL_len (cl cb ht ri ru wd dp x0 z0 x1 z1 : Int) : (tilesL cl cb ht ri ru wd dp x0 z0 x1 z1).length ≤ 16 := by
  have := count_bd cl cb ht ri ru wd dp
  exact Nat.le_trans (upTo_len _ _) (by omega)

theorem own_mono {w : World} {base b0 size : Nat} {e : TypeId} {v : Value} {n : Nat} {xs : List Value} (h : w.ownsRow base e size v n xs) (hb : b0 ≤ base) : w.ownsRow b0 e size v n xs := by
  obtain ⟨h1, h2⟩ := h
  refine ⟨h1, h2.imp id ?_⟩
  rintro ⟨g, cap, cur, rfl, hg, r⟩
  exact ⟨g, cap, cur, rfl, Nat.le_trans hb hg, r⟩


set_option maxHeartbeats 4000000 in
theorem rAll_any (cl cb ht ri ru wd dp x0 z0 x1 z1 : Int) (w : World) :
    Calls Tryz.prog 27 #[.agg #[.int .i64 cl, .int .i64 cb, .int .i64 ht, .int .i64 ri, .int .i64 ru, .int .i64 wd, .int .i64 dp], .int .i64 x0, .int .i64 z0, .int .i64 x1, .int .i64 z1] w fun e w' => ∃ v, e = .returned v ∧ w'.ownsRow w.heap.size 3 1 v (tilesL cl cb ht ri ru wd dp x0 z0 x1 z1).length ((tilesL cl cb ht ri ru wd dp x0 z0 x1 z1).flatMap iE) ∧ New w w' := by
  obtain ⟨i0, hi, hz0, hz1, hz2⟩ := info_parts int_info
  have CC := Lib.hid (fun W => rCount_any cl cb ht ri ru wd dp W)
  have T0 : ∀ k W, Calls Tryz.prog 44 #[.agg #[.int .i64 cl, .int .i64 cb, .int .i64 ht, .int .i64 ri, .int .i64 ru, .int .i64 wd, .int .i64 dp], .int .i64 k, .int .i64 x0, .int .i64 z0, .int .i64 x1, .int .i64 z1] W fun e w' => e = .returned (.bool ((fun k => touchB cl cb ht ri ru wd dp k x0 z0 x1 z1) k)) ∧ New W w' := fun k W => rTouch_any cl cb ht ri ru wd dp k x0 z0 x1 z1 W
  have hb := count_bd cl cb ht ri ru wd dp
  unfold tilesL
  generalize (fun k => touchB cl cb ht ri ru wd dp k x0 z0 x1 z1) = T at T0 ⊢
  have TT := Lib.hid T0
  clear T0
  have HI := Lib.hid hi
  clear hi
  generalize hn : countN cl cb ht ri ru wd dp = n at *
  clear hn
  go_enter Tryz.func27, Tryz.ntmps27
  go_wp2_with fail
  refine Calls.at (fun W hW => ?_)
  ((have c0 : W.cell? ⟨w.heap.size, 0, none⟩ = some (.int .i64 cl) := (by subst hW; go_simp)); (have c1 : W.cell? ⟨w.heap.size, 1, none⟩ = some (.int .i64 cb) := (by subst hW; go_simp)); (have c2 : W.cell? ⟨w.heap.size, 2, none⟩ = some (.int .i64 ht) := (by subst hW; go_simp)); (have c3 : W.cell? ⟨w.heap.size, 3, none⟩ = some (.int .i64 ri) := (by subst hW; go_simp)); (have c4 : W.cell? ⟨w.heap.size, 4, none⟩ = some (.int .i64 ru) := (by subst hW; go_simp)); (have c5 : W.cell? ⟨w.heap.size, 5, none⟩ = some (.int .i64 wd) := (by subst hW; go_simp)); (have c6 : W.cell? ⟨w.heap.size, 6, none⟩ = some (.int .i64 dp) := (by subst hW; go_simp)))
  have hn : New w W := by subst hW; (repeat (first | (with_reducible exact New.refl _) | (with_reducible assumption) | ((with_reducible refine New.setB ?_ ?_ _); focus (first | omega | (simp; omega) | (simp; done))) | (with_reducible refine New.alloc ?_ _) | (with_reducible refine New.drew ?_) | (with_reducible refine New.drewN ?_ _) | (with_reducible refine New.hat ?_ _) | ((with_reducible apply New.snart); (with_reducible assumption))))
  clear hW
  refine (CC.out _).mono ?_
  rintro e w1 ⟨rfl, n1⟩
  ((replace c0 := New.keep n1 c0); (replace c1 := New.keep n1 c1); (replace c2 := New.keep n1 c2); (replace c3 := New.keep n1 c3); (replace c4 := New.keep n1 c4); (replace c5 := New.keep n1 c5); (replace c6 := New.keep n1 c6))
  replace hn := hn.trans n1
  clear n1 CC
  go_wp2_with fail
  go_loopg [11, 13] n.toNat (fun k s i wr => ∃ m : Nat, i = .int .i64 m ∧ m + k = n.toNat ∧ wr.ownsRow w1.heap.size 3 1 s (upTo T m).length ((upTo T m).flatMap iE) ∧ New w1 wr)
  case atStart => exact ⟨0, by simp, by omega, World.ownsRow_nil _ _ _ _, New.refl _⟩
  case round =>
    obtain ⟨m, rfl, hm, hown, hw⟩ := hrel
    ((replace c0 := New.keep hw c0); (replace c1 := New.keep hw c1); (replace c2 := New.keep hw c2); (replace c3 := New.keep hw c3); (replace c4 := New.keep hw c4); (replace c5 := New.keep hw c5); (replace c6 := New.keep hw c6))
    have OW := Lib.hid hown
    clear hown
    have hs := upTo_succ T m
    have hlen := upTo_len T m
    by_cases hlt : (m : Int) < n
    · have bl : decide ((m : Int) < n) = true := decide_eq_true hlt
      cases hT : T m with
      | false =>
        rw [hT] at hs
        have T1 := TT.out m
        rw [hT] at T1
        have U1 := Lib.hid T1
        have HS := Lib.hid hs
        clear T1 hs hT TT
        go_wp2_with fail
        refine (U1.out _).mono ?_
        rintro e w2 ⟨rfl, n2⟩
        go_wp2_with fail
        go_roundg (gk - 1)
        case measure => omega
        case rel => exact ⟨m + 1, by go_num, by omega, by rw [HS.out]; simpa using own_new OW.out n2, hw.trans n2⟩
      | true =>
        rw [hT] at hs
        have T1 := TT.out m
        rw [hT] at T1
        have U1 := Lib.hid T1
        have HS := Lib.hid hs
        clear T1 hs hT TT
        go_wp2_with fail
        refine (U1.out _).mono ?_
        rintro e w2 ⟨rfl, n2⟩
        have O2 := Lib.hid (own_new OW.out n2)
        have hws := (hw.trans n2).size
        go_wp2_with (at_builtin; refine wpList_append_own _ rfl _ _ 48 rfl w1.heap.size 3 i0 (.int .i64 0) 1 8 Tryz.underlying48 HI.out hz0 hz1 hz2 rfl (by decide) _ _ _ rfl (World.ownsRow.alloc O2.out _) ⟨w2.heap.size, 0, none⟩ 1 1 (iE m) rfl rfl (cells_int _ _ _) (by intro u hu; simp at hu; subst hu; rfl) (by unfold maxLen; omega) (by omega) (by simp; omega) ?_)
        intro v' w3 hown' hgrow _
        have hn3 : New w1 w3 := newGrown (New.alloc (hw.trans n2) _) hgrow (own_block O2.out)
        go_wp2_with fail
        go_roundg (gk - 1)
        case measure => omega
        case rel => exact ⟨m + 1, by go_num, by omega, by rw [HS.out]; simpa using hown', hn3⟩
    · have bl : decide ((m : Int) < n) = false := decide_eq_false hlt
      have em : m = n.toNat := by omega
      have E := Lib.hid em
      clear em hs
      go_wp2_with fail
      go_ret
      rw [← E.out]
      exact ⟨_, rfl, own_mono OW.out hn.size, hn.trans hw⟩

end Go.Proofs.YtdbhlepbaepngaaGreatDoor

/- Rows of whole numbers compared. -/
namespace Go.Proofs.YtdbhlepbaepngaaGreatDoor
open Go.RowKit
set_option linter.unusedVariables false
set_option maxRecDepth 100000

end Go.Proofs.YtdbhlepbaepngaaGreatDoor

/- Going over the tiles: bins.Each and its iterator, as contracts. -/
namespace Go.Proofs.YtdbhlepbaepngaaGreatDoor
open Go.RowKit Go.Shelf
set_option linter.unusedVariables false
set_option maxRecDepth 100000
attribute [local go_sem] Oper.semAt_some

theorem b_each (cl cb ht ri ru wd dp x0 z0 x1 z1 : Int) (w : World) :
    Calls Tryz.prog 37 #[.agg #[.int .i64 cl, .int .i64 cb, .int .i64 ht, .int .i64 ri, .int .i64 ru, .int .i64 wd, .int .i64 dp], .int .i64 x0, .int .i64 z0, .int .i64 x1, .int .i64 z1] w fun e w' =>
      e = .returned (.func (.func 57) #[] #[.pointer (some ⟨w.heap.size, 0, none⟩), .pointer (some ⟨w.heap.size + 1, 0, none⟩), .pointer (some ⟨w.heap.size + 1 + 1, 0, none⟩), .pointer (some ⟨w.heap.size + 1 + 1 + 1, 0, none⟩), .pointer (some ⟨w.heap.size + 1 + 1 + 1 + 1, 0, none⟩)]) ∧
      w' = ((((w.alloc (.cells #[.int .i64 cl, .int .i64 cb, .int .i64 ht, .int .i64 ri, .int .i64 ru, .int .i64 wd, .int .i64 dp] 23)).alloc (.cells #[.int .i64 x0] 3)).alloc (.cells #[.int .i64 z0] 3)).alloc (.cells #[.int .i64 x1] 3)).alloc (.cells #[.int .i64 z1] 3) := by
  go_enter Tryz.func37, Tryz.ntmps37
  go_wp2_with fail
  go_ret
  exact ⟨rfl, rfl⟩

theorem upTo_prefix (T : Int → Bool) {m n : Nat} (h : m ≤ n) : upTo T m <+: upTo T n := by
  obtain ⟨d, rfl⟩ := Nat.exists_eq_add_of_le h
  clear h
  induction d with
  | zero => exact List.prefix_refl _
  | succ d ih => exact ih.trans (by rw [← Nat.add_assoc, upTo_succ]; exact List.prefix_append _ _)

def numOf : Value → Int
  | .int _ k => k
  | _ => 0

theorem keeps_new {B : Nat} {W w w' : World} (h : ∀ b, b < B → w.heap[b]? = W.heap[b]?) (hB : B ≤ W.heap.size) (n : New w w') : ∀ b, b < B → w'.heap[b]? = W.heap[b]? := fun b hb => by
  have h1 := h b hb
  rw [Array.getElem?_eq_getElem (show b < W.heap.size by omega)] at h1
  exact (n.block b (Array.getElem?_eq_some_iff.1 h1).1).trans (h b hb)

set_option maxHeartbeats 4000000 in
theorem b_each1 (cl cb ht ri ru wd dp x0 z0 x1 z1 : Int) (T : Int → Bool) (n : Int) (hn : 0 ≤ n ∧ n ≤ 16)
    (hC : ∀ W, Calls Tryz.prog 58 #[.agg #[.int .i64 cl, .int .i64 cb, .int .i64 ht, .int .i64 ri, .int .i64 ru, .int .i64 wd, .int .i64 dp]] W fun e w' => e = .returned (.int .i64 n) ∧ New W w')
    (hT : ∀ k W, Nowhere W → Calls Tryz.prog 59 #[.agg #[.int .i64 cl, .int .i64 cb, .int .i64 ht, .int .i64 ri, .int .i64 ru, .int .i64 wd, .int .i64 dp], .int .i64 k, .int .i64 x0, .int .i64 z0, .int .i64 x1, .int .i64 z1] W fun e w' => e = .returned (.bool (T k)) ∧ New W w')
    (N l B Bc : Nat) (hN : 1 ≤ N) (J Jx : List Int → World → Prop)
    (hY : ∀ (pre : List Int) (t : Int) W, J pre W → pre.length < 17 → YieldAt Fence.wide (N - 1) Tryz.prog l #[.int .i64 t] W fun e W' =>
      (e = .returned (.bool true) ∧ J (pre ++ [t]) W' ∧ ∀ b, b < B → W'.heap[b]? = W.heap[b]?) ∨ (e = .returned (.bool false) ∧ Jx (pre ++ [t]) W'))
    (W : World) (hJ : ∀ pre W1 W2, J pre W1 → New W1 W2 → J pre W2) (hl : Nowhere W) (hB : Bc + 1 + 1 + 1 + 1 < B) (hBW : B ≤ W.heap.size) (hB0 : 0 < B)
    (c0 : W.cell? ⟨Bc, 0, none⟩ = some (.int .i64 cl)) (c1 : W.cell? ⟨Bc, 1, none⟩ = some (.int .i64 cb)) (c2 : W.cell? ⟨Bc, 2, none⟩ = some (.int .i64 ht)) (c3 : W.cell? ⟨Bc, 3, none⟩ = some (.int .i64 ri)) (c4 : W.cell? ⟨Bc, 4, none⟩ = some (.int .i64 ru)) (c5 : W.cell? ⟨Bc, 5, none⟩ = some (.int .i64 wd)) (c6 : W.cell? ⟨Bc, 6, none⟩ = some (.int .i64 dp))
    (d0 : W.cell? ⟨Bc + 1, 0, none⟩ = some (.int .i64 x0)) (d1 : W.cell? ⟨Bc + 1 + 1, 0, none⟩ = some (.int .i64 z0)) (d2 : W.cell? ⟨Bc + 1 + 1 + 1, 0, none⟩ = some (.int .i64 x1)) (d3 : W.cell? ⟨Bc + 1 + 1 + 1 + 1, 0, none⟩ = some (.int .i64 z1))
    (h0 : J [] W) :
    CallsIn Fence.wide N Tryz.prog 57 #[.func (.yield l) #[] #[], .pointer (some ⟨Bc, 0, none⟩), .pointer (some ⟨Bc + 1, 0, none⟩), .pointer (some ⟨Bc + 1 + 1, 0, none⟩), .pointer (some ⟨Bc + 1 + 1 + 1, 0, none⟩), .pointer (some ⟨Bc + 1 + 1 + 1 + 1, 0, none⟩)] W fun e W' => (∃ v, e = .returned v) ∧
      ((∃ ys, ys = upTo T n.toNat ∧ J ys W') ∨ (∃ pre : List Int, pre <+: upTo T n.toNat ∧ Jx pre W')) := by
  have CC := Lib.hid hC
  have TT := Lib.hid hT
  have YY := Lib.hid hY
  clear hC hT hY
  refine callsIn_of_wp Tryz.func57 rfl trivial ?_ rfl
  simp only [Tryz.ntmps57, List.size_toArray, List.length_cons, List.length_nil, Nat.reduceAdd, Nat.reduceSub, Array.replicate_succ, Array.replicate_zero, List.push_toArray, List.append_toArray, List.nil_append, List.cons_append]
  gi_wp2_with (refine ⟨trivial, ?_⟩; gi_at_call 58; refine (callsIn_wide.2 (CC.out _)).mono ?_; rintro e w1 ⟨rfl, n1⟩)
  have HK0 := keeps_new (W := W) (w := W) (fun b _ => rfl) hBW n1
  have HJ0 : Hid (J [] w1) := hJ _ _ _ h0 n1
  clear h0 CC n1
  gi_loopw [10] (fun v wr => ∃ m : Nat, v = .int .i64 m ∧ (m : Int) ≤ n ∧ Hid (J (upTo T m) wr) ∧ Hid (∀ b, b < B → wr.heap[b]? = W.heap[b]?))
    (fun v _ => n.toNat - (numOf v).toNat)
  case atStart => exact ⟨0, rfl, hn.1, HJ0, HK0⟩
  case round =>
    clear HJ0 HK0
    obtain ⟨m, rfl, hm, hJ1, hK⟩ := hrel
    by_cases hlt : (m : Int) < n
    · have bl : decide ((m : Int) < n) = true := decide_eq_true hlt
      have hk := hK.out
      replace c0 := (World.cell?_of_block (a := ⟨Bc, 0, none⟩) (hk Bc (by omega))).trans c0
      replace c1 := (World.cell?_of_block (a := ⟨Bc, 1, none⟩) (hk Bc (by omega))).trans c1
      replace c2 := (World.cell?_of_block (a := ⟨Bc, 2, none⟩) (hk Bc (by omega))).trans c2
      replace c3 := (World.cell?_of_block (a := ⟨Bc, 3, none⟩) (hk Bc (by omega))).trans c3
      replace c4 := (World.cell?_of_block (a := ⟨Bc, 4, none⟩) (hk Bc (by omega))).trans c4
      replace c5 := (World.cell?_of_block (a := ⟨Bc, 5, none⟩) (hk Bc (by omega))).trans c5
      replace c6 := (World.cell?_of_block (a := ⟨Bc, 6, none⟩) (hk Bc (by omega))).trans c6
      replace d0 := (World.cell?_of_block (a := ⟨Bc + 1, 0, none⟩) (hk (Bc + 1) (by omega))).trans d0
      replace d1 := (World.cell?_of_block (a := ⟨Bc + 1 + 1, 0, none⟩) (hk (Bc + 1 + 1) (by omega))).trans d1
      replace d2 := (World.cell?_of_block (a := ⟨Bc + 1 + 1 + 1, 0, none⟩) (hk (Bc + 1 + 1 + 1) (by omega))).trans d2
      replace d3 := (World.cell?_of_block (a := ⟨Bc + 1 + 1 + 1 + 1, 0, none⟩) (hk (Bc + 1 + 1 + 1 + 1) (by omega))).trans d3
      have l0 := (World.cell?_of_block (a := ⟨0, 0, none⟩) (hk 0 hB0)).trans hl.c0
      have l1 := (World.cell?_of_block (a := ⟨0, 1, none⟩) (hk 0 hB0)).trans hl.c1
      have l2 := (World.cell?_of_block (a := ⟨0, 2, none⟩) (hk 0 hB0)).trans hl.c2
      have l3 := (World.cell?_of_block (a := ⟨0, 3, none⟩) (hk 0 hB0)).trans hl.c3
      have HL := Lib.hid (Nowhere.mk l0 l1 l2 l3)
      clear hk l0 l1 l2 l3
      have hlen : (upTo T m).length < 17 := by have := upTo_len T m; omega
      have hs := upTo_succ T m
      cases hT : T m with
      | false =>
        rw [hT] at hs
        have T1 := TT.out m
        rw [hT] at T1
        have U1 := Lib.hid T1
        have HS := Lib.hid hs
        clear T1 hs hT TT
        gi_wp2_with (refine ⟨trivial, ?_⟩; gi_at_call 59; refine (callsIn_wide.2 (U1.out _ HL.out)).mono ?_; rintro e w2 ⟨rfl, n2⟩)
        refine ⟨fun _ h => (by cases h), ?_⟩
        gi_wp2
        go_roundw
        case rel => exact ⟨m + 1, by go_num, by omega, by show J _ _; rw [HS.out]; simpa using hJ _ _ _ hJ1.out n2, keeps_new hK.out hBW n2⟩
        case measure => simp [numOf]; omega
      | true =>
        rw [hT] at hs
        have T1 := TT.out m
        rw [hT] at T1
        have U1 := Lib.hid T1
        have HS := Lib.hid hs
        clear T1 hs hT TT
        gi_wp2_with (refine ⟨trivial, ?_⟩; gi_at_call 59; refine (callsIn_wide.2 (U1.out _ HL.out)).mono ?_; rintro e w2 ⟨rfl, n2⟩; (obtain ⟨fn, tmps, assign, body, hy, hR⟩ := YY.out (upTo T m) m w2 (hJ _ _ _ hJ1.out n2) hlen))
        refine hR.mono ?_
        have hk2 := keeps_new hK.out hBW n2
        have HK2 := Lib.hid hk2
        clear hk2 hy hR YY c0 c1 c2 c3 c4 c5 c6 d0 d1 d2 d3
        rintro e W5 (⟨rfl, hJ5, hk5⟩ | ⟨rfl, hJx5⟩)
        · have HJ5 := Lib.hid hJ5
          have HK5 := Lib.hid hk5
          clear hJ5 hk5
          gi_wp2
          go_roundw
          case rel => exact ⟨m + 1, by go_num, by omega, by rw [HS.out]; exact HJ5.out, fun b hb => (HK5.out b hb).trans (HK2.out b hb)⟩
          case measure => simp [numOf]; omega
        · gi_wp2
          refine bodyPost_ret (results_none rfl _ _ _) rfl ?_
          exact ⟨⟨_, rfl⟩, .inr ⟨_, by rw [show upTo T m ++ [(m : Int)] = upTo T (m + 1) from HS.out.symm]; exact upTo_prefix T (by omega), hJx5⟩⟩
    · have bl : decide ((m : Int) < n) = false := decide_eq_false hlt
      have em : m = n.toNat := by omega
      have E := Lib.hid em
      clear em
      gi_wp2_with fail
      go_end0
      exact ⟨⟨_, rfl⟩, .inl (by rw [← E.out]; exact hJ1.out)⟩

/-- The cells of a row of boxes that bins.Each lays. -/
structure EachAt (w : World) (Bc : Nat) (cl cb ht ri ru wd dp x0 z0 x1 z1 : Int) : Prop where
  c0 : w.cell? ⟨Bc, 0, none⟩ = some (.int .i64 cl)
  c1 : w.cell? ⟨Bc, 1, none⟩ = some (.int .i64 cb)
  c2 : w.cell? ⟨Bc, 2, none⟩ = some (.int .i64 ht)
  c3 : w.cell? ⟨Bc, 3, none⟩ = some (.int .i64 ri)
  c4 : w.cell? ⟨Bc, 4, none⟩ = some (.int .i64 ru)
  c5 : w.cell? ⟨Bc, 5, none⟩ = some (.int .i64 wd)
  c6 : w.cell? ⟨Bc, 6, none⟩ = some (.int .i64 dp)
  d0 : w.cell? ⟨Bc + 1, 0, none⟩ = some (.int .i64 x0)
  d1 : w.cell? ⟨Bc + 1 + 1, 0, none⟩ = some (.int .i64 z0)
  d2 : w.cell? ⟨Bc + 1 + 1 + 1, 0, none⟩ = some (.int .i64 x1)
  d3 : w.cell? ⟨Bc + 1 + 1 + 1 + 1, 0, none⟩ = some (.int .i64 z1)
theorem EachAt.new {w w' : World} {Bc : Nat} {cl cb ht ri ru wd dp x0 z0 x1 z1 : Int} (h : EachAt w Bc cl cb ht ri ru wd dp x0 z0 x1 z1) (n : New w w') : EachAt w' Bc cl cb ht ri ru wd dp x0 z0 x1 z1 :=
  ⟨n.keep h.c0, n.keep h.c1, n.keep h.c2, n.keep h.c3, n.keep h.c4, n.keep h.c5, n.keep h.c6, n.keep h.d0, n.keep h.d1, n.keep h.d2, n.keep h.d3⟩

def seqV (Bc : Nat) : Value := .func (.func 57) #[] #[.pointer (some ⟨Bc, 0, none⟩), .pointer (some ⟨Bc + 1, 0, none⟩), .pointer (some ⟨Bc + 1 + 1, 0, none⟩), .pointer (some ⟨Bc + 1 + 1 + 1, 0, none⟩), .pointer (some ⟨Bc + 1 + 1 + 1 + 1, 0, none⟩)]

/-- bins.Each: the boxes are new. -/
theorem bEach_any (cl cb ht ri ru wd dp x0 z0 x1 z1 : Int) (w : World) :
    Calls Tryz.prog 37 #[.agg #[.int .i64 cl, .int .i64 cb, .int .i64 ht, .int .i64 ri, .int .i64 ru, .int .i64 wd, .int .i64 dp], .int .i64 x0, .int .i64 z0, .int .i64 x1, .int .i64 z1] w fun e w' =>
      ∃ Bc, e = .returned (seqV Bc) ∧ EachAt w' Bc cl cb ht ri ru wd dp x0 z0 x1 z1 ∧ w.heap.size ≤ Bc ∧ Bc + 1 + 1 + 1 + 1 < w'.heap.size ∧ New w w' := by
  refine (b_each cl cb ht ri ru wd dp x0 z0 x1 z1 w).mono ?_
  rintro e w' ⟨rfl, hw⟩
  have hn : New w w' := by subst hw; (repeat (first | (with_reducible exact New.refl _) | (with_reducible assumption) | ((with_reducible refine New.setB ?_ ?_ _); focus (first | omega | (simp; omega) | (simp; done))) | (with_reducible refine New.alloc ?_ _) | (with_reducible refine New.drew ?_) | (with_reducible refine New.drewN ?_ _) | (with_reducible refine New.hat ?_ _) | ((with_reducible apply New.snart); (with_reducible assumption))))
  have hE : EachAt w' w.heap.size cl cb ht ri ru wd dp x0 z0 x1 z1 := by
    subst hw
    exact ⟨by go_simp, by go_simp, by go_simp, by go_simp, by go_simp, by go_simp, by go_simp, by go_simp, by go_simp, by go_simp, by go_simp⟩
  exact ⟨w.heap.size, rfl, hE, Nat.le_refl _, World.block_lt_of_cell? _ _ hE.d3, hn⟩

theorem b_stops (cl cb ht ri ru wd dp x0 z0 x1 z1 : Int) (N : Nat) (hN : 1 ≤ N) (Bc B : Nat) (w : World) (hE : EachAt w Bc cl cb ht ri ru wd dp x0 z0 x1 z1) (hl : Nowhere w) (hB : Bc + 1 + 1 + 1 + 1 < B) (hBw : B ≤ w.heap.size) :
    SeqStopsK Fence.wide N Tryz.prog 57 #[.pointer (some ⟨Bc, 0, none⟩), .pointer (some ⟨Bc + 1, 0, none⟩), .pointer (some ⟨Bc + 1 + 1, 0, none⟩), .pointer (some ⟨Bc + 1 + 1 + 1, 0, none⟩), .pointer (some ⟨Bc + 1 + 1 + 1 + 1, 0, none⟩)] (fun t : Int => #[.int .i64 t]) (fun W W' => ∀ b, b < B → W'.heap[b]? = W.heap[b]?)
      (fun ys => ys = tilesL cl cb ht ri ru wd dp x0 z0 x1 z1) (fun pre => pre <+: tilesL cl cb ht ri ru wd dp x0 z0 x1 z1) 17 w := by
  intro l J Jx W hW hJ _ hY h0
  have n : New w W := hW
  have h := hE.new n
  exact b_each1 cl cb ht ri ru wd dp x0 z0 x1 z1 (fun k => touchB cl cb ht ri ru wd dp k x0 z0 x1 z1) (countN cl cb ht ri ru wd dp) (count_bd _ _ _ _ _ _ _) (fun W => Count_any cl cb ht ri ru wd dp W) (fun k W hl => Touch_any cl cb ht ri ru wd dp k x0 z0 x1 z1 W hl)
    N l B Bc hN J Jx hY W (fun pre W1 W2 hj hn => hJ pre W1 W2 none hj ⟨hn.os, hn.tape, hn.output, hn.size, fun k hk _ => hn.block k hk⟩ (fun r e => by cases e)) (hl.new n) hB (Nat.le_trans hBw n.size) (by omega)
    h.c0 h.c1 h.c2 h.c3 h.c4 h.c5 h.c6 h.d0 h.d1 h.d2 h.d3 h0

end Go.Proofs.YtdbhlepbaepngaaGreatDoor
