import Derived.Test.YtdbhlepbaepngaaDoorBinsBZ14

/- The contract of bins.Touch. -/
namespace Go.Proofs.YtdbhlepbaepngaaDoor
open Go.RowKit
set_option linter.unusedVariables false

def strEq (a b c d a' b' c' d' : Int) : Bool := a == a' && (b == b' && (c == c' && d == d'))

theorem str_neq (w : World) (a b c d a' b' c' d' : Int) : (binOp .neq 132 (strV a b c d) (strV a' b' c' d')).run Tryd.prog w = .ok (.bool (!strEq a b c d a' b' c' d')) w := by
  unfold strEq
  cases h1 : (a == a') <;> cases h2 : (b == b') <;> cases h3 : (c == c') <;> cases h4 : (d == d') <;> (go_simp)

/-- Does the stretch touch tile k? -/
def touchB (cl cb ht ri ru wd dp k x0 z0 x1 z1 : Int) : Bool :=
  decide (0 ≤ k ∧ k < countN cl cb ht ri ru wd dp) && decide (x0 ≤ x1 ∧ z0 ≤ z1) && decide (x0 ≤ padX1 cl wd k ∧ padX0 cl wd k ≤ x1 ∧ z0 ≤ padZ1 cl wd dp k ∧ padZ0 cl wd k ≤ z1)

theorem pad_facts {cl cb ht ri ru wd dp k : Int} (hok : checkB cl cb ht ri ru wd dp = true) (h : 0 ≤ k ∧ k < countN cl cb ht ri ru wd dp) :
    0 ≤ padX0 cl wd k ∧ padX0 cl wd k ≤ padX1 cl wd k ∧ 0 ≤ padZ0 cl wd k ∧ padZ0 cl wd k ≤ padZ1 cl wd dp k := by
  have hk := checkB_iff.1 hok
  obtain ⟨hcl, -, -, -, -, hw, hd⟩ := hk
  have hr := rowN_bd hw
  have hs := rowN_bd hd
  have e1 : countN cl cb ht ri ru wd dp = rowN wd * rowN dp := by unfold countN; rw [hok]; rfl
  rw [e1] at h
  have hz : rowN wd ≠ 0 := by omega
  have hm1 := Int.emod_lt_of_pos k (b := rowN wd) (by omega)
  have hm0 := Int.emod_nonneg k hz
  have hd0 : 0 ≤ k / rowN wd := Int.ediv_nonneg (by omega) (by omega)
  have hd1 : k / rowN wd < rowN dp := Int.ediv_lt_of_lt_mul (by omega) (by rw [Int.mul_comm]; exact h.2)
  unfold padX0 padX1 padZ0 padZ1 lowS highS
  generalize k % rowN wd = a at *
  generalize k / rowN wd = b at *
  have rw8 : rowN wd = (wd - 1) / 8 + 1 := by unfold rowN; rw [Int.tdiv_eq_ediv_of_nonneg (by omega)]
  have rd8 : rowN dp = (dp - 1) / 8 + 1 := by unfold rowN; rw [Int.tdiv_eq_ediv_of_nonneg (by omega)]
  clear h e1 hok
  omega

theorem touchB_meet {cl cb ht ri ru wd dp k x0 z0 x1 z1 : Int} (hok : checkB cl cb ht ri ru wd dp = true) (h : 0 ≤ k ∧ k < countN cl cb ht ri ru wd dp) :
    touchB cl cb ht ri ru wd dp k x0 z0 x1 z1 = decide (max x0 (padX0 cl wd k) ≤ min x1 (padX1 cl wd k) ∧ max z0 (padZ0 cl wd k) ≤ min z1 (padZ1 cl wd dp k)) := by
  have hp := pad_facts hok h
  unfold touchB
  rw [decide_eq_true h, Bool.true_and, ← Bool.decide_and, decide_eq_decide]
  omega

set_option maxHeartbeats 1000000 in
theorem Touch_any (cl cb ht ri ru wd dp k x0 z0 x1 z1 : Int) (w : World) (hl : Nowhere w) :
    Calls Tryd.prog 51 #[.agg #[.int .i64 cl, .int .i64 cb, .int .i64 ht, .int .i64 ri, .int .i64 ru, .int .i64 wd, .int .i64 dp], .int .i64 k, .int .i64 x0, .int .i64 z0, .int .i64 x1, .int .i64 z1] w fun e w' => e = .returned (.bool (touchB cl cb ht ri ru wd dp k x0 z0 x1 z1)) ∧ New w w' := by
  by_cases h0 : k < 0
  · have e : touchB cl cb ht ri ru wd dp k x0 z0 x1 z1 = false := by unfold touchB; rw [decide_eq_false (by omega)]; rfl
    rw [e]
    have b0 : decide (k < 0) = true := decide_eq_true h0
    clear e h0 hl
    go_enter Tryd.func51, Tryd.ntmps51
    go_wp2_with fail
    go_ret
    exact ⟨rfl, by (repeat (first | (with_reducible exact New.refl _) | (with_reducible assumption) | ((with_reducible refine New.setB ?_ ?_ _); focus (first | omega | (simp; omega) | (simp; done))) | (with_reducible refine New.alloc ?_ _) | (with_reducible refine New.drew ?_) | (with_reducible refine New.drewN ?_ _) | (with_reducible refine New.hat ?_ _) | ((with_reducible apply New.snart); (with_reducible assumption))))⟩
  have b0 : decide (k < 0) = false := decide_eq_false h0
  have CC := Lib.hid (fun W => Count_any cl cb ht ri ru wd dp W)
  by_cases h1 : k < countN cl cb ht ri ru wd dp
  · have hok : checkB cl cb ht ri ru wd dp = true := by
      cases hh : checkB cl cb ht ri ru wd dp with
      | true => rfl
      | false => unfold countN at h1; rw [hh] at h1; simp at h1; omega
    have hT := touchB_meet (x0 := x0) (z0 := z0) (x1 := x1) (z1 := z1) hok ⟨by omega, h1⟩
    have hp := pad_facts hok ⟨by omega, h1⟩
    have hb := count_bd cl cb ht ri ru wd dp
    have b1 : decide (countN cl cb ht ri ru wd dp ≤ k) = false := decide_eq_false (by omega)
    have PP := Lib.hid (fun W => padded_any cl cb ht ri ru wd dp k hok (by omega) W)
    generalize padX0 cl wd k = a0 at *
    generalize padX1 cl wd k = a1 at *
    generalize padZ0 cl wd k = c0 at *
    generalize padZ1 cl wd dp k = c1 at *
    have HH := fun W hl => common_any x0 z0 x1 z1 a0 c0 a1 c1 W hl
    by_cases hm : max x0 a0 ≤ min x1 a1 ∧ max z0 c0 ≤ min z1 c1
    · rw [decide_eq_true hm] at hT
      rw [hT]
      simp only [if_pos hm] at HH
      have m0 : strEq (max x0 a0) (max z0 c0) (min x1 a1) (min z1 c1) 0 0 (-1) (-1) = false := by
        unfold strEq
        have : (min x1 a1 == -1) = false := by rw [beq_eq_false_iff_ne]; omega
        rw [this]; simp
      generalize max x0 a0 = m1 at *
      generalize max z0 c0 = m2 at *
      generalize min x1 a1 = m3 at *
      generalize min z1 c1 = m4 at *
      generalize countN cl cb ht ri ru wd dp = n at *
      have H2 := Lib.hid HH
      have SN := str_neq
      clear HH hok h1 hb h0 hT hm hp
      go_enter Tryd.func51, Tryd.ntmps51
      go_wp2_with fail
      refine (CC.out _).mono ?_
      rintro e w1 ⟨rfl, n1⟩
      go_wp2_with fail
      have k0 : w1.cell? ⟨w.heap.size, 0, none⟩ = some (.int .i64 cl) := n1.keep (by go_simp)
      have k1 : w1.cell? ⟨w.heap.size, 1, none⟩ = some (.int .i64 cb) := n1.keep (by go_simp)
      have k2 : w1.cell? ⟨w.heap.size, 2, none⟩ = some (.int .i64 ht) := n1.keep (by go_simp)
      have k3 : w1.cell? ⟨w.heap.size, 3, none⟩ = some (.int .i64 ri) := n1.keep (by go_simp)
      have k4 : w1.cell? ⟨w.heap.size, 4, none⟩ = some (.int .i64 ru) := n1.keep (by go_simp)
      have k5 : w1.cell? ⟨w.heap.size, 5, none⟩ = some (.int .i64 wd) := n1.keep (by go_simp)
      have k6 : w1.cell? ⟨w.heap.size, 6, none⟩ = some (.int .i64 dp) := n1.keep (by go_simp)
      replace n1 : New w w1 := New.trans (by (repeat (first | (with_reducible exact New.refl _) | (with_reducible assumption) | ((with_reducible refine New.setB ?_ ?_ _); focus (first | omega | (simp; omega) | (simp; done))) | (with_reducible refine New.alloc ?_ _) | (with_reducible refine New.drew ?_) | (with_reducible refine New.drewN ?_ _) | (with_reducible refine New.hat ?_ _) | ((with_reducible apply New.snart); (with_reducible assumption))))) n1
      have hl1 := hl.new n1
      obtain ⟨l0, l1, l2, l3⟩ := id hl1
      have H3 := Lib.hid (fun x : Hat w1 => H2.out x.w (hl1.new x.h))
      clear H2 hl1 hl
      refine wp_region_hat (by kernel_rfl) (by kernel_rfl) ?_
      intro hatc hatf
      (repeat (go_big_quiet_step ((first | (go_at_call 80; (with_reducible exact Calls.hat (PP.out _))) | (go_at_call 79; (with_reducible exact Calls.hat (H3.out _)))))))
      refine wpQuiet_nil ?_
      rintro _ ⟨x, rfl⟩
      go_wp2_with fail
      go_ret
      exact ⟨rfl, New.trans n1 x.h⟩
    · rw [decide_eq_false hm] at hT
      rw [hT]
      simp only [if_neg hm] at HH
      have m0 : strEq 0 0 (-1) (-1) 0 0 (-1) (-1) = true := by decide
      generalize countN cl cb ht ri ru wd dp = n at *
      have H2 := Lib.hid HH
      have SN := str_neq
      clear HH hok h1 hb h0 hT hm hp
      go_enter Tryd.func51, Tryd.ntmps51
      go_wp2_with fail
      refine (CC.out _).mono ?_
      rintro e w1 ⟨rfl, n1⟩
      go_wp2_with fail
      have k0 : w1.cell? ⟨w.heap.size, 0, none⟩ = some (.int .i64 cl) := n1.keep (by go_simp)
      have k1 : w1.cell? ⟨w.heap.size, 1, none⟩ = some (.int .i64 cb) := n1.keep (by go_simp)
      have k2 : w1.cell? ⟨w.heap.size, 2, none⟩ = some (.int .i64 ht) := n1.keep (by go_simp)
      have k3 : w1.cell? ⟨w.heap.size, 3, none⟩ = some (.int .i64 ri) := n1.keep (by go_simp)
      have k4 : w1.cell? ⟨w.heap.size, 4, none⟩ = some (.int .i64 ru) := n1.keep (by go_simp)
      have k5 : w1.cell? ⟨w.heap.size, 5, none⟩ = some (.int .i64 wd) := n1.keep (by go_simp)
      have k6 : w1.cell? ⟨w.heap.size, 6, none⟩ = some (.int .i64 dp) := n1.keep (by go_simp)
      replace n1 : New w w1 := New.trans (by (repeat (first | (with_reducible exact New.refl _) | (with_reducible assumption) | ((with_reducible refine New.setB ?_ ?_ _); focus (first | omega | (simp; omega) | (simp; done))) | (with_reducible refine New.alloc ?_ _) | (with_reducible refine New.drew ?_) | (with_reducible refine New.drewN ?_ _) | (with_reducible refine New.hat ?_ _) | ((with_reducible apply New.snart); (with_reducible assumption))))) n1
      have hl1 := hl.new n1
      obtain ⟨l0, l1, l2, l3⟩ := id hl1
      have H3 := Lib.hid (fun x : Hat w1 => H2.out x.w (hl1.new x.h))
      clear H2 hl1 hl
      refine wp_region_hat (by kernel_rfl) (by kernel_rfl) ?_
      intro hatc hatf
      (repeat (go_big_quiet_step ((first | (go_at_call 80; (with_reducible exact Calls.hat (PP.out _))) | (go_at_call 79; (with_reducible exact Calls.hat (H3.out _)))))))
      refine wpQuiet_nil ?_
      rintro _ ⟨x, rfl⟩
      go_wp2_with fail
      go_ret
      exact ⟨rfl, New.trans n1 x.h⟩
  · have e : touchB cl cb ht ri ru wd dp k x0 z0 x1 z1 = false := by unfold touchB; rw [decide_eq_false (by omega)]; rfl
    rw [e]
    have b1 : decide (countN cl cb ht ri ru wd dp ≤ k) = true := decide_eq_true (by omega)
    generalize countN cl cb ht ri ru wd dp = n at *
    clear e h0 h1 hl
    go_enter Tryd.func51, Tryd.ntmps51
    go_wp2_with fail
    refine (CC.out _).mono ?_
    rintro e w1 ⟨rfl, n1⟩
    go_wp2_with fail
    go_ret
    exact ⟨rfl, New.trans (by (repeat (first | (with_reducible exact New.refl _) | (with_reducible assumption) | ((with_reducible refine New.setB ?_ ?_ _); focus (first | omega | (simp; omega) | (simp; done))) | (with_reducible refine New.alloc ?_ _) | (with_reducible refine New.drew ?_) | (with_reducible refine New.drewN ?_ _) | (with_reducible refine New.hat ?_ _) | ((with_reducible apply New.snart); (with_reducible assumption))))) n1⟩

end Go.Proofs.YtdbhlepbaepngaaDoor

/- Of the law's package: config, wakes; and plain facts of stretches. -/
namespace Go.Proofs.YtdbhlepbaepngaaDoor
open Go.RowKit
set_option linter.unusedVariables false

/-- A stretch in two halves, the one way. -/
theorem halves_x (cl cb ht ri ru wd dp k x0 z0 x1 z1 m : Int) (h : x0 ≤ m ∧ m ≤ x1) :
    touchB cl cb ht ri ru wd dp k x0 z0 x1 z1 = (touchB cl cb ht ri ru wd dp k x0 z0 m z1 || touchB cl cb ht ri ru wd dp k m z0 x1 z1) := by
  by_cases hk : 0 ≤ k ∧ k < countN cl cb ht ri ru wd dp
  · have hok : checkB cl cb ht ri ru wd dp = true := by
      cases hh : checkB cl cb ht ri ru wd dp with
      | true => rfl
      | false => unfold countN at hk; rw [hh] at hk; simp at hk; omega
    have hp := pad_facts hok hk
    unfold touchB
    rw [decide_eq_true hk, Bool.true_and, Bool.true_and, Bool.true_and, ← Bool.decide_and, ← Bool.decide_and, ← Bool.decide_and, ← Bool.decide_or, decide_eq_decide]
    omega
  · unfold touchB
    rw [decide_eq_false hk]; rfl

/-- A stretch in two halves, the other way. -/
theorem halves_z (cl cb ht ri ru wd dp k x0 z0 x1 z1 m : Int) (h : z0 ≤ m ∧ m ≤ z1) :
    touchB cl cb ht ri ru wd dp k x0 z0 x1 z1 = (touchB cl cb ht ri ru wd dp k x0 z0 x1 m || touchB cl cb ht ri ru wd dp k x0 m x1 z1) := by
  by_cases hk : 0 ≤ k ∧ k < countN cl cb ht ri ru wd dp
  · have hok : checkB cl cb ht ri ru wd dp = true := by
      cases hh : checkB cl cb ht ri ru wd dp with
      | true => rfl
      | false => unfold countN at hk; rw [hh] at hk; simp at hk; omega
    have hp := pad_facts hok hk
    unfold touchB
    rw [decide_eq_true hk, Bool.true_and, Bool.true_and, Bool.true_and, ← Bool.decide_and, ← Bool.decide_and, ← Bool.decide_and, ← Bool.decide_or, decide_eq_decide]
    omega
  · unfold touchB
    rw [decide_eq_false hk]; rfl

end Go.Proofs.YtdbhlepbaepngaaDoor
