/- The document's package of columns: ratio, less, Less, point. -/
import Derived.Test.YtmpkciidhopckaaNumR
import Derived.Test.YtmpkciidhopckaaCellsA
namespace Go.Proofs.Ytmpkciidhopckaa
open Go.RowKit
set_option linter.unusedVariables false

set_option maxHeartbeats 2000000 in
set_option maxRecDepth 100000 in
theorem q_ratio (n d : Int) (w : World) (hd : d ≠ 0) (bn : -1000 ≤ n ∧ n ≤ 1000) (bd : -1000 ≤ d ∧ d ≤ 1000) :
    Calls Try.prog 96 #[.int .i64 n, .int .i64 d] w fun e w' => e = .returned (.agg #[.int .i64 (lowN n d), .int .i64 (lowD n d)]) ∧ New w w' := by
  obtain ⟨l1, l2, l3⟩ := low_r (n := n) hd
  obtain ⟨s0, -, s1, s2⟩ := low_spec (n := n) hd
  generalize lowN n d = A at *
  generalize lowD n d = B at *
  have hgr := fun W => r_greatest n.natAbs d.natAbs W (by omega) (by omega)
  have hab := fun W => r_abs n W (by omega)
  have hab' := fun W => r_abs (-n) W (by omega)
  rw [Int.natAbs_neg] at hab'
  have hgb : Nat.gcd d.natAbs n.natAbs ≤ 1000 := Nat.le_trans (Nat.gcd_le_left _ (by omega)) (by omega)
  generalize Nat.gcd d.natAbs n.natAbs = G at *
  have hG0 : ((G : Int) == 0) = false := by rw [beq_eq_false_iff_ne]; omega
  have s3 : -1000 ≤ A ∧ A ≤ 1000 := by omega
  have s4 : B ≤ 1000 ∧ 0 < B := by omega
  rcases (by omega : d < 0 ∨ 0 < d) with hneg | hpos
  · rw [if_pos hneg] at l1
    rw [show (d.natAbs : Int) = -d by omega] at l2 hgr
    clear s1 s2 hd hab
    replace hgr := Lib.hid hgr
    replace hab' := Lib.hid hab'
    go_enter Try.func96, Try.ntmps96
    go_wp2_with fail
    refine (hab'.out _).mono ?_
    rintro e w' ⟨rfl, rfl⟩
    go_wp2_with fail
    generalize hW : World.alloc _ _ = W
    have c0 : W.cell? ⟨w.heap.size, 0, none⟩ = some (.int .i64 0) := by subst hW; go_simp
    have c1 : W.cell? ⟨w.heap.size, 1, none⟩ = some (.int .i64 0) := by subst hW; go_simp
    have f0 : ∀ o, W.frozen? ⟨w.heap.size, o, none⟩ = false := fun o => by subst hW; go_simp
    have hn : New w W := by subst hW; (repeat (first | (with_reducible exact New.refl _) | (with_reducible assumption) | ((with_reducible refine New.setB ?_ ?_ _); focus (first | omega | (simp; omega) | (simp; done))) | (with_reducible refine New.alloc ?_ _) | (with_reducible refine New.drew ?_) | (with_reducible refine New.drewN ?_ _) | (with_reducible refine New.hat ?_ _) | ((with_reducible apply New.snart); (with_reducible assumption))))
    clear hW
    refine (hgr.out _).mono ?_
    rintro e W2 ⟨rfl, n1⟩
    have f00 := n1.keepF c0 (f0 0)
    have f01 := n1.keepF c1 (f0 1)
    replace c0 := n1.keep c0
    replace c1 := n1.keep c1
    replace hn := hn.trans n1
    clear n1 f0
    go_wp2_with fail
    go_region
    all_goals
      go_wp2_with fail
      refine bodyPost_ret (v := .agg #[.int .i64 A, .int .i64 B]) (by simp [results, Try.results96, go_sem, *]) rfl ?_
      exact ⟨rfl, by (repeat (first | (with_reducible exact New.refl _) | (with_reducible assumption) | ((with_reducible refine New.setB ?_ ?_ _); focus (first | omega | (simp; omega) | (simp; done))) | (with_reducible refine New.alloc ?_ _) | (with_reducible refine New.drew ?_) | (with_reducible refine New.drewN ?_ _) | (with_reducible refine New.hat ?_ _) | ((with_reducible apply New.snart); (with_reducible assumption))))⟩
  · rw [if_neg (by omega)] at l1
    rw [show (d.natAbs : Int) = d by omega] at l2 hgr
    clear s1 s2 hd hab'
    replace hgr := Lib.hid hgr
    replace hab := Lib.hid hab
    go_enter Try.func96, Try.ntmps96
    go_wp2_with fail
    refine (hab.out _).mono ?_
    rintro e w' ⟨rfl, rfl⟩
    go_wp2_with fail
    generalize hW : World.alloc _ _ = W
    have c0 : W.cell? ⟨w.heap.size, 0, none⟩ = some (.int .i64 0) := by subst hW; go_simp
    have c1 : W.cell? ⟨w.heap.size, 1, none⟩ = some (.int .i64 0) := by subst hW; go_simp
    have f0 : ∀ o, W.frozen? ⟨w.heap.size, o, none⟩ = false := fun o => by subst hW; go_simp
    have hn : New w W := by subst hW; (repeat (first | (with_reducible exact New.refl _) | (with_reducible assumption) | ((with_reducible refine New.setB ?_ ?_ _); focus (first | omega | (simp; omega) | (simp; done))) | (with_reducible refine New.alloc ?_ _) | (with_reducible refine New.drew ?_) | (with_reducible refine New.drewN ?_ _) | (with_reducible refine New.hat ?_ _) | ((with_reducible apply New.snart); (with_reducible assumption))))
    clear hW
    refine (hgr.out _).mono ?_
    rintro e W2 ⟨rfl, n1⟩
    have f00 := n1.keepF c0 (f0 0)
    have f01 := n1.keepF c1 (f0 1)
    replace c0 := n1.keep c0
    replace c1 := n1.keep c1
    replace hn := hn.trans n1
    clear n1 f0
    go_wp2_with fail
    go_region
    all_goals
      go_wp2_with fail
      refine bodyPost_ret (v := .agg #[.int .i64 A, .int .i64 B]) (by simp [results, Try.results96, go_sem, *]) rfl ?_
      exact ⟨rfl, by (repeat (first | (with_reducible exact New.refl _) | (with_reducible assumption) | ((with_reducible refine New.setB ?_ ?_ _); focus (first | omega | (simp; omega) | (simp; done))) | (with_reducible refine New.alloc ?_ _) | (with_reducible refine New.drew ?_) | (with_reducible refine New.drewN ?_ _) | (with_reducible refine New.hat ?_ _) | ((with_reducible apply New.snart); (with_reducible assumption))))⟩

set_option maxHeartbeats 400000 in
theorem q_less (a b c d : Int) (w : World) (ha : -1073741824 ≤ a ∧ a ≤ 1073741824) (hb : -1073741824 ≤ b ∧ b ≤ 1073741824) (hc : -1073741824 ≤ c ∧ c ≤ 1073741824) (hd : -1073741824 ≤ d ∧ d ≤ 1073741824) :
    Calls Try.prog 44 #[.agg #[.int .i64 a, .int .i64 b], .agg #[.int .i64 c, .int .i64 d]] w fun e w' => e = .returned (.bool (ltR a b c d)) ∧ New w w' := by
  have p1 := prod_bd ha hd
  have p2 := prod_bd hc hb
  unfold ltR
  go_enter Try.func44, Try.ntmps44
  go_wp2
  go_ret
  exact ⟨rfl, by (repeat (first | (with_reducible exact New.refl _) | (with_reducible assumption) | ((with_reducible refine New.setB ?_ ?_ _); focus (first | omega | (simp; omega) | (simp; done))) | (with_reducible refine New.alloc ?_ _) | (with_reducible refine New.drew ?_) | (with_reducible refine New.drewN ?_ _) | (with_reducible refine New.hat ?_ _) | ((with_reducible apply New.snart); (with_reducible assumption))))⟩

theorem lessB_no {a b c d : Int} (h : ¬ ((1 ≤ b ∧ b ≤ 1073741824) ∧ (-1073741824 ≤ a ∧ a ≤ 1073741824) ∧ (1 ≤ d ∧ d ≤ 1073741824) ∧ (-1073741824 ≤ c ∧ c ≤ 1073741824))) : lessB a b c d = false := by
  cases h1 : lessB a b c d with
  | false => rfl
  | true =>
    exfalso
    unfold lessB at h1
    simp only [Bool.and_eq_true] at h1
    have r1 := ratB_iff.1 h1.1.1
    have r2 := ratB_iff.1 h1.1.2
    omega

set_option maxHeartbeats 1000000 in
theorem q_Less (a b c d : Int) (w : World) :
    Calls Try.prog 18 #[.agg #[.int .i64 a, .int .i64 b], .agg #[.int .i64 c, .int .i64 d]] w fun e w' => e = .returned (.bool (lessB a b c d)) ∧ New w w' := by
  by_cases h : ((1 ≤ b ∧ b ≤ 1073741824) ∧ (-1073741824 ≤ a ∧ a ≤ 1073741824) ∧ (1 ≤ d ∧ d ≤ 1073741824) ∧ (-1073741824 ≤ c ∧ c ≤ 1073741824))
  · have e : lessB a b c d = ltR a b c d := by unfold lessB; rw [ratB_iff.2 (by omega), ratB_iff.2 (by omega)]; rfl
    have hl := fun W => q_less a b c d W (by omega) (by omega) (by omega) (by omega)
    rw [e]
    clear e
    obtain ⟨⟨h1, h2⟩, ⟨h3, h4⟩, ⟨h5, h6⟩, h7, h8⟩ := h
    replace hl := Lib.hid hl
    go_enter Try.func18, Try.ntmps18
    go_wp2_with fail
    refine (hl.out _).mono ?_
    rintro e w1 ⟨rfl, n1⟩
    have hn : New w w1 := New.trans (by (repeat (first | (with_reducible exact New.refl _) | (with_reducible assumption) | ((with_reducible refine New.setB ?_ ?_ _); focus (first | omega | (simp; omega) | (simp; done))) | (with_reducible refine New.alloc ?_ _) | (with_reducible refine New.drew ?_) | (with_reducible refine New.drewN ?_ _) | (with_reducible refine New.hat ?_ _) | ((with_reducible apply New.snart); (with_reducible assumption))))) n1
    clear n1
    go_wp2_with fail
    go_ret
    exact ⟨rfl, hn⟩
  · rw [lessB_no h]
    have H : Hid _ := h
    clear h
    go_enter Try.func18, Try.ntmps18
    by_cases k1 : b < 1
    · go_wp2; go_ret; exact ⟨rfl, by (repeat (first | (with_reducible exact New.refl _) | (with_reducible assumption) | ((with_reducible refine New.setB ?_ ?_ _); focus (first | omega | (simp; omega) | (simp; done))) | (with_reducible refine New.alloc ?_ _) | (with_reducible refine New.drew ?_) | (with_reducible refine New.drewN ?_ _) | (with_reducible refine New.hat ?_ _) | ((with_reducible apply New.snart); (with_reducible assumption))))⟩
    by_cases k2 : 1073741824 < b
    · go_wp2; go_ret; exact ⟨rfl, by (repeat (first | (with_reducible exact New.refl _) | (with_reducible assumption) | ((with_reducible refine New.setB ?_ ?_ _); focus (first | omega | (simp; omega) | (simp; done))) | (with_reducible refine New.alloc ?_ _) | (with_reducible refine New.drew ?_) | (with_reducible refine New.drewN ?_ _) | (with_reducible refine New.hat ?_ _) | ((with_reducible apply New.snart); (with_reducible assumption))))⟩
    by_cases k3 : d < 1
    · go_wp2; go_ret; exact ⟨rfl, by (repeat (first | (with_reducible exact New.refl _) | (with_reducible assumption) | ((with_reducible refine New.setB ?_ ?_ _); focus (first | omega | (simp; omega) | (simp; done))) | (with_reducible refine New.alloc ?_ _) | (with_reducible refine New.drew ?_) | (with_reducible refine New.drewN ?_ _) | (with_reducible refine New.hat ?_ _) | ((with_reducible apply New.snart); (with_reducible assumption))))⟩
    by_cases k4 : 1073741824 < d
    · go_wp2; go_ret; exact ⟨rfl, by (repeat (first | (with_reducible exact New.refl _) | (with_reducible assumption) | ((with_reducible refine New.setB ?_ ?_ _); focus (first | omega | (simp; omega) | (simp; done))) | (with_reducible refine New.alloc ?_ _) | (with_reducible refine New.drew ?_) | (with_reducible refine New.drewN ?_ _) | (with_reducible refine New.hat ?_ _) | ((with_reducible apply New.snart); (with_reducible assumption))))⟩
    by_cases k5 : a < -1073741824
    · go_wp2; go_ret; exact ⟨rfl, by (repeat (first | (with_reducible exact New.refl _) | (with_reducible assumption) | ((with_reducible refine New.setB ?_ ?_ _); focus (first | omega | (simp; omega) | (simp; done))) | (with_reducible refine New.alloc ?_ _) | (with_reducible refine New.drew ?_) | (with_reducible refine New.drewN ?_ _) | (with_reducible refine New.hat ?_ _) | ((with_reducible apply New.snart); (with_reducible assumption))))⟩
    by_cases k6 : 1073741824 < a
    · go_wp2; go_ret; exact ⟨rfl, by (repeat (first | (with_reducible exact New.refl _) | (with_reducible assumption) | ((with_reducible refine New.setB ?_ ?_ _); focus (first | omega | (simp; omega) | (simp; done))) | (with_reducible refine New.alloc ?_ _) | (with_reducible refine New.drew ?_) | (with_reducible refine New.drewN ?_ _) | (with_reducible refine New.hat ?_ _) | ((with_reducible apply New.snart); (with_reducible assumption))))⟩
    by_cases k7 : c < -1073741824
    · go_wp2; go_ret; exact ⟨rfl, by (repeat (first | (with_reducible exact New.refl _) | (with_reducible assumption) | ((with_reducible refine New.setB ?_ ?_ _); focus (first | omega | (simp; omega) | (simp; done))) | (with_reducible refine New.alloc ?_ _) | (with_reducible refine New.drew ?_) | (with_reducible refine New.drewN ?_ _) | (with_reducible refine New.hat ?_ _) | ((with_reducible apply New.snart); (with_reducible assumption))))⟩
    by_cases k8 : 1073741824 < c
    · go_wp2; go_ret; exact ⟨rfl, by (repeat (first | (with_reducible exact New.refl _) | (with_reducible assumption) | ((with_reducible refine New.setB ?_ ?_ _); focus (first | omega | (simp; omega) | (simp; done))) | (with_reducible refine New.alloc ?_ _) | (with_reducible refine New.drew ?_) | (with_reducible refine New.drewN ?_ _) | (with_reducible refine New.hat ?_ _) | ((with_reducible apply New.snart); (with_reducible assumption))))⟩
    exact absurd ⟨⟨by omega, by omega⟩, ⟨by omega, by omega⟩, ⟨by omega, by omega⟩, ⟨by omega, by omega⟩⟩ H.out

set_option maxHeartbeats 400000 in
theorem q_point (x z : Int) (w : World) :
    Calls Try.prog 39 #[.agg #[.int .i64 x, .int .i64 z]] w fun e w' => e = .returned (.bool (ptB x z)) ∧ New w w' := by
  go_enter Try.func39, Try.ntmps39
  go_wp2
  all_goals
    go_ret
    refine ⟨retB ?_, by (repeat (first | (with_reducible exact New.refl _) | (with_reducible assumption) | ((with_reducible refine New.setB ?_ ?_ _); focus (first | omega | (simp; omega) | (simp; done))) | (with_reducible refine New.alloc ?_ _) | (with_reducible refine New.drew ?_) | (with_reducible refine New.drewN ?_ _) | (with_reducible refine New.hat ?_ _) | ((with_reducible apply New.snart); (with_reducible assumption))))⟩
    unfold ptB witB
    simp [*] <;> omega

end Go.Proofs.Ytmpkciidhopckaa
