/- Package cells: the small tests. -/
import Derived.Test.YtmpkciidhopckaaHat
import Derived.Test.YtmpkciidhopckaaSteady
namespace Go.Proofs.Ytmpkciidhopckaa
open Go.RowKit
set_option linter.unusedVariables false

def witB (n lo hi : Int) : Bool := decide (lo ≤ n) && decide (n ≤ hi)
theorem witB_iff {n lo hi : Int} : witB n lo hi = true ↔ lo ≤ n ∧ n ≤ hi := by simp [witB]
theorem witB_not {n lo hi : Int} : witB n lo hi = false ↔ ¬ (lo ≤ n ∧ n ≤ hi) := by rw [← witB_iff]; simp

theorem c_within (n lo hi : Int) (w : World) :
    Calls Try.prog 57 #[.int .i64 n, .int .i64 lo, .int .i64 hi] w fun e w' => e = .returned (.bool (witB n lo hi)) ∧ w' = w := by
  by_cases h1 : lo ≤ n
  · by_cases h2 : n ≤ hi
    · rw [witB_iff.2 ⟨h1, h2⟩]
      go_enter Try.func57, Try.ntmps57
      go_wp2
      go_ret
      exact ⟨rfl, rfl⟩
    · rw [witB_not.2 (by omega)]
      go_enter Try.func57, Try.ntmps57
      go_wp2
      go_ret
      exact ⟨rfl, rfl⟩
  · rw [witB_not.2 (by omega)]
    go_enter Try.func57, Try.ntmps57
    go_wp2
    go_ret
    exact ⟨rfl, rfl⟩

def ptB (x z : Int) : Bool := witB x 0 64 && witB z 0 64
def ratB (n d : Int) : Bool := witB d 1 1073741824 && witB n (-1073741824) 1073741824

theorem c_point (x z : Int) (w : World) :
    Calls Try.prog 35 #[.agg #[.int .i64 x, .int .i64 z]] w fun e w' => e = .returned (.bool (ptB x z)) ∧ New w w' := by
  have h1 := fun w => c_within x 0 64 w
  have h2 := fun w => c_within z 0 64 w
  unfold ptB
  cases hx : witB x 0 64 with
  | false =>
    simp only [hx] at h1
    go_enter Try.func35, Try.ntmps35
    go_wp2_with fail
    refine (h1 _).mono ?_
    rintro e w' ⟨rfl, rfl⟩
    go_wp2_with fail
    go_ret
    exact ⟨rfl, by (repeat (first | (with_reducible exact New.refl _) | (with_reducible assumption) | ((with_reducible refine New.setB ?_ ?_ _); focus (first | omega | (simp; omega) | (simp; done))) | (with_reducible refine New.alloc ?_ _) | (with_reducible refine New.drew ?_) | (with_reducible refine New.drewN ?_ _) | (with_reducible refine New.hat ?_ _) | ((with_reducible apply New.snart); (with_reducible assumption))))⟩
  | true =>
    simp only [hx] at h1
    cases hz : witB z 0 64 <;>
      (simp only [hz] at h2
       go_enter Try.func35, Try.ntmps35
       go_wp2_with fail
       refine (h1 _).mono ?_
       rintro e w' ⟨rfl, rfl⟩
       go_wp2_with fail
       refine (h2 _).mono ?_
       rintro e w' ⟨rfl, rfl⟩
       go_wp2_with fail
       go_ret
       exact ⟨rfl, by (repeat (first | (with_reducible exact New.refl _) | (with_reducible assumption) | ((with_reducible refine New.setB ?_ ?_ _); focus (first | omega | (simp; omega) | (simp; done))) | (with_reducible refine New.alloc ?_ _) | (with_reducible refine New.drew ?_) | (with_reducible refine New.drewN ?_ _) | (with_reducible refine New.hat ?_ _) | ((with_reducible apply New.snart); (with_reducible assumption))))⟩)

theorem c_ratio (n d : Int) (w : World) :
    Calls Try.prog 45 #[.agg #[.int .i64 n, .int .i64 d]] w fun e w' => e = .returned (.bool (ratB n d)) ∧ New w w' := by
  have h1 := fun w => c_within d 1 1073741824 w
  have h2 := fun w => c_within n (-1073741824) 1073741824 w
  unfold ratB
  cases hx : witB d 1 1073741824 with
  | false =>
    simp only [hx] at h1
    go_enter Try.func45, Try.ntmps45
    go_wp2_with fail
    refine (h1 _).mono ?_
    rintro e w' ⟨rfl, rfl⟩
    go_wp2_with fail
    go_ret
    exact ⟨rfl, by (repeat (first | (with_reducible exact New.refl _) | (with_reducible assumption) | ((with_reducible refine New.setB ?_ ?_ _); focus (first | omega | (simp; omega) | (simp; done))) | (with_reducible refine New.alloc ?_ _) | (with_reducible refine New.drew ?_) | (with_reducible refine New.drewN ?_ _) | (with_reducible refine New.hat ?_ _) | ((with_reducible apply New.snart); (with_reducible assumption))))⟩
  | true =>
    simp only [hx] at h1
    cases hz : witB n (-1073741824) 1073741824 <;>
      (simp only [hz] at h2
       go_enter Try.func45, Try.ntmps45
       go_wp2_with fail
       refine (h1 _).mono ?_
       rintro e w' ⟨rfl, rfl⟩
       go_wp2_with fail
       refine (h2 _).mono ?_
       rintro e w' ⟨rfl, rfl⟩
       go_wp2_with fail
       go_ret
       exact ⟨rfl, by (repeat (first | (with_reducible exact New.refl _) | (with_reducible assumption) | ((with_reducible refine New.setB ?_ ?_ _); focus (first | omega | (simp; omega) | (simp; done))) | (with_reducible refine New.alloc ?_ _) | (with_reducible refine New.drew ?_) | (with_reducible refine New.drewN ?_ _) | (with_reducible refine New.hat ?_ _) | ((with_reducible apply New.snart); (with_reducible assumption))))⟩)

theorem c_column (n : Int) (w : World) :
    Calls Try.prog 68 #[.int .i64 n] w fun e w' => e = .returned (.bool (witB n (-1) 32)) ∧ w' = w := by
  go_enter Try.func68, Try.ntmps68
  go_wp2_with (go_at_call 57; refine (c_within _ _ _ _).mono ?_; rintro e w' ⟨rfl, rfl⟩)
  go_ret
  exact ⟨rfl, rfl⟩

/-! Less: ratios by their cross products. -/
def ltR (a b c d : Int) : Bool := decide (a * d < c * b)
def lessB (a b c d : Int) : Bool := ratB a b && ratB c d && ltR a b c d

theorem ratB_iff {n d : Int} : ratB n d = true ↔ (1 ≤ d ∧ d ≤ 1073741824) ∧ -1073741824 ≤ n ∧ n ≤ 1073741824 := by
  unfold ratB; rw [Bool.and_eq_true, witB_iff, witB_iff]

theorem prod_bd {a b : Int} (ha : -1073741824 ≤ a ∧ a ≤ 1073741824) (hb : -1073741824 ≤ b ∧ b ≤ 1073741824) : -1152921504606846976 ≤ a * b ∧ a * b ≤ 1152921504606846976 := by
  have h : (a * b).natAbs ≤ 1073741824 * 1073741824 := by
    rw [Int.natAbs_mul]
    exact Nat.mul_le_mul (by omega) (by omega)
  omega

set_option maxHeartbeats 1000000 in
theorem c_less (a b c d : Int) (w : World) :
    Calls Try.prog 17 #[.agg #[.int .i64 a, .int .i64 b], .agg #[.int .i64 c, .int .i64 d]] w fun e w' => e = .returned (.bool (lessB a b c d)) ∧ New w w' := by
  have h1 := fun w => c_ratio a b w
  have h2 := fun w => c_ratio c d w
  unfold lessB
  cases hx : ratB a b with
  | false =>
    simp only [hx] at h1
    go_enter Try.func17, Try.ntmps17
    go_wp2_with (go_at_call 45; refine (h1 _).mono ?_; rintro e w1 ⟨rfl, n1⟩)
    go_ret
    refine ⟨rfl, ?_⟩
    exact New.trans (by (repeat (first | (with_reducible exact New.refl _) | (with_reducible assumption) | ((with_reducible refine New.setB ?_ ?_ _); focus (first | omega | (simp; omega) | (simp; done))) | (with_reducible refine New.alloc ?_ _) | (with_reducible refine New.drew ?_) | (with_reducible refine New.drewN ?_ _) | (with_reducible refine New.hat ?_ _) | ((with_reducible apply New.snart); (with_reducible assumption))))) n1
  | true =>
    cases hz : ratB c d with
    | false =>
      simp only [hx] at h1
      simp only [hz] at h2
      go_enter Try.func17, Try.ntmps17
      go_wp2_with fail
      generalize hW : World.alloc _ _ = W
      have c1 : W.cell? ⟨w.heap.size + 1, 0, none⟩ = some (.int .i64 c) := by subst hW; go_simp
      have c2 : W.cell? ⟨w.heap.size + 1, 1, none⟩ = some (.int .i64 d) := by subst hW; go_simp
      have hn : New w W := by subst hW; (repeat (first | (with_reducible exact New.refl _) | (with_reducible assumption) | ((with_reducible refine New.setB ?_ ?_ _); focus (first | omega | (simp; omega) | (simp; done))) | (with_reducible refine New.alloc ?_ _) | (with_reducible refine New.drew ?_) | (with_reducible refine New.drewN ?_ _) | (with_reducible refine New.hat ?_ _) | ((with_reducible apply New.snart); (with_reducible assumption))))
      clear hW
      refine (h1 _).mono ?_
      rintro e w1 ⟨rfl, n1⟩
      have c1 := n1.keep c1
      have c2 := n1.keep c2
      go_wp2_with fail
      refine (h2 _).mono ?_
      rintro e w2 ⟨rfl, n2⟩
      go_wp2_with fail
      go_ret
      exact ⟨rfl, (hn.trans n1).trans n2⟩
    | true =>
      have r1 := ratB_iff.1 hx
      have r2 := ratB_iff.1 hz
      have p1 := prod_bd r1.2 (show -1073741824 ≤ d ∧ d ≤ 1073741824 by omega)
      have p2 := prod_bd r2.2 (show -1073741824 ≤ b ∧ b ≤ 1073741824 by omega)
      simp only [hx] at h1
      simp only [hz] at h2
      go_enter Try.func17, Try.ntmps17
      go_wp2_with fail
      generalize hW : World.alloc _ _ = W
      have c1 : W.cell? ⟨w.heap.size + 1, 0, none⟩ = some (.int .i64 c) := by subst hW; go_simp
      have c2 : W.cell? ⟨w.heap.size + 1, 1, none⟩ = some (.int .i64 d) := by subst hW; go_simp
      have c3 : W.cell? ⟨w.heap.size, 0, none⟩ = some (.int .i64 a) := by subst hW; go_simp
      have c4 : W.cell? ⟨w.heap.size, 1, none⟩ = some (.int .i64 b) := by subst hW; go_simp
      have hn : New w W := by subst hW; (repeat (first | (with_reducible exact New.refl _) | (with_reducible assumption) | ((with_reducible refine New.setB ?_ ?_ _); focus (first | omega | (simp; omega) | (simp; done))) | (with_reducible refine New.alloc ?_ _) | (with_reducible refine New.drew ?_) | (with_reducible refine New.drewN ?_ _) | (with_reducible refine New.hat ?_ _) | ((with_reducible apply New.snart); (with_reducible assumption))))
      clear hW
      refine (h1 _).mono ?_
      rintro e w1 ⟨rfl, n1⟩
      have c1 := n1.keep c1
      have c2 := n1.keep c2
      have c3 := n1.keep c3
      have c4 := n1.keep c4
      go_wp2_with fail
      refine (h2 _).mono ?_
      rintro e w2 ⟨rfl, n2⟩
      have c1 := n2.keep c1
      have c2 := n2.keep c2
      have c3 := n2.keep c3
      have c4 := n2.keep c4
      go_wp2_with fail
      go_ret
      refine ⟨?_, (hn.trans n1).trans n2⟩
      simp [ltR]

end Go.Proofs.Ytmpkciidhopckaa
