/- Package cells: where the way stays in a column, one axis alone; the columns' range. -/
import Derived.Test.YtmpkciidhopckaaCellsA
import Derived.Lib.MinMax
import Derived.Deep.LoopGhost
namespace Go.Proofs.Ytmpkciidhopckaa
open Go.RowKit Go.Lib
set_option linter.unusedVariables false

set_option maxHeartbeats 1000000 in
theorem c_lowest (p q : Nat) (w : World) (hp : p ≤ 64) (hq : q ≤ 64) :
    Calls Try.prog 59 #[.int .i64 p, .int .i64 q] w fun e w' => e = .returned (.int .i64 ((((min p q + 1) / 2 : Nat) : Int) - 1)) ∧ w' = w := by
  have h1 : ((min (p : Int) (q : Int)) + 1).tdiv 2 = (((min p q + 1) / 2 : Nat) : Int) := by
    rw [Int.tdiv_eq_ediv_of_nonneg (by omega)]; omega
  go_enter Try.func59, Try.ntmps59
  go_wp2
  go_ret
  exact ⟨rfl, rfl⟩

set_option maxHeartbeats 1000000 in
theorem c_highest (p q : Nat) (w : World) (hp : p ≤ 64) (hq : q ≤ 64) :
    Calls Try.prog 60 #[.int .i64 p, .int .i64 q] w fun e w' => e = .returned (.int .i64 ((max p q / 2 : Nat) : Int)) ∧ w' = w := by
  have h1 : (max (p : Int) (q : Int)).tdiv 2 = ((max p q / 2 : Nat) : Int) := by
    rw [Int.tdiv_eq_ediv_of_nonneg (by omega)]; omega
  go_enter Try.func60, Try.ntmps60
  go_wp2
  go_ret
  exact ⟨rfl, rfl⟩

/-- One axis: from p to q, in column n: first, last, and whether there is a stay at all. -/
structure Stay where
  fn : Int
  fd : Int
  ln : Int
  ld : Int
  ok : Bool
def Stay.val (s : Stay) : Value := .tuple #[.agg #[.int .i64 s.fn, .int .i64 s.fd], .agg #[.int .i64 s.ln, .int .i64 s.ld], .bool s.ok]
def stayI (p q n : Int) : Stay :=
  if q < p then
    (if min (2 * n + 2) p < max (2 * n) q then ⟨0, 0, 0, 0, false⟩ else ⟨-min (2 * n + 2) p + p, -q + p, -max (2 * n) q + p, -q + p, true⟩)
  else if min (2 * n + 2) q < max (2 * n) p then ⟨0, 0, 0, 0, false⟩
  else if p = q then ⟨0, 1, 1, 1, true⟩
  else ⟨max (2 * n) p - p, q - p, min (2 * n + 2) q - p, q - p, true⟩

set_option maxHeartbeats 4000000 in
theorem c_stay (p q n : Int) (w : World) (hp : 0 ≤ p ∧ p ≤ 64) (hq : 0 ≤ q ∧ q ≤ 64) (hn : -1 ≤ n ∧ n ≤ 32) :
    Calls Try.prog 69 #[.int .i64 p, .int .i64 q, .int .i64 n] w fun e w' => e = .returned (stayI p q n).val ∧ New w w' := by
  by_cases hd : q < p
  · by_cases h1 : min (2 * n + 2) p < max (2 * n) q
    · have e0 : (stayI p q n).val = .tuple #[.agg #[.int .i64 0, .int .i64 0], .agg #[.int .i64 0, .int .i64 0], .bool false] := by unfold stayI; rw [if_pos hd, if_pos h1]; rfl
      rw [e0]
      go_enter Try.func69, Try.ntmps69
      go_wp2
      refine bodyPost_ret (v := .tuple #[.agg #[.int .i64 0, .int .i64 0], .agg #[.int .i64 0, .int .i64 0], .bool false]) (by simp [results, Try.results69, go_sem, *]) rfl ?_
      exact ⟨rfl, by (repeat (first | (with_reducible exact New.refl _) | (with_reducible assumption) | ((with_reducible refine New.setB ?_ ?_ _); focus (first | omega | (simp; omega) | (simp; done))) | (with_reducible refine New.alloc ?_ _) | (with_reducible refine New.drew ?_) | (with_reducible refine New.drewN ?_ _) | (with_reducible refine New.hat ?_ _) | ((with_reducible apply New.snart); (with_reducible assumption))))⟩
    · have e0 : (stayI p q n).val = .tuple #[.agg #[.int .i64 (-min (2 * n + 2) p + p), .int .i64 (-q + p)], .agg #[.int .i64 (-max (2 * n) q + p), .int .i64 (-q + p)], .bool true] := by unfold stayI; rw [if_pos hd, if_neg h1]; rfl
      rw [e0]
      have hne : ((-p : Int) == -q) = false := by rw [beq_eq_false_iff_ne]; omega
      have hne' : ((p : Int) == q) = false := by rw [beq_eq_false_iff_ne]; omega
      go_enter Try.func69, Try.ntmps69
      go_wp2
      refine bodyPost_ret (v := .tuple #[.agg #[.int .i64 (-min (2 * n + 2) p + p), .int .i64 (-q + p)], .agg #[.int .i64 (-max (2 * n) q + p), .int .i64 (-q + p)], .bool true]) (by simp [results, Try.results69, go_sem, *]) rfl ?_
      exact ⟨rfl, by (repeat (first | (with_reducible exact New.refl _) | (with_reducible assumption) | ((with_reducible refine New.setB ?_ ?_ _); focus (first | omega | (simp; omega) | (simp; done))) | (with_reducible refine New.alloc ?_ _) | (with_reducible refine New.drew ?_) | (with_reducible refine New.drewN ?_ _) | (with_reducible refine New.hat ?_ _) | ((with_reducible apply New.snart); (with_reducible assumption))))⟩
  · by_cases h1 : min (2 * n + 2) q < max (2 * n) p
    · have e0 : (stayI p q n).val = .tuple #[.agg #[.int .i64 0, .int .i64 0], .agg #[.int .i64 0, .int .i64 0], .bool false] := by unfold stayI; rw [if_neg hd, if_pos h1]; rfl
      rw [e0]
      go_enter Try.func69, Try.ntmps69
      go_wp2
      refine bodyPost_ret (v := .tuple #[.agg #[.int .i64 0, .int .i64 0], .agg #[.int .i64 0, .int .i64 0], .bool false]) (by simp [results, Try.results69, go_sem, *]) rfl ?_
      exact ⟨rfl, by (repeat (first | (with_reducible exact New.refl _) | (with_reducible assumption) | ((with_reducible refine New.setB ?_ ?_ _); focus (first | omega | (simp; omega) | (simp; done))) | (with_reducible refine New.alloc ?_ _) | (with_reducible refine New.drew ?_) | (with_reducible refine New.drewN ?_ _) | (with_reducible refine New.hat ?_ _) | ((with_reducible apply New.snart); (with_reducible assumption))))⟩
    · by_cases h2 : p = q
      · have e0 : (stayI p q n).val = .tuple #[.agg #[.int .i64 0, .int .i64 1], .agg #[.int .i64 1, .int .i64 1], .bool true] := by unfold stayI; rw [if_neg hd, if_neg h1, if_pos h2]; rfl
        rw [e0]
        subst h2
        go_enter Try.func69, Try.ntmps69
        go_wp2
        refine bodyPost_ret (v := .tuple #[.agg #[.int .i64 0, .int .i64 1], .agg #[.int .i64 1, .int .i64 1], .bool true]) (by simp [results, Try.results69, go_sem, *]) rfl ?_
        exact ⟨rfl, by (repeat (first | (with_reducible exact New.refl _) | (with_reducible assumption) | ((with_reducible refine New.setB ?_ ?_ _); focus (first | omega | (simp; omega) | (simp; done))) | (with_reducible refine New.alloc ?_ _) | (with_reducible refine New.drew ?_) | (with_reducible refine New.drewN ?_ _) | (with_reducible refine New.hat ?_ _) | ((with_reducible apply New.snart); (with_reducible assumption))))⟩
      · have e0 : (stayI p q n).val = .tuple #[.agg #[.int .i64 (max (2 * n) p - p), .int .i64 (q - p)], .agg #[.int .i64 (min (2 * n + 2) q - p), .int .i64 (q - p)], .bool true] := by unfold stayI; rw [if_neg hd, if_neg h1, if_neg h2]; rfl
        rw [e0]
        have hne : ((p : Int) == q) = false := by rw [beq_eq_false_iff_ne]; omega
        go_enter Try.func69, Try.ntmps69
        go_wp2
        refine bodyPost_ret (v := .tuple #[.agg #[.int .i64 (max (2 * n) p - p), .int .i64 (q - p)], .agg #[.int .i64 (min (2 * n + 2) q - p), .int .i64 (q - p)], .bool true]) (by simp [results, Try.results69, go_sem, *]) rfl ?_
        exact ⟨rfl, by (repeat (first | (with_reducible exact New.refl _) | (with_reducible assumption) | ((with_reducible refine New.setB ?_ ?_ _); focus (first | omega | (simp; omega) | (simp; done))) | (with_reducible refine New.alloc ?_ _) | (with_reducible refine New.drew ?_) | (with_reducible refine New.drewN ?_ _) | (with_reducible refine New.hat ?_ _) | ((with_reducible apply New.snart); (with_reducible assumption))))⟩

end Go.Proofs.Ytmpkciidhopckaa
