/- The document's own Abs, Greatest; fractions in lowest terms as the document brings them there. -/
import Derived.Test.YtonngfogbnfbnaaDoorTriF
namespace Go.Proofs.YtonngfogbnfbnaaDoor
open Go.RowKit
set_option linter.unusedVariables false

theorem low_r {n d : Int} (hd : d ≠ 0) : (if d < 0 then -n else n).tdiv (Nat.gcd d.natAbs n.natAbs : Nat) = lowN n d ∧ (d.natAbs : Int).tdiv (Nat.gcd d.natAbs n.natAbs : Nat) = lowD n d ∧ 0 < Nat.gcd d.natAbs n.natAbs := by
  obtain ⟨q0, h1, h2⟩ := low_div (n := n) hd rfl
  have hg : 0 < Int.gcd d n := Int.gcd_pos_of_ne_zero_left n hd
  have hge : Nat.gcd d.natAbs n.natAbs = Int.gcd d n := rfl
  rw [hge]
  refine ⟨?_, ?_, hg⟩
  · rw [← h1]
    rcases Int.lt_trichotomy d 0 with h | h | h
    · rw [if_pos h, Int.sign_eq_neg_one_of_neg h, show (-1 : Int) * (Int.gcd d n : Int) = -(Int.gcd d n : Int) by omega, Int.tdiv_neg, Int.neg_tdiv]
    · exact absurd h hd
    · rw [if_neg (by omega), Int.sign_eq_one_of_pos h, Int.one_mul]
  · rw [← h2]
    rcases Int.lt_trichotomy d 0 with h | h | h
    · rw [Int.sign_eq_neg_one_of_neg h, show (-1 : Int) * (Int.gcd d n : Int) = -(Int.gcd d n : Int) by omega, Int.tdiv_neg, show (d.natAbs : Int) = -d by omega, Int.neg_tdiv]
    · exact absurd h hd
    · rw [Int.sign_eq_one_of_pos h, Int.one_mul, show (d.natAbs : Int) = d by omega]

end Go.Proofs.YtonngfogbnfbnaaDoor
