/- Fractions in lowest terms; package tri's lowest. -/
import Derived.Test.YtonngfogbnfbnaaDoorNumA
import Derived.Test.YtonngfogbnfbnaaDoorWholeC
import Derived.Test.YtonngfogbnfbnaaDoorHatS
import Derived.Deep.LoopGhost
namespace Go.Proofs.YtonngfogbnfbnaaDoor
open Go.RowKit
set_option linter.unusedVariables false

/-- n / d in lowest terms, the lower number above 0. -/
def lowN (n d : Int) : Int := d.sign * n / (Int.gcd d n : Int)
def lowD (n d : Int) : Int := (d.natAbs : Int) / (Int.gcd d n : Int)

theorem igcd_step (c r : Int) (h : r ≠ 0) : Int.gcd r (c.tmod r) = Int.gcd c r := by
  unfold Int.gcd
  rw [Int.natAbs_tmod, Nat.gcd_comm r.natAbs, ← Nat.gcd_rec, Nat.gcd_comm]

theorem abs_sign {d : Int} (hd : d ≠ 0) : (d.natAbs : Int) = d.sign * d := by
  rcases Int.lt_trichotomy d 0 with h | h | h
  · rw [Int.sign_eq_neg_one_of_neg h]; omega
  · exact absurd h hd
  · rw [Int.sign_eq_one_of_pos h]; omega

theorem low_div {n d q : Int} (hd : d ≠ 0) (hq : q = d.sign * (Int.gcd d n : Int)) : q ≠ 0 ∧ n.tdiv q = lowN n d ∧ d.tdiv q = lowD n d := by
  have hg : 0 < Int.gcd d n := Int.gcd_pos_of_ne_zero_left n hd
  obtain ⟨a, ha⟩ := Int.gcd_dvd_left (a := d) (b := n)
  obtain ⟨b, hb⟩ := Int.gcd_dvd_right (a := d) (b := n)
  unfold lowN lowD
  generalize hG : Int.gcd d n = g at *
  have hg' : (0 : Int) < (g : Int) := by omega
  subst hq
  have e1 : (d.natAbs : Int) = d.sign * d := abs_sign hd
  rcases Int.lt_trichotomy d 0 with h | h | h
  · rw [Int.sign_eq_neg_one_of_neg h] at *
    refine ⟨by omega, ?_, ?_⟩
    · rw [hb, show (-1 : Int) * (g : Int) = -(g : Int) by omega, Int.tdiv_neg, Int.mul_tdiv_cancel_left _ (by omega), show (-1 : Int) * ((g : Int) * b) = (g : Int) * (-b) by grind, Int.mul_ediv_cancel_left _ (by omega)]
    · rw [e1]
      rw [show (-1 : Int) * d = (g : Int) * (-a) by rw [ha]; grind, show (-1 : Int) * (g : Int) = -(g : Int) by omega, Int.tdiv_neg, Int.mul_ediv_cancel_left _ (by omega)]
      rw [ha, Int.mul_tdiv_cancel_left _ (by omega)]
  · exact absurd h hd
  · rw [Int.sign_eq_one_of_pos h] at *
    refine ⟨by omega, ?_, ?_⟩
    · rw [Int.one_mul, Int.one_mul, hb, Int.mul_tdiv_cancel_left _ (by omega), Int.mul_ediv_cancel_left _ (by omega)]
    · rw [e1, Int.one_mul, Int.one_mul, ha, Int.mul_tdiv_cancel_left _ (by omega), Int.mul_ediv_cancel_left _ (by omega)]

theorem low_spec {n d : Int} (hd : d ≠ 0) : 0 < lowD n d ∧ lowN n d * d = n * lowD n d ∧ (lowD n d ≤ d.natAbs) ∧ (lowN n d).natAbs ≤ n.natAbs := by
  have hg : 0 < Int.gcd d n := Int.gcd_pos_of_ne_zero_left n hd
  obtain ⟨a, ha⟩ := Int.gcd_dvd_left (a := d) (b := n)
  obtain ⟨b, hb⟩ := Int.gcd_dvd_right (a := d) (b := n)
  unfold lowN lowD
  generalize hG : Int.gcd d n = g at *
  have hg' : (0 : Int) < (g : Int) := by omega
  have e1 : (d.natAbs : Int) = d.sign * d := abs_sign hd
  have hs : d.sign = 1 ∧ 0 < d ∨ d.sign = -1 ∧ d < 0 := by
    rcases Int.lt_trichotomy d 0 with h | h | h
    · exact .inr ⟨Int.sign_eq_neg_one_of_neg h, h⟩
    · exact absurd h hd
    · exact .inl ⟨Int.sign_eq_one_of_pos h, h⟩
  have q1 : d.sign * n / (g : Int) = d.sign * b := by rw [hb, show d.sign * ((g : Int) * b) = (g : Int) * (d.sign * b) by grind, Int.mul_ediv_cancel_left _ (by omega)]
  have q2 : (d.natAbs : Int) / (g : Int) = d.sign * a := by rw [e1]; conv => lhs; rw [ha]; 
                                                            rw [← ha, show d.sign * d = (g : Int) * (d.sign * a) by conv => { lhs; arg 2; rw [ha] }; grind, Int.mul_ediv_cancel_left _ (by omega)]
  rw [q1, q2]
  have ab : (b.natAbs : Int) ≤ n.natAbs := by
    rw [hb, Int.natAbs_mul]
    have := Nat.le_mul_of_pos_left b.natAbs hg
    simp only [Int.natAbs_natCast]; omega
  have pa : 0 < d.sign * a ∧ d.sign * a ≤ d.natAbs := by
    have h1 : (d.natAbs : Int) = (g : Int) * (d.sign * a) := by rw [e1]; conv => { lhs; arg 2; rw [ha] }; grind
    have h2 : 0 < (g : Int) * (d.sign * a) := by rw [← h1]; omega
    have h3 : 0 < d.sign * a := by
      rcases (by omega : 0 < d.sign * a ∨ d.sign * a ≤ 0) with k | k
      · exact k
      · have := Int.mul_nonpos_of_nonneg_of_nonpos (Int.le_of_lt hg') k; omega
    refine ⟨h3, ?_⟩
    rw [h1]
    have := Int.mul_le_mul_of_nonneg_right (show (1 : Int) ≤ (g : Int) by omega) (Int.le_of_lt h3)
    omega
  refine ⟨pa.1, ?_, pa.2, ?_⟩
  · conv => { lhs; rw [ha] }
    conv => { rhs; rw [hb] }
    grind
  · rcases hs with ⟨h, -⟩ | ⟨h, -⟩ <;> rw [h] <;> omega

theorem clamp_sign (n : Int) : clampI n (-1) 1 = n.sign := by
  unfold clampI
  rcases Int.lt_trichotomy n 0 with h | h | h
  · rw [Int.sign_eq_neg_one_of_neg h]; omega
  · subst h; rfl
  · rw [Int.sign_eq_one_of_pos h]; omega

theorem sign_bd (n : Int) : -1 ≤ n.sign ∧ n.sign ≤ 1 := by rw [← clamp_sign]; unfold clampI; omega

end Go.Proofs.YtonngfogbnfbnaaDoor
