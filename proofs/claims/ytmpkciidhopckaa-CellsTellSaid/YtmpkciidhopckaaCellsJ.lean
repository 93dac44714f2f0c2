/- Package cells: the order of columns, and the closure that tells it. -/
import Derived.Test.YtmpkciidhopckaaCellsA
import Derived.Test.YtmpkciidhopckaaCellsH
import Derived.Test.YtmpkciidhopckaaSortA
namespace Go.Proofs.Ytmpkciidhopckaa
open Go.RowKit Go.Sort
set_option linter.unusedVariables false

/-- One column comes ahead of another one. -/
def colLt (c d : Col) : Bool :=
  if c.m.fn = d.m.fn ∧ c.m.fd = d.m.fd then (if c.z = d.z then decide (c.x < d.x) else decide (c.z < d.z)) else decide (c.m.fn * d.m.fd < d.m.fn * c.m.fd)

theorem cross_same {a b c d : Nat} (h1 : Nat.gcd b a = 1) (h2 : Nat.gcd d c = 1) (h : a * d = c * b) : a = c ∧ b = d := by
  have e1 : b ∣ d := by
    have : b ∣ a * d := ⟨c, by rw [h, Nat.mul_comm]⟩
    exact (Nat.Coprime.dvd_of_dvd_mul_left (show Nat.Coprime b a from h1) this)
  have e2 : d ∣ b := by
    have : d ∣ c * b := ⟨a, by rw [← h, Nat.mul_comm]⟩
    exact (Nat.Coprime.dvd_of_dvd_mul_left (show Nat.Coprime d c from h2) this)
  have e3 : b = d := Nat.dvd_antisymm e1 e2
  subst e3
  refine ⟨?_, rfl⟩
  rcases Nat.eq_zero_or_pos b with h0 | h0
  · subst h0
    simp at h1 h2
    omega
  · exact Nat.eq_of_mul_eq_mul_right h0 h

theorem cross_trans {a b c d e f : Nat} (hb : 0 < b) (hd : 0 < d) (hf : 0 < f) (h1 : a * d ≤ c * b) (h2 : c * f ≤ e * d) : a * f ≤ e * b := by
  have h3 : (a * f) * d ≤ (e * b) * d := by
    calc (a * f) * d = (a * d) * f := by rw [Nat.mul_right_comm]
      _ ≤ (c * b) * f := Nat.mul_le_mul_right _ h1
      _ = (c * f) * b := by rw [Nat.mul_right_comm]
      _ ≤ (e * d) * b := Nat.mul_le_mul_right _ h2
      _ = (e * b) * d := by rw [Nat.mul_right_comm]
  exact Nat.le_of_mul_le_mul_right h3 hd
theorem cross_trans_lt {a b c d e f : Nat} (hb : 0 < b) (hd : 0 < d) (hf : 0 < f) (h1 : a * d < c * b) (h2 : c * f ≤ e * d) : a * f < e * b := by
  have h3 : (a * f) * d < (e * b) * d := by
    calc (a * f) * d = (a * d) * f := by rw [Nat.mul_right_comm]
      _ < (c * b) * f := Nat.mul_lt_mul_of_pos_right h1 hf
      _ = (c * f) * b := by rw [Nat.mul_right_comm]
      _ ≤ (e * d) * b := Nat.mul_le_mul_right _ h2
      _ = (e * b) * d := by rw [Nat.mul_right_comm]
  exact Nat.lt_of_mul_lt_mul_right h3
theorem cross_trans_lt' {a b c d e f : Nat} (hb : 0 < b) (hd : 0 < d) (hf : 0 < f) (h1 : a * d ≤ c * b) (h2 : c * f < e * d) : a * f < e * b := by
  have h3 : (a * f) * d < (e * b) * d := by
    calc (a * f) * d = (a * d) * f := by rw [Nat.mul_right_comm]
      _ ≤ (c * b) * f := Nat.mul_le_mul_right _ h1
      _ = (c * f) * b := by rw [Nat.mul_right_comm]
      _ < (e * d) * b := Nat.mul_lt_mul_of_pos_right h2 hb
      _ = (e * b) * d := by rw [Nat.mul_right_comm]
  exact Nat.lt_of_mul_lt_mul_right h3

/-- In words: by the share, then by z, then by x. -/
theorem colLt_iff (c d : Col) : colLt c d = true ↔ c.m.fn * d.m.fd < d.m.fn * c.m.fd ∨ (c.m.fn * d.m.fd = d.m.fn * c.m.fd ∧ (c.z < d.z ∨ (c.z = d.z ∧ c.x < d.x))) := by
  have hc := c.ok
  have hd := d.ok
  unfold colLt
  by_cases h : c.m.fn = d.m.fn ∧ c.m.fd = d.m.fd
  · rw [if_pos h, h.1, h.2]
    by_cases hz : c.z = d.z
    · rw [if_pos hz]; simp [hz]
    · rw [if_neg hz]; simp [hz]
  · rw [if_neg h]
    have hne : c.m.fn * d.m.fd ≠ d.m.fn * c.m.fd := fun e => h (cross_same hc.2.2.2.2.2.2.2.1 hd.2.2.2.2.2.2.2.1 e)
    simp [hne]
theorem colLt_not (c d : Col) : colLt c d = false ↔ d.m.fn * c.m.fd < c.m.fn * d.m.fd ∨ (c.m.fn * d.m.fd = d.m.fn * c.m.fd ∧ (d.z < c.z ∨ (c.z = d.z ∧ d.x ≤ c.x))) := by
  rw [← Bool.not_eq_true, colLt_iff]
  omega

theorem colLt_swo : SWO colLt := by
  refine ⟨fun c => ?_, fun c d e h1 h2 => ?_, fun c d e h1 h2 => ?_⟩
  · rw [colLt_not]; right; exact ⟨rfl, Or.inr ⟨rfl, Int.le_refl _⟩⟩
  · have bc := c.ok.2.2.1
    have bd := d.ok.2.2.1
    have be := e.ok.2.2.1
    rw [colLt_iff] at h1 h2 ⊢
    rcases h1 with h1 | ⟨h1, h1'⟩
    · left
      rcases h2 with h2 | ⟨h2, _⟩
      · exact cross_trans_lt bc bd be h1 (Nat.le_of_lt h2)
      · exact cross_trans_lt bc bd be h1 (Nat.le_of_eq h2)
    · rcases h2 with h2 | ⟨h2, h2'⟩
      · left; exact cross_trans_lt' bc bd be (Nat.le_of_eq h1) h2
      · right
        refine ⟨Nat.le_antisymm (cross_trans bc bd be (Nat.le_of_eq h1) (Nat.le_of_eq h2)) (cross_trans be bd bc (Nat.le_of_eq h2.symm) (Nat.le_of_eq h1.symm)), ?_⟩
        omega
  · have bc := c.ok.2.2.1
    have bd := d.ok.2.2.1
    have be := e.ok.2.2.1
    rw [colLt_not] at h1 h2 ⊢
    rcases h1 with h1 | ⟨h1, h1'⟩
    · left
      rcases h2 with h2 | ⟨h2, _⟩
      · exact cross_trans_lt be bd bc h2 (Nat.le_of_lt h1)
      · exact cross_trans_lt' be bd bc (Nat.le_of_eq h2.symm) h1
    · rcases h2 with h2 | ⟨h2, h2'⟩
      · left; exact cross_trans_lt be bd bc h2 (Nat.le_of_eq h1.symm)
      · right
        refine ⟨Nat.le_antisymm (cross_trans bc bd be (Nat.le_of_eq h1) (Nat.le_of_eq h2)) (cross_trans be bd bc (Nat.le_of_eq h2.symm) (Nat.le_of_eq h1.symm)), ?_⟩
        omega

end Go.Proofs.Ytmpkciidhopckaa
