/- Package cells: the shares at which the segment is in a column are just those from first to last. No walk. -/
import Derived.Test.YtmpkciidhopckaaCellsQ
import Derived.Test.YtmpkciidhopckaaCellsG
namespace Go.Proofs.Ytmpkciidhopckaa
open Go.RowKit Go.Sort
set_option linter.unusedVariables false

/-- At the share k / m of the way from p to q it is in column n, one axis alone. -/
def InAx (p q n k m : Int) : Prop := 2 * n * m ≤ p * m + (q - p) * k ∧ p * m + (q - p) * k ≤ (2 * n + 2) * m

theorem stay_spec {p q n k m : Int} (hm : 0 < m) (hk0 : 0 ≤ k) (hk : k ≤ m) :
    InAx p q n k m ↔ (stayI p q n).ok = true ∧ (stayI p q n).fn * m ≤ k * (stayI p q n).fd ∧ k * (stayI p q n).ld ≤ (stayI p q n).ln * m := by
  have mono : ∀ a b : Int, a ≤ b → a * m ≤ b * m := fun a b h => Int.mul_le_mul_of_nonneg_right h (by omega)
  have monos : ∀ a b : Int, a < b → a * m < b * m := fun a b h => Int.mul_lt_mul_of_pos_right h hm
  have pos : ∀ a : Int, 0 ≤ a → 0 ≤ a * k := fun a h => Int.mul_nonneg h hk0
  have up : ∀ a : Int, 0 ≤ a → a * k ≤ a * m := fun a h => Int.mul_le_mul_of_nonneg_left hk h
  unfold InAx stayI
  by_cases hd : q < p
  · rw [if_pos hd]
    have p1 := pos (p - q) (by omega)
    have p2 := up (p - q) (by omega)
    by_cases h1 : min (2 * n + 2) p < max (2 * n) q
    · rw [if_pos h1]
      simp only [Bool.false_eq_true, false_and, iff_false]
      rintro ⟨i1, i2⟩
      rcases (show 2 * n + 2 < q ∨ p < 2 * n by omega) with h | h
      · have := monos _ _ h; grind
      · have := monos _ _ h; grind
    · rw [if_neg h1]
      simp only [true_and]
      by_cases c1 : 2 * n + 2 ≤ p
      · rw [show min (2 * n + 2) p = 2 * n + 2 by omega]
        by_cases c2 : q ≤ 2 * n
        · rw [show max (2 * n) q = 2 * n by omega]
          constructor <;> (rintro ⟨i1, i2⟩; constructor <;> grind)
        · rw [show max (2 * n) q = q by omega]
          have := mono (2 * n) q (by omega)
          constructor <;> (rintro ⟨i1, i2⟩; constructor <;> grind)
      · rw [show min (2 * n + 2) p = p by omega]
        have m1 := mono p (2 * n + 2) (by omega)
        by_cases c2 : q ≤ 2 * n
        · rw [show max (2 * n) q = 2 * n by omega]
          constructor <;> (rintro ⟨i1, i2⟩; constructor <;> grind)
        · rw [show max (2 * n) q = q by omega]
          have := mono (2 * n) q (by omega)
          constructor <;> (rintro ⟨i1, i2⟩; constructor <;> grind)
  · rw [if_neg hd]
    have p1 := pos (q - p) (by omega)
    have p2 := up (q - p) (by omega)
    by_cases h1 : min (2 * n + 2) q < max (2 * n) p
    · rw [if_pos h1]
      simp only [Bool.false_eq_true, false_and, iff_false]
      rintro ⟨i1, i2⟩
      rcases (show 2 * n + 2 < p ∨ q < 2 * n by omega) with h | h
      · have := monos _ _ h; grind
      · have := monos _ _ h; grind
    · rw [if_neg h1]
      by_cases h2 : p = q
      · rw [if_pos h2]
        subst h2
        have m1 := mono p (2 * n + 2) (by omega)
        have m2 := mono (2 * n) p (by omega)
        simp only [true_and]
        constructor <;> (rintro ⟨i1, i2⟩; constructor <;> grind)
      · rw [if_neg h2]
        simp only [true_and]
        by_cases c1 : 2 * n ≤ p
        · rw [show max (2 * n) p = p by omega]
          have m1 := mono (2 * n) p c1
          by_cases c2 : q ≤ 2 * n + 2
          · rw [show min (2 * n + 2) q = q by omega]
            have := mono q (2 * n + 2) c2
            constructor <;> (rintro ⟨i1, i2⟩; constructor <;> grind)
          · rw [show min (2 * n + 2) q = 2 * n + 2 by omega]
            constructor <;> (rintro ⟨i1, i2⟩; constructor <;> grind)
        · rw [show max (2 * n) p = 2 * n by omega]
          by_cases c2 : q ≤ 2 * n + 2
          · rw [show min (2 * n + 2) q = q by omega]
            have := mono q (2 * n + 2) c2
            constructor <;> (rintro ⟨i1, i2⟩; constructor <;> grind)
          · rw [show min (2 * n + 2) q = 2 * n + 2 by omega]
            constructor <;> (rintro ⟨i1, i2⟩; constructor <;> grind)

theorem lessN {a b c d : Nat} (ha : a ≤ 64) (hb : 0 < b ∧ b ≤ 64) (hc : c ≤ 64) (hd : 0 < d ∧ d ≤ 64) : lessB a b c d = decide (a * d < c * b) := by
  unfold lessB ltR
  rw [ratB_iff.2 (by omega), ratB_iff.2 (by omega)]
  simp only [Bool.true_and]
  exact decide_eq_decide.2 (by rw [← Int.natCast_mul, ← Int.natCast_mul]; omega)

theorem low_le {n d k m : Nat} (hd : 0 < d) : (n / Nat.gcd d n) * m ≤ k * (d / Nat.gcd d n) ↔ n * m ≤ k * d := by
  have h1 : 0 < Nat.gcd d n := Nat.gcd_pos_of_pos_left n hd
  obtain ⟨n', en⟩ := Nat.gcd_dvd_right d n
  obtain ⟨d', ed⟩ := Nat.gcd_dvd_left d n
  generalize Nat.gcd d n = g at *
  subst en ed
  rw [Nat.mul_div_cancel_left _ h1, Nat.mul_div_cancel_left _ h1, Nat.mul_assoc, Nat.mul_left_comm k g d']
  exact ⟨fun h => Nat.mul_le_mul_left _ h, fun h => Nat.le_of_mul_le_mul_left h h1⟩
theorem low_ge {n d k m : Nat} (hd : 0 < d) : k * (d / Nat.gcd d n) ≤ (n / Nat.gcd d n) * m ↔ k * d ≤ n * m := by
  have h1 : 0 < Nat.gcd d n := Nat.gcd_pos_of_pos_left n hd
  obtain ⟨n', en⟩ := Nat.gcd_dvd_right d n
  obtain ⟨d', ed⟩ := Nat.gcd_dvd_left d n
  generalize Nat.gcd d n = g at *
  subst en ed
  rw [Nat.mul_div_cancel_left _ h1, Nat.mul_div_cancel_left _ h1, Nat.mul_assoc g n' m, Nat.mul_left_comm k g d']
  exact ⟨fun h => Nat.mul_le_mul_left _ h, fun h => Nat.le_of_mul_le_mul_left h h1⟩

/-- Two stretches of shares have in common what lies from the later first to the sooner last. -/
theorem both_spec {f1 g1 l1 d1 f2 g2 l2 d2 k m : Nat} (hm : 0 < m) (h1 : f1 ≤ 64 ∧ 0 < g1 ∧ g1 ≤ 64 ∧ l1 ≤ 64 ∧ 0 < d1 ∧ d1 ≤ 64) (h2 : f2 ≤ 64 ∧ 0 < g2 ∧ g2 ≤ 64 ∧ l2 ≤ 64 ∧ 0 < d2 ∧ d2 ≤ 64)
    {fn fd ln ld : Nat} (hf : (f1 * g2 < f2 * g1 ∧ fn = f2 ∧ fd = g2) ∨ (¬ f1 * g2 < f2 * g1 ∧ fn = f1 ∧ fd = g1)) (hl : (l2 * d1 < l1 * d2 ∧ ln = l2 ∧ ld = d2) ∨ (¬ l2 * d1 < l1 * d2 ∧ ln = l1 ∧ ld = d1)) :
    ((f1 * m ≤ k * g1 ∧ k * d1 ≤ l1 * m) ∧ (f2 * m ≤ k * g2 ∧ k * d2 ≤ l2 * m)) ↔ fn * m ≤ k * fd ∧ k * ld ≤ ln * m := by
  constructor
  · rintro ⟨⟨a1, a2⟩, a3, a4⟩
    rcases hf with ⟨_, rfl, rfl⟩ | ⟨_, rfl, rfl⟩ <;> rcases hl with ⟨_, rfl, rfl⟩ | ⟨_, rfl, rfl⟩ <;> exact ⟨by assumption, by assumption⟩
  · rintro ⟨a1, a2⟩
    have F : f1 * m ≤ k * g1 ∧ f2 * m ≤ k * g2 := by
      rcases hf with ⟨c, rfl, rfl⟩ | ⟨c, rfl, rfl⟩
      · exact ⟨cross_trans h1.2.1 h2.2.1 hm (Nat.le_of_lt c) a1, a1⟩
      · exact ⟨a1, cross_trans h2.2.1 h1.2.1 hm (by omega) a1⟩
    have G : k * d1 ≤ l1 * m ∧ k * d2 ≤ l2 * m := by
      rcases hl with ⟨c, rfl, rfl⟩ | ⟨c, rfl, rfl⟩
      · exact ⟨cross_trans hm h2.2.2.2.2.1 h1.2.2.2.2.1 a2 (Nat.le_of_lt c), a2⟩
      · exact ⟨a2, cross_trans hm h1.2.2.2.2.1 h2.2.2.2.2.1 a2 (by omega)⟩
    exact ⟨⟨F.1, G.1⟩, F.2, G.2⟩

theorem stay_nat {p q n : Int} (hp : 0 ≤ p ∧ p ≤ 64) (hq : 0 ≤ q ∧ q ≤ 64) (h : (stayI p q n).ok = true) : ∃ f g l d : Nat, stayI p q n = ⟨f, g, l, d, true⟩ ∧ f ≤ 64 ∧ 0 < g ∧ g ≤ 64 ∧ l ≤ 64 ∧ 0 < d ∧ d ≤ 64 := by
  have y := stay_bd hp hq h
  generalize stayI p q n = s at *
  obtain ⟨f, g, l, d, o⟩ := s
  simp only [] at h y
  subst h
  exact ⟨f.toNat, g.toNat, l.toNat, d.toNat, by simp only [Stay.mk.injEq, and_true]; omega, by omega, by omega, by omega, by omega, by omega, by omega⟩

/-- A column's shares are just those at which the segment is in it, both axes. -/
theorem meet_spec {ax az bx bz x z : Int} (hv : validB ax az bx bz x z = true) {k m : Nat} (hm : 0 < m) (hk : k ≤ m) :
    (InAx ax bx x k m ∧ InAx az bz z k m) ↔ ∃ c, meetO ax az bx bz x z = some c ∧ c.fn * m ≤ k * c.fd ∧ k * c.ld ≤ c.ln * m := by
  have hv' := hv
  unfold validB at hv'
  simp only [Bool.and_eq_true] at hv'
  obtain ⟨⟨⟨e1, e2⟩, e3⟩, e4⟩ := hv'
  obtain ⟨pa1, pa2⟩ := ptB_iff.1 e1
  obtain ⟨pb1, pb2⟩ := ptB_iff.1 e2
  rw [stay_spec (by omega) (by omega) (by omega), stay_spec (by omega) (by omega) (by omega)]
  unfold meetO
  rw [if_pos hv]
  by_cases o1 : (stayI ax bx x).ok = true
  · by_cases o2 : (stayI az bz z).ok = true
    · obtain ⟨f1, g1, l1, d1, s1, b1⟩ := stay_nat pa1 pb1 o1
      obtain ⟨f2, g2, l2, d2, s2, b2⟩ := stay_nat pa2 pb2 o2
      rw [meetI_of s1 s2, s1, s2]
      simp only [true_and]
      rw [lessN b1.1 ⟨b1.2.1, b1.2.2.1⟩ b2.1 ⟨b2.2.1, b2.2.2.1⟩, lessN b2.2.2.2.1 ⟨b2.2.2.2.2.1, b2.2.2.2.2.2⟩ b1.2.2.2.1 ⟨b1.2.2.2.2.1, b1.2.2.2.2.2⟩]
      obtain ⟨fn, fd, hf, hfb, ef1, ef2⟩ : ∃ fn fd : Nat, ((f1 * g2 < f2 * g1 ∧ fn = f2 ∧ fd = g2) ∨ (¬ f1 * g2 < f2 * g1 ∧ fn = f1 ∧ fd = g1)) ∧ (fn ≤ 64 ∧ 0 < fd ∧ fd ≤ 64) ∧
          (if decide (f1 * g2 < f2 * g1) = true then (f2 : Int) else f1) = fn ∧ (if decide (f1 * g2 < f2 * g1) = true then (g2 : Int) else g1) = fd := by
        by_cases c : f1 * g2 < f2 * g1
        · exact ⟨f2, g2, Or.inl ⟨c, rfl, rfl⟩, by omega, by simp [c], by simp [c]⟩
        · exact ⟨f1, g1, Or.inr ⟨c, rfl, rfl⟩, by omega, by simp [c], by simp [c]⟩
      obtain ⟨ln, ld, hl, hlb, el1, el2⟩ : ∃ ln ld : Nat, ((l2 * d1 < l1 * d2 ∧ ln = l2 ∧ ld = d2) ∨ (¬ l2 * d1 < l1 * d2 ∧ ln = l1 ∧ ld = d1)) ∧ (ln ≤ 64 ∧ 0 < ld ∧ ld ≤ 64) ∧
          (if decide (l2 * d1 < l1 * d2) = true then (l2 : Int) else l1) = ln ∧ (if decide (l2 * d1 < l1 * d2) = true then (d2 : Int) else d1) = ld := by
        by_cases c : l2 * d1 < l1 * d2
        · exact ⟨l2, d2, Or.inl ⟨c, rfl, rfl⟩, by omega, by simp [c], by simp [c]⟩
        · exact ⟨l1, d1, Or.inr ⟨c, rfl, rfl⟩, by omega, by simp [c], by simp [c]⟩
      rw [ef1, ef2, el1, el2, lessN hlb.1 hlb.2 hfb.1 hfb.2]
      simp only [Int.toNat_natCast]
      have hb := both_spec (k := k) hm b1 b2 hf hl
      have cast : (((f1 : Int) * m ≤ k * g1 ∧ (k : Int) * d1 ≤ l1 * m) ∧ ((f2 : Int) * m ≤ k * g2 ∧ (k : Int) * d2 ≤ l2 * m)) ↔ ((f1 * m ≤ k * g1 ∧ k * d1 ≤ l1 * m) ∧ (f2 * m ≤ k * g2 ∧ k * d2 ≤ l2 * m)) := by
        simp only [← Int.natCast_mul, Int.ofNat_le]
      rw [cast, hb]
      constructor
      · rintro ⟨a1, a2⟩
        have hno : ¬ ln * fd < fn * ld := by
          have := cross_trans hfb.2.1 hm hlb.2.1 a1 a2
          omega
        rw [if_pos (by simpa using hno)]
        exact ⟨_, rfl, (low_le hfb.2.1).2 a1, (low_ge hlb.2.1).2 a2⟩
      · rintro ⟨c, hc, a1, a2⟩
        split at hc
        · injection hc with hc
          subst hc
          exact ⟨(low_le hfb.2.1).1 a1, (low_ge hlb.2.1).1 a2⟩
        · cases hc
    · constructor
      · rintro ⟨_, h, _⟩; exact absurd h o2
      · rintro ⟨c, hc, _⟩
        unfold meetI at hc
        simp only [] at hc
        rw [if_neg (fun hh => o2 hh.2.1)] at hc
        cases hc
  · constructor
    · rintro ⟨⟨h, _⟩, _⟩; exact absurd h o1
    · rintro ⟨c, hc, _⟩
      unfold meetI at hc
      simp only [] at hc
      rw [if_neg (fun hh => o1 hh.1)] at hc
      cases hc

end Go.Proofs.Ytmpkciidhopckaa
