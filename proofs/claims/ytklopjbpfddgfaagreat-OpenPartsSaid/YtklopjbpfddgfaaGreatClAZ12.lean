import Derived.Test.YtklopjbpfddgfaaGreatWholeHZ12

/- Corners: points of space as whole numbers over one, in lowest terms. Plain numbers: no function of the program in sight. -/
namespace Go.Proofs.YtklopjbpfddgfaaGreat
open Go.RowKit
set_option linter.unusedVariables false

/-- A corner: at (x / d, z / d), so high: y / d. -/
structure Co where
  (x z y d : Int)
instance : Inhabited Co := ⟨⟨0, 0, 0, 1⟩⟩
theorem Co.ext' {a b : Co} (h1 : a.x = b.x) (h2 : a.z = b.z) (h3 : a.y = b.y) (h4 : a.d = b.d) : a = b := by
  cases a; cases b; simp_all
def Co.enc (c : Co) : List Value := #[.int .i64 c.x, .int .i64 c.z, .int .i64 c.y, .int .i64 c.d].toList
theorem Co.enc_len (c : Co) : c.enc.length = 4 := rfl
theorem Co.enc_one (c : Co) : ∀ u ∈ c.enc, u.oneCell' = true := by
  intro u hu
  simp [Co.enc] at hu
  rcases hu with rfl | rfl | rfl | rfl <;> rfl
def Co.eqB (a b : Co) : Bool := a.x == b.x && a.z == b.z && a.y == b.y && a.d == b.d
theorem Co.eqB_iff (a b : Co) : a.eqB b = true ↔ a = b := by
  obtain ⟨a0, a1, a2, a3⟩ := a
  obtain ⟨b0, b1, b2, b3⟩ := b
  simp [Co.eqB, and_assoc]
instance : DecidableEq Co := fun a b => decidable_of_iff _ (Co.eqB_iff a b)

/-- The greatest number that divides all four. -/
def cg (x z y d : Int) : Nat := Nat.gcd (Nat.gcd (Nat.gcd d.natAbs x.natAbs) z.natAbs) y.natAbs
def Prim (c : Co) : Prop := 0 < c.d ∧ cg c.x c.z c.y c.d = 1
/-- In lowest terms. -/
def low (x z y d : Int) : Co := ⟨x.tdiv (d.sign * (cg x z y d : Int)), z.tdiv (d.sign * (cg x z y d : Int)), y.tdiv (d.sign * (cg x z y d : Int)), d.tdiv (d.sign * (cg x z y d : Int))⟩

theorem cg_mul (g : Nat) (x z y d : Int) : cg ((g : Int) * x) ((g : Int) * z) ((g : Int) * y) ((g : Int) * d) = g * cg x z y d := by
  unfold cg
  simp only [Int.natAbs_mul, Int.natAbs_natCast, Nat.gcd_mul_left]
theorem cg_sign (s x z y d : Int) (h : s = 1 ∨ s = -1) : cg (s * x) (s * z) (s * y) (s * d) = cg x z y d := by
  unfold cg
  rcases h with rfl | rfl <;> simp
theorem sign_two {d : Int} (h : d ≠ 0) : (d.sign = 1 ∧ 0 < d) ∨ (d.sign = -1 ∧ d < 0) := by
  rcases Int.lt_trichotomy d 0 with k | k | k
  · exact .inr ⟨Int.sign_eq_neg_one_of_neg k, k⟩
  · exact absurd k h
  · exact .inl ⟨Int.sign_eq_one_of_pos k, k⟩

theorem cg_pos {x z y d : Int} (h : d ≠ 0) : 0 < cg x z y d := by
  unfold cg
  exact Nat.gcd_pos_of_pos_left _ (Nat.gcd_pos_of_pos_left _ (Nat.gcd_pos_of_pos_left _ (by omega)))
theorem cg_dvd (x z y d : Int) : ((cg x z y d : Nat) : Int) ∣ x ∧ ((cg x z y d : Nat) : Int) ∣ z ∧ ((cg x z y d : Nat) : Int) ∣ y ∧ ((cg x z y d : Nat) : Int) ∣ d := by
  unfold cg
  refine ⟨?_, ?_, ?_, ?_⟩ <;> refine Int.ofNat_dvd_left.2 ?_
  · exact Nat.dvd_trans (Nat.gcd_dvd_left _ _) (Nat.dvd_trans (Nat.gcd_dvd_left _ _) (Nat.gcd_dvd_right _ _))
  · exact Nat.dvd_trans (Nat.gcd_dvd_left _ _) (Nat.gcd_dvd_right _ _)
  · exact Nat.gcd_dvd_right _ _
  · exact Nat.dvd_trans (Nat.gcd_dvd_left _ _) (Nat.dvd_trans (Nat.gcd_dvd_left _ _) (Nat.gcd_dvd_left _ _))

theorem tdiv_sg {s : Int} {g : Nat} (hs : s = 1 ∨ s = -1) (hg : 0 < g) (a : Int) : ((g : Int) * a).tdiv (s * (g : Int)) = s * a := by
  rcases hs with rfl | rfl
  · rw [Int.one_mul, Int.one_mul, Int.mul_tdiv_cancel_left _ (by omega)]
  · rw [show (-1 : Int) * (g : Int) = -(g : Int) by omega, Int.tdiv_neg, Int.mul_tdiv_cancel_left _ (by omega)]; omega

/-- What is brought into lowest terms is the same point. -/
theorem low_eq {x z y d : Int} (hd : d ≠ 0) : ∃ (g : Nat) (s a b c e : Int), (s = 1 ∨ s = -1) ∧ 0 < g ∧ x = g * a ∧ z = g * b ∧ y = g * c ∧ d = g * e ∧ 0 < s * e ∧ cg a b c e = 1 ∧ low x z y d = ⟨s * a, s * b, s * c, s * e⟩ := by
  have hg := cg_pos (x := x) (z := z) (y := y) hd
  obtain ⟨⟨a, ha⟩, ⟨b, hb⟩, ⟨c, hc⟩, ⟨e, he⟩⟩ := cg_dvd x z y d
  have h1 : cg x z y d = cg x z y d * cg a b c e := by
    rw [← cg_mul, ← ha, ← hb, ← hc, ← he]
  have h2 : cg a b c e = 1 := by
    have := Nat.eq_of_mul_eq_mul_left hg (show cg x z y d * 1 = cg x z y d * cg a b c e by omega)
    omega
  obtain ⟨s, hs⟩ : ∃ s, s = d.sign := ⟨_, rfl⟩
  have s2 : s = 1 ∨ s = -1 := by rw [hs]; rcases sign_two hd with h | h <;> simp [h.1]
  have hl : low x z y d = ⟨x.tdiv (s * (cg x z y d : Int)), z.tdiv (s * (cg x z y d : Int)), y.tdiv (s * (cg x z y d : Int)), d.tdiv (s * (cg x z y d : Int))⟩ := by unfold low; rw [hs]
  have pe : 0 < s * e := by
    have hgz : (0 : Int) < (cg x z y d : Int) := by omega
    rcases sign_two hd with h | h
    · rw [hs, h.1, Int.one_mul]
      rcases Int.lt_trichotomy e 0 with k | k | k
      · have := Int.mul_neg_of_pos_of_neg hgz k; omega
      · rw [k, Int.mul_zero] at he; omega
      · exact k
    · rw [hs, h.1]
      rcases Int.lt_trichotomy e 0 with k | k | k
      · omega
      · rw [k, Int.mul_zero] at he; omega
      · have := Int.mul_pos hgz k; omega
  generalize cg x z y d = g at *
  refine ⟨g, s, a, b, c, e, s2, hg, ha, hb, hc, he, pe, h2, ?_⟩
  rw [hl, ha, hb, hc, he, tdiv_sg s2 hg, tdiv_sg s2 hg, tdiv_sg s2 hg, tdiv_sg s2 hg]

theorem low_prim {x z y d : Int} (hd : d ≠ 0) : Prim (low x z y d) := by
  obtain ⟨g, s, a, b, c, e, s2, hg, ha, hb, hc, he, pe, h2, h⟩ := low_eq (x := x) (z := z) (y := y) hd
  rw [h]
  exact ⟨pe, by show cg (s * a) (s * b) (s * c) (s * e) = 1; rw [cg_sign _ _ _ _ _ s2, h2]⟩
theorem low_at {x z y d : Int} (hd : d ≠ 0) : (low x z y d).x * d = x * (low x z y d).d ∧ (low x z y d).z * d = z * (low x z y d).d ∧ (low x z y d).y * d = y * (low x z y d).d := by
  obtain ⟨g, s, a, b, c, e, s2, hg, ha, hb, hc, he, pe, h2, h⟩ := low_eq (x := x) (z := z) (y := y) hd
  rw [h, ha, hb, hc, he]
  refine ⟨?_, ?_, ?_⟩ <;> grind
theorem abs_mul_le {g : Nat} (hg : 0 < g) {a x s : Int} (hs : s = 1 ∨ s = -1) (h : x = g * a) : (s * a).natAbs ≤ x.natAbs := by
  rw [h, Int.natAbs_mul, Int.natAbs_mul, Int.natAbs_natCast]
  have e : s.natAbs = 1 := by rcases hs with rfl | rfl <;> rfl
  rw [e, Nat.one_mul]
  exact Nat.le_mul_of_pos_left _ hg
theorem low_bd {x z y d : Int} (hd : d ≠ 0) : (low x z y d).x.natAbs ≤ x.natAbs ∧ (low x z y d).z.natAbs ≤ z.natAbs ∧ (low x z y d).y.natAbs ≤ y.natAbs ∧ (low x z y d).d.natAbs ≤ d.natAbs := by
  obtain ⟨g, s, a, b, c, e, s2, hg, ha, hb, hc, he, pe, h2, h⟩ := low_eq (x := x) (z := z) (y := y) hd
  rw [h]
  exact ⟨abs_mul_le hg s2 ha, abs_mul_le hg s2 hb, abs_mul_le hg s2 hc, abs_mul_le hg s2 he⟩

theorem dvd_of_cross {a b p q : Int} (h : a * q = p * b) : b.natAbs ∣ a.natAbs * q.natAbs := by
  rw [← Int.natAbs_mul, h, Int.natAbs_mul]
  exact Nat.dvd_mul_left _ _
theorem prim_dvd {a b : Co} (ha : cg a.x a.z a.y a.d = 1) (hx : a.x * b.d = b.x * a.d) (hz : a.z * b.d = b.z * a.d) (hy : a.y * b.d = b.y * a.d) : a.d.natAbs ∣ b.d.natAbs := by
  have h : a.d.natAbs ∣ cg a.x a.z a.y a.d * b.d.natAbs := by
    unfold cg
    rw [← Nat.gcd_mul_right, ← Nat.gcd_mul_right, ← Nat.gcd_mul_right]
    exact Nat.dvd_gcd (Nat.dvd_gcd (Nat.dvd_gcd (Nat.dvd_mul_right _ _) (dvd_of_cross hx)) (dvd_of_cross hz)) (dvd_of_cross hy)
  rwa [ha, Nat.one_mul] at h
/-- A point has one form in lowest terms. -/
theorem prim_one {a b : Co} (ha : Prim a) (hb : Prim b) (hx : a.x * b.d = b.x * a.d) (hz : a.z * b.d = b.z * a.d) (hy : a.y * b.d = b.y * a.d) : a = b := by
  have h1 := prim_dvd ha.2 hx hz hy
  have h2 := prim_dvd hb.2 hx.symm hz.symm hy.symm
  have hd : a.d = b.d := by
    have := Nat.dvd_antisymm h1 h2
    have := ha.1
    have := hb.1
    omega
  have h0 : b.d ≠ 0 := by have := hb.1; omega
  rw [hd] at hx hz hy
  exact Co.ext' (Int.eq_of_mul_eq_mul_right h0 hx) (Int.eq_of_mul_eq_mul_right h0 hz) (Int.eq_of_mul_eq_mul_right h0 hy) hd

/-- Numbers that may be told of. -/
def Okc (c : Co) : Prop := (1 ≤ c.d ∧ c.d ≤ 1048576) ∧ (-1073741824 ≤ c.x ∧ c.x ≤ 1073741824) ∧ (-1073741824 ≤ c.z ∧ c.z ≤ 1073741824) ∧ (-1073741824 ≤ c.y ∧ c.y ≤ 1073741824)

/-- Ahead: by x, then z. -/
def ltC (a b : Co) : Prop := a.x * b.d < b.x * a.d ∨ (a.x * b.d = b.x * a.d ∧ a.z * b.d < b.z * a.d)

theorem frac_lt {a b c p q r : Int} (hp : 0 < p) (hq : 0 < q) (hr : 0 < r) (h1 : a * q < b * p) (h2 : b * r < c * q) : a * r < c * p := by
  have k1 := Int.mul_lt_mul_of_pos_right h1 hr
  have k2 := Int.mul_lt_mul_of_pos_right h2 hp
  have k3 : a * r * q < c * p * q := by grind
  exact Int.lt_of_mul_lt_mul_right k3 (Int.le_of_lt hq)
theorem frac_le {a b c p q r : Int} (hp : 0 < p) (hq : 0 < q) (hr : 0 < r) (h1 : a * q ≤ b * p) (h2 : b * r ≤ c * q) : a * r ≤ c * p := by
  have k1 := Int.mul_le_mul_of_nonneg_right h1 (Int.le_of_lt hr)
  have k2 := Int.mul_le_mul_of_nonneg_right h2 (Int.le_of_lt hp)
  have k3 : a * r * q ≤ c * p * q := by grind
  exact Int.le_of_mul_le_mul_right k3 hq
theorem frac_eq {a b c p q r : Int} (hq : 0 < q) (h1 : a * q = b * p) (h2 : b * r = c * q) : a * r = c * p := by
  have k3 : a * r * q = c * p * q := by grind
  exact Int.eq_of_mul_eq_mul_right (by omega) k3
theorem frac_lt_le {a b c p q r : Int} (hp : 0 < p) (hq : 0 < q) (hr : 0 < r) (h1 : a * q < b * p) (h2 : b * r ≤ c * q) : a * r < c * p := by
  have k1 := Int.mul_lt_mul_of_pos_right h1 hr
  have k2 := Int.mul_le_mul_of_nonneg_right h2 (Int.le_of_lt hp)
  have k3 : a * r * q < c * p * q := by grind
  exact Int.lt_of_mul_lt_mul_right k3 (Int.le_of_lt hq)
theorem frac_le_lt {a b c p q r : Int} (hp : 0 < p) (hq : 0 < q) (hr : 0 < r) (h1 : a * q ≤ b * p) (h2 : b * r < c * q) : a * r < c * p := by
  have k1 := Int.mul_le_mul_of_nonneg_right h1 (Int.le_of_lt hr)
  have k2 := Int.mul_lt_mul_of_pos_right h2 hp
  have k3 : a * r * q < c * p * q := by grind
  exact Int.lt_of_mul_lt_mul_right k3 (Int.le_of_lt hq)

theorem ltC_trans {a b c : Co} (ha : 0 < a.d) (hb : 0 < b.d) (hc : 0 < c.d) (h1 : ltC a b) (h2 : ltC b c) : ltC a c := by
  rcases h1 with h1 | ⟨h1, k1⟩ <;> rcases h2 with h2 | ⟨h2, k2⟩
  · exact .inl (frac_lt ha hb hc h1 h2)
  · exact .inl (frac_lt_le ha hb hc h1 (by omega))
  · exact .inl (frac_le_lt ha hb hc (by omega) h2)
  · exact .inr ⟨frac_eq hb h1 h2, frac_lt ha hb hc k1 k2⟩
theorem ltC_irrefl (a : Co) : ¬ ltC a a := by unfold ltC; omega
theorem ltC_tri (a b : Co) : ltC a b ∨ ltC b a ∨ (a.x * b.d = b.x * a.d ∧ a.z * b.d = b.z * a.d) := by unfold ltC; omega
theorem nlt_trans {a b c : Co} (ha : 0 < a.d) (hb : 0 < b.d) (hc : 0 < c.d) (h1 : ¬ ltC a b) (h2 : ¬ ltC b c) : ¬ ltC a c := by
  have k1 : b.x * a.d ≤ a.x * b.d := by unfold ltC at h1; omega
  have k2 : c.x * b.d ≤ b.x * c.d := by unfold ltC at h2; omega
  intro h
  rcases h with h | ⟨h, k⟩
  · have := frac_le hc hb ha k2 k1; omega
  · have e1 : a.x * b.d = b.x * a.d := by
      rcases Int.lt_or_eq_of_le k1 with q | q
      · have := frac_le_lt hc hb ha k2 q; omega
      · exact q.symm
    have e2 : b.x * c.d = c.x * b.d := by
      rcases Int.lt_or_eq_of_le k2 with q | q
      · have := frac_lt_le hc hb ha q k1; omega
      · exact q.symm
    have k3 : b.z * a.d ≤ a.z * b.d := by unfold ltC at h1; omega
    have k4 : c.z * b.d ≤ b.z * c.d := by unfold ltC at h2; omega
    have := frac_le hc hb ha k4 k3
    omega

/-- Rows in order, none twice, hold the same if they are the same. -/
theorem rise_unique : ∀ (l m : List Co), (∀ c ∈ l, 0 < c.d) → (∀ c ∈ m, 0 < c.d) → l.Pairwise ltC → m.Pairwise ltC → (∀ c, c ∈ l ↔ c ∈ m) → l = m
  | [], [], _, _, _, _, _ => rfl
  | [], b :: m, _, _, _, _, h => absurd ((h b).2 List.mem_cons_self) (by simp)
  | a :: l, [], _, _, _, _, h => absurd ((h a).1 List.mem_cons_self) (by simp)
  | a :: l, b :: m, dl, dm, hl, hm, h => by
    rw [List.pairwise_cons] at hl hm
    have hab : a = b := by
      rcases List.mem_cons.1 ((h a).1 List.mem_cons_self) with e | e
      · exact e
      · rcases List.mem_cons.1 ((h b).2 List.mem_cons_self) with e' | e'
        · exact e'.symm
        · exact absurd (ltC_trans (dl a List.mem_cons_self) (dm b List.mem_cons_self) (dl a List.mem_cons_self) (hl.1 b e') (hm.1 a e)) (ltC_irrefl a)
    subst hab
    refine congrArg _ (rise_unique l m (fun c hc => dl c (List.mem_cons_of_mem _ hc)) (fun c hc => dm c (List.mem_cons_of_mem _ hc)) hl.2 hm.2 fun c => ?_)
    constructor
    · intro hc
      rcases List.mem_cons.1 ((h c).1 (List.mem_cons_of_mem _ hc)) with e | e
      · subst e; exact absurd (hl.1 _ hc) (ltC_irrefl _)
      · exact e
    · intro hc
      rcases List.mem_cons.1 ((h c).2 (List.mem_cons_of_mem _ hc)) with e | e
      · subst e; exact absurd (hm.1 _ hc) (ltC_irrefl _)
      · exact e

end Go.Proofs.YtklopjbpfddgfaaGreat
