/- The document's shares of a column are the code's. No walk. -/
import Derived.Test.YtmpkciidhopckaaNumR
import Derived.Test.YtmpkciidhopckaaCellsU
namespace Go.Proofs.Ytmpkciidhopckaa
open Go.RowKit Go.Sort
set_option linter.unusedVariables false

structure Cut where
  fn : Int
  fd : Int
  ln : Int
  ld : Int
  ok : Bool

/-- The document's 'within'. -/
def cutP (fn fd ln ld pn pd qn qd : Int) : Cut :=
  ⟨if ltR fn fd pn pd then pn else fn, if ltR fn fd pn pd then pd else fd, if ltR qn qd ln ld then qn else ln, if ltR qn qd ln ld then qd else ld,
    !ltR (if ltR qn qd ln ld then qn else ln) (if ltR qn qd ln ld then qd else ld) (if ltR fn fd pn pd then pn else fn) (if ltR fn fd pn pd then pd else fd)⟩
def cutI (fn fd ln ld a d lo hi : Int) : Cut :=
  if d = 0 then ⟨fn, fd, ln, ld, decide (lo ≤ a) && decide (a ≤ hi)⟩
  else if ltR (lowN (hi - a) d) (lowD (hi - a) d) (lowN (lo - a) d) (lowD (lo - a) d) then cutP fn fd ln ld (lowN (hi - a) d) (lowD (hi - a) d) (lowN (lo - a) d) (lowD (lo - a) d)
  else cutP fn fd ln ld (lowN (lo - a) d) (lowD (lo - a) d) (lowN (hi - a) d) (lowD (hi - a) d)

/-- A share is at least n / d, at most. -/
theorem le_div {n d k m : Int} (hd : d ≠ 0) : (0 < d → (lowN n d * m ≤ k * lowD n d ↔ n * m ≤ d * k) ∧ (k * lowD n d ≤ lowN n d * m ↔ d * k ≤ n * m)) ∧ (d < 0 → (lowN n d * m ≤ k * lowD n d ↔ d * k ≤ n * m) ∧ (k * lowD n d ≤ lowN n d * m ↔ n * m ≤ d * k)) := by
  obtain ⟨s0, s1, -, -⟩ := low_spec (n := n) hd
  generalize lowN n d = N at *
  generalize lowD n d = D at *
  have e1 : d * (N * m) = D * (n * m) := by grind
  have e2 : d * (k * D) = D * (d * k) := by grind
  constructor
  · intro h
    constructor
    · rw [← Int.mul_le_mul_left h, e1, e2, Int.mul_le_mul_left s0]
    · rw [← Int.mul_le_mul_left h, e1, e2, Int.mul_le_mul_left s0]
  · intro h
    have neg : ∀ u v : Int, u ≤ v ↔ d * v ≤ d * u := fun u v => by
      rw [← Int.neg_le_neg_iff, ← Int.mul_le_mul_left (show 0 < -d by omega)]
      rw [Int.neg_mul_neg, Int.neg_mul_neg]
    constructor
    · rw [neg, e1, e2, Int.mul_le_mul_left s0]
    · rw [neg, e1, e2, Int.mul_le_mul_left s0]

theorem ltR_iff {a b c d : Int} : ltR a b c d = true ↔ a * d < c * b := by unfold ltR; simp
theorem ltR_no {a b c d : Int} : ltR a b c d = false ↔ c * b ≤ a * d := by unfold ltR; simp

theorem crossI_le {a b c d e f : Int} (hb : 0 < b) (hd : 0 < d) (hf : 0 < f) (h1 : a * d ≤ c * b) (h2 : c * f ≤ e * d) : a * f ≤ e * b := by
  have k1 := Int.mul_le_mul_of_nonneg_right h1 (Int.le_of_lt hf)
  have k2 := Int.mul_le_mul_of_nonneg_right h2 (Int.le_of_lt hb)
  have : d * (a * f) ≤ d * (e * b) := by grind
  exact Int.le_of_mul_le_mul_left this hd

/-- What is kept of a stretch. -/
structure Fine (c : Cut) : Prop where
  f0 : 0 ≤ c.fn
  fd : 0 < c.fd
  ld : 0 < c.ld
  l1 : c.ln ≤ c.ld
  gf : Int.gcd c.fd c.fn = 1
  gl : Int.gcd c.ld c.ln = 1

theorem low_coprime {n d : Int} (hd : d ≠ 0) : Int.gcd (lowD n d) (lowN n d) = 1 := by
  have hg : 0 < Int.gcd d n := Int.gcd_pos_of_ne_zero_left n hd
  have h1 : (lowD n d).natAbs = d.natAbs / Nat.gcd d.natAbs n.natAbs := by
    unfold lowD
    show ((d.natAbs : Int) / ((Nat.gcd d.natAbs n.natAbs : Nat) : Int)).natAbs = _
    rw [← Int.natCast_ediv, Int.natAbs_natCast]
  have h2 : (lowN n d).natAbs = n.natAbs / Nat.gcd d.natAbs n.natAbs := by
    obtain ⟨b, hb⟩ := Int.gcd_dvd_right (a := d) (b := n)
    have e : lowN n d = d.sign * b := by
      unfold lowN
      conv => { lhs; arg 1; rw [hb, show d.sign * ((Int.gcd d n : Int) * b) = (Int.gcd d n : Int) * (d.sign * b) by grind] }
      exact Int.mul_ediv_cancel_left _ (by omega)
    rw [e, Int.natAbs_mul]
    have hs : d.sign.natAbs = 1 := Int.natAbs_sign_of_ne_zero hd
    rw [hs, Nat.one_mul]
    have : n.natAbs = Nat.gcd d.natAbs n.natAbs * b.natAbs := by
      conv => lhs; rw [hb]
      rw [Int.natAbs_mul, Int.natAbs_natCast]
      rfl
    rw [this]
    have hg' : 0 < Nat.gcd d.natAbs n.natAbs := hg
    generalize hG : Nat.gcd d.natAbs n.natAbs = G at *
    rw [show Nat.gcd d.natAbs (G * b.natAbs) = G by rw [← this]; exact hG]
    exact (Nat.mul_div_cancel_left _ hg').symm
  unfold Int.gcd
  rw [h1, h2]
  exact (low_gcd (n := n.natAbs) (d := d.natAbs) (by omega)).1

theorem cutP_spec {fn fd ln ld pn pd qn qd k m : Int} (hm : 0 < m) (hfd : 0 < fd) (hld : 0 < ld) (hp : 0 < pd) (hq : 0 < qd) :
    ((fn * m ≤ k * fd ∧ k * ld ≤ ln * m) ∧ (pn * m ≤ k * pd ∧ k * qd ≤ qn * m)) ↔ ((cutP fn fd ln ld pn pd qn qd).fn * m ≤ k * (cutP fn fd ln ld pn pd qn qd).fd ∧ k * (cutP fn fd ln ld pn pd qn qd).ld ≤ (cutP fn fd ln ld pn pd qn qd).ln * m) := by
  unfold cutP
  simp only []
  have A : (fn * m ≤ k * fd ∧ pn * m ≤ k * pd) ↔ ((if ltR fn fd pn pd then pn else fn) * m ≤ k * (if ltR fn fd pn pd then pd else fd)) := by
    cases h : ltR fn fd pn pd
    · simp only [Bool.false_eq_true, if_false]
      exact ⟨fun x => x.1, fun x => ⟨x, crossI_le hp hfd hm (ltR_no.1 h) x⟩⟩
    · simp only [if_true]
      exact ⟨fun x => x.2, fun x => ⟨crossI_le hfd hp hm (Int.le_of_lt (ltR_iff.1 h)) x, x⟩⟩
  have B : (k * ld ≤ ln * m ∧ k * qd ≤ qn * m) ↔ (k * (if ltR qn qd ln ld then qd else ld) ≤ (if ltR qn qd ln ld then qn else ln) * m) := by
    cases h : ltR qn qd ln ld
    · simp only [Bool.false_eq_true, if_false]
      exact ⟨fun x => x.1, fun x => ⟨x, crossI_le hm hld hq x (ltR_no.1 h)⟩⟩
    · simp only [if_true]
      exact ⟨fun x => x.2, fun x => ⟨crossI_le hm hq hld x (Int.le_of_lt (ltR_iff.1 h)), x⟩⟩
  rw [← A, ← B]
  constructor
  · rintro ⟨⟨a, b⟩, c, d⟩; exact ⟨⟨a, c⟩, b, d⟩
  · rintro ⟨⟨a, b⟩, c, d⟩; exact ⟨⟨a, c⟩, b, d⟩

theorem cutP_ok {fn fd ln ld pn pd qn qd : Int} : (cutP fn fd ln ld pn pd qn qd).ok = true ↔ (cutP fn fd ln ld pn pd qn qd).fn * (cutP fn fd ln ld pn pd qn qd).ld ≤ (cutP fn fd ln ld pn pd qn qd).ln * (cutP fn fd ln ld pn pd qn qd).fd := by
  unfold cutP
  simp only [Bool.not_eq_true']
  exact ltR_no

theorem cutP_fine {c : Cut} {pn pd qn qd : Int} (h : Fine c) (hp : 0 < pd) (hq : 0 < qd) (gp : Int.gcd pd pn = 1) (gq : Int.gcd qd qn = 1) : Fine (cutP c.fn c.fd c.ln c.ld pn pd qn qd) := by
  obtain ⟨h1, h2, h3, h4, h5, h6⟩ := h
  unfold cutP
  constructor <;> simp only []
  · cases h : ltR c.fn c.fd pn pd
    · simpa using h1
    · have := ltR_iff.1 h
      simp only [if_true]
      have k : 0 ≤ c.fn * pd := Int.mul_nonneg h1 (by omega)
      rcases (by omega : 0 ≤ pn ∨ pn < 0) with q | q
      · exact q
      · have := Int.mul_neg_of_neg_of_pos q h2; omega
  · split <;> omega
  · split <;> omega
  · cases h : ltR qn qd c.ln c.ld
    · simpa using h4
    · have := ltR_iff.1 h
      simp only [if_true]
      have k := Int.mul_le_mul_of_nonneg_right h4 (Int.le_of_lt hq)
      have k2 : qn * c.ld < qd * c.ld := by have := Int.mul_comm c.ld qd; omega
      have := Int.lt_of_mul_lt_mul_right k2 (by omega)
      omega
  · split <;> assumption
  · split <;> assumption

theorem cutI_fine {c : Cut} {a d lo hi : Int} (h : Fine c) : Fine (cutI c.fn c.fd c.ln c.ld a d lo hi) := by
  unfold cutI
  split
  · exact ⟨h.1, h.2, h.3, h.4, h.5, h.6⟩
  · rename_i hd
    obtain ⟨s0, -, -, -⟩ := low_spec (n := lo - a) hd
    obtain ⟨s1, -, -, -⟩ := low_spec (n := hi - a) hd
    split
    · exact cutP_fine h s1 s0 (low_coprime hd) (low_coprime hd)
    · exact cutP_fine h s0 s1 (low_coprime hd) (low_coprime hd)

theorem cutI_spec {c : Cut} {a d lo hi k m : Int} (h : Fine c) (hlh : lo < hi) (hm : 0 < m) :
    ((c.fn * m ≤ k * c.fd ∧ k * c.ld ≤ c.ln * m) ∧ (lo * m ≤ a * m + d * k ∧ a * m + d * k ≤ hi * m)) ↔
      (((cutI c.fn c.fd c.ln c.ld a d lo hi).fn * m ≤ k * (cutI c.fn c.fd c.ln c.ld a d lo hi).fd ∧ k * (cutI c.fn c.fd c.ln c.ld a d lo hi).ld ≤ (cutI c.fn c.fd c.ln c.ld a d lo hi).ln * m) ∧ (d = 0 → (cutI c.fn c.fd c.ln c.ld a d lo hi).ok = true)) := by
  unfold cutI
  by_cases hd : d = 0
  · rw [if_pos hd]
    subst hd
    simp only [Int.zero_mul, Int.add_zero, Int.mul_le_mul_right hm, true_imp_iff, Bool.and_eq_true, decide_eq_true_eq]
  · rw [if_neg hd]
    have e : (lo * m ≤ a * m + d * k ∧ a * m + d * k ≤ hi * m) ↔ ((lo - a) * m ≤ d * k ∧ d * k ≤ (hi - a) * m) := by
      rw [Int.sub_mul, Int.sub_mul]; omega
    rw [e]
    obtain ⟨s0, t0, -, -⟩ := low_spec (n := lo - a) hd
    obtain ⟨s1, t1, -, -⟩ := low_spec (n := hi - a) hd
    have q0 := le_div (n := lo - a) (k := k) (m := m) hd
    have q1 := le_div (n := hi - a) (k := k) (m := m) hd
    have hyx : lowN (hi - a) d * lowD (lo - a) d * d = (hi - a) * lowD (hi - a) d * lowD (lo - a) d ∧ lowN (lo - a) d * lowD (hi - a) d * d = (lo - a) * lowD (lo - a) d * lowD (hi - a) d := by
      constructor
      · grind
      · grind
    have pos : 0 < lowD (lo - a) d * lowD (hi - a) d := Int.mul_pos s0 s1
    generalize lowN (lo - a) d = xn at *
    generalize lowD (lo - a) d = xd at *
    generalize lowN (hi - a) d = yn at *
    generalize lowD (hi - a) d = yd at *
    have hlt : (lo - a) * (xd * yd) < (hi - a) * (xd * yd) := Int.mul_lt_mul_of_pos_right (by omega) pos
    rcases (by omega : d < 0 ∨ 0 < d) with hn | hp
    · have hs : ltR yn yd xn xd = true := by
        rw [ltR_iff]
        have : xn * yd * d < yn * xd * d := by rw [hyx.1, hyx.2]; grind
        have h2 : (-d) * (yn * xd) < (-d) * (xn * yd) := by grind
        exact Int.lt_of_mul_lt_mul_left h2 (by omega)
      rw [if_pos hs]
      have := cutP_spec (fn := c.fn) (ln := c.ln) (k := k) (pn := yn) (qn := xn) hm h.2 h.3 s1 s0
      rw [← this, ((q0.2 hn).2), ((q1.2 hn).1)]
      constructor
      · rintro ⟨x, y⟩; exact ⟨⟨x, y.2, y.1⟩, fun e => absurd e hd⟩
      · rintro ⟨⟨x, y⟩, -⟩; exact ⟨x, y.2, y.1⟩
    · have hs : ¬ ltR yn yd xn xd = true := by
        rw [ltR_iff]
        have : xn * yd * d < yn * xd * d := by rw [hyx.1, hyx.2]; grind
        have := Int.lt_of_mul_lt_mul_right this (by omega)
        omega
      rw [if_neg hs]
      have := cutP_spec (fn := c.fn) (ln := c.ln) (k := k) (pn := xn) (qn := yn) hm h.2 h.3 s0 s1
      rw [← this, ((q0.1 hp).1), ((q1.1 hp).2)]
      constructor
      · rintro ⟨x, y⟩; exact ⟨⟨x, y⟩, fun e => absurd e hd⟩
      · rintro ⟨⟨x, y⟩, -⟩; exact ⟨x, y⟩

/-- Where it says so, something is left; and where something is left, it says so. -/
theorem cutI_ok {c : Cut} {a d lo hi : Int} (h0 : c.fn * c.ld ≤ c.ln * c.fd) (h : (cutI c.fn c.fd c.ln c.ld a d lo hi).ok = true) :
    (cutI c.fn c.fd c.ln c.ld a d lo hi).fn * (cutI c.fn c.fd c.ln c.ld a d lo hi).ld ≤ (cutI c.fn c.fd c.ln c.ld a d lo hi).ln * (cutI c.fn c.fd c.ln c.ld a d lo hi).fd := by
  by_cases hd : d = 0
  · have e : cutI c.fn c.fd c.ln c.ld a d lo hi = ⟨c.fn, c.fd, c.ln, c.ld, decide (lo ≤ a) && decide (a ≤ hi)⟩ := by unfold cutI; rw [if_pos hd]
    rw [e]; exact h0
  · cases hs : ltR (lowN (hi - a) d) (lowD (hi - a) d) (lowN (lo - a) d) (lowD (lo - a) d)
    · have e : cutI c.fn c.fd c.ln c.ld a d lo hi = cutP c.fn c.fd c.ln c.ld (lowN (lo - a) d) (lowD (lo - a) d) (lowN (hi - a) d) (lowD (hi - a) d) := by unfold cutI; rw [if_neg hd, if_neg (by rw [hs]; simp)]
      rw [e] at h ⊢; exact cutP_ok.1 h
    · have e : cutI c.fn c.fd c.ln c.ld a d lo hi = cutP c.fn c.fd c.ln c.ld (lowN (hi - a) d) (lowD (hi - a) d) (lowN (lo - a) d) (lowD (lo - a) d) := by unfold cutI; rw [if_neg hd, if_pos hs]
      rw [e] at h ⊢; exact cutP_ok.1 h
theorem cutI_left {c : Cut} {a d lo hi k m : Int} (h : Fine c) (hm : 0 < m) (h1 : (cutI c.fn c.fd c.ln c.ld a d lo hi).fn * m ≤ k * (cutI c.fn c.fd c.ln c.ld a d lo hi).fd) (h2 : k * (cutI c.fn c.fd c.ln c.ld a d lo hi).ld ≤ (cutI c.fn c.fd c.ln c.ld a d lo hi).ln * m) (h3 : d = 0 → (cutI c.fn c.fd c.ln c.ld a d lo hi).ok = true) :
    (cutI c.fn c.fd c.ln c.ld a d lo hi).ok = true := by
  have hf := cutI_fine (a := a) (d := d) (lo := lo) (hi := hi) h
  by_cases hd : d = 0
  · exact h3 hd
  · have hle := crossI_le hf.2 hm hf.3 h1 h2
    clear h1 h2 h3 hf
    unfold cutI at *
    rw [if_neg hd] at *
    split at hle
    · rename_i hs
      rw [if_pos hs]
      exact cutP_ok.2 hle
    · rename_i hs
      rw [if_neg hs]
      exact cutP_ok.2 hle

def cutX (ax bx x : Int) : Cut := cutI 0 1 1 1 ax (bx - ax) (2 * x) (2 * x + 2)
def cutZ (ax az bx bz x z : Int) : Cut := cutI (cutX ax bx x).fn (cutX ax bx x).fd (cutX ax bx x).ln (cutX ax bx x).ld az (bz - az) (2 * z) (2 * z + 2)

theorem fine0 : Fine ⟨0, 1, 1, 1, true⟩ := ⟨by decide, by decide, by decide, by decide, by decide, by decide⟩
theorem fineX (ax bx x : Int) : Fine (cutX ax bx x) := cutI_fine (c := ⟨0, 1, 1, 1, true⟩) fine0
theorem fineZ (ax az bx bz x z : Int) : Fine (cutZ ax az bx bz x z) := cutI_fine (fineX ax bx x)

theorem cut_spec {ax az bx bz x z k m : Int} (hm : 0 < m) (h0 : 0 ≤ k) (h1 : k ≤ m) : (InAx ax bx x k m ∧ InAx az bz z k m) ↔
    (((cutZ ax az bx bz x z).fn * m ≤ k * (cutZ ax az bx bz x z).fd ∧ k * (cutZ ax az bx bz x z).ld ≤ (cutZ ax az bx bz x z).ln * m) ∧ (bx - ax = 0 → (cutX ax bx x).ok = true) ∧ (bz - az = 0 → (cutZ ax az bx bz x z).ok = true)) := by
  have hx := cutI_spec (c := ⟨0, 1, 1, 1, true⟩) (a := ax) (d := bx - ax) (lo := 2 * x) (hi := 2 * x + 2) (k := k) (m := m) fine0 (by omega) hm
  have hz := cutI_spec (c := cutX ax bx x) (a := az) (d := bz - az) (lo := 2 * z) (hi := 2 * z + 2) (k := k) (m := m) (fineX ax bx x) (by omega) hm
  have ex : cutI 0 1 1 1 ax (bx - ax) (2 * x) (2 * x + 2) = cutX ax bx x := rfl
  have ez : cutI (cutX ax bx x).fn (cutX ax bx x).fd (cutX ax bx x).ln (cutX ax bx x).ld az (bz - az) (2 * z) (2 * z + 2) = cutZ ax az bx bz x z := rfl
  rw [ez] at hz
  simp only [ex] at hx
  unfold InAx
  have triv : (0 * m ≤ k * 1 ∧ k * 1 ≤ 1 * m) := by omega
  constructor
  · rintro ⟨a, b⟩
    obtain ⟨a1, a2⟩ := hx.1 ⟨triv, a⟩
    obtain ⟨b1, b2⟩ := hz.1 ⟨a1, b⟩
    exact ⟨b1, a2, b2⟩
  · rintro ⟨b1, a2, b2⟩
    obtain ⟨a1, b⟩ := hz.2 ⟨b1, b2⟩
    exact ⟨(hx.2 ⟨a1, a2⟩).2, b⟩

theorem cut_left {ax az bx bz x z k m : Int} (hm : 0 < m) (h0 : 0 ≤ k) (h1 : k ≤ m) (h : InAx ax bx x k m ∧ InAx az bz z k m) : (cutX ax bx x).ok = true ∧ (cutZ ax az bx bz x z).ok = true := by
  have hx := cutI_spec (c := ⟨0, 1, 1, 1, true⟩) (a := ax) (d := bx - ax) (lo := 2 * x) (hi := 2 * x + 2) (k := k) (m := m) fine0 (by omega) hm
  obtain ⟨a1, a2⟩ := hx.1 ⟨by simp only []; omega, by have := h.1; unfold InAx at this; exact this⟩
  obtain ⟨b1, b2, b3⟩ := (cut_spec hm h0 h1).1 h
  exact ⟨cutI_left (c := ⟨0, 1, 1, 1, true⟩) fine0 hm a1.1 a1.2 b2, cutI_left (fineX ax bx x) hm b1.1 b1.2 b3⟩

theorem cell_some {ax az bx bz x z : Int} {m : Met} (h : meetO ax az bx bz x z = some m) : (cutX ax bx x).ok = true ∧ (cutZ ax az bx bz x z).ok = true ∧
    (cutZ ax az bx bz x z).fn = m.fn ∧ (cutZ ax az bx bz x z).fd = m.fd ∧ (cutZ ax az bx bz x z).ln = m.ln ∧ (cutZ ax az bx bz x z).ld = m.ld := by
  obtain ⟨hv, _, _⟩ := meet_ok h
  have g := meetO_good h
  have mo := meetO_more h
  unfold Good at g
  have hfd : m.fn ≤ m.fd := by
    have h1 : m.fn * m.ld ≤ m.fd * m.ld := by
      have := Nat.mul_le_mul_right m.fd mo.1
      rw [Nat.mul_comm m.fd m.ld]; omega
    exact Nat.le_of_mul_le_mul_right h1 g.2.2.2.2.2.1
  have s1 := (meet_spec hv (k := m.fn) (m := m.fd) (by omega) hfd).2 ⟨m, h, Nat.le_refl _, mo.2⟩
  have s2 := (meet_spec hv (k := m.ln) (m := m.ld) (by omega) mo.1).2 ⟨m, h, mo.2, Nat.le_refl _⟩
  obtain ⟨o1, o2⟩ := cut_left (by omega) (by omega) (by omega) s1
  obtain ⟨⟨p1, p2⟩, -⟩ := (cut_spec (by omega) (by omega) (by omega)).1 s1
  obtain ⟨⟨q1, q2⟩, -⟩ := (cut_spec (by omega) (by omega) (by omega)).1 s2
  have back := fun (k M : Nat) (hM : 0 < M) (hk : k ≤ M) (a : (cutZ ax az bx bz x z).fn * M ≤ k * (cutZ ax az bx bz x z).fd) (b : (k : Int) * (cutZ ax az bx bz x z).ld ≤ (cutZ ax az bx bz x z).ln * M) =>
    (meet_spec hv hM hk).1 ((cut_spec (by omega) (by omega) (by omega)).2 ⟨⟨a, b⟩, fun _ => o1, fun _ => o2⟩)
  obtain ⟨f0, fd, ld, l1, gf, gl⟩ := fineZ ax az bx bz x z
  generalize cutZ ax az bx bz x z = c at *
  obtain ⟨fn, fd', ln, ld', ok⟩ := c
  simp only [] at *
  have lefl := crossI_le fd (show (0 : Int) < m.fd by omega) ld p1 p2
  have f1 : fn ≤ fd' := by
    have k := Int.mul_le_mul_of_nonneg_right l1 (Int.le_of_lt fd)
    have : fn * ld' ≤ fd' * ld' := by rw [Int.mul_comm fd']; omega
    exact Int.le_of_mul_le_mul_right this ld
  have l0 : 0 ≤ ln := by
    rcases (by omega : 0 ≤ ln ∨ ln < 0) with q | q
    · exact q
    · have := Int.mul_neg_of_neg_of_pos q fd
      have := Int.mul_nonneg f0 (Int.le_of_lt ld)
      omega
  obtain ⟨fn, rfl⟩ : ∃ u : Nat, fn = u := ⟨fn.toNat, by omega⟩
  obtain ⟨fd', rfl⟩ : ∃ u : Nat, fd' = u := ⟨fd'.toNat, by omega⟩
  obtain ⟨ln, rfl⟩ : ∃ u : Nat, ln = u := ⟨ln.toNat, by omega⟩
  obtain ⟨ld', rfl⟩ : ∃ u : Nat, ld' = u := ⟨ld'.toNat, by omega⟩
  obtain ⟨c1, hc1, r1, r2⟩ := back fn fd' (by omega) (by omega) (Int.le_refl _) lefl
  obtain ⟨c2, hc2, t1, t2⟩ := back ln ld' (by omega) (by omega) lefl (Int.le_refl _)
  rw [h] at hc1 hc2
  injection hc1 with hc1
  injection hc2 with hc2
  subst hc1
  have e1 : m.fn * fd' = fn * m.fd := by
    have : ((fn * m.fd : Nat) : Int) ≤ ((m.fn * fd' : Nat) : Int) := by simpa using p1
    omega
  have e2 : m.ln * ld' = ln * m.ld := by
    subst hc2
    have : ((m.ln * ld' : Nat) : Int) ≤ ((ln * m.ld : Nat) : Int) := by simpa using q2
    omega
  obtain ⟨u1, u2⟩ := cross_same g.2.2.2.2.2.2.2.1 (show Nat.gcd fd' fn = 1 from gf) e1
  obtain ⟨u3, u4⟩ := cross_same g.2.2.2.2.2.2.2.2 (show Nat.gcd ld' ln = 1 from gl) e2
  exact ⟨o1, o2, by omega, by omega, by omega, by omega⟩

theorem cell_none {ax az bx bz x z : Int} (hv : validB ax az bx bz x z = true) (h : meetO ax az bx bz x z = none) : ¬ ((cutX ax bx x).ok = true ∧ (cutZ ax az bx bz x z).ok = true) := by
  rintro ⟨o1, o2⟩
  have k1 := cutI_ok (c := ⟨0, 1, 1, 1, true⟩) (by decide) o1
  have k2 := cutI_ok (c := cutX ax bx x) k1 o2
  have k3 : (cutZ ax az bx bz x z).fn * (cutZ ax az bx bz x z).ld ≤ (cutZ ax az bx bz x z).ln * (cutZ ax az bx bz x z).fd := k2
  have hs := cut_spec (ax := ax) (az := az) (bx := bx) (bz := bz) (x := x) (z := z) (k := (cutZ ax az bx bz x z).fn) (m := (cutZ ax az bx bz x z).fd)
  obtain ⟨f0, fd, ld, l1, gf, gl⟩ := fineZ ax az bx bz x z
  generalize cutZ ax az bx bz x z = c at *
  obtain ⟨fn, fd', ln, ld', ok⟩ := c
  simp only [] at *
  have f1 : fn ≤ fd' := by
    have k := Int.mul_le_mul_of_nonneg_right l1 (Int.le_of_lt fd)
    have : fn * ld' ≤ fd' * ld' := by rw [Int.mul_comm fd']; omega
    exact Int.le_of_mul_le_mul_right this ld
  obtain ⟨fn, rfl⟩ : ∃ u : Nat, fn = u := ⟨fn.toNat, by omega⟩
  obtain ⟨fd', rfl⟩ : ∃ u : Nat, fd' = u := ⟨fd'.toNat, by omega⟩
  have hin := (hs (by omega) (by omega) (by omega)).2 ⟨⟨Int.le_refl _, k3⟩, fun _ => o1, fun _ => o2⟩
  obtain ⟨c, hc, _⟩ := (meet_spec hv (by omega) (by omega)).1 hin
  rw [h] at hc
  cases hc

end Go.Proofs.Ytmpkciidhopckaa
