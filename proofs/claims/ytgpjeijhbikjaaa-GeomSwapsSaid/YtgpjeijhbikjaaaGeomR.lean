/- Plain facts: a segment touches a square just if one of its points lies in it; so it touches one of two squares that together are one. No walk of the program. -/
import Derived.Test.YtgpjeijhbikjaaaGeomQ
namespace Go.Proofs.Ytgpjeijhbikjaaa
open Go.RowKit
set_option linter.unusedVariables false

/-- Some point of the segment, p of q parts of the way, lies in the square. -/
def Reaches (ax az bx bz x0 z0 x1 z1 : Int) : Prop :=
  ∃ p q : Int, 0 < q ∧ 0 ≤ p ∧ p ≤ q ∧ q * x0 ≤ q * ax + p * (bx - ax) ∧ q * ax + p * (bx - ax) ≤ q * x1 ∧ q * z0 ≤ q * az + p * (bz - az) ∧ q * az + p * (bz - az) ≤ q * z1

/-- The square's four sides, and whether the segment begins in it. -/
def sidesB (ax az bx bz x0 z0 x1 z1 : Int) : Bool := side1 ax az bx bz x0 z0 x1 z1 || side2 ax az bx bz x0 z0 x1 z1 || side3 ax az bx bz x0 z0 x1 z1 || side4 ax az bx bz x0 z0 x1 z1

theorem on_reaches {ax az bx bz px pz : Int} (h : crI ax az bx bz px pz = 0 ∧ min ax bx ≤ px ∧ px ≤ max ax bx ∧ min az bz ≤ pz ∧ pz ≤ max az bz) :
    ∃ p q : Int, 0 < q ∧ 0 ≤ p ∧ p ≤ q ∧ q * ax + p * (bx - ax) = q * px ∧ q * az + p * (bz - az) = q * pz := by
  obtain ⟨h, h1, h2, h3, h4⟩ := h
  unfold crI at h
  rcases Int.lt_trichotomy ax bx with g | g | g
  · exact ⟨px - ax, bx - ax, by omega, by omega, by omega, by grind, by grind⟩
  · have e : px = ax := by omega
    rcases Int.lt_trichotomy az bz with g' | g' | g'
    · exact ⟨pz - az, bz - az, by omega, by omega, by omega, by grind, by grind⟩
    · have e' : pz = az := by omega
      exact ⟨0, 1, by omega, by omega, by omega, by omega, by omega⟩
    · exact ⟨az - pz, az - bz, by omega, by omega, by omega, by grind, by grind⟩
  · exact ⟨ax - px, ax - bx, by omega, by omega, by omega, by grind, by grind⟩

/-- Where a segment crosses a side that lies along x. -/
theorem cross_reaches {ax az bx bz u v h : Int} (c : (crI ax az bx bz u h < 0 ∧ 0 < crI ax az bx bz v h) ∨ (0 < crI ax az bx bz u h ∧ crI ax az bx bz v h < 0)) (d : (crI u h v h ax az < 0 ∧ 0 < crI u h v h bx bz) ∨ (0 < crI u h v h ax az ∧ crI u h v h bx bz < 0)) :
    ∃ p q : Int, 0 < q ∧ 0 ≤ p ∧ p ≤ q ∧ q * min u v ≤ q * ax + p * (bx - ax) ∧ q * ax + p * (bx - ax) ≤ q * max u v ∧ q * az + p * (bz - az) = q * h := by
  have e1 : crI u h v h ax az = (v - u) * (az - h) := by unfold crI; grind
  have e2 : crI u h v h bx bz = (v - u) * (bz - h) := by unfold crI; grind
  have key : (az < h ∧ h < bz) ∨ (bz < h ∧ h < az) := by
    rw [e1, e2] at d
    rcases Int.lt_trichotomy u v with g | g | g
    · rcases d with ⟨d1, d2⟩ | ⟨d1, d2⟩
      · have a1 := mul_pos_lt (q := v - u) (a := az - h) (b := 0) (by omega) (by omega)
        have a2 := mul_pos_lt (q := v - u) (a := 0) (b := bz - h) (by omega) (by omega)
        omega
      · have a1 := mul_pos_lt (q := v - u) (a := 0) (b := az - h) (by omega) (by omega)
        have a2 := mul_pos_lt (q := v - u) (a := bz - h) (b := 0) (by omega) (by omega)
        omega
    · subst g; simp at d
    · have f1 : (v - u) * (az - h) = - ((u - v) * (az - h)) := by grind
      have f2 : (v - u) * (bz - h) = - ((u - v) * (bz - h)) := by grind
      rw [f1, f2] at d
      rcases d with ⟨d1, d2⟩ | ⟨d1, d2⟩
      · have a1 := mul_pos_lt (q := u - v) (a := 0) (b := az - h) (by omega) (by omega)
        have a2 := mul_pos_lt (q := u - v) (a := bz - h) (b := 0) (by omega) (by omega)
        omega
      · have a1 := mul_pos_lt (q := u - v) (a := az - h) (b := 0) (by omega) (by omega)
        have a2 := mul_pos_lt (q := u - v) (a := 0) (b := bz - h) (by omega) (by omega)
        omega
  rcases key with ⟨k1, k2⟩ | ⟨k1, k2⟩
  · have f1 : (bz - az) * ax + (h - az) * (bx - ax) = (bz - az) * u + crI ax az bx bz u h := by unfold crI; grind
    have f2 : (bz - az) * ax + (h - az) * (bx - ax) = (bz - az) * v + crI ax az bx bz v h := by unfold crI; grind
    have m1 := mul_le_r (a := min u v) (b := u) (c := bz - az) (by omega) (by omega)
    have m2 := mul_le_r (a := min u v) (b := v) (c := bz - az) (by omega) (by omega)
    have m3 := mul_le_r (a := u) (b := max u v) (c := bz - az) (by omega) (by omega)
    have m4 := mul_le_r (a := v) (b := max u v) (c := bz - az) (by omega) (by omega)
    refine ⟨h - az, bz - az, by omega, by omega, by omega, ?_, ?_, by grind⟩
    · rw [Int.mul_comm (bz - az) (min u v)]
      rw [Int.mul_comm (bz - az) u] at f1
      rw [Int.mul_comm (bz - az) v] at f2
      omega
    · rw [Int.mul_comm (bz - az) (max u v)]
      rw [Int.mul_comm (bz - az) u] at f1
      rw [Int.mul_comm (bz - az) v] at f2
      omega
  · have f1 : (az - bz) * ax + (az - h) * (bx - ax) = (az - bz) * u - crI ax az bx bz u h := by unfold crI; grind
    have f2 : (az - bz) * ax + (az - h) * (bx - ax) = (az - bz) * v - crI ax az bx bz v h := by unfold crI; grind
    have m1 := mul_le_r (a := min u v) (b := u) (c := az - bz) (by omega) (by omega)
    have m2 := mul_le_r (a := min u v) (b := v) (c := az - bz) (by omega) (by omega)
    have m3 := mul_le_r (a := u) (b := max u v) (c := az - bz) (by omega) (by omega)
    have m4 := mul_le_r (a := v) (b := max u v) (c := az - bz) (by omega) (by omega)
    refine ⟨az - h, az - bz, by omega, by omega, by omega, ?_, ?_, by grind⟩
    · rw [Int.mul_comm (az - bz) (min u v)]
      rw [Int.mul_comm (az - bz) u] at f1
      rw [Int.mul_comm (az - bz) v] at f2
      omega
    · rw [Int.mul_comm (az - bz) (max u v)]
      rw [Int.mul_comm (az - bz) u] at f1
      rw [Int.mul_comm (az - bz) v] at f2
      omega

theorem le_mul_of {q a b : Int} (hq : 0 < q) (h : a ≤ b) : q * a ≤ q * b := Int.mul_le_mul_of_nonneg_left h (by omega)

/-- A segment that meets a side along x of a square has a point in it. -/
theorem meet_reaches {ax az bx bz : Int} (h1 : Rch ax) (h2 : Rch az) (h3 : Rch bx) (h4 : Rch bz) {u v h x0 z0 x1 z1 : Int} (h5 : Rch u) (h6 : Rch v) (h7 : Rch h) (a1 : x0 ≤ min u v) (a2 : max u v ≤ x1) (a3 : z0 ≤ h) (a4 : h ≤ z1)
    (m : meetB ax az bx bz u h v h = true) : Reaches ax az bx bz x0 z0 x1 z1 := by
  have point : ∀ px pz : Int, x0 ≤ px → px ≤ x1 → z0 ≤ pz → pz ≤ z1 → (∃ p q : Int, 0 < q ∧ 0 ≤ p ∧ p ≤ q ∧ q * ax + p * (bx - ax) = q * px ∧ q * az + p * (bz - az) = q * pz) → Reaches ax az bx bz x0 z0 x1 z1 := by
    intro px pz b1 b2 b3 b4 ⟨p, q, hq, hp0, hp1, ex, ez⟩
    exact ⟨p, q, hq, hp0, hp1, by rw [ex]; exact le_mul_of hq b1, by rw [ex]; exact le_mul_of hq b2, by rw [ez]; exact le_mul_of hq b3, by rw [ez]; exact le_mul_of hq b4⟩
  rcases meet_cases m with ⟨c, d⟩ | o | o | o | o
  · obtain ⟨p, q, hq, hp0, hp1, e1, e2, e3⟩ := cross_reaches ((crosses_iff h1 h2 h3 h4 h5 h7 h6 h7).1 c) ((crosses_iff h5 h7 h6 h7 h1 h2 h3 h4).1 d)
    have b1 := le_mul_of hq a1
    have b2 := le_mul_of hq a2
    exact ⟨p, q, hq, hp0, hp1, by omega, by omega, by rw [e3]; exact le_mul_of hq a3, by rw [e3]; exact le_mul_of hq a4⟩
  · exact point u h (by omega) (by omega) a3 a4 (on_reaches ((on_iff h1 h2 h3 h4 h5 h7).1 o))
  · exact point v h (by omega) (by omega) a3 a4 (on_reaches ((on_iff h1 h2 h3 h4 h6 h7).1 o))
  · have := (on_iff h5 h7 h6 h7 h1 h2).1 o
    exact ⟨0, 1, by omega, by omega, by omega, by omega, by omega, by omega, by omega⟩
  · have := (on_iff h5 h7 h6 h7 h3 h4).1 o
    exact ⟨1, 1, by omega, by omega, by omega, by omega, by omega, by omega, by omega⟩

theorem reaches_swap {ax az bx bz x0 z0 x1 z1 : Int} (h : Reaches az ax bz bx z0 x0 z1 x1) : Reaches ax az bx bz x0 z0 x1 z1 := by
  obtain ⟨p, q, hq, hp0, hp1, e1, e2, e3, e4⟩ := h
  exact ⟨p, q, hq, hp0, hp1, e3, e4, e1, e2⟩
theorem reaches_refl {ax az bx bz x0 z0 x1 z1 : Int} (h : Reaches ax az bx bz x0 z0 x1 z1) : Reaches ax (-az) bx (-bz) x0 (-z1) x1 (-z0) := by
  obtain ⟨p, q, hq, hp0, hp1, e1, e2, e3, e4⟩ := h
  exact ⟨p, q, hq, hp0, hp1, e1, e2, by grind, by grind⟩

/-- From below the square into it: by its lower side, or by one of those beside. -/
theorem enter_low {ax az bx bz : Int} (h1 : Rch ax) (h2 : Rch az) (h3 : Rch bx) (h4 : Rch bz) {x0 z0 x1 z1 : Int} (h5 : Rch x0) (h6 : Rch z0) (h7 : Rch x1) (h8 : Rch z1) (hx : x0 ≤ x1) (hz : z0 ≤ z1) (hlow : az < z0) (h : Reaches ax az bx bz x0 z0 x1 z1) :
    meetB ax az bx bz x0 z0 x1 z0 = true ∨ meetB ax az bx bz x0 z0 x0 z1 = true ∨ meetB ax az bx bz x1 z0 x1 z1 = true := by
  obtain ⟨p, q, hq, hp0, hp1, e1, e2, e3, e4⟩ := h
  have k0 : 0 < z0 - az := by omega
  have g1 : q * (z0 - az) ≤ p * (bz - az) := by grind
  have g0 : 0 < q * (z0 - az) := Int.mul_pos hq k0
  have hp : 0 < p := by
    rcases Int.lt_or_eq_of_le hp0 with h | h
    · exact h
    · subst h; simp at g1; omega
  have hD : 0 < bz - az := mul_pos_lt (q := p) (a := 0) (b := bz - az) hp (by omega)
  have g2 : p * (bz - az) ≤ q * (bz - az) := mul_le_r hp1 (by omega)
  have hk : z0 - az ≤ bz - az := mul_pos_le hq (by omega)
  have g3 : p * (bz - az) ≤ q * (z1 - az) := by grind
  by_cases c1 : (bz - az) * x0 ≤ (bz - az) * ax + (z0 - az) * (bx - ax)
  · by_cases c2 : (bz - az) * ax + (z0 - az) * (bx - ax) ≤ (bz - az) * x1
    · exact Or.inl (hit h1 h2 h3 h4 h5 h7 h6 hx hD (by omega) hk (by grind) c1 c2)
    · refine Or.inr (Or.inr ?_)
      -- it leaves x1 behind on its way down the numbers
      have d1 : (bz - az) * (ax - x1) > (z0 - az) * (ax - bx) := by grind
      have d2 : q * (ax - x1) ≤ p * (ax - bx) := by grind
      have hE : 0 < ax - bx := by
        apply Decidable.byContradiction
        intro hn
        have s1 : (p * (bz - az)) * (bx - ax) ≥ (q * (z0 - az)) * (bx - ax) := mul_le_r g1 (by omega)
        have s2 : q * ((z0 - az) * (ax - bx)) < q * ((bz - az) * (ax - x1)) := Int.mul_lt_mul_of_pos_left d1 hq
        have s3 : (bz - az) * (q * (ax - x1)) ≤ (bz - az) * (p * (ax - bx)) := Int.mul_le_mul_of_nonneg_left d2 (by omega)
        grind
      have hj : 0 < ax - x1 := by
        have s1 : 0 < (z0 - az) * (ax - bx) := Int.mul_pos k0 hE
        exact mul_pos_lt hD (by omega)
      have hjE : ax - x1 ≤ ax - bx := by
        have s1 : p * (ax - bx) ≤ q * (ax - bx) := mul_le_r hp1 (by omega)
        exact mul_pos_le hq (by omega)
      refine hit' h1 h2 h3 h4 h6 h8 h7 hz (p := ax - x1) (q := ax - bx) hE (by omega) hjE (by grind) (by grind) ?_
      have s1 : (q * (ax - x1)) * (bz - az) ≤ (p * (ax - bx)) * (bz - az) := mul_le_r d2 (by omega)
      have s2 : (p * (bz - az)) * (ax - bx) ≤ (q * (z1 - az)) * (ax - bx) := mul_le_r g3 (by omega)
      have s3 : q * ((ax - x1) * (bz - az)) ≤ q * ((z1 - az) * (ax - bx)) := by grind
      have := mul_pos_le hq s3
      grind
  · refine Or.inr (Or.inl ?_)
    have d1 : (z0 - az) * (bx - ax) < (bz - az) * (x0 - ax) := by grind
    have d2 : q * (x0 - ax) ≤ p * (bx - ax) := by grind
    have hE : 0 < bx - ax := by
      apply Decidable.byContradiction
      intro hn
      have s1 : (p * (bz - az)) * (ax - bx) ≥ (q * (z0 - az)) * (ax - bx) := mul_le_r g1 (by omega)
      have s2 : q * ((z0 - az) * (bx - ax)) < q * ((bz - az) * (x0 - ax)) := Int.mul_lt_mul_of_pos_left d1 hq
      have s3 : (bz - az) * (q * (x0 - ax)) ≤ (bz - az) * (p * (bx - ax)) := Int.mul_le_mul_of_nonneg_left d2 (by omega)
      grind
    have hj : 0 < x0 - ax := by
      have s1 : 0 < (z0 - az) * (bx - ax) := Int.mul_pos k0 hE
      exact mul_pos_lt hD (by omega)
    have hjE : x0 - ax ≤ bx - ax := by
      have s1 : p * (bx - ax) ≤ q * (bx - ax) := mul_le_r hp1 (by omega)
      exact mul_pos_le hq (by omega)
    refine hit' h1 h2 h3 h4 h6 h8 h5 hz (p := x0 - ax) (q := bx - ax) hE (by omega) hjE (by grind) (by grind) ?_
    have s1 : (q * (x0 - ax)) * (bz - az) ≤ (p * (bx - ax)) * (bz - az) := mul_le_r d2 (by omega)
    have s2 : (p * (bz - az)) * (bx - ax) ≤ (q * (z1 - az)) * (bx - ax) := mul_le_r g3 (by omega)
    have s3 : q * ((x0 - ax) * (bz - az)) ≤ q * ((z1 - az) * (bx - ax)) := by grind
    have := mul_pos_le hq s3
    grind

theorem sides_iff {ax az bx bz x0 z0 x1 z1 : Int} : sidesB ax az bx bz x0 z0 x1 z1 = true ↔ meetB ax az bx bz x0 z0 x1 z0 = true ∨ meetB ax az bx bz x1 z0 x1 z1 = true ∨ meetB ax az bx bz x1 z1 x0 z1 = true ∨ meetB ax az bx bz x0 z1 x0 z0 = true := by
  unfold sidesB side1 side2 side3 side4
  simp [or_assoc]

/-- It touches the square just if one of its points lies in it. -/
theorem touches_iff {ax az bx bz : Int} (h1 : Rch ax) (h2 : Rch az) (h3 : Rch bx) (h4 : Rch bz) {x0 z0 x1 z1 : Int} (h5 : Rch x0) (h6 : Rch z0) (h7 : Rch x1) (h8 : Rch z1) (hx : x0 ≤ x1) (hz : z0 ≤ z1) :
    (insB ax az x0 z0 x1 z1 || sidesB ax az bx bz x0 z0 x1 z1) = true ↔ Reaches ax az bx bz x0 z0 x1 z1 := by
  constructor
  · intro h
    rcases Bool.or_eq_true _ _ ▸ h with h | h
    · unfold insB at h
      simp at h
      exact ⟨0, 1, by omega, by omega, by omega, by omega, by omega, by omega, by omega⟩
    · rcases sides_iff.1 h with h | h | h | h
      · exact meet_reaches h1 h2 h3 h4 h5 h7 h6 (by omega) (by omega) (by omega) (by omega) h
      · rw [← meet_swap] at h
        exact reaches_swap (meet_reaches h2 h1 h4 h3 h6 h8 h7 (by omega) (by omega) (by omega) (by omega) h)
      · exact meet_reaches h1 h2 h3 h4 h7 h5 h8 (by omega) (by omega) (by omega) (by omega) h
      · rw [← meet_swap] at h
        exact reaches_swap (meet_reaches h2 h1 h4 h3 h8 h6 h5 (by omega) (by omega) (by omega) (by omega) h)
  · intro h
    cases hi : insB ax az x0 z0 x1 z1
    · rw [Bool.false_or, sides_iff]
      have hi' : az < z0 ∨ z1 < az ∨ ax < x0 ∨ x1 < ax := by
        unfold insB at hi
        simp at hi
        omega
      rcases hi' with g | g | g | g
      · rcases enter_low h1 h2 h3 h4 h5 h6 h7 h8 hx hz g h with m | m | m
        · exact Or.inl m
        · rw [← meet_dc] at m; exact Or.inr (Or.inr (Or.inr m))
        · exact Or.inr (Or.inl m)
      · rcases enter_low h1 h2.neg h3 h4.neg h5 h8.neg h7 h6.neg hx (by omega) (by omega) (reaches_refl h) with m | m | m
        · rw [meet_refl ax az bx bz x0 z1 x1 z1, ← meet_dc] at m; exact Or.inr (Or.inr (Or.inl m))
        · rw [meet_refl ax az bx bz x0 z1 x0 z0] at m; exact Or.inr (Or.inr (Or.inr m))
        · rw [meet_refl ax az bx bz x1 z1 x1 z0, ← meet_dc] at m; exact Or.inr (Or.inl m)
      · rcases enter_low h2 h1 h4 h3 h6 h5 h8 h7 hz hx g (reaches_swap h) with m | m | m
        · rw [meet_swap ax az bx bz x0 z0 x0 z1, ← meet_dc] at m; exact Or.inr (Or.inr (Or.inr m))
        · rw [meet_swap ax az bx bz x0 z0 x1 z0] at m; exact Or.inl m
        · rw [meet_swap ax az bx bz x0 z1 x1 z1, ← meet_dc] at m; exact Or.inr (Or.inr (Or.inl m))
      · rcases enter_low h2 h1.neg h4 h3.neg h6 h7.neg h8 h5.neg hz (by omega) (by omega) (reaches_refl (reaches_swap h)) with m | m | m
        · rw [meet_refl az ax bz bx z0 x1 z1 x1, meet_swap ax az bx bz x1 z0 x1 z1] at m; exact Or.inr (Or.inl m)
        · rw [meet_refl az ax bz bx z0 x1 z0 x0, meet_swap ax az bx bz x1 z0 x0 z0, ← meet_dc] at m; exact Or.inl m
        · rw [meet_refl az ax bz bx z1 x1 z1 x0, meet_swap ax az bx bz x1 z1 x0 z1] at m; exact Or.inr (Or.inr (Or.inl m))
    · rfl

/-- Of two squares that together are one. -/
theorem reaches_cut {ax az bx bz x0 z0 x1 z1 m : Int} (h0 : x0 ≤ m) (h1 : m ≤ x1) : Reaches ax az bx bz x0 z0 x1 z1 ↔ Reaches ax az bx bz x0 z0 m z1 ∨ Reaches ax az bx bz m z0 x1 z1 := by
  constructor
  · rintro ⟨p, q, hq, hp0, hp1, e1, e2, e3, e4⟩
    by_cases h : q * ax + p * (bx - ax) ≤ q * m
    · exact Or.inl ⟨p, q, hq, hp0, hp1, e1, h, e3, e4⟩
    · exact Or.inr ⟨p, q, hq, hp0, hp1, by omega, e2, e3, e4⟩
  · rintro (⟨p, q, hq, hp0, hp1, e1, e2, e3, e4⟩ | ⟨p, q, hq, hp0, hp1, e1, e2, e3, e4⟩)
    · have := le_mul_of hq h1
      exact ⟨p, q, hq, hp0, hp1, e1, by omega, e3, e4⟩
    · have := le_mul_of hq h0
      exact ⟨p, q, hq, hp0, hp1, by omega, e2, e3, e4⟩

theorem touch_small {ax az bx bz : Int} {x0 z0 x1 z1 : Int} (h1 : Rch ax) (h2 : Rch az) (h5 : Rch x0) (h6 : Rch z0) (h7 : Rch x1) (h8 : Rch z1) (hx : x0 ≤ x1) (hz : z0 ≤ z1) :
    touchB ax az bx bz x0 z0 x1 z1 = (insB ax az x0 z0 x1 z1 || sidesB ax az bx bz x0 z0 x1 z1) := by
  rw [touchB_eq, h1.inI, h2.inI, h5.inI, h6.inI, h7.inI, h8.inI]
  unfold sidesB
  simp [hx, hz, Bool.or_assoc]

theorem touch_cut {ax az bx bz : Int} (h1 : Rch ax) (h2 : Rch az) (h3 : Rch bx) (h4 : Rch bz) {x0 z0 x1 z1 m : Int} (h5 : Rch x0) (h6 : Rch z0) (h7 : Rch x1) (h8 : Rch z1) (h9 : Rch m) (a : x0 ≤ m) (b : m ≤ x1) (hz : z0 ≤ z1) :
    (touchB ax az bx bz x0 z0 m z1 || touchB ax az bx bz m z0 x1 z1) = touchB ax az bx bz x0 z0 x1 z1 := by
  rw [touch_small h1 h2 h5 h6 h9 h8 a hz, touch_small h1 h2 h9 h6 h7 h8 b hz, touch_small h1 h2 h5 h6 h7 h8 (by omega) hz]
  rw [Bool.eq_iff_iff, Bool.or_eq_true, touches_iff h1 h2 h3 h4 h5 h6 h9 h8 a hz, touches_iff h1 h2 h3 h4 h9 h6 h7 h8 b hz, touches_iff h1 h2 h3 h4 h5 h6 h7 h8 (by omega) hz]
  exact (reaches_cut a b).symm

end Go.Proofs.Ytgpjeijhbikjaaa
