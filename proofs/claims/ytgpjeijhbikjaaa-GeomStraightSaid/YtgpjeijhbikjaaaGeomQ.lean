/- Plain facts: a segment that has a point in a square meets one of its sides, or begins within; and the other way about. No walk of the program. -/
import Derived.Test.YtgpjeijhbikjaaaGeomP
namespace Go.Proofs.Ytgpjeijhbikjaaa
open Go.RowKit
set_option linter.unusedVariables false

theorem mul_pos_le {q a b : Int} (hq : 0 < q) (h : q * a ≤ q * b) : a ≤ b := Int.le_of_mul_le_mul_left h hq
theorem mul_pos_lt {q a b : Int} (hq : 0 < q) (h : q * a < q * b) : a < b := Int.lt_of_mul_lt_mul_left h (by omega)
theorem mul_pos_eq {q a b : Int} (hq : 0 < q) (h : q * a = q * b) : a = b := Int.eq_of_mul_eq_mul_left (by omega) h
theorem mul_le_r {a b c : Int} (h : a ≤ b) (hc : 0 ≤ c) : a * c ≤ b * c := Int.mul_le_mul_of_nonneg_right h hc
theorem mul_lt_r {a b c : Int} (h : a < b) (hc : 0 < c) : a * c < b * c := Int.mul_lt_mul_of_pos_right h hc
theorem pos_of_mul {a b : Int} (ha : 0 < a) (h : 0 < a * b) : 0 < b := Int.pos_of_mul_pos_right h ha |> fun h => h

/-- What lies between the ends, weighed. -/
theorem weigh {p q a b : Int} (hq : 0 < q) (h0 : 0 ≤ p) (h1 : p ≤ q) : q * min a b ≤ q * a + p * (b - a) ∧ q * a + p * (b - a) ≤ q * max a b := by
  rcases Int.le_total a b with h | h
  · rw [Int.min_eq_left h, Int.max_eq_right h]
    have e1 : 0 ≤ p * (b - a) := Int.mul_nonneg h0 (by omega)
    have e2 : p * (b - a) ≤ q * (b - a) := mul_le_r h1 (by omega)
    constructor <;> grind
  · rw [Int.min_eq_right h, Int.max_eq_left h]
    have e1 : 0 ≤ p * (a - b) := Int.mul_nonneg h0 (by omega)
    have e2 : p * (a - b) ≤ q * (a - b) := mul_le_r h1 (by omega)
    constructor <;> grind

section
variable {ax az bx bz : Int} (h1 : Rch ax) (h2 : Rch az) (h3 : Rch bx) (h4 : Rch bz)
include h1 h2 h3 h4

/-- A side that lies along x, the segment not. -/
theorem hit_up {u v h p q : Int} (h5 : Rch u) (h6 : Rch v) (h7 : Rch h) (huv : u ≤ v) (hq : 0 < q) (hp0 : 0 ≤ p) (hp1 : p ≤ q) (hz : p * (bz - az) = q * (h - az)) (hu : q * u ≤ q * ax + p * (bx - ax)) (hv : q * ax + p * (bx - ax) ≤ q * v) (hD : az < bz) :
    meetB ax az bx bz u h v h = true := by
  have hD' : 0 < bz - az := by omega
  have k0 : az ≤ h := by
    have : 0 ≤ p * (bz - az) := Int.mul_nonneg hp0 (by omega)
    have := mul_pos_le hq (a := 0) (b := h - az) (by omega)
    omega
  have k1 : h ≤ bz := by
    have : p * (bz - az) ≤ q * (bz - az) := mul_le_r hp1 (by omega)
    have := mul_pos_le hq (a := h - az) (b := bz - az) (by omega)
    omega
  have w := weigh (a := ax) (b := bx) hq hp0 hp1
  have wl : u ≤ max ax bx := mul_pos_le hq (by omega)
  have wr : min ax bx ≤ v := mul_pos_le hq (by omega)
  have c1 : 0 ≤ crI ax az bx bz u h := by
    have e : q * crI ax az bx bz u h = (bz - az) * (q * ax + p * (bx - ax) - q * u) := by unfold crI; grind
    have : 0 ≤ (bz - az) * (q * ax + p * (bx - ax) - q * u) := Int.mul_nonneg (by omega) (by omega)
    exact mul_pos_le hq (by omega)
  have c2 : crI ax az bx bz v h ≤ 0 := by
    have e : q * crI ax az bx bz v h = - ((bz - az) * (q * v - (q * ax + p * (bx - ax)))) := by unfold crI; grind
    have : 0 ≤ (bz - az) * (q * v - (q * ax + p * (bx - ax))) := Int.mul_nonneg (by omega) (by omega)
    exact mul_pos_le hq (by omega)
  by_cases g1 : crI ax az bx bz u h = 0
  · refine meet_of_on1 ((on_iff h1 h2 h3 h4 h5 h7).2 ⟨g1, ?_, wl, by omega, by omega⟩)
    have e : (bz - az) * ax + (h - az) * (bx - ax) = (bz - az) * u := by unfold crI at g1; grind
    have w2 := weigh (p := h - az) (q := bz - az) (a := ax) (b := bx) hD' (by omega) (by omega)
    exact mul_pos_le hD' (by omega)
  by_cases g2 : crI ax az bx bz v h = 0
  · refine meet_of_on2 ((on_iff h1 h2 h3 h4 h6 h7).2 ⟨g2, wr, ?_, by omega, by omega⟩)
    have e : (bz - az) * ax + (h - az) * (bx - ax) = (bz - az) * v := by unfold crI at g2; grind
    have w2 := weigh (p := h - az) (q := bz - az) (a := ax) (b := bx) hD' (by omega) (by omega)
    exact mul_pos_le hD' (by omega)
  by_cases g3 : az = h
  · have hp : p = 0 := by
      have : p * (bz - az) = 0 := by rw [hz, g3]; simp
      rcases Int.mul_eq_zero.1 this with h | h <;> omega
    subst hp
    have a1 : u ≤ ax := mul_pos_le hq (by omega)
    have a2 : ax ≤ v := mul_pos_le hq (by omega)
    refine meet_of_on3 ((on_iff h5 h7 h6 h7 h1 h2).2 ⟨?_, by omega, by omega, by omega, by omega⟩)
    unfold crI; rw [g3]; simp
  by_cases g4 : bz = h
  · have hp : p = q := by
      have e : (bz - az) * p = (bz - az) * q := by rw [Int.mul_comm, hz, ← g4, Int.mul_comm]
      exact mul_pos_eq hD' e
    subst hp
    have a1 : u ≤ bx := mul_pos_le hq (by grind)
    have a2 : bx ≤ v := mul_pos_le hq (by grind)
    refine meet_of_on4 ((on_iff h5 h7 h6 h7 h3 h4).2 ⟨?_, by omega, by omega, by omega, by omega⟩)
    unfold crI; rw [g4]; simp
  refine meet_of_crosses ((crosses_iff h1 h2 h3 h4 h5 h7 h6 h7).2 (Or.inr ⟨by omega, by omega⟩)) ((crosses_iff h5 h7 h6 h7 h1 h2 h3 h4).2 (Or.inl ?_))
  have huv' : u < v := by
    have e : crI ax az bx bz u h - crI ax az bx bz v h = (bz - az) * (v - u) := by unfold crI; grind
    have : 0 < (bz - az) * (v - u) := by omega
    have := mul_pos_lt hD' (a := 0) (b := v - u) (by omega)
    omega
  have e1 : crI u h v h ax az = - ((v - u) * (h - az)) := by unfold crI; grind
  have e2 : crI u h v h bx bz = (v - u) * (bz - h) := by unfold crI; grind
  have p1 : 0 < (v - u) * (h - az) := Int.mul_pos (by omega) (by omega)
  have p2 : 0 < (v - u) * (bz - h) := Int.mul_pos (by omega) (by omega)
  omega

/-- A segment along a side. -/
theorem hit_flat {u v p q : Int} (h5 : Rch u) (h6 : Rch v) (huv : u ≤ v) (hq : 0 < q) (hp0 : 0 ≤ p) (hp1 : p ≤ q) (hu : q * u ≤ q * ax + p * (bx - ax)) (hv : q * ax + p * (bx - ax) ≤ q * v) (hD : bz = az) :
    meetB ax az bx bz u az v az = true := by
  subst hD
  have w := weigh (a := ax) (b := bx) hq hp0 hp1
  have wl : u ≤ max ax bx := mul_pos_le hq (by omega)
  have wr : min ax bx ≤ v := mul_pos_le hq (by omega)
  by_cases g1 : min ax bx ≤ u
  · refine meet_of_on1 ((on_iff h1 h2 h3 h4 h5 h2).2 ⟨?_, g1, wl, by omega, by omega⟩)
    unfold crI; simp
  · by_cases g2 : ax ≤ bx
    · refine meet_of_on3 ((on_iff h5 h2 h6 h2 h1 h2).2 ⟨?_, by omega, by omega, by omega, by omega⟩)
      unfold crI; simp
    · refine meet_of_on4 ((on_iff h5 h2 h6 h2 h3 h4).2 ⟨?_, by omega, by omega, by omega, by omega⟩)
      unfold crI; simp
end

theorem hit {ax az bx bz : Int} (h1 : Rch ax) (h2 : Rch az) (h3 : Rch bx) (h4 : Rch bz) {u v h p q : Int} (h5 : Rch u) (h6 : Rch v) (h7 : Rch h) (huv : u ≤ v) (hq : 0 < q) (hp0 : 0 ≤ p) (hp1 : p ≤ q) (hz : p * (bz - az) = q * (h - az)) (hu : q * u ≤ q * ax + p * (bx - ax)) (hv : q * ax + p * (bx - ax) ≤ q * v) :
    meetB ax az bx bz u h v h = true := by
  rcases Int.lt_trichotomy az bz with hD | hD | hD
  · exact hit_up h1 h2 h3 h4 h5 h6 h7 huv hq hp0 hp1 hz hu hv hD
  · have e : h = az := by
      have : q * (h - az) = q * 0 := by rw [← hz, hD]; simp
      have := mul_pos_eq hq this
      omega
    rw [e]
    exact hit_flat h1 h2 h3 h4 h5 h6 huv hq hp0 hp1 hu hv hD.symm
  · have := hit_up h1 h2.neg h3 h4.neg h5 h6 h7.neg huv hq hp0 hp1 (h := -h) (p := p) (by grind) hu hv (by omega)
    rwa [meet_refl] at this

/-- The same for a side along z. -/
theorem hit' {ax az bx bz : Int} (h1 : Rch ax) (h2 : Rch az) (h3 : Rch bx) (h4 : Rch bz) {u v h p q : Int} (h5 : Rch u) (h6 : Rch v) (h7 : Rch h) (huv : u ≤ v) (hq : 0 < q) (hp0 : 0 ≤ p) (hp1 : p ≤ q) (hx : p * (bx - ax) = q * (h - ax)) (hu : q * u ≤ q * az + p * (bz - az)) (hv : q * az + p * (bz - az) ≤ q * v) :
    meetB ax az bx bz h u h v = true := by
  have := hit h2 h1 h4 h3 h5 h6 h7 huv hq hp0 hp1 hx hu hv
  rwa [meet_swap ax az bx bz h u h v] at this

end Go.Proofs.Ytgpjeijhbikjaaa
