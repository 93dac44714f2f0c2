/- Package cells: every column that is met is told; points of the segment lie in columns that are told. No walk. -/
import Derived.Test.YtmpkciidhopckaaCellsT
import Derived.Test.YtmpkciidhopckaaCellsR
namespace Go.Proofs.Ytmpkciidhopckaa
open Go.RowKit Go.Sort
set_option linter.unusedVariables false

theorem stay_range {p q : Nat} {n : Int} (h : (stayI p q n).ok = true) : 2 * n ≤ max p q ∧ (min p q : Int) ≤ 2 * n + 2 := by
  unfold stayI at h
  split at h
  · split at h
    · simp at h
    · omega
  · split at h
    · simp at h
    · omega

theorem meet_ok {ax az bx bz x z : Int} {m : Met} (h : meetO ax az bx bz x z = some m) : validB ax az bx bz x z = true ∧ (stayI ax bx x).ok = true ∧ (stayI az bz z).ok = true := by
  unfold meetO at h
  split at h
  · rename_i hv
    refine ⟨hv, ?_⟩
    unfold meetI at h
    simp only [] at h
    by_cases hc : (stayI ax bx x).ok = true ∧ (stayI az bz z).ok = true
    · exact hc
    · rw [if_neg (fun hh => hc ⟨hh.1, hh.2.1⟩)] at h
      cases h
  · cases h

/-- Every column that is met is told. -/
theorem met_mem {ax az bx bz : Nat} {x z : Int} {c : Col} (h : colO ax az bx bz x z = some c) : c ∈ cellsL ax az bx bz := by
  have hm := (colO_iff.1 h).2.2
  obtain ⟨_, o1, o2⟩ := meet_ok hm
  have r1 := stay_range o1
  have r2 := stay_range o2
  rw [(cellsL_perm _ _ _ _).mem_iff]
  unfold metL
  refine mem_grid.2 ⟨(z - ((((min az bz + 1) / 2 : Nat) : Int) - 1)).toNat, by omega, (x - ((((min ax bx + 1) / 2 : Nat) : Int) - 1)).toNat, by omega, ?_⟩
  rw [← h]
  congr 1 <;> omega

/-- Does a column hold a point? -/
def holdsB (x z px pz : Int) : Bool := decide (2 * x ≤ px) && decide (px ≤ 2 * x + 2) && decide (2 * z ≤ pz) && decide (pz ≤ 2 * z + 2)
theorem holds_in {p q n k m t : Int} (hm : 0 < m) (ht : t * m = p * m + (q - p) * k) : InAx p q n k m ↔ 2 * n ≤ t ∧ t ≤ 2 * n + 2 := by
  unfold InAx
  rw [← ht]
  constructor
  · rintro ⟨a, b⟩
    exact ⟨Int.le_of_mul_le_mul_right a hm, Int.le_of_mul_le_mul_right b hm⟩
  · rintro ⟨a, b⟩
    exact ⟨Int.mul_le_mul_of_nonneg_right a (by omega), Int.mul_le_mul_of_nonneg_right b (by omega)⟩

theorem lessK {a b c d : Nat} (ha : a ≤ 1000) (hb : 0 < b ∧ b ≤ 1000) (hc : c ≤ 1000) (hd : 0 < d ∧ d ≤ 1000) : lessB a b c d = decide (a * d < c * b) := by
  unfold lessB ltR
  rw [ratB_iff.2 (by omega), ratB_iff.2 (by omega)]
  simp only [Bool.true_and]
  exact decide_eq_decide.2 (by rw [← Int.natCast_mul, ← Int.natCast_mul]; omega)

/-- Of a column that is told: the share lies within its own just if it holds the point. -/
theorem hold_iff {ax az bx bz : Nat} {c : Col} (hc : c ∈ cellsL ax az bx bz) {k n : Nat} (hn : 0 < n) (hn2 : n ≤ 100) (hk : k ≤ n) {px pz : Int} (hx : px * n = ax * n + ((bx : Int) - ax) * k) (hz : pz * n = az * n + ((bz : Int) - az) * k) :
    (!lessB k n c.m.fn c.m.fd && !lessB c.m.ln c.m.ld k n) = holdsB c.x c.z px pz := by
  have hm := (colO_iff.1 (cellsL_mem hc)).2.2
  obtain ⟨hv, _, _⟩ := meet_ok hm
  have hs := meet_spec hv hn hk
  rw [hm, holds_in (by omega) hx, holds_in (by omega) hz] at hs
  have g := c.ok
  unfold Good at g
  rw [lessK (by omega) (by omega) (by omega) (by omega), lessK (by omega) (by omega) (by omega) (by omega)]
  unfold holdsB
  rw [Bool.eq_iff_iff]
  simp only [Bool.and_eq_true, Bool.not_eq_true', decide_eq_false_iff_not, decide_eq_true_eq]
  constructor
  · rintro ⟨a, b⟩
    have := hs.2 ⟨c.m, rfl, by omega, by omega⟩
    omega
  · intro h
    obtain ⟨m, e, a, b⟩ := hs.1 (by omega)
    injection e with e
    subst e
    omega

/-- The point lies in some column that is told. -/
theorem hold_some {ax az bx bz : Nat} (ha : ax ≤ 64 ∧ az ≤ 64) (hb : bx ≤ 64 ∧ bz ≤ 64) {k n : Nat} (hn : 0 < n) (hk : k ≤ n) {px pz : Int} (hx : px * n = ax * n + ((bx : Int) - ax) * k) (hz : pz * n = az * n + ((bz : Int) - az) * k) :
    ∃ c ∈ cellsL ax az bx bz, holdsB c.x c.z px pz = true := by
  have bd : ∀ (p q : Nat) (t : Int), p ≤ 64 → q ≤ 64 → t * n = p * n + ((q : Int) - p) * k → 0 ≤ t ∧ t ≤ 64 := fun p q t hp hq e => by
    have n0 : (0 : Int) < n := by omega
    have e1 : (0 : Int) ≤ (p : Int) * (n - k) := Int.mul_nonneg (by omega) (by omega)
    have e2 : (0 : Int) ≤ (q : Int) * k := Int.mul_nonneg (by omega) (by omega)
    have e3 : (0 : Int) ≤ (64 - (p : Int)) * (n - k) := Int.mul_nonneg (by omega) (by omega)
    have e4 : (0 : Int) ≤ (64 - (q : Int)) * k := Int.mul_nonneg (by omega) (by omega)
    have e5 : (0 : Int) * n ≤ t * n := by grind
    have e6 : t * n ≤ 64 * n := by grind
    exact ⟨Int.le_of_mul_le_mul_right e5 n0, Int.le_of_mul_le_mul_right e6 n0⟩
  have b1 := bd ax bx px ha.1 hb.1 hx
  have b2 := bd az bz pz ha.2 hb.2 hz
  have hv : validB ax az bx bz (px / 2) (pz / 2) = true := by
    unfold validB
    rw [ptB_iff.2 (by omega), ptB_iff.2 (by omega), witB_iff.2 (by omega), witB_iff.2 (by omega)]
    rfl
  have hs := meet_spec hv hn hk
  rw [holds_in (by omega) hx, holds_in (by omega) hz] at hs
  obtain ⟨m, hm, _⟩ := hs.1 (by omega)
  refine ⟨_, met_mem (colO_some hm), ?_⟩
  unfold holdsB
  simp only [Bool.and_eq_true, decide_eq_true_eq]
  omega

end Go.Proofs.Ytmpkciidhopckaa
