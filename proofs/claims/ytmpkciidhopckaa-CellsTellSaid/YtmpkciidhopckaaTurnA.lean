/- Package cells: the turned segment meets the same columns; each column but the first shares a point with one ahead. No walk. -/
import Derived.Test.YtmpkciidhopckaaCellsV
namespace Go.Proofs.Ytmpkciidhopckaa
open Go.RowKit Go.Sort
set_option linter.unusedVariables false

theorem inax_turn {p q n k m : Int} : InAx p q n k m ↔ InAx q p n (m - k) m := by
  unfold InAx
  rw [show q * m + (p - q) * (m - k) = p * m + (q - p) * k by grind]

theorem valid_comm (ax az bx bz x z : Int) : validB ax az bx bz x z = validB bx bz ax az x z := by
  unfold validB; rw [Bool.and_comm (ptB ax az)]

theorem met_le {ax az bx bz x z : Int} {m : Met} (h : meetO ax az bx bz x z = some m) : m.fn ≤ m.fd ∧ 0 < m.fd ∧ 0 < m.ld ∧ m.fn * m.ld ≤ m.ln * m.fd ∧ m.ln ≤ m.ld ∧ m.fd ≤ 64 ∧ m.ld ≤ 64 := by
  have g := meetO_good h
  have mo := meetO_more h
  unfold Good at g
  have h1 : m.fn * m.ld ≤ m.fd * m.ld := by
    have := Nat.mul_le_mul_right m.fd mo.1
    rw [Nat.mul_comm m.fd m.ld]; omega
  exact ⟨Nat.le_of_mul_le_mul_right h1 g.2.2.2.2.2.1, by omega, by omega, mo.2, mo.1, by omega, by omega⟩

theorem meet_turn1 {ax az bx bz x z : Int} {c : Met} (h : meetO ax az bx bz x z = some c) : (meetO bx bz ax az x z).isSome = true := by
  obtain ⟨hv, _, _⟩ := meet_ok h
  obtain ⟨h1, h2, h3, h4, _⟩ := met_le h
  have hs := (meet_spec hv h2 h1).2 ⟨c, h, Nat.le_refl _, h4⟩
  rw [inax_turn (p := ax), inax_turn (p := az)] at hs
  have hv' : validB bx bz ax az x z = true := by rw [← valid_comm]; exact hv
  have hk : ((c.fd - c.fn : Nat) : Int) = (c.fd : Int) - c.fn := by omega
  rw [← hk] at hs
  obtain ⟨d, hd, _⟩ := (meet_spec hv' (k := c.fd - c.fn) h2 (by omega)).1 hs
  rw [hd]; rfl

theorem meet_turn (ax az bx bz x z : Int) : (meetO ax az bx bz x z).isSome = (meetO bx bz ax az x z).isSome := by
  cases h : meetO ax az bx bz x z with
  | none =>
    cases k : meetO bx bz ax az x z with
    | none => rfl
    | some d => have := meet_turn1 k; rw [h] at this; cases this
  | some c => rw [meet_turn1 h]; rfl

def Col.key (c : Col) : Int × Int := (c.x, c.z)

theorem colO_key (ax az bx bz x z : Int) : (colO ax az bx bz x z).map Col.key = (colO bx bz ax az x z).map Col.key := by
  have ht := meet_turn ax az bx bz x z
  cases h : meetO ax az bx bz x z with
  | none =>
    cases k : meetO bx bz ax az x z with
    | none => rw [colO_none h, colO_none k]
    | some d => rw [h, k] at ht; cases ht
  | some c =>
    cases k : meetO bx bz ax az x z with
    | none => rw [h, k] at ht; cases ht
    | some d => rw [colO_some h, colO_some k]; rfl

theorem row_key (ax az bx bz x0 z : Int) (k : Nat) : (rowL ax az bx bz x0 z k).map Col.key = (rowL bx bz ax az x0 z k).map Col.key := by
  unfold rowL
  rw [List.map_filterMap, List.map_filterMap]
  congr 1
  funext i
  exact colO_key _ _ _ _ _ _
theorem grid_key (ax az bx bz x0 z0 : Int) (kx k : Nat) : (gridL ax az bx bz x0 z0 kx k).map Col.key = (gridL bx bz ax az x0 z0 kx k).map Col.key := by
  unfold gridL
  rw [List.map_flatMap, List.map_flatMap]
  congr 1
  funext j
  exact row_key _ _ _ _ _ _ _
theorem met_key (ax az bx bz : Nat) : (metL ax az bx bz).map Col.key = (metL bx bz ax az).map Col.key := by
  unfold metL
  rw [Nat.min_comm bx ax, Nat.max_comm bx ax, Nat.min_comm bz az, Nat.max_comm bz az]
  exact grid_key _ _ _ _ _ _ _ _
theorem cells_key (ax az bx bz : Nat) : ((cellsL ax az bx bz).map Col.key).Perm ((cellsL bx bz ax az).map Col.key) := by
  refine ((cellsL_perm ax az bx bz).map _).trans ?_
  rw [met_key]
  exact ((cellsL_perm bx bz ax az).map _).symm

/-- One axis: a column in which the way is at a share, and just ahead of it. -/
theorem ax_back {p q k m : Nat} (hp : p ≤ 64) (hq : q ≤ 64) (hk : 1 ≤ k) (hkm : k ≤ m) : ∃ n : Int, -1 ≤ n ∧ n ≤ 32 ∧ InAx p q n k m ∧ InAx p q n ((64 * k - 1 : Nat) : Int) ((64 * m : Nat) : Int) := by
  have m0 : (0 : Int) < 2 * (m : Int) := by omega
  have e0 : ((64 * k - 1 : Nat) : Int) = 64 * (k : Int) - 1 := by omega
  have e1 : ((64 * m : Nat) : Int) = 64 * (m : Int) := by omega
  rw [e0, e1]
  clear e0 e1
  have x1 : (0 : Int) ≤ (p : Int) * (m - k) := Int.mul_nonneg (by omega) (by omega)
  have x2 : (0 : Int) ≤ (q : Int) * k := Int.mul_nonneg (by omega) (by omega)
  have x3 : (0 : Int) ≤ (64 - (p : Int)) * (m - k) := Int.mul_nonneg (by omega) (by omega)
  have x4 : (0 : Int) ≤ (64 - (q : Int)) * k := Int.mul_nonneg (by omega) (by omega)
  obtain ⟨X, hX⟩ : ∃ X : Int, X = (p : Int) * m + ((q : Int) - p) * k := ⟨_, rfl⟩
  have X0 : 0 ≤ X := by rw [hX]; grind
  have X1 : X ≤ 64 * m := by rw [hX]; grind
  have lo : ∀ n : Int, 0 ≤ 2 * (m : Int) * (n + 1) → -1 ≤ n := fun n h => by
    rcases Int.lt_or_le n (-1) with h2 | h2
    · have := Int.mul_lt_mul_of_pos_left (show n + 1 < 0 by omega) m0
      omega
    · exact h2
  have hi : ∀ n : Int, 2 * (m : Int) * n ≤ 64 * m → n ≤ 32 := fun n h => by
    have : 2 * (m : Int) * n ≤ 2 * (m : Int) * 32 := by omega
    exact Int.le_of_mul_le_mul_left this m0
  rcases Nat.lt_or_ge p q with h | h
  · have d1 := Int.mul_ediv_add_emod (X - 1) (2 * (m : Int))
    have d2 := Int.emod_nonneg (X - 1) (show 2 * (m : Int) ≠ 0 by omega)
    have d3 := Int.emod_lt_of_pos (X - 1) m0
    generalize (X - 1) / (2 * (m : Int)) = n at *
    refine ⟨n, lo n (by grind), hi n (by omega), ?_, ?_⟩
    · unfold InAx; rw [← hX]; constructor <;> grind
    · unfold InAx; constructor <;> grind
  · have d1 := Int.mul_ediv_add_emod X (2 * (m : Int))
    have d2 := Int.emod_nonneg X (show 2 * (m : Int) ≠ 0 by omega)
    have d3 := Int.emod_lt_of_pos X m0
    generalize X / (2 * (m : Int)) = n at *
    refine ⟨n, lo n (by grind), hi n (by omega), ?_, ?_⟩
    · unfold InAx; rw [← hX]; constructor <;> grind
    · unfold InAx; constructor <;> grind

end Go.Proofs.Ytmpkciidhopckaa
