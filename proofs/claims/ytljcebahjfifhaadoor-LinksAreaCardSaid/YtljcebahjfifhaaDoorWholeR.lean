/- Plain facts about roots, no program in sight: the root's floor and ceiling, that there is one alone. -/
import Derived.Test.YtljcebahjfifhaaDoorWholeM
namespace Go.Proofs.YtljcebahjfifhaaDoor
open Go.RowKit

theorem sq_mono {a b : Int} (h0 : 0 ≤ a) (h : a ≤ b) : a * a ≤ b * b := Int.mul_le_mul h h h0 (by omega)

theorem sq_lt_of {a b : Int} (hb : 0 ≤ b) (h : a * a < b * b) : a < b := by
  apply Decidable.byContradiction
  intro hn
  have := sq_mono hb (show b ≤ a by omega)
  omega

def IsRoot (n k : Int) : Prop := 0 ≤ k ∧ k * k ≤ n ∧ n < (k + 1) * (k + 1)

theorem isRoot_unique {n k k' : Int} (h : IsRoot n k) (h' : IsRoot n k') : k = k' := by
  obtain ⟨a, b, c⟩ := h
  obtain ⟨a', b', c'⟩ := h'
  have h1 : k < k' + 1 := sq_lt_of (by omega) (by omega)
  have h2 : k' < k + 1 := sq_lt_of (by omega) (by omega)
  omega

theorem exists_root : ∀ n : Nat, ∃ k : Int, IsRoot n k
  | 0 => ⟨0, by unfold IsRoot; omega⟩
  | n + 1 => by
    obtain ⟨k, a, b, c⟩ := exists_root n
    by_cases h : ((n + 1 : Nat) : Int) < (k + 1) * (k + 1)
    · exact ⟨k, a, by omega, h⟩
    · refine ⟨k + 1, by omega, by omega, ?_⟩
      have : (k + 1) * (k + 1) < (k + 1 + 1) * (k + 1 + 1) := by
        have e : (k + 1 + 1) * (k + 1 + 1) = (k + 1) * (k + 1) + (k + 1) + (k + 1) + 1 := by
          rw [Int.add_mul, Int.mul_add]; omega
        omega
      omega

noncomputable def rootI (n : Int) : Int := Classical.choose (exists_root n.toNat)

theorem rootI_is {n : Int} (h : 0 ≤ n) : IsRoot n (rootI n) := by
  have e : ((n.toNat : Nat) : Int) = n := by omega
  have h2 : IsRoot (n.toNat : Int) (rootI n) := Classical.choose_spec (exists_root n.toNat)
  rwa [e] at h2

theorem rootI_eq {n k : Int} (h : IsRoot n k) : k = rootI n :=
  isRoot_unique h (rootI_is (by obtain ⟨a, b, c⟩ := h; have := Int.mul_nonneg a a; omega))

noncomputable def upI (n : Int) : Int := if rootI n * rootI n < n then rootI n + 1 else rootI n

theorem upI_eq {n i : Int} (h0 : 0 ≤ n) (hi : 0 ≤ i) (h1 : n ≤ i * i) (h2 : 0 < i → (i - 1) * (i - 1) < n) : i = upI n := by
  obtain ⟨a, b, c⟩ := rootI_is h0
  unfold upI
  by_cases hz : i = 0
  · subst hz
    have : n = 0 := by omega
    subst this
    have hz2 := Int.mul_nonneg a a
    rw [if_neg (by omega)]
    apply Decidable.byContradiction
    intro hn
    have := sq_mono (a := 1) (b := rootI 0) (by omega) (by omega)
    omega
  · have h2 := h2 (by omega)
    have h3 : i - 1 < rootI n + 1 := sq_lt_of (by omega) (by omega)
    split
    · rename_i hlt
      have : rootI n < i := sq_lt_of (by omega) (by omega)
      omega
    · rename_i hge
      have e : rootI n * rootI n = n := by omega
      have h4 : i - 1 < rootI n := sq_lt_of a (by omega)
      have h5 : ¬ i < rootI n := by
        intro hlt
        have : i * i ≤ (rootI n - 1) * (rootI n - 1) := sq_mono hi (by omega)
        have e2 : (rootI n - 1) * (rootI n - 1) = rootI n * rootI n - rootI n - rootI n + 1 := by
          rw [Int.sub_mul, Int.mul_sub]; omega
        omega
      omega

theorem rootI_bd {n : Int} (h : 0 ≤ n) (h2 : n ≤ 2305843009213693952) : 0 ≤ rootI n ∧ rootI n < 2147483648 := by
  obtain ⟨a, b, c⟩ := rootI_is h
  exact ⟨a, sq_lt_of (by omega) (by omega)⟩

theorem sq_bd {k : Int} (h : 0 ≤ k) (h2 : k ≤ 2147483648) : 0 ≤ k * k ∧ k * k ≤ 4611686018427387904 :=
  ⟨Int.mul_nonneg h h, by have := sq_mono h h2; omega⟩

end Go.Proofs.YtljcebahjfifhaaDoor
