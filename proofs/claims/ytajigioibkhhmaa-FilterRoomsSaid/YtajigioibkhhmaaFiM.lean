/- The law FilterRooms: plain facts of rooms. -/
import Derived.Test.YtajigioibkhhmaaFiC
import Derived.Test.YtajigioibkhhmaaSpX0
namespace Go.Proofs.Ytajigioibkhhmaa
open Go.RowKit
set_option linter.unusedVariables false

theorem roof_over {l : List Sn} (h : spE l = 0) {i : Nat} (hi : i < l.length) : -2048 ≤ l[i].lo ∧ l[i].lo ≤ l[i].hi ∧ l[i].hi ≤ 2048 ∧ l[i].hi < roofF l i ∧ roofF l i ≤ 1048576 := by
  obtain ⟨h1, h2, h3⟩ := chkE_zero h
  obtain ⟨a, b, c⟩ := h2 l[i] (List.getElem_mem hi)
  refine ⟨a, b, c, ?_⟩
  by_cases hn : i + 1 < l.length
  · rw [roofF_mid hn]
    have h4 := List.pairwise_iff_getElem.1 h3 i (i + 1) hi hn (by omega)
    have h5 := h2 l[i + 1] (List.getElem_mem hn)
    omega
  · rw [roofF_last (by omega)]
    omega
/-- Where the room of the span ahead ends. -/
def lastF (l : List Sn) (i : Nat) : Int := match i with
  | 0 => -1048576
  | j + 1 => roofF l j
theorem last_le {l : List Sn} (h : spE l = 0) {i : Nat} (hi : i < l.length) : lastF l i ≤ l[i].hi := by
  obtain ⟨a, b, c, -⟩ := roof_over h hi
  cases i with
  | zero => show (-1048576 : Int) ≤ _; omega
  | succ j => show roofF l j ≤ _; rw [roofF_mid hi]; omega

/-- A span more gives no room but above itself. -/
theorem roof_put {l R : List Sn} {s : Sn} (h : PR l s R 0) : spE l = 0 ∧ spE R = 0 ∧ R.length ≤ 8 ∧ ∀ i (hi : i < R.length) k (hk : k < l.length), l[k].hi = R[i].hi → roofF R i ≤ roofF l k := by
  rcases h with ⟨_, _, e⟩ | ⟨a, b, Q, q, ⟨_, _, e⟩ | ⟨c1, c2, _⟩⟩
  · omega
  · omega
  · subst c2
    have hb : ∀ p ∈ l ++ [s], -2048 ≤ p.lo ∧ p.lo ≤ p.hi ∧ p.hi ≤ 2048 := fun p hp' => by
      rcases List.mem_append.1 hp' with k | k
      · exact (chkE_zero a).2.1 p k
      · rw [List.mem_singleton] at k; subst k; exact (badS_not _).1 b
    have hR := chk_of q hb c1
    refine ⟨a, hR, c1, fun i hi k hk he => ?_⟩
    by_cases hn : k + 1 < l.length
    · rw [roofF_mid hn]
      obtain ⟨r, hr, r1, r2⟩ := q.isin l[k + 1] (List.mem_append_left _ (List.getElem_mem hn))
      obtain ⟨j, hj, rfl⟩ := List.getElem_of_mem hr
      have h4 := List.pairwise_iff_getElem.1 (chkE_zero a).2.2 k (k + 1) hk hn (by omega)
      have h5 := (chkE_zero a).2.1 l[k + 1] (List.getElem_mem hn)
      have hij : i < j := by
        rcases Nat.lt_trichotomy i j with g | g | g
        · exact g
        · subst g; omega
        · have := List.pairwise_iff_getElem.1 q.sep j i hj hi g
          have := (chkE_zero hR).2.1 R[i] (List.getElem_mem hi)
          omega
      have hi1 : i + 1 < R.length := by omega
      rw [roofF_mid hi1]
      by_cases g : i + 1 = j
      · subst g; exact r1
      · have h6 := List.pairwise_iff_getElem.1 q.sep (i + 1) j hi1 hj (by omega)
        have h7 := (chkE_zero hR).2.1 R[i + 1] (List.getElem_mem hi1)
        omega
    · rw [roofF_last (l := l) (by omega)]
      exact (roof_over hR hi).2.2.2.2

end Go.Proofs.Ytajigioibkhhmaa
