/- Layer 8: facts for the law that the order of pieces does not matter. Plain. -/
import Derived.Test.YtekdajoglekejaaSpS
import Derived.Test.YtekdajoglekejaaSpV
namespace Go.Proofs.Ytekdajoglekejaa
open Go.RowKit
set_option linter.unusedVariables false

theorem fst_perm {f : Sn → Bool} {l m : List Sn} (h : m.Perm l) : fstB f m = fstB f l := by
  unfold fstB
  rw [Bool.eq_iff_iff, List.any_eq_true, List.any_eq_true]
  exact ⟨fun ⟨x, hx, k⟩ => ⟨x, h.mem_iff.1 hx, k⟩, fun ⟨x, hx, k⟩ => ⟨x, h.mem_iff.2 hx, k⟩⟩
theorem MR.perm {l m R : List Sn} {r : Int} (h : MR m R r) (hp : m.Perm l) : MR l R r := by
  rcases h with ⟨a, b⟩ | ⟨a, b, c⟩
  · exact .inl ⟨by rw [← fst_perm hp]; exact a, b⟩
  · exact .inr ⟨by rw [← fst_perm hp]; exact a, b.congr fun p => (hp.mem_iff).symm, c⟩
/-- All pieces may be. -/
def Fine (l : List Sn) : Prop := ∀ p ∈ l, -2048 ≤ p.lo ∧ p.lo ≤ p.hi ∧ p.hi ≤ 2048
theorem Fine.bad {l : List Sn} (h : Fine l) : fstB badS l = false := by
  unfold fstB
  rw [List.any_eq_false]
  intro p hp
  rw [(badS_not p).2 (h p hp)]; simp
theorem Fine.proper {l : List Sn} (h : Fine l) : Proper l := fun p hp => (h p hp).2.1
theorem IsM.fine {l R : List Sn} (h : IsM l R) (hb : Fine l) : Fine R := fun r hr => by
  obtain ⟨p, hp, q⟩ := h.low r hr
  have := hb p hp
  have f := h.fit r hr
  refine ⟨by omega, f, ?_⟩
  by_cases e : r.lo < r.hi
  · obtain ⟨u, hu, u1, u2⟩ := h.cov r hr (r.hi - 1) (by omega) (by omega)
    have := hb u hu
    omega
  · omega
theorem MR.is {l R : List Sn} {r : Int} (h : MR l R r) (hb : Fine l) : IsM l R ∧ r = 0 := by
  rcases h with ⟨a, b⟩ | ⟨a, b, c⟩
  · rw [hb.bad] at a; cases a
  · exact ⟨b, c⟩
theorem MR.ok {l R : List Sn} {r : Int} (h : MR l R r) (h0 : r = 0) : IsM l R ∧ Fine l := by
  rcases h with ⟨a, b, c⟩ | ⟨a, b, c⟩
  · omega
  · exact ⟨b, not_bad a⟩
theorem MR.two {l R : List Sn} {r : Int} (h : MR l R r) : r = 0 ∨ r = 2 := by
  rcases h with ⟨a, b, c⟩ | ⟨a, b, c⟩
  · exact .inr c
  · exact .inl c
/-- The cut that the law makes of any number. -/
theorem cut_of (c : Int) (n : Nat) (h1 : n ≤ 60) : IntKind.i64.wrap (c.tmod ((n : Int) + 1) + ((n : Int) + 1)) = c.tmod ((n : Int) + 1) + ((n : Int) + 1) ∧ ∃ k : Nat, k ≤ n ∧ (c.tmod ((n : Int) + 1) + ((n : Int) + 1)).tmod ((n : Int) + 1) = (k : Int) := by
  have hp : (0 : Int) < (n : Int) + 1 := by omega
  have a := Int.tmod_lt_of_pos c hp
  have b := Int.lt_tmod_of_pos c hp
  have e := Int.tmod_eq_emod_of_nonneg (show 0 ≤ c.tmod ((n : Int) + 1) + ((n : Int) + 1) by omega) (b := (n : Int) + 1)
  have f := Int.emod_nonneg (c.tmod ((n : Int) + 1) + ((n : Int) + 1)) (show (n : Int) + 1 ≠ 0 by omega)
  have g := Int.emod_lt_of_pos (c.tmod ((n : Int) + 1) + ((n : Int) + 1)) hp
  refine ⟨?_, ((c.tmod ((n : Int) + 1) + ((n : Int) + 1)).tmod ((n : Int) + 1)).toNat, by omega, by omega⟩
  rw [IntKind.wrap_i64]
  omega
/-- Of spans one at most has a height. -/
theorem sep_count {R : List Sn} (h : Sep R) (y : Int) : R.countP (hasS y) = if fstB (hasS y) R = true then 1 else 0 := by
  induction R with
  | nil => rfl
  | cons x R ih =>
    have hc := List.pairwise_cons.1 h
    have := ih hc.2
    rw [List.countP_cons, this]
    unfold fstB
    rw [List.any_cons]
    cases hx : hasS y x
    · simp
    · have : R.any (hasS y) = false := by
        rw [List.any_eq_false]
        intro p hp
        have := hc.1 p hp
        have k := (hasS_iff y x).1 hx
        intro q
        have := (hasS_iff y p).1 q
        omega
      rw [this]; simp
theorem count_succ {α : Type} (f : α → Bool) (l : List α) (k : Nat) (h : k < l.length) : (l.take (k + 1)).countP f = (l.take k).countP f + (if f l[k] = true then 1 else 0) := by
  rw [List.take_succ_eq_append_getElem h, List.countP_append]
  simp [List.countP_cons]

end Go.Proofs.Ytekdajoglekejaa
