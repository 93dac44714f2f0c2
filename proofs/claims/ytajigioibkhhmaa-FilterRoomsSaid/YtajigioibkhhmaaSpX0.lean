/- Layer 8: what Put answers, told of one row and one number. -/
import Derived.Test.YtajigioibkhhmaaSpRd
namespace Go.Proofs.Ytajigioibkhhmaa
open Go.RowKit
set_option linter.unusedVariables false

def PR (l : List Sn) (s : Sn) (R : List Sn) (r : Int) : Prop := ((spE l = 2 ∨ badS s = true) ∧ R = [] ∧ r = 2) ∨ (spE l = 0 ∧ badS s = false ∧ ∃ Q, IsM (l ++ [s]) Q ∧ ((8 < Q.length ∧ R = [] ∧ r = 51) ∨ (Q.length ≤ 8 ∧ R = Q ∧ r = 0)))
theorem PR.proper {l : List Sn} {s : Sn} (h1 : spE l = 0) (h2 : badS s = false) : Proper (l ++ [s]) := fun p hp => by
  rcases List.mem_append.1 hp with k | k
  · exact ((chkE_zero h1).2.1 p k).2.1
  · rw [List.mem_singleton] at k; subst k; exact ((badS_not _).1 h2).2.1
theorem PR.uniq {l R R' : List Sn} {s : Sn} {r r' : Int} (h : PR l s R r) (h' : PR l s R' r') : R = R' ∧ r = r' := by
  rcases h with ⟨a, b, c⟩ | ⟨a, b, Q, q, c⟩ <;> rcases h' with ⟨a', b', c'⟩ | ⟨a', b', Q', q', c'⟩
  · exact ⟨b.trans b'.symm, c.trans c'.symm⟩
  · rcases a with a | a
    · omega
    · rw [a] at b'; cases b'
  · rcases a' with a' | a'
    · omega
    · rw [b] at a'; cases a'
  · have e := q.uniq (PR.proper a b) q' (fun p => Iff.rfl)
    subst e
    rcases c with ⟨c1, c2, c3⟩ | ⟨c1, c2, c3⟩ <;> rcases c' with ⟨d1, d2, d3⟩ | ⟨d1, d2, d3⟩
    · exact ⟨c2.trans d2.symm, c3.trans d3.symm⟩
    · omega
    · omega
    · exact ⟨c2.trans d2.symm, c3.trans d3.symm⟩
theorem Putted.flat {l : List Sn} {s : Sn} {w w' : World} {e : Ending} (h : Putted l s w e w') : New w w' ∧ ∃ (R : List Sn) (a : Option Addr) (c : Nat) (r : Int), PR l s R r ∧ R.length ≤ 8 ∧ e = .returned (.tuple #[.slice a R.length c, .int .i64 r]) ∧ Sl Sn.enc 3 w' (.slice a R.length c) R := by
  obtain ⟨hn, ⟨h1, h2⟩ | ⟨h1, h2, R, h3, ⟨h4, h5⟩ | ⟨h4, a, c, h5, h6⟩⟩⟩ := h
  · exact ⟨hn, [], none, 0, 2, .inl ⟨h1, rfl, rfl⟩, by simp, h2, Sl.nil⟩
  · exact ⟨hn, [], none, 0, 51, .inr ⟨h1, h2, R, h3, .inl ⟨h4, rfl, rfl⟩⟩, by simp, h5, Sl.nil⟩
  · exact ⟨hn, R, a, c, 0, .inr ⟨h1, h2, R, h3, .inr ⟨h4, rfl, rfl⟩⟩, h4, h5, h6⟩
theorem chk_of {l R : List Sn} (h : IsM l R) (hb : ∀ p ∈ l, -2048 ≤ p.lo ∧ p.lo ≤ p.hi ∧ p.hi ≤ 2048) (h8 : R.length ≤ 8) : spE R = 0 := by
  refine chkE_fine h8 ?_ fun i hi => List.pairwise_iff_getElem.1 h.sep i (i + 1) (by omega) hi (by omega)
  unfold fstB
  rw [List.any_eq_false]
  intro r hr
  rw [(badS_not r).2 ?_]
  · simp
  · obtain ⟨p, hp, q⟩ := h.low r hr
    have := hb p hp
    have f := h.fit r hr
    refine ⟨by omega, f, ?_⟩
    by_cases e : r.lo < r.hi
    · obtain ⟨u, hu, u1, u2⟩ := h.cov r hr (r.hi - 1) (by omega) (by omega)
      have := hb u hu
      omega
    · omega

end Go.Proofs.Ytajigioibkhhmaa
