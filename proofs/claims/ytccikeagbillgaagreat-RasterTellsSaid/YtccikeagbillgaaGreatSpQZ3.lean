import Derived.Test.YtccikeagbillgaaGreatSpBZ3
import Derived.Deep.DeepCutAuto
import Derived.Test.YtccikeagbillgaaGreatSpAZ3
import Derived.Test.YtccikeagbillgaaGreatWholeMZ3
import Derived.Deep.LoopGhost
import Derived.Test.YtccikeagbillgaaGreatSpMZ3
import Derived.Test.YtccikeagbillgaaGreatTriDZ3

/- Package spans: Check. -/
namespace Go.Proofs.YtccikeagbillgaaGreat
open Go.RowKit
set_option linter.unusedVariables false

/-- Each above the one ahead of it. -/
def sepB (l : List Sn) : Bool := (List.range (l.length - 1)).all fun i => decide ((l[i]!).hi < (l[i + 1]!).lo)
theorem sepB_iff (l : List Sn) : sepB l = true ↔ ∀ i (h : i + 1 < l.length), l[i].hi < l[i + 1].lo := by
  unfold sepB
  rw [List.all_eq_true]
  constructor
  · intro h i hi
    have := h i (List.mem_range.2 (by omega))
    rw [getElem!_pos l i (by omega), getElem!_pos l (i + 1) hi] at this
    exact of_decide_eq_true this
  · intro h i hi
    have hi' := List.mem_range.1 hi
    rw [getElem!_pos l i (by omega), getElem!_pos l (i + 1) (by omega)]
    exact decide_eq_true (h i (by omega))
def chkB (l : List Sn) : Bool := decide (l.length ≤ 8) && !fstB badS l && sepB l
def spE (l : List Sn) : Int := if chkB l = true then 0 else 2
theorem chkE_long {l : List Sn} (h : 8 < l.length) : spE l = 2 := by
  have : decide (l.length ≤ 8) = false := decide_eq_false (by omega)
  unfold spE chkB; simp [this]
theorem chkE_bad {l : List Sn} (h : fstB badS l = true) : spE l = 2 := by unfold spE chkB; simp [h]
theorem chkE_meet {l : List Sn} (i : Nat) (h : i + 1 < l.length) (hm : l[i + 1].lo ≤ l[i].hi) : spE l = 2 := by
  have : sepB l = false := by
    cases hs : sepB l
    · rfl
    · have := (sepB_iff l).1 hs i h; omega
  unfold spE chkB; simp [this]
theorem chkE_fine {l : List Sn} (h : l.length ≤ 8) (hb : fstB badS l = false) (hs : ∀ i (h : i + 1 < l.length), l[i].hi < l[i + 1].lo) : spE l = 0 := by
  have h1 : decide (l.length ≤ 8) = true := decide_eq_true h
  unfold spE chkB; simp [h1, hb, (sepB_iff l).2 hs]
theorem chkE_two (l : List Sn) : spE l = 0 ∨ spE l = 2 := by unfold spE; split <;> simp
theorem chkE_zero {l : List Sn} (h : spE l = 0) : l.length ≤ 8 ∧ (∀ p ∈ l, -2048 ≤ p.lo ∧ p.lo ≤ p.hi ∧ p.hi ≤ 2048) ∧ Sep l := by
  unfold spE at h
  split at h
  · rename_i hc
    unfold chkB at hc
    simp only [Bool.and_eq_true, decide_eq_true_eq, Bool.not_eq_true'] at hc
    obtain ⟨⟨h1, h2⟩, h3⟩ := hc
    have hp : ∀ p ∈ l, -2048 ≤ p.lo ∧ p.lo ≤ p.hi ∧ p.hi ≤ 2048 := fun p hp => by
      unfold fstB at h2
      rw [List.any_eq_false] at h2
      have := h2 p hp
      exact (badS_not p).1 (by cases hb : badS p; rfl; exact absurd hb this)
    refine ⟨h1, hp, ?_⟩
    have hs := (sepB_iff l).1 h3
    unfold Sep
    rw [List.pairwise_iff_getElem]
    intro i j hi hj hij
    have key : ∀ n : Nat, (hn : i + 1 + n < l.length) → l[i].hi < l[i + 1 + n].lo := by
      intro n
      induction n with
      | zero => intro hn; exact hs i hn
      | succ n ih =>
        intro hn
        have h1 := ih (by omega)
        have h2 := hs (i + 1 + n) hn
        have h3 := (hp l[i + 1 + n] (List.getElem_mem _)).2.1
        have e : i + 1 + (n + 1) = i + 1 + n + 1 := by omega
        simp only [e]
        omega
    have := key (j - i - 1) (by omega)
    have e : i + 1 + (j - i - 1) = j := by omega
    simp only [e] at this
    exact this
  · omega

end Go.Proofs.YtccikeagbillgaaGreat

/- The library's Equal, of slices of a kind. -/
namespace Go.Proofs.YtccikeagbillgaaGreat
open Go.RowKit
set_option linter.unusedVariables false

def Sn.allEq : List Sn → List Sn → Bool
  | [], [] => true
  | a :: l, b :: m => a.eqB b && Sn.allEq l m
  | _, _ => false
theorem Sn.allEq_iff : ∀ l m : List Sn, Sn.allEq l m = true ↔ l = m
  | [], [] => by simp [Sn.allEq]
  | [], _ :: _ => by simp [Sn.allEq]
  | _ :: _, [] => by simp [Sn.allEq]
  | a :: l, b :: m => by simp [Sn.allEq, Sn.eqB_iff, Sn.allEq_iff l m]

set_option maxHeartbeats 4000000 in
theorem sn_neq (w : World) (a b : Sn) : (binOp .neq 48 (.agg #[.int .i64 a.lo, .int .i64 a.hi, .bool a.wk]) (.agg #[.int .i64 b.lo, .int .i64 b.hi, .bool b.wk])).run Tryz.prog w = .ok (.bool (!a.eqB b)) w := by
  obtain ⟨a0, a1, a2⟩ := a
  obtain ⟨b0, b1, b2⟩ := b
  unfold Sn.eqB
  cases h0 : (a0 == b0)
  · go_simp
  · skip
    cases h1 : (a1 == b1)
    · go_simp
    · skip
      cases h2 : (a2 == b2)
      · go_simp
      · go_simp

end Go.Proofs.YtccikeagbillgaaGreat

/- Package spans: Put, Same. -/
namespace Go.Proofs.YtccikeagbillgaaGreat
open Go.RowKit
set_option linter.unusedVariables false

theorem sn_part2 {w : World} {B c d : Nat} {a b : Option Addr} {l m : List Sn} (h : w.cell? ⟨B, 0, none⟩ = some (.slice a l.length c)) (hs : Sl Sn.enc 3 w (.slice a l.length c) l) (h' : w.cell? ⟨B, 1, none⟩ = some (.slice b m.length d)) (hs' : Sl Sn.enc 3 w (.slice b m.length d) m) : PartsAt Sn.enc 3 w B [⟨a, l, c⟩, ⟨b, m, d⟩] := fun j hj => by
  rcases (show j = 0 ∨ j = 1 by simp at hj; omega) with rfl | rfl
  · exact ⟨h, hs⟩
  · exact ⟨h', hs'⟩
theorem sn_one {w : World} {g : Nat} {s : Sn} (h0 : w.cell? ⟨g, 0, none⟩ = some (.int .i64 s.lo)) (h1 : w.cell? ⟨g, 1, none⟩ = some (.int .i64 s.hi)) (h2 : w.cell? ⟨g, 2, none⟩ = some (.bool s.wk)) : Sl Sn.enc 3 w (.slice (some ⟨g, 0, none⟩) [s].length 1) [s] :=
  ⟨_, _, rfl, Nat.le_refl _, by unfold maxLen; omega, fun h => (by cases h), fun _ => ⟨g, 0, rfl, fun j hj i hi => by
    have e : j = 0 := by simp at hj; omega
    subst e
    have hi' : i < 3 := hi
    rcases (show i = 0 ∨ i = 1 ∨ i = 2 by omega) with rfl | rfl | rfl
    · exact h0
    · exact h1
    · exact h2⟩⟩

/-- What Put answers. -/
def Putted (l : List Sn) (s : Sn) (w : World) (e : Ending) (w' : World) : Prop :=
  New w w' ∧ (((spE l = 2 ∨ badS s = true) ∧ e = .returned (.tuple #[.slice none 0 0, .int .i64 2])) ∨
    (spE l = 0 ∧ badS s = false ∧ ∃ R : List Sn, IsM (l ++ [s]) R ∧ ((8 < R.length ∧ e = .returned (.tuple #[.slice none 0 0, .int .i64 51])) ∨
      (R.length ≤ 8 ∧ ∃ (a : Option Addr) (c : Nat), e = .returned (.tuple #[.slice a R.length c, .int .i64 0]) ∧ Sl Sn.enc 3 w' (.slice a R.length c) R))))

theorem hBad {l : List Sn} {s : Sn} {b : Bool} (h : fstB badS (l ++ [s]) = true) (k : fstB badS (l ++ [s]) = b) : b = true := by rw [← k]; exact h
theorem bad_snoc (l : List Sn) (s : Sn) (h : spE l = 0) : fstB badS (l ++ [s]) = badS s := by
  have hp := (chkE_zero h).2.1
  have h1 : l.any badS = false := by
    rw [List.any_eq_false]
    intro p hpm
    rw [(badS_not p).2 (hp p hpm)]; simp
  unfold fstB
  rw [List.any_append, h1]; simp

end Go.Proofs.YtccikeagbillgaaGreat
