/- Plain facts: both ways of making a row straight tell the same; what is left of it. No walk of the program. -/
import Derived.Test.YtgpjeijhbikjaaaGeomV
import Derived.Test.YtgpjeijhbikjaaaGeomP
namespace Go.Proofs.Ytgpjeijhbikjaaa
open Go.RowKit
set_option linter.unusedVariables false

abbrev Pt := Int × Int

theorem inP_inP (p : Pt) : inP (inP p) = inP p := by unfold inP; simp [inI_in]

theorem onP_in (a b p : Pt) : onP a (inP b) p = onP a b p := by
  unfold onP onB turnI inP
  simp only [inI_in]

theorem onP_core (a b p : Pt) : onP a b p = true ↔ crI (inI a.1) (inI a.2) (inI b.1) (inI b.2) (inI p.1) (inI p.2) = 0 ∧ min (inI a.1) (inI b.1) ≤ inI p.1 ∧ inI p.1 ≤ max (inI a.1) (inI b.1) ∧ min (inI a.2) (inI b.2) ≤ inI p.2 ∧ inI p.2 ≤ max (inI a.2) (inI b.2) := by
  unfold onP onB turnI insB
  simp [clamp0, and_assoc]

theorem onP_same {k p : Pt} (hk : inP k = k) (hp : inP p = p) (h : onP k k p = true) : p = k := by
  rw [onP_core] at h
  have e1 : inI k.1 = k.1 := congrArg Prod.fst hk
  have e2 : inI k.2 = k.2 := congrArg Prod.snd hk
  have e3 : inI p.1 = p.1 := congrArg Prod.fst hp
  have e4 : inI p.2 = p.2 := congrArg Prod.snd hp
  rw [e1, e2, e3, e4] at h
  exact Prod.ext (by omega) (by omega)

/-- q lies between p and s, p between k and s: then p lies between k and q. -/
theorem onP_between {k p q s : Pt} (h1 : onP p s q = true) (h2 : onP k s p = true) : onP k q p = true := by
  rw [onP_core] at *
  obtain ⟨a0, a1, a2, a3, a4⟩ := h1
  obtain ⟨b0, b1, b2, b3, b4⟩ := h2
  generalize inI k.1 = kx at *
  generalize inI k.2 = kz at *
  generalize inI p.1 = px at *
  generalize inI p.2 = pz at *
  generalize inI q.1 = qx at *
  generalize inI q.2 = qz at *
  generalize inI s.1 = sx at *
  generalize inI s.2 = sz at *
  unfold crI at *
  refine ⟨?_, by omega, by omega, by omega, by omega⟩
  -- (q - p) and (p - k) both lie along (s - p)
  have u : (sx - px) * (pz - kz) - (sz - pz) * (px - kx) = 0 := by grind
  have goal : (qx - px) * (pz - kz) - (qz - pz) * (px - kx) = 0 := by
    by_cases hx : sx - px = 0
    · by_cases hz : sz - pz = 0
      · have : qx = px := by omega
        have : qz = pz := by omega
        simp [*]
      · have e : (sz - pz) * ((qx - px) * (pz - kz) - (qz - pz) * (px - kx)) = (sz - pz) * 0 := by grind
        exact Int.eq_of_mul_eq_mul_left hz e
    · have e : (sx - px) * ((qx - px) * (pz - kz) - (qz - pz) * (px - kx)) = (sx - px) * 0 := by grind
      exact Int.eq_of_mul_eq_mul_left hx e
  grind

/-! ### The rows without what has been taken -/
def dd (c : Pt) : List Pt → List Pt
  | [] => []
  | a :: r => if c = inP a then dd c r else inP a :: dd (inP a) r
def thinS (k : Pt) : List Pt → List Pt
  | [] => []
  | [p] => [p]
  | p :: q :: r => if onP k q p = true then thinS k (q :: r) else p :: thinS p (q :: r)
def docS (k : Pt) : List Pt → List Pt
  | [] => []
  | [p] => if k = inP p then [] else [inP p]
  | p :: r :: l => if k = inP p then docS k (r :: l) else if onP k r (inP p) = true then docS k (r :: l) else inP p :: docS (inP p) (r :: l)

theorem runSteps_dd : ∀ (l acc : List Pt) (c : Pt), runSteps (acc ++ [c]) l = acc ++ c :: dd c l
  | [], acc, c => by simp [runSteps, dd]
  | a :: r, acc, c => by
    by_cases h : c = inP a
    · simp [runSteps, dd, h, ← runSteps_dd r acc (inP a)]
    · simp [runSteps, dd, h]
      have := runSteps_dd r (acc ++ [c]) (inP a)
      simpa using this
theorem runThin_thinS : ∀ (l K : List Pt) (k : Pt), runThin (K ++ [k]) l = K ++ k :: thinS k l
  | [], K, k => by simp [runThin, thinS]
  | [p], K, k => by simp [runThin, thinS]
  | p :: q :: r, K, k => by
    by_cases h : onP k q p = true
    · simp [runThin, thinS, h, runThin_thinS (q :: r) K k]
    · simp [runThin, thinS, h]
      have := runThin_thinS (q :: r) (K ++ [k]) p
      simpa using this
theorem runDoc_docS : ∀ (l acc : List Pt) (k : Pt), runDoc (acc ++ [k]) l = acc ++ k :: docS k l
  | [], acc, k => by simp [runDoc, docS]
  | [p], acc, k => by
    by_cases h : k = inP p
    · simp [runDoc, docS, h]
    · simp [runDoc, docS, h]
  | p :: r :: l, acc, k => by
    by_cases h : k = inP p
    · have := runDoc_docS (r :: l) acc k
      simp [runDoc, docS, h] at this ⊢
      exact this
    · by_cases h2 : onP k r (inP p) = true
      · simp [runDoc, docS, h, h2, runDoc_docS (r :: l) acc k]
      · simp [runDoc, docS, h, h2]
        have := runDoc_docS (r :: l) (acc ++ [k]) (inP p)
        simpa using this

theorem docS_eq : ∀ (l : List Pt) (k : Pt), inP k = k → docS k l = thinS k (dd k l)
  | [], k, _ => rfl
  | [p], k, _ => by
    unfold docS dd
    split
    · rfl
    · rfl
  | p :: r :: l, k, hk => by
    by_cases h : k = inP p
    · have := docS_eq (r :: l) k hk
      simp only [docS, dd, if_pos h]
      rw [this]
      rfl
    · have hr := docS_eq (r :: l) k hk
      have hp := docS_eq (r :: l) (inP p) (inP_inP p)
      simp only [docS, dd, if_neg h]
      by_cases hq : inP p = inP r
      · have ho : onP k r (inP p) = true := by
          rw [← onP_in, ← hq]; exact on_b _ _ _ _
        rw [if_pos ho, hr]
        rw [if_pos hq]
        have hkr : ¬ k = inP r := by rw [← hq]; exact h
        simp only [dd, if_neg hkr]
        rw [hq]
      · rw [if_neg hq]
        by_cases ho : onP k r (inP p) = true
        · have hkr : ¬ k = inP r := by
            intro e
            rw [← onP_in, ← e] at ho
            exact h (onP_same hk (inP_inP p) ho).symm
          rw [if_pos ho, hr]
          simp only [dd, if_neg hkr]
          simp only [thinS]
          rw [if_pos (by rw [onP_in]; exact ho)]
        · rw [if_neg ho, hp]
          simp only [dd, if_neg hq]
          simp only [thinS]
          rw [if_neg (by rw [onP_in]; exact ho)]

theorem straight_cons (p : Pt) (l : List Pt) : straightL (p :: l) = inP p :: thinS (inP p) (dd (inP p) l) := by
  have h1 : runSteps [] (p :: l) = inP p :: dd (inP p) l := by
    have := runSteps_dd l [] (inP p)
    simpa [runSteps] using this
  unfold straightL
  rw [h1]
  cases h : dd (inP p) l with
  | nil => simp [runThin, thinS]
  | cons q r =>
    have := runThin_thinS (q :: r) [] (inP p)
    simpa [runThin] using this
theorem doc_cons (p : Pt) (l : List Pt) : runDoc [] (p :: l) = inP p :: docS (inP p) l := by
  have := runDoc_docS l [] (inP p)
  cases l with
  | nil => simp [runDoc, docS]
  | cons r rs => simpa [runDoc] using this
theorem straight_doc (l : List Pt) : straightL l = runDoc [] l := by
  cases l with
  | nil => rfl
  | cons p l => rw [straight_cons, doc_cons, docS_eq _ _ (inP_inP p)]

/-! ### What is left -/
def Ded (k : Pt) : List Pt → Prop
  | [] => True
  | p :: l => p ≠ k ∧ inP p = p ∧ Ded p l
theorem ded_dd : ∀ (l : List Pt) (k : Pt), Ded k (dd k l)
  | [], _ => trivial
  | a :: r, k => by
    unfold dd
    split
    · exact ded_dd r k
    · exact ⟨by rename_i h; exact fun e => h e.symm, inP_inP a, ded_dd r (inP a)⟩

def Good : List Pt → Prop
  | x :: y :: z :: r => y ≠ x ∧ onP x z y = false ∧ Good (y :: z :: r)
  | _ => True

theorem thin_head (k p : Pt) : ∀ (L : List Pt) (q : Pt), ∃ z rest, thinS p (q :: L) = z :: rest ∧ (onP k z p = true → onP k q p = true)
  | [], q => ⟨q, [], rfl, id⟩
  | s :: L, q => by
    by_cases h : onP p s q = true
    · obtain ⟨z, rest, e, hz⟩ := thin_head k p L s
      refine ⟨z, rest, by simp only [thinS, if_pos h]; exact e, fun h2 => onP_between h (hz h2)⟩
    · exact ⟨q, thinS q (s :: L), by simp only [thinS, if_neg h], id⟩

theorem good_thin : ∀ (L : List Pt) (k : Pt), inP k = k → Ded k L → Good (k :: thinS k L)
  | [], _, _, _ => trivial
  | [p], _, _, _ => trivial
  | p :: q :: r, k, hk, ⟨h1, h2, h3, h4, h5⟩ => by
    by_cases h : onP k q p = true
    · simp only [thinS, if_pos h]
      refine good_thin (q :: r) k hk ⟨fun e => ?_, h4, h5⟩
      rw [e] at h
      exact h1 (onP_same hk h2 h)
    · simp only [thinS, if_neg h]
      have ih := good_thin (q :: r) p h2 ⟨h3, h4, h5⟩
      obtain ⟨z, rest, e, hz⟩ := thin_head k p r q
      rw [e] at ih ⊢
      exact ⟨h1, by simpa using fun h' => h (hz h'), ih⟩

theorem good_at : ∀ (L : List Pt) (i : Nat) (h : i + 2 < L.length), Good L → L[i + 1] ≠ L[i] ∧ onP L[i] L[i + 2] L[i + 1] = false
  | x :: y :: z :: r, 0, _, g => ⟨g.1, g.2.1⟩
  | x :: y :: z :: r, i + 1, h, g => good_at (y :: z :: r) i (by simpa using h) g.2.2
  | [], _, h, _ => by simp at h
  | [_], _, h, _ => by simp at h
  | [_, _], _, h, _ => by simp at h; omega

theorem thin_last : ∀ (L : List Pt) (k : Pt), (k :: thinS k L).getLast? = (k :: L).getLast?
  | [], _ => rfl
  | [_], _ => rfl
  | p :: q :: r, k => by
    by_cases h : onP k q p = true
    · simp only [thinS, if_pos h]
      rw [thin_last (q :: r) k]
      simp
    · simp only [thinS, if_neg h]
      rw [List.getLast?_cons_cons, thin_last (q :: r) p]
      simp
theorem dd_last : ∀ (l : List Pt) (k : Pt), (inP k :: dd (inP k) l).getLast? = ((k :: l).getLast?).map inP
  | [], _ => rfl
  | a :: r, k => by
    unfold dd
    split
    · rename_i h
      rw [List.getLast?_cons_cons, ← dd_last r a, ← h]
    · rw [List.getLast?_cons_cons, dd_last r a, List.getLast?_cons_cons]

theorem straight_good (l : List Pt) (i : Nat) (h : i + 2 < (straightL l).length) : (straightL l)[i + 1] ≠ (straightL l)[i] ∧ onP (straightL l)[i] (straightL l)[i + 2] (straightL l)[i + 1] = false := by
  refine good_at _ i h ?_
  cases l with
  | nil => trivial
  | cons p l => rw [straight_cons]; exact good_thin _ _ (inP_inP p) (ded_dd _ _)
theorem straight_first {l : List Pt} (h : 0 < l.length) : ∃ h' : 0 < (straightL l).length, (straightL l)[0] = inP l[0] := by
  cases l with
  | nil => simp at h
  | cons p l => exact ⟨by rw [straight_cons]; simp, by simp [straight_cons]⟩
theorem straight_last {l : List Pt} (h : 0 < l.length) (h' : 0 < (straightL l).length) : (straightL l)[(straightL l).length - 1] = inP l[l.length - 1] := by
  have e : (straightL l).getLast? = (l.getLast?).map inP := by
    cases l with
    | nil => simp at h
    | cons p l => rw [straight_cons, thin_last, dd_last]
  rw [List.getLast?_eq_getElem?, List.getLast?_eq_getElem?, List.getElem?_eq_getElem (by omega), List.getElem?_eq_getElem (by omega)] at e
  exact Option.some.inj e
theorem thin_length : ∀ (L : List Pt) (k : Pt), (thinS k L).length ≤ L.length
  | [], _ => Nat.le_refl _
  | [_], _ => Nat.le_refl _
  | p :: q :: r, k => by
    have h1 := thin_length (q :: r) k
    have h2 := thin_length (q :: r) p
    unfold thinS
    split
    · simp at h1 ⊢; omega
    · simp at h2 ⊢; omega
theorem dd_length : ∀ (l : List Pt) (k : Pt), (dd k l).length ≤ l.length
  | [], _ => Nat.le_refl _
  | a :: r, k => by
    have h1 := dd_length r k
    have h2 := dd_length r (inP a)
    unfold dd
    split
    · simp; omega
    · simp; omega
theorem straight_length (l : List Pt) : (straightL l).length ≤ l.length := by
  cases l with
  | nil => exact Nat.le_refl _
  | cons p l =>
    rw [straight_cons]
    have h1 := thin_length (dd (inP p) l) (inP p)
    have h2 := dd_length l (inP p)
    simp; omega
theorem straight_nil : straightL [] = [] := rfl

end Go.Proofs.Ytgpjeijhbikjaaa
