import Derived.Test.YtonngfogbnfbnaaSoFTZ9
import Derived.Test.YtonngfogbnfbnaaSoHTZ9
import Derived.Test.YtonngfogbnfbnaaSoPTZ9

/- Package soup: rising rows; what adding comes to. -/
namespace Go.Proofs.Ytonngfogbnfbnaa
open Go.RowKit
set_option linter.unusedVariables false

def TriR.Rise (l : List TriR) : Prop := l.Pairwise fun a b => a.i < b.i
theorem TriR.listB_iff {C : CfgR} {l : List TriR} : TriR.listB C l = true ↔ l.length ≤ 200 ∧ (∀ x ∈ l, x.may C = true) ∧ TriR.Rise l := by
  unfold TriR.listB
  rw [Bool.and_eq_true, decide_eq_true_eq, List.all_eq_true]
  constructor
  · rintro ⟨h1, h2⟩
    have ok : ∀ i (h : i < l.length), TriR.okAt C l i = true := fun i h => h2 i (List.mem_range.2 h)
    refine ⟨h1, fun x hx => ?_, ?_⟩
    · obtain ⟨i, hi, rfl⟩ := List.getElem_of_mem hx
      have := ok i hi
      unfold TriR.okAt at this
      rw [getElem!_pos l i hi, Bool.and_eq_true] at this
      exact this.1
    · unfold TriR.Rise
      rw [List.pairwise_iff_getElem]
      intro i j hi hj hij
      have step : ∀ d i, (h : i + d + 1 < l.length) → (l[i]'(by omega)).i < (l[i + d + 1]'h).i := by
        intro d
        induction d with
        | zero =>
          intro i h
          have := ok (i + 1) h
          rw [TriR.okAt_succ C l i h, Bool.and_eq_true, decide_eq_true_eq] at this
          exact this.2
        | succ d ih =>
          intro i h
          have h3 := ih i (by omega)
          have := ok (i + d + 1 + 1) h
          rw [TriR.okAt_succ C l (i + d + 1) h, Bool.and_eq_true, decide_eq_true_eq] at this
          exact Int.lt_trans h3 this.2
      have := step (j - i - 1) i (by omega)
      simp only [show i + (j - i - 1) + 1 = j by omega] at this
      exact this
  · rintro ⟨h1, h2, h3⟩
    refine ⟨h1, fun i hi => ?_⟩
    have hi' := List.mem_range.1 hi
    unfold TriR.Rise at h3
    rw [List.pairwise_iff_getElem] at h3
    cases i with
    | zero => rw [TriR.okAt_zero C l hi']; exact h2 _ (List.getElem_mem hi')
    | succ i =>
      rw [TriR.okAt_succ C l i hi', Bool.and_eq_true, decide_eq_true_eq]
      exact ⟨h2 _ (List.getElem_mem hi'), h3 i (i + 1) (by omega) hi' (by omega)⟩

theorem TriR.place {l : List TriR} (h : TriR.Rise l) (id : Int) : ∃ p, TriR.Place l id p := by
  unfold TriR.Rise at h
  rw [List.pairwise_iff_getElem] at h
  obtain ⟨p, hp, hmin⟩ := exists_least (p := fun p => p = l.length ∨ ∃ hp : p < l.length, id ≤ l[p].i) ⟨l.length, Or.inl rfl⟩
  have hle : p ≤ l.length := hmin _ (Or.inl rfl)
  refine ⟨p, hle, fun j hj hjp => ?_, fun j hj hpj => ?_⟩
  · by_cases q : l[j].i < id
    · exact q
    · have := hmin j (Or.inr ⟨hj, by omega⟩); omega
  · rcases hp with rfl | ⟨hp, hq⟩
    · omega
    · rcases Nat.eq_or_lt_of_le hpj with rfl | q
      · exact hq
      · have := h p j hp hj q; omega

/-- One of this id is there. -/
theorem TriR.hit_iff {l : List TriR} {id : Int} {p : Nat} (hl : TriR.Rise l) (h : TriR.Place l id p) : TriR.hit l id p = true ↔ ∃ x ∈ l, x.i = id := by
  unfold TriR.hit
  rw [Bool.and_eq_true, decide_eq_true_eq, beq_iff_eq]
  constructor
  · rintro ⟨hp, he⟩
    rw [getElem!_pos l p hp] at he
    exact ⟨_, List.getElem_mem hp, he⟩
  · rintro ⟨x, hx, he⟩
    obtain ⟨j, hj, rfl⟩ := List.getElem_of_mem hx
    have hjp : p ≤ j := by
      rcases Nat.lt_or_ge j p with q | q
      · have := h.lo j hj q; omega
      · exact q
    have hp : p < l.length := by omega
    refine ⟨hp, ?_⟩
    rw [getElem!_pos l p hp]
    have h1 := h.hi p hp (Nat.le_refl _)
    rcases Nat.eq_or_lt_of_le hjp with q | q
    · subst q; exact he
    · unfold TriR.Rise at hl
      rw [List.pairwise_iff_getElem] at hl
      have := hl p j hp hj q
      omega

/-- With x in its place. -/
def TriR.put (l : List TriR) (p : Nat) (x : TriR) : List TriR := l.take p ++ [x] ++ l.drop p
theorem TriR.put_len {l : List TriR} {p : Nat} {x : TriR} (h : p ≤ l.length) : (TriR.put l p x).length = l.length + 1 := by
  unfold TriR.put
  simp
  omega
theorem TriR.put_perm (l : List TriR) (p : Nat) (x : TriR) : (TriR.put l p x).Perm (x :: l) := by
  unfold TriR.put
  rw [List.append_assoc, List.singleton_append]
  refine List.perm_middle.trans (List.Perm.cons x ?_)
  rw [List.take_append_drop]
theorem TriR.put_mem {l : List TriR} {p : Nat} {x y : TriR} : y ∈ TriR.put l p x ↔ y = x ∨ y ∈ l := by
  rw [(TriR.put_perm l p x).mem_iff, List.mem_cons]
theorem TriR.put_rise {l : List TriR} {p : Nat} {x : TriR} (hl : TriR.Rise l) (hp : TriR.Place l x.i p) (hn : TriR.hit l x.i p = false) : TriR.Rise (TriR.put l p x) := by
  have hno : ∀ y ∈ l, y.i ≠ x.i := fun y hy he => by
    rw [(TriR.hit_iff hl hp).2 ⟨y, hy, he⟩] at hn; cases hn
  unfold TriR.Rise TriR.put at *
  rw [List.pairwise_append, List.pairwise_append]
  refine ⟨⟨hl.sublist (List.take_sublist _ _), List.pairwise_singleton _ _, fun a ha b hb => ?_⟩, hl.sublist (List.drop_sublist _ _), fun a ha b hb => ?_⟩
  · obtain rfl := List.mem_singleton.1 hb
    obtain ⟨j, hj, rfl⟩ := List.getElem_of_mem ha
    have hj' : j < l.length ∧ j < p := by simp at hj; omega
    rw [List.getElem_take]
    exact hp.lo j hj'.1 hj'.2
  · obtain ⟨j, hj, rfl⟩ := List.getElem_of_mem hb
    have hj' : p + j < l.length := by simp at hj; omega
    rw [List.getElem_drop]
    rcases List.mem_append.1 ha with ha | ha
    · obtain ⟨i, hi, rfl⟩ := List.getElem_of_mem ha
      have hi' : i < l.length ∧ i < p := by simp at hi; omega
      rw [List.getElem_take]
      rw [List.pairwise_iff_getElem] at hl
      exact hl i (p + j) hi'.1 hj' (by omega)
    · obtain rfl := List.mem_singleton.1 ha
      have h1 := hp.hi (p + j) hj' (by omega)
      have h2 := hno _ (List.getElem_mem hj')
      omega
theorem TriR.put_lo {l : List TriR} {p : Nat} {x : TriR} (hp : p ≤ l.length) {k : Nat} (hk : k < p) : (TriR.put l p x)[k]? = l[k]? := by
  unfold TriR.put
  rw [List.append_assoc, List.getElem?_append_left (by simp; omega), List.getElem?_take, if_pos hk]
theorem TriR.put_at {l : List TriR} {p : Nat} {x : TriR} (hp : p ≤ l.length) : (TriR.put l p x)[p]? = some x := by
  have e : (l.take p).length = p := by simp; omega
  unfold TriR.put
  rw [List.append_assoc, List.getElem?_append_right (by omega), e, Nat.sub_self]
  rfl
theorem TriR.put_first {l : List TriR} {p : Nat} {x : TriR} (hp : TriR.Place l x.i p) : TriR.IsFirst (TriR.put l p x) x.i p := by
  have hlen := TriR.put_len (x := x) hp.le
  have hple := hp.le
  refine Or.inr ⟨p, by omega, rfl, ?_, fun k hk => ?_⟩
  · have h := TriR.put_at (x := x) hple
    rw [List.getElem?_eq_getElem (by omega)] at h
    rw [Option.some.inj h]
  · have hkl : k < l.length := by omega
    have h := TriR.put_lo (x := x) hple hk
    rw [List.getElem?_eq_getElem (by omega), List.getElem?_eq_getElem hkl] at h
    rw [Option.some.inj h]
    have := hp.lo k hkl hk
    omega
theorem TriR.put_back {l : List TriR} {p : Nat} {x : TriR} (h : p ≤ l.length) : (TriR.put l p x).take p ++ (TriR.put l p x).drop (p + 1) = l := by
  unfold TriR.put
  have e : (l.take p).length = p := by simp; omega
  rw [List.append_assoc, List.take_left' e, List.drop_append, e, List.drop_eq_nil_of_le (by omega), show p + 1 - p = 1 by omega]
  simp
theorem TriR.rise_eq : ∀ {l m : List TriR}, TriR.Rise l → TriR.Rise m → l.Perm m → l = m
  | [], m, _, _, h => h.nil_eq
  | a :: l, [], _, _, h => absurd h.length_eq (by simp)
  | a :: l, b :: m, hl, hm, h => by
    unfold TriR.Rise at hl hm
    rw [List.pairwise_cons] at hl hm
    have hab : a = b := by
      have h1 : a ∈ b :: m := h.mem_iff.1 List.mem_cons_self
      have h2 : b ∈ a :: l := h.mem_iff.2 List.mem_cons_self
      rcases List.mem_cons.1 h1 with h1 | h1
      · exact h1
      · rcases List.mem_cons.1 h2 with h2 | h2
        · exact h2.symm
        · have q1 := hm.1 a h1
          have q2 := hl.1 b h2
          omega
    subst hab
    rw [TriR.rise_eq hl.2 hm.2 ((List.perm_cons a).1 h)]

end Go.Proofs.Ytonngfogbnfbnaa
