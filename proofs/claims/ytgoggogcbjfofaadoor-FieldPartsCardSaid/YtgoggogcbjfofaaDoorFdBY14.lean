import Derived.Test.YtgoggogcbjfofaaDoorLkAY14
import Derived.Test.YtgoggogcbjfofaaDoorLkCY14
import Derived.Test.YtgoggogcbjfofaaDoorLkGY14

/- Layer 14: clearances, plain, of any ways to go. No function of the program in sight. -/
namespace Go.Proofs.YtgoggogcbjfofaaDoor
open Go.RowKit
set_option linter.unusedVariables false

theorem optLen {α : Type} (o : Option α) : o.toList.length ≤ 1 := by cases o <;> simp
theorem opt_map_toList {α β : Type} {f : α → β} (o : Option α) : (o.map f).toList = o.toList.map f := by cases o <;> rfl

section
variable {α : Type} [DecidableEq α]
/-- One way round. -/
def rndP (go : α → Int → Option α) (s : α) (d e : Int) : Option α := match go s d with
  | some m => go m e
  | none => none
def bothP (a b : Option α) : Option α := match a, b with
  | some t, some u => if t = u then some t else none
  | _, _ => none
/-- The diagonal. -/
def diaP (go : α → Int → Option α) (s : α) (d e : Int) : Option α := bothP (rndP go s d e) (rndP go s e d)
/-- Those of the eight that there are, in the first n directions. -/
def arN (go : α → Int → Option α) (s : α) : Nat → List α
  | 0 => []
  | n + 1 => (arN go s n ++ (go s n).toList) ++ (diaP go s n (nextD n)).toList
def arP (go : α → Int → Option α) (s : α) : List α := arN go s 4
def fulP (go : α → Int → Option α) (s : α) : Bool := decide (8 ≤ (arP go s).length)
/-- Is its clearance n at least? -/
def geB (go : α → Int → Option α) : Nat → α → Bool
  | 0, _ => true
  | n + 1, s => fulP go s && (arP go s).all (geB go n)
/-- The clearance, at most m. -/
def clr (go : α → Int → Option α) : Nat → α → Nat
  | 0, _ => 0
  | m + 1, s => if geB go (m + 1) s = true then m + 1 else clr go m s

variable {go : α → Int → Option α}
theorem bothP_is {a b : Option α} {t : α} (h : bothP a b = some t) : a = some t ∧ b = some t := by
  unfold bothP at h
  split at h
  · rename_i t' u
    split at h
    · rename_i e
      subst e
      cases h
      exact ⟨rfl, rfl⟩
    · cases h
  · cases h
theorem bothP_of (t : α) : bothP (some t) (some t) = some t := by unfold bothP; simp
theorem bothP_comm (a b : Option α) : bothP a b = bothP b a := by
  unfold bothP
  cases a <;> cases b <;> simp
  rename_i x y
  by_cases h : x = y
  · subst h; simp
  · rw [if_neg h, if_neg (fun e => h e.symm)]
theorem diaP_comm (s : α) (d e : Int) : diaP go s d e = diaP go s e d := bothP_comm _ _
theorem arN_len (s : α) : ∀ n, (arN go s n).length ≤ 2 * n
  | 0 => by simp [arN]
  | n + 1 => by
    have h1 := arN_len s n
    have h2 := optLen (go s n)
    have h3 := optLen (diaP go s n (nextD n))
    simp only [arN, List.length_append]
    omega
theorem arP_len (s : α) : (arP go s).length ≤ 8 := arN_len s 4
theorem mem_arN {s t : α} : ∀ {n : Nat}, t ∈ arN go s n ↔ ∃ d : Nat, d < n ∧ (go s d = some t ∨ diaP go s d (nextD d) = some t)
  | 0 => by simp [arN]
  | n + 1 => by
    simp only [arN, List.mem_append, Option.mem_toList, mem_arN (n := n)]
    constructor
    · rintro ((⟨d, hd, h⟩ | h) | h)
      · exact ⟨d, by omega, h⟩
      · exact ⟨n, by omega, .inl h⟩
      · exact ⟨n, by omega, .inr h⟩
    · rintro ⟨d, hd, h⟩
      by_cases e : d = n
      · subst e
        rcases h with h | h
        · exact .inl (.inr h)
        · exact .inr h
      · exact .inl (.inl ⟨d, by omega, h⟩)
/-- With all of the eight: which they are. -/
theorem arN_full {s : α} : ∀ {n : Nat}, 2 * n ≤ (arN go s n).length → ∀ d : Nat, d < n → (∃ t, go s d = some t) ∧ ∃ t, diaP go s d (nextD d) = some t
  | 0, _, d, hd => by omega
  | n + 1, h, d, hd => by
    have h1 := arN_len (go := go) s n
    have h2 := optLen (go s n)
    have h3 := optLen (diaP go s n (nextD n))
    simp only [arN, List.length_append] at h
    by_cases e : d = n
    · subst e
      constructor
      · cases q : go s d with
        | none => rw [q] at h; simp at h; omega
        | some t => exact ⟨t, rfl⟩
      · cases q : diaP go s d (nextD d) with
        | none => rw [q] at h; simp at h; omega
        | some t => exact ⟨t, rfl⟩
    · exact arN_full (n := n) (by omega) d (by omega)
theorem full_of {s : α} : ∀ {n : Nat}, (∀ d : Nat, d < n → (∃ t, go s d = some t) ∧ ∃ t, diaP go s d (nextD d) = some t) → 2 * n ≤ (arN go s n).length
  | 0, _ => by omega
  | n + 1, h => by
    have h1 := full_of (s := s) (n := n) (fun d hd => h d (by omega))
    obtain ⟨⟨t, ht⟩, u, hu⟩ := h n (by omega)
    simp only [arN, List.length_append]
    rw [ht, hu]
    simp
    omega
theorem fulP_iff {s : α} : fulP go s = true ↔ ∀ d : Nat, d < 4 → (∃ t, go s d = some t) ∧ ∃ t, diaP go s d (nextD d) = some t := by
  unfold fulP
  rw [decide_eq_true_eq]
  exact ⟨fun h => arN_full (n := 4) h, fun h => full_of (n := 4) h⟩
theorem geB_succ (n : Nat) (s : α) : geB go (n + 1) s = true ↔ fulP go s = true ∧ ∀ t ∈ arP go s, geB go n t = true := by
  rw [geB, Bool.and_eq_true, List.all_eq_true]
theorem geB_down : ∀ (n : Nat) (s : α), geB go (n + 1) s = true → geB go n s = true
  | 0, _, _ => rfl
  | n + 1, s, h => by
    rw [geB_succ] at h ⊢
    exact ⟨h.1, fun t ht => geB_down n t (h.2 t ht)⟩
theorem geB_le {n m : Nat} (h : n ≤ m) (s : α) (hs : geB go m s = true) : geB go n s = true := by
  induction m with
  | zero => obtain rfl : n = 0 := by omega
            exact hs
  | succ m ih =>
    by_cases e : n = m + 1
    · subst e; exact hs
    · exact ih (by omega) (geB_down m s hs)
theorem clr_le : ∀ (m : Nat) (s : α), clr go m s ≤ m
  | 0, _ => by simp [clr]
  | m + 1, s => by
    have := clr_le m s
    rw [clr]
    split <;> omega
theorem clr_ge : ∀ (m : Nat) (s : α), geB go (clr go m s) s = true
  | 0, _ => rfl
  | m + 1, s => by
    rw [clr]
    split
    · assumption
    · exact clr_ge m s
theorem clr_iff {n : Nat} : ∀ {m : Nat}, n ≤ m → ∀ s : α, (n ≤ clr go m s ↔ geB go n s = true)
  | 0, h, s => by
    obtain rfl : n = 0 := by omega
    exact ⟨fun _ => rfl, fun _ => by omega⟩
  | m + 1, h, s => by
    constructor
    · intro q
      exact geB_le q s (clr_ge (m + 1) s)
    · intro q
      rw [clr]
      split
      · omega
      · rename_i h2
        have : n ≠ m + 1 := fun e => h2 (e ▸ q)
        exact (clr_iff (m := m) (by omega) s).2 q
theorem clr_eq {m v : Nat} {s : α} (h1 : v ≤ m) (h2 : geB go v s = true) (h3 : v = m ∨ geB go (v + 1) s = false) : clr go m s = v := by
  have a := (clr_iff h1 s).2 h2
  have b := clr_le (go := go) m s
  rcases h3 with h | h
  · omega
  · by_cases e : clr go m s = v
    · exact e
    · have c : v + 1 ≤ clr go m s := by omega
      have := (clr_iff (m := m) (by omega) s).1 c
      rw [h] at this
      cases this
theorem clr_top {m : Nat} {s : α} (h : geB go m s = true) : clr go m s = m := clr_eq (Nat.le_refl _) h (.inl rfl)
/-- A greater cap changes nothing below it. -/
theorem clr_min {k m : Nat} (h : k ≤ m) (s : α) : min (clr go m s) k = clr go k s := by
  have h1 := clr_le (go := go) k s
  have h2 := clr_ge (go := go) k s
  by_cases e : geB go k s = true
  · have := (clr_iff h s).2 e
    rw [clr_top e]
    omega
  · have e1 : clr go k s < k := by
      rcases Nat.lt_or_ge (clr go k s) k with q | q
      · exact q
      · exact absurd ((clr_iff (Nat.le_refl k) s).1 q) e
    have e2 : geB go (clr go k s + 1) s = false := by
      cases q : geB go (clr go k s + 1) s
      · rfl
      · have := (clr_iff (m := k) (by omega) s).2 q
        omega
    rw [clr_eq (m := m) (by omega) h2 (.inr e2)]
    omega
theorem clr_pos {m : Nat} (hm : 1 ≤ m) (s : α) : 0 < clr go m s ↔ fulP go s = true := by
  have := clr_iff (go := go) (n := 1) hm s
  rw [geB_succ] at this
  constructor
  · intro h; exact (this.1 h).1
  · intro h; exact this.2 ⟨h, fun _ _ => rfl⟩

/-! Ways that go back, too. -/
def SymP (go : α → Int → Option α) (V : α → Prop) : Prop := ∀ s, V s → ∀ t ∈ arP go s, V t ∧ s ∈ arP go t
theorem near_one {V : α → Prop} (H : SymP go V) {m : Nat} {s t : α} (hs : V s) (ht : t ∈ arP go s) : clr go m s ≤ clr go m t + 1 := by
  have h1 := clr_le (go := go) m s
  have h2 := clr_ge (go := go) m s
  cases q : clr go m s with
  | zero => omega
  | succ n =>
    rw [q] at h1 h2
    have := (geB_succ n s).1 h2
    have := (clr_iff (m := m) (by omega) t).2 (this.2 t ht)
    omega
theorem near_two {V : α → Prop} (H : SymP go V) {m : Nat} {s t : α} (hs : V s) (ht : t ∈ arP go s) : clr go m t ≤ clr go m s + 1 := by
  obtain ⟨h1, h2⟩ := H s hs t ht
  exact near_one H h1 h2

/-! By rounds from the edge on. -/
/-- Whose clearance is just f. -/
def justB (go : α → Int → Option α) (f : Nat) (s : α) : Bool := geB go f s && !geB go (f + 1) s
/-- What is held behind the round f. -/
def heldF (go : α → Int → Option α) (f : Nat) (s : α) : Option Nat := if geB go (f + 1) s = true then none else some (clr go f s)
theorem justB_iff {f : Nat} {s : α} : justB go f s = true ↔ geB go f s = true ∧ geB go (f + 1) s = false := by
  unfold justB
  rw [Bool.and_eq_true, Bool.not_eq_true']
theorem next_iff {V : α → Prop} (H : SymP go V) {f : Nat} {t : α} (hV : V t) (ht : geB go (f + 1) t = true) : (∃ s, V s ∧ justB go f s = true ∧ t ∈ arP go s) ↔ geB go (f + 2) t = false := by
  constructor
  · rintro ⟨s, hs, hj, hm⟩
    cases q : geB go (f + 2) t
    · rfl
    · have h1 := ((geB_succ (f + 1) t).1 q).2 s (H s hs t hm).2
      rw [(justB_iff.1 hj).2] at h1
      cases h1
  · intro h
    have h1 := (geB_succ f t).1 ht
    have h2 : ¬ ∀ u ∈ arP go t, geB go (f + 1) u = true := fun q => by
      rw [(geB_succ (f + 1) t).2 ⟨h1.1, q⟩] at h
      cases h
    have h3 : (arP go t).all (geB go (f + 1)) = false := by
      cases q : (arP go t).all (geB go (f + 1))
      · rfl
      · exact absurd (List.all_eq_true.1 q) h2
    obtain ⟨u, hu, hb⟩ := List.all_eq_false.1 h3
    obtain ⟨a, b⟩ := H t hV u hu
    exact ⟨u, a, justB_iff.2 ⟨h1.2 u hu, by simpa using hb⟩, b⟩
/-- A round that changes nothing. -/
theorem no_more {V : α → Prop} (H : SymP go V) {f : Nat} (h : ∀ s, V s → justB go f s = false) : ∀ n s, V s → geB go f s = true → geB go (f + n) s = true
  | 0, _, _, h1 => h1
  | n + 1, s, hs, h1 => by
    have h2 : geB go (f + 1) s = true := by
      cases q : geB go (f + 1) s
      · have := h s hs
        rw [justB_iff.2 ⟨h1, q⟩] at this
        cases this
      · rfl
    have h3 := (geB_succ f s).1 h2
    show geB go ((f + n) + 1) s = true
    exact (geB_succ _ s).2 ⟨h3.1, fun t ht => no_more H h n t (H s hs t ht).1 (h3.2 t ht)⟩
theorem held_end {f m : Nat} {s : α} (hm : f + 1 ≤ m) (h : geB go (f + 1) s = true → geB go m s = true) : ((heldF go f s).getD m) = clr go m s := by
  unfold heldF
  split
  · rename_i q
    exact (clr_top (h q)).symm
  · rename_i q
    have q' : geB go (f + 1) s = false := by simpa using q
    show clr go f s = clr go m s
    have h1 := clr_ge (go := go) f s
    have h2 := clr_le (go := go) f s
    refine (clr_eq (by omega) h1 (.inr ?_)).symm
    cases p : geB go (clr go f s + 1) s
    · rfl
    · by_cases e : clr go f s = f
      · rw [e] at p
        rw [q'] at p
        cases p
      · have := (clr_iff (m := f) (n := clr go f s + 1) (by omega) s).2 p
        omega
theorem held_zero (s : α) : heldF go 0 s = if fulP go s = true then none else some 0 := by
  unfold heldF
  have : geB go 1 s = fulP go s := by
    rw [Bool.eq_iff_iff, geB_succ]
    exact ⟨fun h => h.1, fun h => ⟨h, fun _ _ => rfl⟩⟩
  rw [this]
  rfl
/-- What a round adds. -/
theorem held_next {V : α → Prop} (H : SymP go V) {f : Nat} {t : α} (hV : V t) (P : Prop) [Decidable P] (hP : P ↔ ∃ s, V s ∧ justB go f s = true ∧ t ∈ arP go s) : heldF go (f + 1) t = (match heldF go f t with
  | some v => some v
  | none => if P then some (f + 1) else none) := by
  unfold heldF
  by_cases q : geB go (f + 1) t = true
  · rw [if_pos q]
    have hn := next_iff H hV q
    rw [← hP] at hn
    by_cases p : P
    · rw [if_neg (by rw [hn.1 p]; simp)]
      simp only
      rw [if_pos p, clr_top q]
    · have : geB go (f + 2) t = true := by
        cases r : geB go (f + 2) t
        · exact absurd (hn.2 r) p
        · rfl
      rw [if_pos this]
      simp only
      rw [if_neg p]
  · rw [if_neg q]
    have q2 : ¬ geB go (f + 1 + 1) t = true := fun r => q (geB_down _ _ r)
    rw [if_neg q2]
    simp only
    rw [clr, if_neg q]
theorem just_next {V : α → Prop} (H : SymP go V) {f : Nat} {t : α} (hV : V t) : (justB go (f + 1) t = true) ↔ (heldF go f t = none ∧ ∃ s, V s ∧ justB go f s = true ∧ t ∈ arP go s) := by
  rw [justB_iff]
  unfold heldF
  constructor
  · rintro ⟨h1, h2⟩
    exact ⟨by rw [if_pos h1], (next_iff H hV h1).2 h2⟩
  · rintro ⟨h1, h2⟩
    have q : geB go (f + 1) t = true := by
      by_cases q : geB go (f + 1) t = true
      · exact q
      · rw [if_neg q] at h1
        cases h1
    exact ⟨q, (next_iff H hV q).1 h2⟩
theorem just_zero (s : α) : justB go 0 s = !fulP go s := by
  unfold justB
  have : geB go 1 s = fulP go s := by
    rw [Bool.eq_iff_iff, geB_succ]
    exact ⟨fun h => h.1, fun h => ⟨h, fun _ _ => rfl⟩⟩
  show (true && !geB go (0 + 1) s) = _
  rw [this]
  rfl
end

/-! Moved elsewhere. -/
section
variable {α β : Type} {go : α → Int → Option α} {go' : β → Int → Option β} {f : α → β} {V : α → Prop}
structure HomP (go : α → Int → Option α) (go' : β → Int → Option β) (f : α → β) (V : α → Prop) : Prop where
  goes : ∀ s, V s → ∀ d, go' (f s) d = (go s d).map f
  kept : ∀ s, V s → ∀ d t, go s d = some t → V t
  inj : ∀ s t, V s → V t → f s = f t → s = t
theorem rndP_kept (H : HomP go go' f V) {s t : α} {d e : Int} (hs : V s) (h : rndP go s d e = some t) : V t := by
  unfold rndP at h
  split at h
  · rename_i m hm
    exact H.kept m (H.kept s hs d m hm) e t h
  · cases h
theorem rndP_hom (H : HomP go go' f V) {s : α} (hs : V s) (d e : Int) : rndP go' (f s) d e = (rndP go s d e).map f := by
  unfold rndP
  rw [H.goes s hs d]
  cases q : go s d with
  | none => rfl
  | some m => exact H.goes m (H.kept s hs d m q) e
variable [DecidableEq α]
theorem diaP_kept (H : HomP go go' f V) {s t : α} {d e : Int} (hs : V s) (h : diaP go s d e = some t) : V t := rndP_kept H hs (bothP_is h).1
theorem arN_kept (H : HomP go go' f V) {s t : α} (hs : V s) {n : Nat} (h : t ∈ arN go s n) : V t := by
  obtain ⟨d, -, h | h⟩ := mem_arN.1 h
  · exact H.kept s hs d t h
  · exact diaP_kept H hs h
variable [DecidableEq β]
theorem diaP_hom (H : HomP go go' f V) {s : α} (hs : V s) (d e : Int) : diaP go' (f s) d e = (diaP go s d e).map f := by
  unfold diaP
  rw [rndP_hom H hs d e, rndP_hom H hs e d]
  cases p : rndP go s d e with
  | none => rfl
  | some t =>
    cases q : rndP go s e d with
    | none => rfl
    | some u =>
      show (if f t = f u then some (f t) else none) = (if t = u then some t else none).map f
      by_cases e1 : t = u
      · subst e1; simp
      · rw [if_neg e1, if_neg (fun e2 => e1 (H.inj t u (rndP_kept H hs p) (rndP_kept H hs q) e2))]
        rfl
theorem arN_hom (H : HomP go go' f V) {s : α} (hs : V s) : ∀ n, arN go' (f s) n = (arN go s n).map f
  | 0 => rfl
  | n + 1 => by simp only [arN, arN_hom H hs n, H.goes s hs n, diaP_hom H hs, opt_map_toList, List.map_append]
theorem fulP_hom (H : HomP go go' f V) {s : α} (hs : V s) : fulP go' (f s) = fulP go s := by
  unfold fulP arP
  rw [arN_hom H hs, List.length_map]
theorem geB_hom (H : HomP go go' f V) : ∀ (n : Nat) {s : α}, V s → geB go' n (f s) = geB go n s
  | 0, _, _ => rfl
  | n + 1, s, hs => by
    rw [Bool.eq_iff_iff, geB_succ, geB_succ, fulP_hom H hs]
    unfold arP
    rw [arN_hom H hs]
    constructor
    · rintro ⟨h1, h2⟩
      exact ⟨h1, fun t ht => by rw [← geB_hom H n (arN_kept H hs ht)]; exact h2 _ (List.mem_map_of_mem ht)⟩
    · rintro ⟨h1, h2⟩
      refine ⟨h1, fun u hu => ?_⟩
      obtain ⟨t, ht, rfl⟩ := List.mem_map.1 hu
      rw [geB_hom H n (arN_kept H hs ht)]
      exact h2 t ht
theorem clr_hom (H : HomP go go' f V) : ∀ (m : Nat) {s : α}, V s → clr go' m (f s) = clr go m s
  | 0, _, _ => rfl
  | m + 1, s, hs => by rw [clr, clr, geB_hom H _ hs, clr_hom H m hs]
end

end Go.Proofs.YtgoggogcbjfofaaDoor

/- Layer 14: a grid's links by places; structs of two numbers where they lie. -/
namespace Go.Proofs.YtgoggogcbjfofaaDoor
open Go.RowKit
set_option linter.unusedVariables false

/-- A floor, by its column's place and its own. -/
structure Sp where
  (c k : Nat)
instance : Inhabited Sp := ⟨⟨0, 0⟩⟩
def Sp.eqB (a b : Sp) : Bool := (a.c : Int) == (b.c : Int) && (a.k : Int) == (b.k : Int)
theorem Sp.eqB_iff (a b : Sp) : a.eqB b = true ↔ a = b := by
  obtain ⟨a0, a1⟩ := a
  obtain ⟨b0, b1⟩ := b
  simp only [Sp.eqB, Bool.and_eq_true, beq_iff_eq, Sp.mk.injEq]
  omega
instance : DecidableEq Sp := fun a b => decidable_of_iff _ (Sp.eqB_iff a b)
def spO (o : Option Sp) : Sp := o.getD ⟨0, 0⟩
def Sp.enc (s : Sp) : List Value := #[.int .i64 ((s.c : Nat) : Int), .int .i64 ((s.k : Nat) : Int)].toList
theorem Sp.enc_len (s : Sp) : s.enc.length = 2 := rfl
theorem Sp.enc_one (s : Sp) : ∀ u ∈ s.enc, u.oneCell' = true := by
  intro u hu
  simp [Sp.enc] at hu
  rcases hu with rfl | rfl <;> rfl
theorem Sp.cells {w : World} {b off : Nat} {l : List Sp} (H : RowAt Sp.enc 2 w b off l) (j : Nat) (h : j < l.length) :
    w.cell? ⟨b, off + j * 2, none⟩ = some (.int .i64 ((l[j].c : Nat) : Int)) ∧ w.cell? ⟨b, off + j * 2 + 1, none⟩ = some (.int .i64 ((l[j].k : Nat) : Int)) :=
  ⟨H j h 0 (by rw [Sp.enc_len]; omega), H j h 1 (by rw [Sp.enc_len]; omega)⟩
/-- One link. -/
def lkD (x : Lk) (d : Int) : Int := if d = 0 then x.a else if d = 1 then x.b else if d = 2 then x.c else x.d
def colM (M : List (List Lk)) (c : Nat) : List Lk := (M[c]?).getD []
def SpIn (M : List (List Lk)) (s : Sp) : Prop := s.c < M.length ∧ s.k < (colM M s.c).length
theorem colM_at {M : List (List Lk)} {c : Nat} (h : c < M.length) : colM M c = M[c] := by unfold colM; rw [List.getElem?_eq_getElem h]; rfl
/-- A grid's links, and where they lead. -/
structure Net where
  W : Nat
  M : List (List Lk)
  go : Sp → Int → Option Sp
  len : M.length ≤ 4096
  col : ∀ c, (colM M c).length ≤ 8
  wle : W ≤ 64
  dir : ∀ s d t, go s d = some t → okD d = true
  is : ∀ s (h : SpIn M s) d, okD d = true → lkD ((colM M s.c)[s.k]'h.2) d = match go s d with
    | some t => ((t.k : Nat) : Int)
    | none => -1
  lead : ∀ s, SpIn M s → ∀ d t, go s d = some t → SpIn M t ∧ ((t.c : Nat) : Int) = s.c + dxD d + dzD d * W
  sym : SymP go (SpIn M)
theorem Net.small (N : Net) {s : Sp} (h : SpIn N.M s) : s.c < 4096 ∧ s.k < 8 := ⟨Nat.lt_of_lt_of_le h.1 N.len, Nat.lt_of_lt_of_le h.2 (N.col s.c)⟩
theorem Net.rnd_in (N : Net) {s t : Sp} {d e : Int} (h : SpIn N.M s) (q : rndP N.go s d e = some t) : SpIn N.M t := by
  unfold rndP at q
  split at q
  · rename_i m hm
    exact (N.lead m (N.lead s h d m hm).1 e t q).1
  · cases q
theorem Net.dia_in (N : Net) {s t : Sp} {d e : Int} (h : SpIn N.M s) (q : diaP N.go s d e = some t) : SpIn N.M t := N.rnd_in h (bothP_is q).1

/-- A ground, where it lies. -/
structure GnAt (wd : Int) (v : Value) (W : World) (B : Nat) : Prop where
  c0 : W.cell? ⟨B, 0, none⟩ = some (.int .i64 wd)
  c1 : W.cell? ⟨B, 1, none⟩ = some v
theorem GnAt.new {wd : Int} {v : Value} {W W' : World} {B : Nat} (h : GnAt wd v W B) (q : New W W') : GnAt wd v W' B := ⟨q.keep h.c0, q.keep h.c1⟩
/-- Two numbers, where they lie. -/
structure SpAt (s : Sp) (W : World) (B : Nat) : Prop where
  c0 : W.cell? ⟨B, 0, none⟩ = some (.int .i64 ((s.c : Nat) : Int))
  c1 : W.cell? ⟨B, 1, none⟩ = some (.int .i64 ((s.k : Nat) : Int))
theorem SpAt.new {s : Sp} {W W' : World} {B : Nat} (h : SpAt s W B) (q : New W W') : SpAt s W' B := ⟨q.keep h.c0, q.keep h.c1⟩
/-- Two cells of nothing, to be written. -/
structure Res2 (W : World) (B : Nat) : Prop where
  c0 : W.cell? ⟨B, 0, none⟩ = some (.int .i64 0)
  c1 : W.cell? ⟨B, 1, none⟩ = some (.int .i64 0)
  f0 : W.frozen? ⟨B, 0, none⟩ = false
  f1 : W.frozen? ⟨B, 1, none⟩ = false
theorem Res2.new {W W' : World} {B : Nat} (h : Res2 W B) (q : New W W') : Res2 W' B := ⟨q.keep h.c0, q.keep h.c1, q.keepF h.c0 h.f0, q.keepF h.c1 h.f1⟩

end Go.Proofs.YtgoggogcbjfofaaDoor
