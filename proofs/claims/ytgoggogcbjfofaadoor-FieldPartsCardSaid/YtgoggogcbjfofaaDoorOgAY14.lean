import Derived.Test.YtgoggogcbjfofaaDoorSoAY14

/- Stretches of a column, merged: what makes rows of spans the merged ones of pieces. Plain numbers: no function of the program in sight. -/
namespace Go.Proofs.YtgoggogcbjfofaaDoor
open Go.RowKit
set_option linter.unusedVariables false

/-- A span: from lo to hi; may it be walked? -/
structure Sn where
  (lo hi : Int)
  wk : Bool
instance : Inhabited Sn := ⟨⟨0, 0, false⟩⟩
def Sn.zero : Sn := ⟨0, 0, false⟩
theorem Sn.ext' {a b : Sn} (h1 : a.lo = b.lo) (h2 : a.hi = b.hi) (h3 : a.wk = b.wk) : a = b := by
  cases a; cases b; simp_all
def Sn.enc (x : Sn) : List Value := #[.int .i64 x.lo, .int .i64 x.hi, .bool x.wk].toList
theorem Sn.enc_len (x : Sn) : x.enc.length = 3 := rfl
theorem Sn.enc_one (x : Sn) : ∀ u ∈ x.enc, u.oneCell' = true := by
  intro u hu
  simp [Sn.enc] at hu
  rcases hu with rfl | rfl | rfl <;> rfl
def Sn.eqB (a b : Sn) : Bool := a.lo == b.lo && a.hi == b.hi && a.wk == b.wk
theorem Sn.eqB_iff (a b : Sn) : a.eqB b = true ↔ a = b := by
  obtain ⟨a0, a1, a2⟩ := a
  obtain ⟨b0, b1, b2⟩ := b
  simp [Sn.eqB, and_assoc]
instance : DecidableEq Sn := fun a b => decidable_of_iff _ (Sn.eqB_iff a b)
theorem Sn.cells {w : World} {b off : Nat} {l : List Sn} (H : RowAt Sn.enc 3 w b off l) (j : Nat) (h : j < l.length) :
    w.cell? ⟨b, off + j * 3, none⟩ = some (.int .i64 l[j].lo) ∧ w.cell? ⟨b, off + j * 3 + 1, none⟩ = some (.int .i64 l[j].hi) ∧ w.cell? ⟨b, off + j * 3 + 2, none⟩ = some (.bool l[j].wk) :=
  ⟨H j h 0 (by rw [Sn.enc_len]; omega), H j h 1 (by rw [Sn.enc_len]; omega), H j h 2 (by rw [Sn.enc_len]; omega)⟩
theorem Sl.row' {α : Type} {enc : α → List Value} {k : Nat} {w : World} {at0 : Option Addr} {n c : Nat} {l : List α} (h : Sl enc k w (.slice at0 n c) l) : n = l.length ∧ l.length ≤ c ∧ c ≤ maxLen ∧ (at0 = none → c = 0) ∧ RowIn enc k w at0 l := by
  obtain ⟨a, c', e, h1, h2, h3, h4⟩ := h
  injection e with e1 e2 e3
  subst e1 e2 e3
  exact ⟨rfl, h1, h2, h3, h4⟩

/-! Pieces and spans. -/
def Proper (l : List Sn) : Prop := ∀ p ∈ l, p.lo ≤ p.hi
/-- Each above the one ahead. -/
def Sep (l : List Sn) : Prop := l.Pairwise fun a b => a.hi < b.lo
theorem Sep.three {l : List Sn} (h : Sep l) {a b : Sn} (ha : a ∈ l) (hb : b ∈ l) : a = b ∨ a.hi < b.lo ∨ b.hi < a.lo := by
  obtain ⟨i, hi, rfl⟩ := List.getElem_of_mem ha
  obtain ⟨j, hj, rfl⟩ := List.getElem_of_mem hb
  have h' := List.pairwise_iff_getElem.1 h
  rcases Nat.lt_trichotomy i j with k | k | k
  · exact .inr (.inl (h' i j hi hj k))
  · subst k; exact .inl rfl
  · exact .inr (.inr (h' j i hj hi k))
/-- Two of a row that have a height in common are one. -/
theorem Sep.one {l : List Sn} (h : Sep l) {a b : Sn} (ha : a ∈ l) (hb : b ∈ l) {y : Int} (a1 : a.lo ≤ y) (a2 : y ≤ a.hi) (b1 : b.lo ≤ y) (b2 : y ≤ b.hi) : a = b := by
  rcases h.three ha hb with k | k | k
  · exact k
  · omega
  · omega

/-- R are the spans of the pieces l. -/
structure IsM (l R : List Sn) : Prop where
  sep : Sep R
  fit : Proper R
  isin : ∀ p ∈ l, ∃ r ∈ R, r.lo ≤ p.lo ∧ p.hi ≤ r.hi
  cov : ∀ r ∈ R, ∀ c, r.lo ≤ c → c < r.hi → ∃ p ∈ l, p.lo ≤ c ∧ c < p.hi
  low : ∀ r ∈ R, ∃ p ∈ l, p.lo = r.lo
  top : ∀ r ∈ R, r.wk = true ↔ ∃ p ∈ l, p.hi = r.hi ∧ p.wk = true

theorem IsM.nil : IsM [] [] := ⟨List.Pairwise.nil, fun p h => by simp at h, fun p h => by simp at h, fun p h => by simp at h, fun p h => by simp at h, fun p h => by simp at h⟩
theorem IsM.congr {l l' R : List Sn} (h : IsM l R) (e : ∀ p, p ∈ l' ↔ p ∈ l) : IsM l' R where
  sep := h.sep
  fit := h.fit
  isin p hp := h.isin p ((e p).1 hp)
  cov r hr c h1 h2 := by obtain ⟨p, hp, k⟩ := h.cov r hr c h1 h2; exact ⟨p, (e p).2 hp, k⟩
  low r hr := by obtain ⟨p, hp, k⟩ := h.low r hr; exact ⟨p, (e p).2 hp, k⟩
  top r hr := by
    rw [h.top r hr]
    constructor
    · rintro ⟨p, hp, k⟩; exact ⟨p, (e p).2 hp, k⟩
    · rintro ⟨p, hp, k⟩; exact ⟨p, (e p).1 hp, k⟩
/-- What may be spans is merged already. -/
theorem IsM.self {R : List Sn} (h : Sep R) (hf : Proper R) : IsM R R where
  sep := h
  fit := hf
  isin p hp := ⟨p, hp, Int.le_refl _, Int.le_refl _⟩
  cov r hr c h1 h2 := ⟨r, hr, h1, h2⟩
  low r hr := ⟨r, hr, rfl⟩
  top r hr := by
    constructor
    · intro k; exact ⟨r, hr, rfl, k⟩
    · rintro ⟨p, hp, k1, k2⟩
      have f1 := hf p hp
      have f2 := hf r hr
      have := h.one hp hr (y := r.hi) (by omega) (by omega) (by omega) (by omega)
      rw [← this]; exact k2

/-- A span's stretch lies in one span of the other row. -/
theorem IsM.sinks {l l' R R' : List Sn} (hf : Proper l) (h : IsM l R) (h' : IsM l' R') (e : ∀ p, p ∈ l → p ∈ l') {r : Sn} (hr : r ∈ R) : ∃ r' ∈ R', r'.lo ≤ r.lo ∧ r.hi ≤ r'.hi := by
  obtain ⟨p, hp, hlo⟩ := h.low r hr
  obtain ⟨r', hr', k1, k2⟩ := h'.isin p (e p hp)
  have hfr := h.fit r hr
  have hfr' := h'.fit r' hr'
  have key : ∀ n : Nat, r.lo + n ≤ r.hi → r'.lo ≤ r.lo + n ∧ r.lo + n ≤ r'.hi := by
    intro n
    induction n with
    | zero =>
      intro _
      have := hf p hp
      omega
    | succ n ih =>
      intro hle
      obtain ⟨i1, i2⟩ := ih (by omega)
      obtain ⟨u, hu, u1, u2⟩ := h.cov r hr (r.lo + n) (by omega) (by omega)
      obtain ⟨v, hv, v1, v2⟩ := h'.isin u (e u hu)
      have := h'.sep.one hr' hv (y := r.lo + n) i1 i2 (by omega) (by omega)
      subst this
      omega
  obtain ⟨n, hn⟩ : ∃ n : Nat, r.hi = r.lo + n := ⟨(r.hi - r.lo).toNat, by omega⟩
  exact ⟨r', hr', by omega, by have := (key n (by omega)).2; omega⟩

theorem sep_rise {R : List Sn} (h : Sep R) (hf : Proper R) : R.Pairwise fun a b => a.lo < b.lo := by
  unfold Sep at h
  rw [List.pairwise_iff_getElem] at h ⊢
  intro i j hi hj hij
  have := h i j hi hj hij
  have := hf _ (List.getElem_mem hi)
  omega
theorem rise_one : ∀ {R S : List Sn}, R.Pairwise (fun a b => a.lo < b.lo) → S.Pairwise (fun a b => a.lo < b.lo) → (∀ a, a ∈ R ↔ a ∈ S) → R = S
  | [], [], _, _, _ => rfl
  | [], s :: S, _, _, h => absurd ((h s).2 List.mem_cons_self) (by simp)
  | r :: R, [], _, _, h => absurd ((h r).1 List.mem_cons_self) (by simp)
  | r :: R, s :: S, hr, hs, h => by
    rw [List.pairwise_cons] at hr hs
    have e : r = s := by
      rcases List.mem_cons.1 ((h r).1 List.mem_cons_self) with k | k
      · exact k
      · rcases List.mem_cons.1 ((h s).2 List.mem_cons_self) with g | g
        · exact g.symm
        · have := hs.1 r k
          have := hr.1 s g
          omega
    subst e
    congr 1
    refine rise_one hr.2 hs.2 fun a => ?_
    constructor
    · intro ha
      rcases List.mem_cons.1 ((h a).1 (List.mem_cons_of_mem _ ha)) with k | k
      · subst k; have := hr.1 a ha; omega
      · exact k
    · intro ha
      rcases List.mem_cons.1 ((h a).2 (List.mem_cons_of_mem _ ha)) with k | k
      · subst k; have := hs.1 a ha; omega
      · exact k

/-- There is one row of spans of pieces, in whichever order they come. -/
theorem IsM.uniq {l l' R R' : List Sn} (hf : Proper l) (h : IsM l R) (h' : IsM l' R') (e : ∀ p, p ∈ l ↔ p ∈ l') : R = R' := by
  have half : ∀ {l l' R R' : List Sn}, Proper l → Proper l' → IsM l R → IsM l' R' → (∀ p, p ∈ l ↔ p ∈ l') → ∀ r, r ∈ R → r ∈ R' := by
    intro l l' R R' hf hf' h h' e r hr
    obtain ⟨r', hr', a1, a2⟩ := h.sinks hf h' (fun p hp => (e p).1 hp) hr
    obtain ⟨s, hs, b1, b2⟩ := h'.sinks hf' h (fun p hp => (e p).2 hp) hr'
    have f1 := h.fit r hr
    have := h.sep.one hr hs (y := r.lo) (by omega) (by omega) (by omega) (by omega)
    subst this
    have e1 : r.lo = r'.lo := by omega
    have e2 : r.hi = r'.hi := by omega
    have e3 : r.wk = r'.wk := by
      rw [Bool.eq_iff_iff, h.top r hr, h'.top r' hr', e2]
      constructor
      · rintro ⟨p, hp, k⟩; exact ⟨p, (e p).1 hp, k⟩
      · rintro ⟨p, hp, k⟩; exact ⟨p, (e p).2 hp, k⟩
    rw [Sn.ext' e1 e2 e3]
    exact hr'
  have hf' : Proper l' := fun p hp => hf p ((e p).2 hp)
  exact rise_one (sep_rise h.sep h.fit) (sep_rise h'.sep h'.fit) fun a => ⟨half hf hf' h h' e a, half hf' hf h' h (fun p => (e p).symm) a⟩

/-- Merged in parts. -/
theorem IsM.parts {a P b R : List Sn} (hf : Proper a) (h1 : IsM a P) (h2 : IsM (P ++ b) R) : IsM (a ++ b) R where
  sep := h2.sep
  fit := h2.fit
  isin p hp := by
    rcases List.mem_append.1 hp with k | k
    · obtain ⟨q, hq, q1, q2⟩ := h1.isin p k
      obtain ⟨r, hr, r1, r2⟩ := h2.isin q (List.mem_append_left _ hq)
      exact ⟨r, hr, by omega, by omega⟩
    · exact h2.isin p (List.mem_append_right _ k)
  cov r hr c c1 c2 := by
    obtain ⟨q, hq, q1, q2⟩ := h2.cov r hr c c1 c2
    rcases List.mem_append.1 hq with k | k
    · obtain ⟨p, hp, p1, p2⟩ := h1.cov q k c q1 q2
      exact ⟨p, List.mem_append_left _ hp, p1, p2⟩
    · exact ⟨q, List.mem_append_right _ k, q1, q2⟩
  low r hr := by
    obtain ⟨q, hq, q1⟩ := h2.low r hr
    rcases List.mem_append.1 hq with k | k
    · obtain ⟨p, hp, p1⟩ := h1.low q k
      exact ⟨p, List.mem_append_left _ hp, by omega⟩
    · exact ⟨q, List.mem_append_right _ k, q1⟩
  top r hr := by
    rw [h2.top r hr]
    constructor
    · rintro ⟨q, hq, q1, q2⟩
      rcases List.mem_append.1 hq with k | k
      · obtain ⟨p, hp, p1, p2⟩ := (h1.top q k).1 q2
        exact ⟨p, List.mem_append_left _ hp, by omega, p2⟩
      · exact ⟨q, List.mem_append_right _ k, q1, q2⟩
    · rintro ⟨p, hp, p1, p2⟩
      rcases List.mem_append.1 hp with k | k
      · obtain ⟨q, hq, q1, q2⟩ := h1.isin p k
        obtain ⟨s, hs, s1, s2⟩ := h2.isin q (List.mem_append_left _ hq)
        have f1 := hf p k
        have f2 := h2.fit r hr
        have := h2.sep.one hs hr (y := r.hi) (by omega) (by omega) (by omega) (by omega)
        subst this
        refine ⟨q, List.mem_append_left _ hq, by omega, ?_⟩
        exact (h1.top q hq).2 ⟨p, k, by omega, p2⟩
      · exact ⟨p, List.mem_append_right _ k, p1, p2⟩

/-- A piece below all. -/
theorem IsM.cons {l R : List Sn} {x : Sn} (h : IsM l R) (hf : Proper l) (hx : x.lo ≤ x.hi) (hb : ∀ p ∈ l, x.hi < p.lo) : IsM (x :: l) (x :: R) where
  sep := by
    refine List.pairwise_cons.2 ⟨fun r hr => ?_, h.sep⟩
    obtain ⟨p, hp, k⟩ := h.low r hr
    have := hb p hp
    omega
  fit := by
    intro p hp
    rcases List.mem_cons.1 hp with rfl | k
    · exact hx
    · exact h.fit p k
  isin p hp := by
    rcases List.mem_cons.1 hp with rfl | k
    · exact ⟨p, List.mem_cons_self, Int.le_refl _, Int.le_refl _⟩
    · obtain ⟨r, hr, k⟩ := h.isin p k
      exact ⟨r, List.mem_cons_of_mem _ hr, k⟩
  cov r hr c c1 c2 := by
    rcases List.mem_cons.1 hr with rfl | k
    · exact ⟨r, List.mem_cons_self, c1, c2⟩
    · obtain ⟨p, hp, k⟩ := h.cov r k c c1 c2
      exact ⟨p, List.mem_cons_of_mem _ hp, k⟩
  low r hr := by
    rcases List.mem_cons.1 hr with rfl | k
    · exact ⟨r, List.mem_cons_self, rfl⟩
    · obtain ⟨p, hp, k⟩ := h.low r k
      exact ⟨p, List.mem_cons_of_mem _ hp, k⟩
  top r hr := by
    rcases List.mem_cons.1 hr with rfl | k
    · constructor
      · intro g; exact ⟨r, List.mem_cons_self, rfl, g⟩
      · rintro ⟨p, hp, p1, p2⟩
        rcases List.mem_cons.1 hp with rfl | k
        · exact p2
        · have := hb p k
          have := hf p k
          omega
    · rw [h.top r k]
      constructor
      · rintro ⟨p, hp, g⟩; exact ⟨p, List.mem_cons_of_mem _ hp, g⟩
      · rintro ⟨p, hp, p1, p2⟩
        rcases List.mem_cons.1 hp with rfl | k2
        · obtain ⟨q, hq, q1⟩ := h.low r k
          have := hb q hq
          have := h.fit r k
          omega
        · exact ⟨p, k2, p1, p2⟩

/-- Do two pieces meet? -/
def meets (a b : Sn) : Bool := decide (a.lo ≤ b.hi) && decide (b.lo ≤ a.hi)
/-- Two that meet are one. -/
def un (p q : Sn) : Sn := ⟨min p.lo q.lo, max p.hi q.hi, (p.wk && decide (q.hi ≤ p.hi)) || (q.wk && decide (p.hi ≤ q.hi))⟩
theorem un_lo (p q : Sn) : (un p q).lo = min p.lo q.lo := rfl
theorem un_hi (p q : Sn) : (un p q).hi = max p.hi q.hi := rfl
theorem un_wk (p q : Sn) : (un p q).wk = true ↔ (p.wk = true ∧ q.hi ≤ p.hi) ∨ (q.wk = true ∧ p.hi ≤ q.hi) := by
  unfold un; simp
theorem IsM.two {p q : Sn} (hp : p.lo ≤ p.hi) (hq : q.lo ≤ q.hi) (h1 : p.lo ≤ q.hi) (h2 : q.lo ≤ p.hi) : IsM [p, q] [un p q] where
  sep := List.pairwise_singleton _ _
  fit := by
    intro r hr
    rw [List.mem_singleton] at hr
    subst hr
    rw [un_lo, un_hi]; omega
  isin r hr := by
    refine ⟨un p q, List.mem_singleton.2 rfl, ?_⟩
    rw [un_lo, un_hi]
    simp only [List.mem_cons, List.not_mem_nil, or_false] at hr
    rcases hr with rfl | rfl
    · omega
    · omega
  cov r hr c c1 c2 := by
    rw [List.mem_singleton] at hr
    subst hr
    rw [un_lo] at c1
    rw [un_hi] at c2
    by_cases k : p.lo ≤ c ∧ c < p.hi
    · exact ⟨p, by simp, k⟩
    · exact ⟨q, by simp, by omega, by omega⟩
  low r hr := by
    rw [List.mem_singleton] at hr
    subst hr
    rw [un_lo]
    by_cases k : p.lo ≤ q.lo
    · exact ⟨p, by simp, by omega⟩
    · exact ⟨q, by simp, by omega⟩
  top r hr := by
    rw [List.mem_singleton] at hr
    subst hr
    rw [un_wk, un_hi]
    constructor
    · rintro (⟨k1, k2⟩ | ⟨k1, k2⟩)
      · exact ⟨p, by simp, by omega, k1⟩
      · exact ⟨q, by simp, by omega, k1⟩
    · rintro ⟨r, hr, k1, k2⟩
      simp only [List.mem_cons, List.not_mem_nil, or_false] at hr
      rcases hr with rfl | rfl
      · exact .inl ⟨k2, by omega⟩
      · exact .inr ⟨k2, by omega⟩

/-! What the code does: the pieces come by rising lo. -/
theorem IsM.new {l K : List Sn} {p : Sn} (h : IsM l K) (hp : p.lo ≤ p.hi) (hk : ∀ q ∈ K, q.hi < p.lo) : IsM (l ++ [p]) (K ++ [p]) where
  sep := by
    refine List.pairwise_append.2 ⟨h.sep, List.pairwise_singleton _ _, fun q hq r hr => ?_⟩
    rw [List.mem_singleton] at hr
    subst hr
    exact hk q hq
  fit := by
    intro q hq
    rcases List.mem_append.1 hq with k | k
    · exact h.fit q k
    · rw [List.mem_singleton] at k; subst k; exact hp
  isin q hq := by
    rcases List.mem_append.1 hq with k | k
    · obtain ⟨r, hr, g⟩ := h.isin q k
      exact ⟨r, List.mem_append_left _ hr, g⟩
    · rw [List.mem_singleton] at k; subst k
      exact ⟨q, List.mem_append_right _ (List.mem_singleton.2 rfl), Int.le_refl _, Int.le_refl _⟩
  cov r hr c c1 c2 := by
    rcases List.mem_append.1 hr with k | k
    · obtain ⟨q, hq, g⟩ := h.cov r k c c1 c2
      exact ⟨q, List.mem_append_left _ hq, g⟩
    · rw [List.mem_singleton] at k; subst k
      exact ⟨r, List.mem_append_right _ (List.mem_singleton.2 rfl), c1, c2⟩
  low r hr := by
    rcases List.mem_append.1 hr with k | k
    · obtain ⟨q, hq, g⟩ := h.low r k
      exact ⟨q, List.mem_append_left _ hq, g⟩
    · rw [List.mem_singleton] at k; subst k
      exact ⟨r, List.mem_append_right _ (List.mem_singleton.2 rfl), rfl⟩
  top r hr := by
    rcases List.mem_append.1 hr with k | k
    · rw [h.top r k]
      constructor
      · rintro ⟨q, hq, g⟩; exact ⟨q, List.mem_append_left _ hq, g⟩
      · rintro ⟨q, hq, g1, g2⟩
        rcases List.mem_append.1 hq with j | j
        · exact ⟨q, j, g1, g2⟩
        · rw [List.mem_singleton] at j; subst j
          have := hk r k
          omega
    · rw [List.mem_singleton] at k; subst k
      constructor
      · intro g; exact ⟨r, List.mem_append_right _ (List.mem_singleton.2 rfl), rfl, g⟩
      · rintro ⟨q, hq, g1, g2⟩
        rcases List.mem_append.1 hq with j | j
        · obtain ⟨s, hs, s1, s2⟩ := h.isin q j
          have := hk s hs
          omega
        · rw [List.mem_singleton] at j; subst j; exact g2

theorem IsM.fold {l K : List Sn} {p q : Sn} (hf : Proper l) (h : IsM l (K ++ [q])) (hp : p.lo ≤ p.hi) (hr : q.lo ≤ p.lo) (hm : p.lo ≤ q.hi) : IsM (l ++ [p]) (K ++ [un q p]) := by
  have hq := h.fit q (List.mem_append_right _ (List.mem_singleton.2 rfl))
  have hs := List.pairwise_append.1 h.sep
  refine IsM.parts hf h ?_
  have hsep : Sep (K ++ [un q p]) := by
    refine List.pairwise_append.2 ⟨hs.1, List.pairwise_singleton _ _, fun a ha b hb => ?_⟩
    rw [List.mem_singleton] at hb
    subst hb
    have := hs.2.2 a ha q (List.mem_singleton.2 rfl)
    rw [un_lo]; omega
  have hfit : Proper (K ++ [un q p]) := by
    intro a ha
    rcases List.mem_append.1 ha with k | k
    · exact h.fit a (List.mem_append_left _ k)
    · rw [List.mem_singleton] at k; subst k
      rw [un_lo, un_hi]; omega
  have t := IsM.parts (a := [q, p]) (P := [un q p]) (b := K) (R := K ++ [un q p]) (by
    intro a ha
    simp only [List.mem_cons, List.not_mem_nil, or_false] at ha
    rcases ha with rfl | rfl
    · exact hq
    · exact hp) (IsM.two hq hp (by omega) (by omega)) ((IsM.self hsep hfit).congr fun a => by simp [or_comm])
  exact t.congr fun a => by
    simp only [List.mem_append, List.mem_cons, List.not_mem_nil, or_false]
    constructor
    · rintro ((h | h) | h) <;> simp [h]
    · rintro ((h | h) | h) <;> simp [h]

/-! What the document's put does. -/
def putS : Sn → List Sn → Bool → List Sn
  | s, [], dn => if dn then [] else [s]
  | s, x :: l, dn => if meets x s then putS (un x s) l dn else if !dn && decide (s.hi < x.lo) then s :: x :: putS s l true else x :: putS s l dn
theorem putGo_above : ∀ (s : Sn) (l : List Sn), (∀ x ∈ l, s.hi < x.lo) → putS s l true = l
  | s, [], _ => rfl
  | s, x :: l, h => by
    have h1 := h x List.mem_cons_self
    have e : meets x s = false := by unfold meets; simp; omega
    unfold putS
    rw [e, putGo_above s l fun y hy => h y (List.mem_cons_of_mem _ hy)]
    simp
theorem putS_len : ∀ (s : Sn) (l : List Sn) (dn : Bool), (putS s l dn).length ≤ l.length + 1
  | s, [], dn => by unfold putS; split <;> simp
  | s, x :: l, dn => by
    unfold putS
    split
    · have := putS_len (un x s) l dn; simp; omega
    · split
      · have := putGo_len' s l
        simp; omega
      · have := putS_len s l dn; simp; omega
where
  putGo_len' : ∀ (s : Sn) (l : List Sn), (putS s l true).length ≤ l.length
    | s, [] => by simp [putS]
    | s, x :: l => by
      unfold putS
      split
      · have := putGo_len' (un x s) l; simp; omega
      · have := putGo_len' s l; simp; omega

theorem putGo_is : ∀ (R : List Sn) (s : Sn), Sep R → Proper R → s.lo ≤ s.hi → IsM (R ++ [s]) (putS s R false)
  | [], s, _, _, hs => by
    unfold putS
    exact IsM.self (List.pairwise_singleton _ _) (by intro p hp; rw [List.nil_append, List.mem_singleton] at hp; subst hp; exact hs)
  | x :: R, s, hR, hF, hs => by
    have hc := List.pairwise_cons.1 hR
    have hx := hF x List.mem_cons_self
    have hF' : Proper R := fun p hp => hF p (List.mem_cons_of_mem _ hp)
    by_cases hm : meets x s = true
    · have e : putS s (x :: R) false = putS (un x s) R false := by rw [putS, if_pos hm]
      rw [e]
      have hm' := hm
      unfold meets at hm'
      simp only [Bool.and_eq_true, decide_eq_true_eq] at hm'
      have i := putGo_is R (un x s) hc.2 hF' (by rw [un_lo, un_hi]; omega)
      have t := IsM.parts (a := [x, s]) (P := [un x s]) (b := R) (by
        intro a ha
        simp only [List.mem_cons, List.not_mem_nil, or_false] at ha
        rcases ha with rfl | rfl
        · exact hx
        · exact hs) (IsM.two hx hs hm'.1 hm'.2) (i.congr fun a => by simp [or_comm])
      exact t.congr fun a => by
        simp only [List.mem_append, List.mem_cons, List.not_mem_nil, or_false]
        constructor
        · rintro ((h | h) | h) <;> simp [h]
        · rintro ((h | h) | h) <;> simp [h]
    · have hm2 : meets x s = false := by cases g : meets x s; rfl; exact absurd g hm
      have hm' := hm2
      unfold meets at hm'
      simp only [Bool.and_eq_false_iff, decide_eq_false_iff_not] at hm'
      by_cases hlt : s.hi < x.lo
      · have e : putS s (x :: R) false = s :: x :: putS s R true := by rw [putS, hm2]; simp [hlt]
        have hab : ∀ y ∈ R, s.hi < y.lo := fun y hy => by have := hc.1 y hy; omega
        rw [e, putGo_above s R hab]
        refine (IsM.self (R := s :: x :: R) ?_ ?_).congr fun a => by
          simp only [List.mem_append, List.mem_cons, List.not_mem_nil, or_false]
          constructor
          · rintro ((h | h) | h) <;> simp [h]
          · rintro (h | h | h) <;> simp [h]
        · refine List.pairwise_cons.2 ⟨fun y hy => ?_, hR⟩
          rcases List.mem_cons.1 hy with rfl | k
          · exact hlt
          · exact hab y k
        · intro p hp
          rcases List.mem_cons.1 hp with rfl | k
          · exact hs
          · exact hF p k
      · have e : putS s (x :: R) false = x :: putS s R false := by rw [putS, hm2]; simp [hlt]
        rw [e]
        refine IsM.cons (l := R ++ [s]) (putGo_is R s hc.2 hF' hs) ?_ hx ?_
        · intro p hp
          rcases List.mem_append.1 hp with k | k
          · exact hF' p k
          · rw [List.mem_singleton] at k; subst k; exact hs
        · intro p hp
          rcases List.mem_append.1 hp with k | k
          · exact hc.1 p k
          · rw [List.mem_singleton] at k; subst k; omega

/-- One piece put to what is merged already. -/
theorem IsM.put {l R : List Sn} {s : Sn} (hf : Proper l) (h : IsM l R) (hs : s.lo ≤ s.hi) : IsM (l ++ [s]) (putS s R false) :=
  IsM.parts hf h (putGo_is R s h.sep h.fit hs)

end Go.Proofs.YtgoggogcbjfofaaDoor

/- Floors of columns, plain and as they lie. No function of the program in sight. -/
namespace Go.Proofs.YtgoggogcbjfofaaDoor
open Go.RowKit
set_option linter.unusedVariables false

/-- A floor. -/
structure Fl where
  (y top area : Int)
instance : Inhabited Fl := ⟨⟨0, 0, 0⟩⟩
def Fl.zero : Fl := ⟨0, 0, 0⟩
def Fl.enc (x : Fl) : List Value := #[.int .i64 x.y, .int .i64 x.top, .int .i64 x.area].toList
theorem Fl.enc_len (x : Fl) : x.enc.length = 3 := rfl
theorem Fl.enc_one (x : Fl) : ∀ u ∈ x.enc, u.oneCell' = true := by
  intro u hu
  simp [Fl.enc] at hu
  rcases hu with rfl | rfl | rfl <;> rfl
def Fl.eqB (a b : Fl) : Bool := a.y == b.y && a.top == b.top && a.area == b.area
theorem Fl.eqB_iff (a b : Fl) : a.eqB b = true ↔ a = b := by
  obtain ⟨a0, a1, a2⟩ := a
  obtain ⟨b0, b1, b2⟩ := b
  simp [Fl.eqB, and_assoc]
instance : DecidableEq Fl := fun a b => decidable_of_iff _ (Fl.eqB_iff a b)
theorem Fl.cells {w : World} {b off : Nat} {l : List Fl} (H : RowAt Fl.enc 3 w b off l) (j : Nat) (h : j < l.length) :
    w.cell? ⟨b, off + j * 3, none⟩ = some (.int .i64 l[j].y) ∧ w.cell? ⟨b, off + j * 3 + 1, none⟩ = some (.int .i64 l[j].top) ∧ w.cell? ⟨b, off + j * 3 + 2, none⟩ = some (.int .i64 l[j].area) :=
  ⟨H j h 0 (by rw [Fl.enc_len]; omega), H j h 1 (by rw [Fl.enc_len]; omega), H j h 2 (by rw [Fl.enc_len]; omega)⟩

end Go.Proofs.YtgoggogcbjfofaaDoor
