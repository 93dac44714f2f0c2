import Derived.Test.YtklopjbpfddgfaaGreatRaGrZ12
import Derived.Test.YtklopjbpfddgfaaGreatRaRbZ12
import Derived.Test.YtklopjbpfddgfaaGreatOgXZ12

/- The law OpenHigh. -/
namespace Go.Proofs.YtklopjbpfddgfaaGreat
open Go.RowKit
set_option linter.unusedVariables false

/-! Plain. -/
theorem opX_sub {C : CfgR} {l : List Sn} {i : Nat} (h : i < (opX C l).length) : ∃ h2 : (opX C l)[i] < l.length, opnB C l (opX C l)[i] = true := by
  obtain ⟨h0, h1⟩ := opX_in h
  have he : opX C l = opL C l := by unfold opX; rw [if_pos h0]
  have hm : (opX C l)[i] ∈ opL C l := by
    have := List.getElem_mem h
    generalize hx : (opX C l)[i] = x at *
    rw [he] at this
    exact this
  unfold opL at hm
  exact ⟨h1, (List.mem_filter.1 hm).2⟩
theorem opX_rise {C : CfgR} {l : List Sn} {i j : Nat} (hij : i < j) (hj : j < (opX C l).length) : (opX C l)[i]'(by omega) < (opX C l)[j] := by
  have hp : (opX C l).Pairwise (· < ·) := by
    unfold opX
    split
    · exact List.Pairwise.filter _ (List.pairwise_lt_range)
    · exact List.Pairwise.nil
  exact List.pairwise_iff_getElem.1 hp i j (by omega) hj hij
theorem flX_is {C : CfgR} {l : List Sn} {i : Nat} (h : i < (flX C l).length) : ∃ (k : Nat) (hk : k < l.length), k = (opX C l)[i]'(by rw [← flX_len]; exact h) ∧ l[k].wk = true ∧ (flX C l)[i] = ⟨l[k].hi, roofF l k, 1⟩ := by
  have h' : i < (opX C l).length := by rw [← flX_len]; exact h
  obtain ⟨h2, h3⟩ := opX_sub h'
  refine ⟨_, h2, rfl, ?_, by rw [flX_at, flOf_at h2]⟩
  rw [opnB_at C h2] at h3
  exact (Bool.and_eq_true _ _ ▸ h3).1
theorem sep_lt {l : List Sn} (h : Sep l) {i j : Nat} (hij : i < j) (hj : j < l.length) : (l[i]'(by omega)).hi < l[j].lo := List.pairwise_iff_getElem.1 h i j (by omega) hj hij
/-- Nothing solid in a floor's room. -/
theorem flX_free {C : CfgR} {l : List Sn} (hs : spE l = 0) {k j : Nat} (hk : k < l.length) (hj : j < l.length) : ¬ (l[k].hi < l[j].hi ∧ l[j].lo < roofF l k) := by
  obtain ⟨-, hp, hS⟩ := chkE_zero hs
  rintro ⟨h1, h2⟩
  have hpk := hp _ (List.getElem_mem hk)
  have hpj := hp _ (List.getElem_mem hj)
  rcases Nat.lt_trichotomy k j with q | q | q
  · by_cases e : j = k + 1
    · subst e
      rw [roofF_mid hj] at h2
      omega
    · have hk1 : k + 1 < l.length := by omega
      rw [roofF_mid hk1] at h2
      have h3 := sep_lt hS (show k + 1 < j by omega) hj
      have hp1 := hp _ (List.getElem_mem hk1)
      omega
  · subst q; omega
  · have := sep_lt hS q hk
    omega
theorem flX_up {C : CfgR} {l : List Sn} (hs : spE l = 0) {i : Nat} (h : i + 1 < (flX C l).length) : (flX C l)[i].top ≤ (flX C l)[i + 1].y := by
  obtain ⟨-, hp, hS⟩ := chkE_zero hs
  obtain ⟨a, ha, ea, -, e1⟩ := flX_is (show i < (flX C l).length by omega)
  obtain ⟨b, hb, eb, -, e2⟩ := flX_is h
  rw [e1, e2]
  have hab : a < b := by
    rw [ea, eb]
    exact opX_rise (by omega) (by rw [← flX_len]; exact h)
  show roofF l a ≤ l[b].hi
  have hpb := hp _ (List.getElem_mem hb)
  by_cases e : b = a + 1
  · subst e
    rw [roofF_mid hb]
    omega
  · have h1 : a + 1 < l.length := by omega
    rw [roofF_mid h1]
    have h3 := sep_lt hS (show a + 1 < b by omega) hb
    have hp1 := hp _ (List.getElem_mem h1)
    omega

end Go.Proofs.YtklopjbpfddgfaaGreat

/- What is built may be, and its parts. Plain. -/
namespace Go.Proofs.YtklopjbpfddgfaaGreat
open Go.RowKit
set_option linter.unusedVariables false

theorem bE_zero {C : CfgR} {l : List TriR} {x z w d : Int} (h : bE C l x z w d = 0) : rchk C l = 0 ∧ boxB x z w d = true ∧ anyF C l x z w (w * d).toNat = false := by
  unfold bE at h
  split at h
  · rename_i h1; exact absurd h h1
  · rename_i h1
    have h1' : rchk C l = 0 := by simpa using h1
    cases hb : boxB x z w d with
    | false => rw [hb] at h; simp at h
    | true =>
      rw [hb] at h
      cases hf : anyF C l x z w (w * d).toNat with
      | true => rw [hf] at h; simp at h
      | false => exact ⟨h1', rfl, rfl⟩
theorem bE_of {C : CfgR} {l : List TriR} {x z w d : Int} (h1 : rchk C l = 0) (h2 : boxB x z w d = true) (h3 : anyF C l x z w (w * d).toNat = false) : bE C l x z w d = 0 := (b_fine h1 h2 h3).1
theorem bR_at {C : CfgR} {l : List TriR} {x z w d : Int} (h : bE C l x z w d = 0) : bR C l x z w d = rowsL C l x z w (w * d).toNat := by unfold bR; rw [if_pos h]
theorem bF_len {C : CfgR} {l : List TriR} {x z w d : Int} (h : bE C l x z w d = 0) : ((bF C l x z w d).length : Int) = w * d := by
  have hb := boxB_iff.1 (bE_zero h).2.1
  have h1 : 0 ≤ w * d := Int.mul_nonneg (by omega) (by omega)
  unfold bF
  rw [List.length_map, bR_at h, rowsL_len]
  omega
theorem bF_at {C : CfgR} {l : List TriR} {x z w d : Int} (h : bE C l x z w d = 0) {n : Nat} (hn : n < (bF C l x z w d).length) : (bF C l x z w d)[n] = flX C (colQ C l (plX x w n) (plZ z w n)) ∧ fullB C l (plX x w n) (plZ z w n) = false := by
  have hl : n < (w * d).toNat := by
    unfold bF at hn
    rw [List.length_map, bR_at h, rowsL_len] at hn
    exact hn
  have e : (bF C l x z w d)[n]? = some (flX C (colQ C l (plX x w n) (plZ z w n))) := by
    unfold bF
    rw [bR_at h]
    unfold rowsL
    rw [List.getElem?_map, List.getElem?_map, List.getElem?_range hl]
    rfl
  refine ⟨?_, ?_⟩
  · rw [List.getElem?_eq_getElem hn] at e
    exact Option.some.inj e
  · have h3 := (bE_zero h).2.2
    unfold anyF at h3
    rw [List.any_eq_false] at h3
    have := h3 n (List.mem_range.2 hl)
    unfold atF at this
    simpa using this

theorem colQ_chk {C : CfgR} {l : List TriR} {x z : Int} (h : fullB C l x z = false) : spE (colQ C l x z) = 0 := by
  have hb : ∀ p ∈ colL C l x z, -2048 ≤ p.lo ∧ p.lo ≤ p.hi ∧ p.hi ≤ 2048 := fun p hp => by
    unfold colL at hp
    split at hp
    · obtain ⟨T, -, hT⟩ := List.mem_filterMap.1 hp
      exact (pc_fit hT).1
    · cases hp
  refine chk_of (l := colL C l x z) (mrg_is fun p hp => (hb p hp).2.1) hb ?_
  unfold fullB at h
  have := of_decide_eq_false h
  show (colQ C l x z).length ≤ 8
  omega

/-- Floors of a column that may be rise. -/
theorem flX_rise {C : CfgR} {r : List Sn} (hs : spE r = 0) : riseB (flX C r) = true := by
  refine riseB_all (flX_len8 C r) fun j hj => ?_
  obtain ⟨-, hp, hS⟩ := chkE_zero hs
  obtain ⟨k, hk, -, -, e⟩ := flX_is hj
  have hpk := hp _ (List.getElem_mem hk)
  rw [okAt_at hj]
  have hlo : leastAt (flX C r) j ≤ (flX C r)[j].y := by
    cases j with
    | zero =>
      show (-2048 : Int) ≤ _
      rw [e]
      exact Int.le_trans hpk.1 hpk.2.1
    | succ i =>
      rw [leastAt_succ (by omega)]
      exact flX_up hs hj
  rw [e] at hlo ⊢
  unfold okF
  have ht : r[k].hi < roofF r k ∧ roofF r k ≤ 1048576 := by
    by_cases h1 : k + 1 < r.length
    · rw [roofF_mid h1]
      have h2 := sep_lt hS (show k < k + 1 by omega) h1
      have := hp _ (List.getElem_mem h1)
      omega
    · rw [roofF_last (by omega)]
      omega
  simp only [Bool.and_eq_true, wiB_iff]
  simp only at hlo
  refine ⟨⟨hlo, hpk.2.2⟩, ⟨by omega, ht.2⟩, by omega, by omega⟩
/-- .. and have room. -/
theorem flX_room {C : CfgR} {r : List Sn} {j : Nat} (h : j < (flX C r).length) : decide (wrap64 ((flX C r)[j].top - (flX C r)[j].y) < C.ht) = false ∧ (flX C r)[j].area = 1 := by
  have h' : j < (opX C r).length := by rw [← flX_len]; exact h
  obtain ⟨h2, h3⟩ := opX_sub h'
  rw [opnB_at C h2] at h3
  rw [flX_at, flOf_at h2]
  have h4 := of_decide_eq_true ((Bool.and_eq_true _ _ ▸ h3).2)
  exact ⟨decide_eq_false (by simp only; omega), rfl⟩

/-- What is built may be. -/
theorem built_fine {C : CfgR} {l : List TriR} {x z w d : Int} (h : bE C l x z w d = 0) {G : Gd} (h1 : G.x = x) (h2 : G.z = z) (h3 : G.w = w) (h4 : G.d = d) (h5 : G.L = bF C l x z w d) : gE G = 0 := by
  have hb := boxB_iff.1 (bE_zero h).2.1
  refine gd_fine (placeB_iff.2 (by rw [h1, h2, h3, h4]; omega)) (by rw [h5, h3, h4]; exact bF_len h) fun j hj => ?_
  have hj' : j < (bF C l x z w d).length := by rw [← h5]; exact hj
  have e : G.L[j] = (bF C l x z w d)[j] := by
    have : G.L[j]? = (bF C l x z w d)[j]? := by rw [h5]
    rw [List.getElem?_eq_getElem hj, List.getElem?_eq_getElem hj'] at this
    exact Option.some.inj this
  rw [e]
  obtain ⟨q1, q2⟩ := bF_at h hj'
  rw [q1]
  exact flX_rise (colQ_chk q2)

/-- Where a part's columns stand in the whole. -/
theorem part_at {x z w d left top less : Int} {n : Nat} (hl0 : 0 ≤ left) (ht0 : 0 ≤ top) (hs0 : 0 ≤ less) (hl : left ≤ w) (ht : top ≤ d) (h1 : less ≤ w - left) (h2 : less ≤ d - top) (hw : w ≤ 64) (hd : d ≤ 64) (hn : (n : Int) < (w - left - less) * (d - top - less)) :
    ∃ m : Nat, (m : Int) = ((n : Int) / (w - left - less) + top) * w + ((n : Int) % (w - left - less) + left) ∧ (m : Int) < w * d ∧ plX x w m = plX (x + left) (w - left - less) n ∧ plZ z w m = plZ (z + top) (w - left - less) n := by
  obtain ⟨w2, hw2⟩ : ∃ q, q = w - left - less := ⟨_, rfl⟩
  obtain ⟨d2, hd2⟩ : ∃ q, q = d - top - less := ⟨_, rfl⟩
  rw [← hw2, ← hd2] at hn
  rw [← hw2]
  have hw2p : 0 < w2 := by
    rcases Int.lt_or_le 0 w2 with q | q
    · exact q
    · have : w2 = 0 := by omega
      rw [this] at hn
      simp at hn
      omega
  have q0 : 0 ≤ (n : Int) % w2 := Int.emod_nonneg _ (by omega)
  have q1 : (n : Int) % w2 < w2 := Int.emod_lt_of_pos _ hw2p
  have q2 : 0 ≤ (n : Int) / w2 := Int.ediv_nonneg (by omega) (by omega)
  have q3 : (n : Int) / w2 < d2 := Int.ediv_lt_of_lt_mul hw2p (by rw [Int.mul_comm]; exact hn)
  obtain ⟨a, ha⟩ : ∃ q, q = (n : Int) / w2 + top := ⟨_, rfl⟩
  obtain ⟨b, hb⟩ : ∃ q, q = (n : Int) % w2 + left := ⟨_, rfl⟩
  rw [← ha, ← hb]
  have a0 : 0 ≤ a := by omega
  have a1 : a ≤ d - 1 := by omega
  have b0 : 0 ≤ b := by omega
  have b1 : b < w := by omega
  have p0 : 0 ≤ a * w := Int.mul_nonneg a0 (by omega)
  have p1 : a * w ≤ (d - 1) * w := Int.mul_le_mul_of_nonneg_right a1 (by omega)
  have p2 : (d - 1) * w = w * d - w := by rw [Int.sub_mul, Int.one_mul, Int.mul_comm]
  refine ⟨(a * w + b).toNat, by omega, by omega, ?_, ?_⟩
  · unfold plX
    have e : ((a * w + b).toNat : Int) = b + w * a := by rw [Int.mul_comm w a]; omega
    rw [e, Int.add_mul_emod_self_left, Int.emod_eq_of_lt b0 b1]
    omega
  · unfold plZ
    have e : ((a * w + b).toNat : Int) = b + w * a := by rw [Int.mul_comm w a]; omega
    rw [e, Int.add_mul_ediv_left _ _ (by omega), Int.ediv_eq_zero_of_lt b0 b1]
    omega

theorem part_fine {C : CfgR} {l : List TriR} {x z w d left top less : Int} (h : bE C l x z w d = 0) (hl0 : 0 ≤ left) (ht0 : 0 ≤ top) (hs0 : 0 ≤ less) (hl : left ≤ w) (ht : top ≤ d) (h1 : less ≤ w - left) (h2 : less ≤ d - top) (hx : x + left ≤ 64) (hz : z + top ≤ 64) :
    bE C l (x + left) (z + top) (w - left - less) (d - top - less) = 0 := by
  obtain ⟨e1, e2, e3⟩ := bE_zero h
  have hb := boxB_iff.1 e2
  refine bE_of e1 (boxB_iff.2 (by omega)) ?_
  unfold anyF at e3 ⊢
  rw [List.any_eq_false] at e3 ⊢
  intro n hn
  have hn' := List.mem_range.1 hn
  have hm0 : 0 ≤ (w - left - less) * (d - top - less) := Int.mul_nonneg (by omega) (by omega)
  obtain ⟨m, -, m2, m3, m4⟩ := part_at (x := x) (z := z) (n := n) hl0 ht0 hs0 hl ht h1 h2 (by omega) (by omega) (by omega)
  have := e3 m (List.mem_range.2 (by omega))
  unfold atF at this ⊢
  rw [m3, m4] at this
  exact this

theorem part_row {C : CfgR} {l : List TriR} {x z w d left top less : Int} (h : bE C l x z w d = 0) (hl0 : 0 ≤ left) (ht0 : 0 ≤ top) (hs0 : 0 ≤ less) (hl : left ≤ w) (ht : top ≤ d) (h1 : less ≤ w - left) (h2 : less ≤ d - top) (hx : x + left ≤ 64) (hz : z + top ≤ 64) {n m : Nat} (hn : n < (bF C l (x + left) (z + top) (w - left - less) (d - top - less)).length) (hm : m < (bF C l x z w d).length)
    (e : (m : Int) = ((n : Int) / (w - left - less) + top) * w + ((n : Int) % (w - left - less) + left)) : (bF C l (x + left) (z + top) (w - left - less) (d - top - less))[n] = (bF C l x z w d)[m] := by
  have h' := part_fine h hl0 ht0 hs0 hl ht h1 h2 hx hz
  have hb := boxB_iff.1 (bE_zero h).2.1
  have hl2 := bF_len h'
  obtain ⟨m', m1, m2, m3, m4⟩ := part_at (x := x) (z := z) (n := n) hl0 ht0 hs0 hl ht h1 h2 (by omega) (by omega) (by omega)
  have hmm : m' = m := by omega
  subst hmm
  rw [(bF_at h' hn).1, (bF_at h hm).1, m3, m4]

end Go.Proofs.YtklopjbpfddgfaaGreat
