/- Package cells: more on the columns that are told: never turned about, within the way, at least one. No walk. -/
import Derived.Test.YtmpkciidhopckaaCellsP
namespace Go.Proofs.Ytmpkciidhopckaa
open Go.RowKit Go.Sort
set_option linter.unusedVariables false

theorem low_cross {a b c d : Nat} (hb : 0 < b) (hd : 0 < d) : (a / Nat.gcd b a) * (d / Nat.gcd d c) ≤ (c / Nat.gcd d c) * (b / Nat.gcd b a) ↔ a * d ≤ c * b := by
  have h1 : 0 < Nat.gcd b a := Nat.gcd_pos_of_pos_left a hb
  have h2 : 0 < Nat.gcd d c := Nat.gcd_pos_of_pos_left c hd
  obtain ⟨a', ea⟩ := Nat.gcd_dvd_right b a
  obtain ⟨b', eb⟩ := Nat.gcd_dvd_left b a
  obtain ⟨c', ec⟩ := Nat.gcd_dvd_right d c
  obtain ⟨d', ed⟩ := Nat.gcd_dvd_left d c
  generalize Nat.gcd b a = g at *
  generalize Nat.gcd d c = k at *
  subst ea eb ec ed
  rw [Nat.mul_div_cancel_left _ h1, Nat.mul_div_cancel_left _ h1, Nat.mul_div_cancel_left _ h2, Nat.mul_div_cancel_left _ h2]
  have e1 : g * a' * (k * d') = (g * k) * (a' * d') := by rw [Nat.mul_mul_mul_comm]
  have e2 : k * c' * (g * b') = (g * k) * (c' * b') := by rw [Nat.mul_mul_mul_comm, Nat.mul_comm k g]
  rw [e1, e2]
  constructor
  · intro h; exact Nat.mul_le_mul_left _ h
  · intro h; exact Nat.le_of_mul_le_mul_left h (Nat.mul_pos h1 h2)

theorem stay_last {p q n : Int} (hp : 0 ≤ p ∧ p ≤ 64) (hq : 0 ≤ q ∧ q ≤ 64) (h : (stayI p q n).ok = true) : (stayI p q n).ln ≤ (stayI p q n).ld := by
  unfold stayI at h ⊢
  split
  · split
    · simp_all
    · show -max (2 * n) q + p ≤ -q + p; omega
  · split
    · simp_all
    · split
      · show (1 : Int) ≤ 1; omega
      · show min (2 * n + 2) q - p ≤ q - p; omega

theorem meetO_more {ax az bx bz x z : Int} {m : Met} (h : meetO ax az bx bz x z = some m) : m.ln ≤ m.ld ∧ m.fn * m.ld ≤ m.ln * m.fd := by
  unfold meetO at h
  split at h
  · rename_i hv
    unfold validB at hv
    simp only [Bool.and_eq_true] at hv
    obtain ⟨⟨⟨e1, e2⟩, e3⟩, e4⟩ := hv
    obtain ⟨pa1, pa2⟩ := ptB_iff.1 e1
    obtain ⟨pb1, pb2⟩ := ptB_iff.1 e2
    have y1 := stay_bd (n := x) pa1 pb1
    have y2 := stay_bd (n := z) pa2 pb2
    have t1 := stay_last (n := x) pa1 pb1
    have t2 := stay_last (n := z) pa2 pb2
    unfold meetI at h
    simp only [] at h
    by_cases hc : (stayI ax bx x).ok = true ∧ (stayI az bz z).ok = true
    · have y1 := y1 hc.1
      have y2 := y2 hc.2
      have t1 := t1 hc.1
      have t2 := t2 hc.2
      have b1 : 0 ≤ (if lessB (stayI ax bx x).fn (stayI ax bx x).fd (stayI az bz z).fn (stayI az bz z).fd then (stayI az bz z).fn else (stayI ax bx x).fn) ∧ (if lessB (stayI ax bx x).fn (stayI ax bx x).fd (stayI az bz z).fn (stayI az bz z).fd then (stayI az bz z).fn else (stayI ax bx x).fn) ≤ 64 := by split <;> omega
      have b2 : 1 ≤ (if lessB (stayI ax bx x).fn (stayI ax bx x).fd (stayI az bz z).fn (stayI az bz z).fd then (stayI az bz z).fd else (stayI ax bx x).fd) ∧ (if lessB (stayI ax bx x).fn (stayI ax bx x).fd (stayI az bz z).fn (stayI az bz z).fd then (stayI az bz z).fd else (stayI ax bx x).fd) ≤ 64 := by split <;> omega
      have b3 : 0 ≤ (if lessB (stayI az bz z).ln (stayI az bz z).ld (stayI ax bx x).ln (stayI ax bx x).ld then (stayI az bz z).ln else (stayI ax bx x).ln) ∧ (if lessB (stayI az bz z).ln (stayI az bz z).ld (stayI ax bx x).ln (stayI ax bx x).ld then (stayI az bz z).ln else (stayI ax bx x).ln) ≤ (if lessB (stayI az bz z).ln (stayI az bz z).ld (stayI ax bx x).ln (stayI ax bx x).ld then (stayI az bz z).ld else (stayI ax bx x).ld) := by split <;> omega
      have b4 : 1 ≤ (if lessB (stayI az bz z).ln (stayI az bz z).ld (stayI ax bx x).ln (stayI ax bx x).ld then (stayI az bz z).ld else (stayI ax bx x).ld) ∧ (if lessB (stayI az bz z).ln (stayI az bz z).ld (stayI ax bx x).ln (stayI ax bx x).ld then (stayI az bz z).ld else (stayI ax bx x).ld) ≤ 64 := by split <;> omega
      generalize (if lessB (stayI ax bx x).fn (stayI ax bx x).fd (stayI az bz z).fn (stayI az bz z).fd then (stayI az bz z).fn else (stayI ax bx x).fn) = fn at h b1
      generalize (if lessB (stayI ax bx x).fn (stayI ax bx x).fd (stayI az bz z).fn (stayI az bz z).fd then (stayI az bz z).fd else (stayI ax bx x).fd) = fd at h b2
      generalize (if lessB (stayI az bz z).ln (stayI az bz z).ld (stayI ax bx x).ln (stayI ax bx x).ld then (stayI az bz z).ln else (stayI ax bx x).ln) = ln at h b3
      generalize (if lessB (stayI az bz z).ln (stayI az bz z).ld (stayI ax bx x).ln (stayI ax bx x).ld then (stayI az bz z).ld else (stayI ax bx x).ld) = ld at h b3 b4
      split at h
      · rename_i hl
        have hl := hl.2.2
        injection h with h
        subst h
        obtain ⟨fn, rfl⟩ : ∃ u : Nat, fn = u := ⟨fn.toNat, by omega⟩
        obtain ⟨fd, rfl⟩ : ∃ u : Nat, fd = u := ⟨fd.toNat, by omega⟩
        obtain ⟨ln, rfl⟩ : ∃ u : Nat, ln = u := ⟨ln.toNat, by omega⟩
        obtain ⟨ld, rfl⟩ : ∃ u : Nat, ld = u := ⟨ld.toNat, by omega⟩
        simp only [Int.toNat_natCast]
        refine ⟨Nat.div_le_div_right (by omega), ?_⟩
        refine (low_cross (by omega) (by omega)).2 ?_
        unfold lessB at hl
        rw [ratB_iff.2 (by omega), ratB_iff.2 (by omega)] at hl
        simp only [Bool.true_and, ltR, decide_eq_false_iff_not] at hl
        have : ¬ (((ln * fd : Nat) : Int) < ((fn * ld : Nat) : Int)) := by simpa using hl
        omega
      · cases h
    · rw [if_neg (fun hh => hc ⟨hh.1, hh.2.1⟩)] at h
      cases h
  · cases h

theorem stay_start {p q : Nat} (hp : p ≤ 64) (hq : q ≤ 64) : (stayI p q ((p / 2 : Nat) : Int)).ok = true ∧ (stayI p q ((p / 2 : Nat) : Int)).fn = 0 := by
  unfold stayI
  by_cases h : (q : Int) < p
  · rw [if_pos h, if_neg (by omega)]
    exact ⟨rfl, by show -min (2 * ((p / 2 : Nat) : Int) + 2) (p : Int) + p = 0; omega⟩
  · rw [if_neg h, if_neg (by omega)]
    by_cases h2 : (p : Int) = q
    · rw [if_pos h2]; exact ⟨rfl, rfl⟩
    · rw [if_neg h2]
      exact ⟨rfl, by show max (2 * ((p / 2 : Nat) : Int)) (p : Int) - p = 0; omega⟩

theorem met_start {ax az bx bz : Nat} (ha : ax ≤ 64 ∧ az ≤ 64) (hb : bx ≤ 64 ∧ bz ≤ 64) : ∃ m, meetO ax az bx bz ((ax / 2 : Nat) : Int) ((az / 2 : Nat) : Int) = some m := by
  have hv : validB ax az bx bz ((ax / 2 : Nat) : Int) ((az / 2 : Nat) : Int) = true := by
    unfold validB
    rw [ptB_iff.2 (by omega), ptB_iff.2 (by omega), witB_iff.2 (by omega), witB_iff.2 (by omega)]
    rfl
  unfold meetO
  rw [if_pos hv]
  obtain ⟨k1, k2⟩ := stay_start ha.1 hb.1
  obtain ⟨k3, k4⟩ := stay_start ha.2 hb.2
  have y1 := stay_bd (p := ax) (q := bx) (by omega) (by omega) k1
  have y2 := stay_bd (p := az) (q := bz) (by omega) (by omega) k3
  unfold meetI
  simp only [k1, k3, k2, k4]
  have hno : ∀ a b c d : Int, 0 ≤ a → 0 ≤ d → lessB a b 0 d = false := fun a b c d h1 h2 => by
    unfold lessB ltR
    have : ¬ (a * d < 0 * b) := by
      have := Int.mul_nonneg h1 h2
      omega
    simp only [decide_eq_false this, Bool.and_false]
  have hif : (if lessB 0 (stayI ax bx ((ax / 2 : Nat) : Int)).fd 0 (stayI az bz ((az / 2 : Nat) : Int)).fd = true then (0 : Int) else 0) = 0 := by split <;> rfl
  rw [hif]
  refine ⟨_, if_pos ⟨trivial, trivial, hno _ _ 0 _ ?_ ?_⟩⟩
  · split <;> omega
  · split <;> omega

theorem metL_pos {ax az bx bz : Nat} (ha : ax ≤ 64 ∧ az ≤ 64) (hb : bx ≤ 64 ∧ bz ≤ 64) : 0 < (cellsL ax az bx bz).length := by
  obtain ⟨m, hm⟩ := met_start ha hb
  have hc := colO_some hm
  have hmem : (⟨_, _, m, meetO_good hm⟩ : Col) ∈ metL ax az bx bz := by
    unfold metL
    refine mem_grid.2 ⟨az / 2 + 1 - (min az bz + 1) / 2, by omega, ax / 2 + 1 - (min ax bx + 1) / 2, by omega, ?_⟩
    rw [← hc]
    congr 1 <;> omega
  exact List.length_pos_of_mem ((cellsL_perm _ _ _ _).mem_iff.2 hmem)

end Go.Proofs.Ytmpkciidhopckaa
