/- Package cells: the columns that a segment meets, row by row. No walk. -/
import Derived.Test.YtmpkciidhopckaaCellsE
namespace Go.Proofs.Ytmpkciidhopckaa
open Go.RowKit
set_option linter.unusedVariables false

/-- What holds of each column that is told. -/
def Good (x z : Int) (m : Met) : Prop := (-1 ≤ x ∧ x ≤ 32 ∧ -1 ≤ z ∧ z ≤ 32) ∧ m.fn ≤ 64 ∧ 0 < m.fd ∧ m.fd ≤ 64 ∧ m.ln ≤ 64 ∧ 0 < m.ld ∧ m.ld ≤ 64 ∧ Nat.gcd m.fd m.fn = 1 ∧ Nat.gcd m.ld m.ln = 1

structure Col where
  x : Int
  z : Int
  m : Met
  ok : Good x z m
instance : Inhabited Col := ⟨⟨0, 0, ⟨0, 1, 0, 1⟩, by unfold Good; decide⟩⟩
theorem Col.ext {c d : Col} (hx : c.x = d.x) (hz : c.z = d.z) (hm : c.m = d.m) : c = d := by
  cases c; cases d; simp_all

theorem low_gcd {n d : Nat} (h : 0 < d) : Nat.gcd (d / Nat.gcd d n) (n / Nat.gcd d n) = 1 ∧ 0 < d / Nat.gcd d n ∧ d / Nat.gcd d n ≤ d ∧ n / Nat.gcd d n ≤ n := by
  have hg : 0 < Nat.gcd d n := Nat.gcd_pos_of_pos_left n h
  refine ⟨?_, ?_, Nat.div_le_self _ _, Nat.div_le_self _ _⟩
  · rw [Nat.gcd_div (Nat.gcd_dvd_left d n) (Nat.gcd_dvd_right d n), Nat.div_self hg]
  · exact Nat.div_pos (Nat.le_of_dvd h (Nat.gcd_dvd_left d n)) hg

theorem meetO_good {ax az bx bz x z : Int} {m : Met} (h : meetO ax az bx bz x z = some m) : Good x z m := by
  unfold meetO at h
  split at h
  · rename_i hv
    unfold validB at hv
    simp only [Bool.and_eq_true] at hv
    obtain ⟨⟨⟨e1, e2⟩, e3⟩, e4⟩ := hv
    obtain ⟨pa1, pa2⟩ := ptB_iff.1 e1
    obtain ⟨pb1, pb2⟩ := ptB_iff.1 e2
    have hx := witB_iff.1 e3
    have hz := witB_iff.1 e4
    have y1 := stay_bd (n := x) pa1 pb1
    have y2 := stay_bd (n := z) pa2 pb2
    unfold meetI at h
    simp only [] at h
    by_cases hc : (stayI ax bx x).ok = true ∧ (stayI az bz z).ok = true
    · have y1 := y1 hc.1
      have y2 := y2 hc.2
      have b1 : 0 ≤ (if lessB (stayI ax bx x).fn (stayI ax bx x).fd (stayI az bz z).fn (stayI az bz z).fd then (stayI az bz z).fn else (stayI ax bx x).fn) ∧ (if lessB (stayI ax bx x).fn (stayI ax bx x).fd (stayI az bz z).fn (stayI az bz z).fd then (stayI az bz z).fn else (stayI ax bx x).fn) ≤ 64 := by split <;> omega
      have b2 : 1 ≤ (if lessB (stayI ax bx x).fn (stayI ax bx x).fd (stayI az bz z).fn (stayI az bz z).fd then (stayI az bz z).fd else (stayI ax bx x).fd) ∧ (if lessB (stayI ax bx x).fn (stayI ax bx x).fd (stayI az bz z).fn (stayI az bz z).fd then (stayI az bz z).fd else (stayI ax bx x).fd) ≤ 64 := by split <;> omega
      have b3 : 0 ≤ (if lessB (stayI az bz z).ln (stayI az bz z).ld (stayI ax bx x).ln (stayI ax bx x).ld then (stayI az bz z).ln else (stayI ax bx x).ln) ∧ (if lessB (stayI az bz z).ln (stayI az bz z).ld (stayI ax bx x).ln (stayI ax bx x).ld then (stayI az bz z).ln else (stayI ax bx x).ln) ≤ 64 := by split <;> omega
      have b4 : 1 ≤ (if lessB (stayI az bz z).ln (stayI az bz z).ld (stayI ax bx x).ln (stayI ax bx x).ld then (stayI az bz z).ld else (stayI ax bx x).ld) ∧ (if lessB (stayI az bz z).ln (stayI az bz z).ld (stayI ax bx x).ln (stayI ax bx x).ld then (stayI az bz z).ld else (stayI ax bx x).ld) ≤ 64 := by split <;> omega
      generalize (if lessB (stayI ax bx x).fn (stayI ax bx x).fd (stayI az bz z).fn (stayI az bz z).fd then (stayI az bz z).fn else (stayI ax bx x).fn) = fn at h b1
      generalize (if lessB (stayI ax bx x).fn (stayI ax bx x).fd (stayI az bz z).fn (stayI az bz z).fd then (stayI az bz z).fd else (stayI ax bx x).fd) = fd at h b2
      generalize (if lessB (stayI az bz z).ln (stayI az bz z).ld (stayI ax bx x).ln (stayI ax bx x).ld then (stayI az bz z).ln else (stayI ax bx x).ln) = ln at h b3
      generalize (if lessB (stayI az bz z).ln (stayI az bz z).ld (stayI ax bx x).ln (stayI ax bx x).ld then (stayI az bz z).ld else (stayI ax bx x).ld) = ld at h b4
      obtain ⟨g1, g2, g3, g4⟩ := low_gcd (n := fn.toNat) (d := fd.toNat) (by omega)
      obtain ⟨g5, g6, g7, g8⟩ := low_gcd (n := ln.toNat) (d := ld.toNat) (by omega)
      split at h
      · injection h with h
        subst h
        exact ⟨by omega, by show _ / _ ≤ 64; omega, g2, by show _ / _ ≤ 64; omega, by show _ / _ ≤ 64; omega, g6, by show _ / _ ≤ 64; omega, g1, g5⟩
      · cases h
    · rw [if_neg (fun hh => hc ⟨hh.1, hh.2.1⟩)] at h
      cases h
  · cases h

/-- The column of these numbers, if it is met. -/
def colO (ax az bx bz x z : Int) : Option Col := match h : meetO ax az bx bz x z with
  | none => none
  | some m => some ⟨x, z, m, meetO_good h⟩

theorem colO_none {ax az bx bz x z : Int} (h : meetO ax az bx bz x z = none) : colO ax az bx bz x z = none := by
  unfold colO; split
  · rfl
  · rename_i h'; rw [h] at h'; cases h'
theorem colO_some {ax az bx bz x z : Int} {m : Met} (h : meetO ax az bx bz x z = some m) : colO ax az bx bz x z = some ⟨x, z, m, meetO_good h⟩ := by
  unfold colO; split
  · rename_i h'; rw [h] at h'; cases h'
  · rename_i m' h'
    rw [h] at h'
    injection h' with h'
    subst h'
    rfl
theorem colO_iff {ax az bx bz x z : Int} {c : Col} : colO ax az bx bz x z = some c ↔ c.x = x ∧ c.z = z ∧ meetO ax az bx bz x z = some c.m := by
  cases hm : meetO ax az bx bz x z with
  | none => rw [colO_none hm]; simp
  | some m =>
    rw [colO_some hm]
    constructor
    · intro h; injection h with h; subst h; exact ⟨rfl, rfl, rfl⟩
    · rintro ⟨h1, h2, h3⟩
      injection h3 with h3
      exact congrArg some (Col.ext h1.symm h2.symm h3)

section
variable (ax az bx bz : Int)
def rowL (x0 z : Int) (k : Nat) : List Col := (List.range k).filterMap fun (i : Nat) => colO ax az bx bz (x0 + i) z
def gridL (x0 z0 : Int) (kx k : Nat) : List Col := (List.range k).flatMap fun (j : Nat) => rowL ax az bx bz x0 (z0 + j) kx
theorem rowL_succ (x0 z : Int) (k : Nat) : rowL ax az bx bz x0 z (k + 1) = rowL ax az bx bz x0 z k ++ (colO ax az bx bz (x0 + k) z).toList := by
  unfold rowL
  rw [List.range_succ, List.filterMap_append]
  congr 1
theorem gridL_succ (x0 z0 : Int) (kx k : Nat) : gridL ax az bx bz x0 z0 kx (k + 1) = gridL ax az bx bz x0 z0 kx k ++ rowL ax az bx bz x0 (z0 + k) kx := by
  unfold gridL
  rw [List.range_succ, List.flatMap_append]
  simp
theorem rowL_len (x0 z : Int) (k : Nat) : (rowL ax az bx bz x0 z k).length ≤ k := by
  have h := List.length_filterMap_le (fun (i : Nat) => colO ax az bx bz (x0 + i) z) (List.range k)
  rwa [List.length_range] at h
theorem gridL_len (x0 z0 : Int) (kx : Nat) : ∀ k, (gridL ax az bx bz x0 z0 kx k).length ≤ k * kx
  | 0 => by simp [gridL]
  | k + 1 => by
    rw [gridL_succ, List.length_append, Nat.succ_mul]
    have := gridL_len x0 z0 kx k
    have := rowL_len ax az bx bz x0 (z0 + k) kx
    omega
end

theorem col_val (x z : Int) (m : Met) : cellV x z m.fn m.fd m.ln m.ld = .agg #[.int .i64 x, .int .i64 z, .int .i64 m.fn, .int .i64 m.fd, .int .i64 m.ln, .int .i64 m.ld] := rfl
def Col.enc (c : Col) : List Value := [.int .i64 c.x, .int .i64 c.z, .int .i64 c.m.fn, .int .i64 c.m.fd, .int .i64 c.m.ln, .int .i64 c.m.ld]
def Col.val (c : Col) : Value := .agg #[.int .i64 c.x, .int .i64 c.z, .int .i64 c.m.fn, .int .i64 c.m.fd, .int .i64 c.m.ln, .int .i64 c.m.ld]

end Go.Proofs.Ytmpkciidhopckaa
