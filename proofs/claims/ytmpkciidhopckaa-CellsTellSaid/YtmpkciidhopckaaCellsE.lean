/- Package cells: where the segment meets a column. -/
import Derived.Test.YtmpkciidhopckaaCellsB
import Derived.Test.YtmpkciidhopckaaCellsC
import Derived.Test.YtmpkciidhopckaaCellsD
namespace Go.Proofs.Ytmpkciidhopckaa
open Go.RowKit
set_option linter.unusedVariables false

theorem pick2_eq (t : Bool) (a b c d : Int) : pick2 t a b c d = .agg #[.int .i64 (if t then a else c), .int .i64 (if t then b else d)] := by cases t <;> rfl

def cellV (x z fn fd ln ld : Int) : Value := .agg #[.int .i64 x, .int .i64 z, .int .i64 fn, .int .i64 fd, .int .i64 ln, .int .i64 ld]

/-- Where the segment meets the column: first and last, in lowest terms. -/
structure Met where
  fn : Nat
  fd : Nat
  ln : Nat
  ld : Nat
deriving DecidableEq

def meetI (ax az bx bz x z : Int) : Option Met :=
  let sx := stayI ax bx x
  let sz := stayI az bz z
  let t := lessB sx.fn sx.fd sz.fn sz.fd
  let u := lessB sz.ln sz.ld sx.ln sx.ld
  let fn := if t then sz.fn else sx.fn
  let fd := if t then sz.fd else sx.fd
  let ln := if u then sz.ln else sx.ln
  let ld := if u then sz.ld else sx.ld
  if sx.ok = true ∧ sz.ok = true ∧ lessB ln ld fn fd = false then
    some ⟨fn.toNat / Nat.gcd fd.toNat fn.toNat, fd.toNat / Nat.gcd fd.toNat fn.toNat, ln.toNat / Nat.gcd ld.toNat ln.toNat, ld.toNat / Nat.gcd ld.toNat ln.toNat⟩
  else none

def validB (ax az bx bz x z : Int) : Bool := ptB ax az && ptB bx bz && witB x (-1) 32 && witB z (-1) 32
def meetO (ax az bx bz x z : Int) : Option Met := if validB ax az bx bz x z = true then meetI ax az bx bz x z else none
def metV (x z : Int) : Option Met → Value
  | none => .tuple #[cellV 0 0 0 0 0 0, .bool false]
  | some m => .tuple #[cellV x z m.fn m.fd m.ln m.ld, .bool true]

theorem ptB_iff {x z : Int} : ptB x z = true ↔ (0 ≤ x ∧ x ≤ 64) ∧ 0 ≤ z ∧ z ≤ 64 := by
  unfold ptB; rw [Bool.and_eq_true, witB_iff, witB_iff]

theorem stay_bd {p q n : Int} (hp : 0 ≤ p ∧ p ≤ 64) (hq : 0 ≤ q ∧ q ≤ 64) (h : (stayI p q n).ok = true) :
    0 ≤ (stayI p q n).fn ∧ (stayI p q n).fn ≤ 64 ∧ 1 ≤ (stayI p q n).fd ∧ (stayI p q n).fd ≤ 64 ∧ 0 ≤ (stayI p q n).ln ∧ (stayI p q n).ln ≤ 64 ∧ 1 ≤ (stayI p q n).ld ∧ (stayI p q n).ld ≤ 64 := by
  unfold stayI at h ⊢
  split
  · split
    · simp_all
    · refine ⟨?_, ?_, ?_, ?_, ?_, ?_, ?_, ?_⟩ <;> simp only [] <;> omega
  · split
    · simp_all
    · split
      · refine ⟨?_, ?_, ?_, ?_, ?_, ?_, ?_, ?_⟩ <;> simp only [] <;> omega
      · refine ⟨?_, ?_, ?_, ?_, ?_, ?_, ?_, ?_⟩ <;> simp only [] <;> omega

end Go.Proofs.Ytmpkciidhopckaa
