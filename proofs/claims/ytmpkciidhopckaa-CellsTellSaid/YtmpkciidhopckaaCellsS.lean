/- The law's first look at the chapter's examples, walked. -/
import Derived.Test.YtmpkciidhopckaaCellsR
import Derived.Deep.DeepCutAuto
import Derived.Deep.CutBlock
namespace Go.Proofs.Ytmpkciidhopckaa
open Go.RowKit Go.Sort
set_option linter.unusedVariables false

theorem ratio_eql (w : World) (x z x' z' : Int) : (binOp .eql 25 (.agg #[.int .i64 x, .int .i64 z]) (.agg #[.int .i64 x', .int .i64 z'])).run Try.prog w = .ok (.bool (ptEq x z x' z')) w := by
  unfold ptEq
  cases h1 : (x == x') <;> cases h2 : (z == z') <;> (go_simp)

set_option maxHeartbeats 2000000 in
set_option maxRecDepth 100000 in
theorem c_wakes (w : World) : Calls Try.prog 20 #[] w fun e w' => e = .returned (.bool true) ∧ New w w' := by
  have h1 := fun w => c_cells 1 1 3 3 w
  have h2 := fun w => c_cells 2 2 2 2 w
  have e1 : errOf 1 1 3 3 = 0 := rfl
  have e2 : errOf 2 2 2 2 = 0 := rfl
  have t1 := told_1133
  have t2 := told_2222
  generalize told 1 1 3 3 = L at *
  generalize told 2 2 2 2 = M at *
  simp only [e1] at h1
  simp only [e2] at h2
  rcases L with _ | ⟨a0, _ | ⟨a1, _ | ⟨a2, _ | ⟨a3, _ | _⟩⟩⟩⟩ <;> simp at t1
  obtain ⟨⟨x0, z0, m0⟩, ⟨x1, z1, m1⟩, ⟨x2, z2, m2⟩, x3, z3, m3⟩ := t1
  go_enter Try.func20, Try.ntmps20
  go_wp2_with fail
  refine (h1 _).mono ?_
  rintro e w1 ⟨v, rfl, r1, n1⟩
  obtain ⟨g, cap, rfl, _, hc⟩ := r1.at (by simp)
  have q0 := hc 0 (by simp)
  have q1 := hc 1 (by simp)
  have q2 := hc 2 (by simp)
  have q3 := hc 3 (by simp)
  simp only [List.getElem_cons_zero, List.getElem_cons_succ, x0, z0, x1, z1, m1, z2, x3] at q0 q1 q2 q3
  obtain ⟨a00, a01, _⟩ := q0
  obtain ⟨a10, a11, a12, a13, _⟩ := q1
  obtain ⟨_, a21, _⟩ := q2
  obtain ⟨a30, _⟩ := q3
  simp only [Nat.zero_mul, Nat.zero_add, Nat.one_mul, Nat.reduceMul, Nat.reduceAdd] at a00 a01 a10 a11 a12 a13 a21 a30
  clear hc r1
  go_wp2_with fail
  refine (h2 _).mono ?_
  rintro e w2 ⟨v, rfl, r2, n2⟩
  obtain ⟨g2, cap2, rfl, _, _⟩ := r2.at (by omega)
  rw [t2]
  clear r2
  replace a00 := n2.keep a00
  replace a01 := n2.keep a01
  replace a10 := n2.keep a10
  replace a11 := n2.keep a11
  replace a12 := n2.keep a12
  replace a13 := n2.keep a13
  replace a21 := n2.keep a21
  replace a30 := n2.keep a30
  have PN := fun w => ratio_eql w 1 2 1 2
  rw [show ptEq 1 2 1 2 = true from rfl] at PN
  have hn := n1.trans n2
  go_wp2_with fail
  go_ret
  exact ⟨rfl, hn⟩

end Go.Proofs.Ytmpkciidhopckaa
