/- Package cells: the closure that tells the order, walked. -/
import Derived.Test.YtmpkciidhopckaaCellsJ
import Derived.Test.YtmpkciidhopckaaPtEq
import Derived.Deep.DeepCutAuto
import Derived.Deep.CutBlock
namespace Go.Proofs.Ytmpkciidhopckaa
open Go.RowKit Go.Sort
set_option linter.unusedVariables false

theorem col_at {W : World} {g : Nat} {d : Array Col} (h : HoldsK Col.enc 6 W g 0 d) {i : Nat} (hi : i < d.size) :
    W.cell? ⟨g, i * 6, none⟩ = some (.int .i64 d[i]!.x) ∧ W.cell? ⟨g, i * 6 + 1, none⟩ = some (.int .i64 d[i]!.z) ∧ W.cell? ⟨g, i * 6 + 2, none⟩ = some (.int .i64 d[i]!.m.fn) ∧
    W.cell? ⟨g, i * 6 + 3, none⟩ = some (.int .i64 d[i]!.m.fd) ∧ W.cell? ⟨g, i * 6 + 4, none⟩ = some (.int .i64 d[i]!.m.ln) ∧ W.cell? ⟨g, i * 6 + 5, none⟩ = some (.int .i64 d[i]!.m.ld) := by
  have c := fun k (hk : k < 6) => (HoldsK.cell h hi hk).1
  simp only [Nat.zero_add] at c
  exact ⟨c 0 (by omega), c 1 (by omega), c 2 (by omega), c 3 (by omega), c 4 (by omega), c 5 (by omega)⟩

theorem pt_neq' (w : World) (x z x' z' : Int) : (binOp .neq 25 (.agg #[.int .i64 x, .int .i64 z]) (.agg #[.int .i64 x', .int .i64 z'])).run Try.prog w = .ok (.bool (!ptEq x z x' z')) w := by
  unfold ptEq
  cases h1 : (x == x') <;> cases h2 : (z == z') <;> (go_simp)

set_option maxHeartbeats 2000000 in
set_option maxRecDepth 100000 in
theorem c_cmp (Bl g cap n : Nat) (d : Array Col) (i j : Nat) (hi : i < n) (hj : j < n) (hs : d.size = n) (hn : n < 4611686018427387904) (W : World) (hc : W.cell? ⟨Bl, 0, none⟩ = some (.slice (some ⟨g, 0, none⟩) n cap)) (hH : HoldsK Col.enc 6 W g 0 d) :
    Calls Try.prog 38 (#[.int .i64 i, .int .i64 j] ++ #[.pointer (some ⟨Bl, 0, none⟩)]) W fun e w' => e = .returned (.bool (colLt d[i]! d[j]!)) ∧ New W w' := by
  obtain ⟨p0, p1, p2, p3, p4, p5⟩ := col_at hH (i := i) (by omega)
  obtain ⟨q0, q1, q2, q3, q4, q5⟩ := col_at hH (i := j) (by omega)
  have gp := d[i]!.ok
  have gq := d[j]!.ok
  have hlt : colLt d[i]! d[j]! = colLt d[i]! d[j]! := rfl
  have hl := fun w => c_less d[i]!.m.fn d[i]!.m.fd d[j]!.m.fn d[j]!.m.fd w
  have HL := colLt_iff d[i]! d[j]!
  obtain ⟨v, hv⟩ : ∃ v, v = colLt d[i]! d[j]! := ⟨_, rfl⟩
  rw [← hv]
  have HV : Hid _ := hv
  clear hv hlt hH HL
  generalize hP : d[i]! = P at *
  generalize hQ : d[j]! = Q at *
  clear hP hQ
  obtain ⟨px, pz, ⟨pn, pd, pl, pk⟩, _⟩ := P
  obtain ⟨qx, qz, ⟨qn, qd, ql, qk⟩, _⟩ := Q
  simp only [] at *
  show Calls Try.prog 38 #[.int .i64 i, .int .i64 j, .pointer (some ⟨Bl, 0, none⟩)] W _
  go_enter Try.func38, Try.ntmps38
  go_upto_region 1 with fail
  have hBl : Bl < W.heap.size := World.block_lt_of_cell? _ _ hc
  have hgl : g < W.heap.size := World.block_lt_of_cell? _ _ p0
  have hb1 : ∀ (k : Nat), k < n → (k : Int) < (n : Int) := fun k h => by omega
  have hiz := hb1 i hi
  have hjz := hb1 j hj
  go_cut [6, 7] (fun s6 s7 Z => ∃ b b' : Nat, s6 = .pointer (some ⟨b, 0, none⟩) ∧ s7 = .pointer (some ⟨b', 0, none⟩) ∧ New W Z ∧ Z.cell? ⟨b, 0, none⟩ = some (.int .i64 px) ∧ Z.cell? ⟨b, 1, none⟩ = some (.int .i64 pz) ∧ Z.cell? ⟨b, 2, none⟩ = some (.int .i64 pn) ∧ Z.cell? ⟨b, 3, none⟩ = some (.int .i64 pd) ∧
    Z.cell? ⟨b', 0, none⟩ = some (.int .i64 qx) ∧ Z.cell? ⟨b', 1, none⟩ = some (.int .i64 qz) ∧ Z.cell? ⟨b', 2, none⟩ = some (.int .i64 qn) ∧ Z.cell? ⟨b', 3, none⟩ = some (.int .i64 qd))
  case first =>
    go_region
    all_goals
      go_wp2_with fail
      go_meet
      exact ⟨_, _, rfl, rfl, by (repeat (first | (with_reducible exact New.refl _) | (with_reducible assumption) | ((with_reducible refine New.setB ?_ ?_ _); focus (first | omega | (simp; omega) | (simp; done))) | (with_reducible refine New.alloc ?_ _) | (with_reducible refine New.drew ?_) | (with_reducible refine New.drewN ?_ _) | (with_reducible refine New.hat ?_ _) | ((with_reducible apply New.snart); (with_reducible assumption)))), by go_simp, by go_simp, by go_simp, by go_simp, by go_simp, by go_simp, by go_simp, by go_simp⟩
  case rest =>
    obtain ⟨b, b', rfl, rfl, hnZ, j0, j1, j2, j3, k0, k1, k2, k3⟩ := hcut
    clear p0 p1 p2 p3 p4 p5 q0 q1 q2 q3 q4 q5 hc hBl hgl
    have PN := fun w => pt_neq' w pn pd qn qd
    by_cases hf : (pn : Int) = qn ∧ (pd : Int) = qd
    · have e0 : ptEq pn pd qn qd = true := ptEq_iff.2 hf
      simp only [e0] at PN
      by_cases hz : pz = qz
      · have hzb : (pz != qz) = false := by simp [hz]
        have hvv : Hid (v = decide (px < qx)) := by
          show v = _
          rw [HV.out]; unfold colLt; simp only []
          rw [if_pos ⟨by omega, by omega⟩, if_pos hz]
        go_wp2_with fail
        go_ret
        rw [hvv.out]
        exact ⟨rfl, hnZ⟩
      · have hzb : (pz != qz) = true := by simp [hz]
        have hvv : Hid (v = decide (pz < qz)) := by
          show v = _
          rw [HV.out]; unfold colLt; simp only []
          rw [if_pos ⟨by omega, by omega⟩, if_neg hz]
        go_wp2_with fail
        go_ret
        rw [hvv.out]
        exact ⟨rfl, hnZ⟩
    · have e0 : ptEq pn pd qn qd = false := by rw [← Bool.not_eq_true, ptEq_iff]; exact hf
      simp only [e0] at PN
      have b1 : ratB pn pd = true := ratB_iff.2 (by have := gp; unfold Good at this; simp only [] at this; omega)
      have b2 : ratB qn qd = true := ratB_iff.2 (by have := gq; unfold Good at this; simp only [] at this; omega)
      have hvv : Hid (v = lessB pn pd qn qd) := by
        show v = _
        rw [HV.out]; unfold colLt lessB ltR; simp only []
        rw [if_neg (by omega), b1, b2]
        simp only [Bool.true_and]
        exact decide_eq_decide.2 (by rw [← Int.natCast_mul, ← Int.natCast_mul]; omega)
      go_wp2_with fail
      refine (hl _).mono ?_
      rintro e w3 ⟨rfl, n3⟩
      go_wp2_with fail
      go_ret
      rw [hvv.out]
      exact ⟨rfl, hnZ.trans n3⟩

end Go.Proofs.Ytmpkciidhopckaa
