/- Package cells: Share, walked. -/
import Derived.Test.YtmpkciidhopckaaTurnB
namespace Go.Proofs.Ytmpkciidhopckaa
open Go.RowKit
set_option linter.unusedVariables false

set_option maxHeartbeats 2000000 in
set_option maxRecDepth 100000 in
theorem c_share (ax az bx bz x z f1 g1 l1 k1 x' z' f2 g2 l2 k2 : Int) (w : World) :
    Calls Try.prog 15 #[.agg #[.int .i64 ax, .int .i64 az], .agg #[.int .i64 bx, .int .i64 bz], .agg #[.int .i64 x, .int .i64 z, .int .i64 f1, .int .i64 g1, .int .i64 l1, .int .i64 k1], .agg #[.int .i64 x', .int .i64 z', .int .i64 f2, .int .i64 g2, .int .i64 l2, .int .i64 k2]] w fun e w' => e = .returned (.bool (shareB ax az bx bz x z x' z')) ∧ New w w' := by
  obtain ⟨v, hv⟩ : ∃ v, v = shareB ax az bx bz x z x' z' := ⟨_, rfl⟩
  rw [← hv]
  unfold shareB at hv
  have hm1 := fun w => c_meeting ax az bx bz x z w
  have hm2 := fun w => c_meeting ax az bx bz x' z' w
  cases h1 : meetO ax az bx bz x z with
  | none =>
    rw [h1] at hm1 hv
    simp only [metV, cellV] at hm1
    cases h2 : meetO ax az bx bz x' z' with
    | none =>
      rw [h2] at hm2 hv
      simp only [metV, cellV] at hm2
      have hv1 : Hid (v = false) := hv
      clear hv h1 h2
      go_enter Try.func15, Try.ntmps15
      go_wp2_with fail
      generalize hW : World.alloc _ _ = W
      ((have a0 : W.cell? ⟨w.heap.size, 0, none⟩ = some (.int .i64 ax) := (by subst hW; go_simp)); (have a1 : W.cell? ⟨w.heap.size, 1, none⟩ = some (.int .i64 az) := (by subst hW; go_simp)); (have b0 : W.cell? ⟨w.heap.size + 1, 0, none⟩ = some (.int .i64 bx) := (by subst hW; go_simp)); (have b1 : W.cell? ⟨w.heap.size + 1, 1, none⟩ = some (.int .i64 bz) := (by subst hW; go_simp)); (have e0 : W.cell? ⟨w.heap.size + 1 + 1, 0, none⟩ = some (.int .i64 x) := (by subst hW; go_simp)); (have e1 : W.cell? ⟨w.heap.size + 1 + 1, 1, none⟩ = some (.int .i64 z) := (by subst hW; go_simp)); (have d0 : W.cell? ⟨w.heap.size + 1 + 1 + 1, 0, none⟩ = some (.int .i64 x') := (by subst hW; go_simp)); (have d1 : W.cell? ⟨w.heap.size + 1 + 1 + 1, 1, none⟩ = some (.int .i64 z') := (by subst hW; go_simp)))
      have hn : New w W := by subst hW; (repeat (first | (with_reducible exact New.refl _) | (with_reducible assumption) | ((with_reducible refine New.setB ?_ ?_ _); focus (first | omega | (simp; omega) | (simp; done))) | (with_reducible refine New.alloc ?_ _) | (with_reducible refine New.drew ?_) | (with_reducible refine New.drewN ?_ _) | (with_reducible refine New.hat ?_ _) | ((with_reducible apply New.snart); (with_reducible assumption))))
      clear hW
      refine (hm1 _).mono ?_
      rintro e w1 ⟨rfl, n1⟩
      ((replace a0 := New.keep n1 a0); (replace a1 := New.keep n1 a1); (replace b0 := New.keep n1 b0); (replace b1 := New.keep n1 b1); (replace e0 := New.keep n1 e0); (replace e1 := New.keep n1 e1); (replace d0 := New.keep n1 d0); (replace d1 := New.keep n1 d1))
      replace hn := hn.trans n1
      clear n1
      ((have lz0 : w.heap.size < w1.heap.size := World.block_lt_of_cell? _ _ a0); (have lz1 : w.heap.size + 1 < w1.heap.size := World.block_lt_of_cell? _ _ b0); (have lz2 : w.heap.size + 1 + 1 < w1.heap.size := World.block_lt_of_cell? _ _ e0); (have lz3 : w.heap.size + 1 + 1 + 1 < w1.heap.size := World.block_lt_of_cell? _ _ d0))
      go_wp2_with fail
      refine (hm2 _).mono ?_
      rintro e w2 ⟨rfl, n2⟩
      go_wp2_with fail
      go_ret
      rw [hv1.out]
      have hsz := hn.size
      exact ⟨rfl, by have h := New.trans (by (repeat (first | (with_reducible exact New.refl _) | (with_reducible assumption) | ((with_reducible refine New.setB ?_ ?_ _); focus (first | omega | (simp; omega) | (simp; done))) | (with_reducible refine New.alloc ?_ _) | (with_reducible refine New.drew ?_) | (with_reducible refine New.drewN ?_ _) | (with_reducible refine New.hat ?_ _) | ((with_reducible apply New.snart); (with_reducible assumption))))) n2; (repeat (first | (with_reducible exact New.refl _) | (with_reducible assumption) | ((with_reducible refine New.setB ?_ ?_ _); focus (first | omega | (simp; omega) | (simp; done))) | (with_reducible refine New.alloc ?_ _) | (with_reducible refine New.drew ?_) | (with_reducible refine New.drewN ?_ _) | (with_reducible refine New.hat ?_ _) | ((with_reducible apply New.snart); (with_reducible assumption))))⟩
    | some q =>
      rw [h2] at hm2 hv
      simp only [metV, cellV] at hm2
      have hv1 : Hid (v = false) := hv
      clear hv h1 h2
      go_enter Try.func15, Try.ntmps15
      go_wp2_with fail
      generalize hW : World.alloc _ _ = W
      ((have a0 : W.cell? ⟨w.heap.size, 0, none⟩ = some (.int .i64 ax) := (by subst hW; go_simp)); (have a1 : W.cell? ⟨w.heap.size, 1, none⟩ = some (.int .i64 az) := (by subst hW; go_simp)); (have b0 : W.cell? ⟨w.heap.size + 1, 0, none⟩ = some (.int .i64 bx) := (by subst hW; go_simp)); (have b1 : W.cell? ⟨w.heap.size + 1, 1, none⟩ = some (.int .i64 bz) := (by subst hW; go_simp)); (have e0 : W.cell? ⟨w.heap.size + 1 + 1, 0, none⟩ = some (.int .i64 x) := (by subst hW; go_simp)); (have e1 : W.cell? ⟨w.heap.size + 1 + 1, 1, none⟩ = some (.int .i64 z) := (by subst hW; go_simp)); (have d0 : W.cell? ⟨w.heap.size + 1 + 1 + 1, 0, none⟩ = some (.int .i64 x') := (by subst hW; go_simp)); (have d1 : W.cell? ⟨w.heap.size + 1 + 1 + 1, 1, none⟩ = some (.int .i64 z') := (by subst hW; go_simp)))
      have hn : New w W := by subst hW; (repeat (first | (with_reducible exact New.refl _) | (with_reducible assumption) | ((with_reducible refine New.setB ?_ ?_ _); focus (first | omega | (simp; omega) | (simp; done))) | (with_reducible refine New.alloc ?_ _) | (with_reducible refine New.drew ?_) | (with_reducible refine New.drewN ?_ _) | (with_reducible refine New.hat ?_ _) | ((with_reducible apply New.snart); (with_reducible assumption))))
      clear hW
      refine (hm1 _).mono ?_
      rintro e w1 ⟨rfl, n1⟩
      ((replace a0 := New.keep n1 a0); (replace a1 := New.keep n1 a1); (replace b0 := New.keep n1 b0); (replace b1 := New.keep n1 b1); (replace e0 := New.keep n1 e0); (replace e1 := New.keep n1 e1); (replace d0 := New.keep n1 d0); (replace d1 := New.keep n1 d1))
      replace hn := hn.trans n1
      clear n1
      ((have lz0 : w.heap.size < w1.heap.size := World.block_lt_of_cell? _ _ a0); (have lz1 : w.heap.size + 1 < w1.heap.size := World.block_lt_of_cell? _ _ b0); (have lz2 : w.heap.size + 1 + 1 < w1.heap.size := World.block_lt_of_cell? _ _ e0); (have lz3 : w.heap.size + 1 + 1 + 1 < w1.heap.size := World.block_lt_of_cell? _ _ d0))
      go_wp2_with fail
      refine (hm2 _).mono ?_
      rintro e w2 ⟨rfl, n2⟩
      go_wp2_with fail
      go_ret
      rw [hv1.out]
      exact ⟨rfl, by have h := New.trans (by (repeat (first | (with_reducible exact New.refl _) | (with_reducible assumption) | ((with_reducible refine New.setB ?_ ?_ _); focus (first | omega | (simp; omega) | (simp; done))) | (with_reducible refine New.alloc ?_ _) | (with_reducible refine New.drew ?_) | (with_reducible refine New.drewN ?_ _) | (with_reducible refine New.hat ?_ _) | ((with_reducible apply New.snart); (with_reducible assumption))))) n2; (repeat (first | (with_reducible exact New.refl _) | (with_reducible assumption) | ((with_reducible refine New.setB ?_ ?_ _); focus (first | omega | (simp; omega) | (simp; done))) | (with_reducible refine New.alloc ?_ _) | (with_reducible refine New.drew ?_) | (with_reducible refine New.drewN ?_ _) | (with_reducible refine New.hat ?_ _) | ((with_reducible apply New.snart); (with_reducible assumption))))⟩
  | some p =>
    rw [h1] at hm1 hv
    simp only [metV, cellV] at hm1
    cases h2 : meetO ax az bx bz x' z' with
    | none =>
      rw [h2] at hm2 hv
      simp only [metV, cellV] at hm2
      have hv1 : Hid (v = false) := hv
      clear hv h1 h2
      go_enter Try.func15, Try.ntmps15
      go_wp2_with fail
      generalize hW : World.alloc _ _ = W
      ((have a0 : W.cell? ⟨w.heap.size, 0, none⟩ = some (.int .i64 ax) := (by subst hW; go_simp)); (have a1 : W.cell? ⟨w.heap.size, 1, none⟩ = some (.int .i64 az) := (by subst hW; go_simp)); (have b0 : W.cell? ⟨w.heap.size + 1, 0, none⟩ = some (.int .i64 bx) := (by subst hW; go_simp)); (have b1 : W.cell? ⟨w.heap.size + 1, 1, none⟩ = some (.int .i64 bz) := (by subst hW; go_simp)); (have e0 : W.cell? ⟨w.heap.size + 1 + 1, 0, none⟩ = some (.int .i64 x) := (by subst hW; go_simp)); (have e1 : W.cell? ⟨w.heap.size + 1 + 1, 1, none⟩ = some (.int .i64 z) := (by subst hW; go_simp)); (have d0 : W.cell? ⟨w.heap.size + 1 + 1 + 1, 0, none⟩ = some (.int .i64 x') := (by subst hW; go_simp)); (have d1 : W.cell? ⟨w.heap.size + 1 + 1 + 1, 1, none⟩ = some (.int .i64 z') := (by subst hW; go_simp)))
      have hn : New w W := by subst hW; (repeat (first | (with_reducible exact New.refl _) | (with_reducible assumption) | ((with_reducible refine New.setB ?_ ?_ _); focus (first | omega | (simp; omega) | (simp; done))) | (with_reducible refine New.alloc ?_ _) | (with_reducible refine New.drew ?_) | (with_reducible refine New.drewN ?_ _) | (with_reducible refine New.hat ?_ _) | ((with_reducible apply New.snart); (with_reducible assumption))))
      clear hW
      refine (hm1 _).mono ?_
      rintro e w1 ⟨rfl, n1⟩
      ((replace a0 := New.keep n1 a0); (replace a1 := New.keep n1 a1); (replace b0 := New.keep n1 b0); (replace b1 := New.keep n1 b1); (replace e0 := New.keep n1 e0); (replace e1 := New.keep n1 e1); (replace d0 := New.keep n1 d0); (replace d1 := New.keep n1 d1))
      replace hn := hn.trans n1
      clear n1
      ((have lz0 : w.heap.size < w1.heap.size := World.block_lt_of_cell? _ _ a0); (have lz1 : w.heap.size + 1 < w1.heap.size := World.block_lt_of_cell? _ _ b0); (have lz2 : w.heap.size + 1 + 1 < w1.heap.size := World.block_lt_of_cell? _ _ e0); (have lz3 : w.heap.size + 1 + 1 + 1 < w1.heap.size := World.block_lt_of_cell? _ _ d0))
      go_wp2_with fail
      refine (hm2 _).mono ?_
      rintro e w2 ⟨rfl, n2⟩
      go_wp2_with fail
      go_ret
      rw [hv1.out]
      exact ⟨rfl, by have h := New.trans (by (repeat (first | (with_reducible exact New.refl _) | (with_reducible assumption) | ((with_reducible refine New.setB ?_ ?_ _); focus (first | omega | (simp; omega) | (simp; done))) | (with_reducible refine New.alloc ?_ _) | (with_reducible refine New.drew ?_) | (with_reducible refine New.drewN ?_ _) | (with_reducible refine New.hat ?_ _) | ((with_reducible apply New.snart); (with_reducible assumption))))) n2; (repeat (first | (with_reducible exact New.refl _) | (with_reducible assumption) | ((with_reducible refine New.setB ?_ ?_ _); focus (first | omega | (simp; omega) | (simp; done))) | (with_reducible refine New.alloc ?_ _) | (with_reducible refine New.drew ?_) | (with_reducible refine New.drewN ?_ _) | (with_reducible refine New.hat ?_ _) | ((with_reducible apply New.snart); (with_reducible assumption))))⟩
    | some q =>
      rw [h2] at hm2 hv
      simp only [metV, cellV] at hm2
      simp only [] at hv
      obtain ⟨pn, pd, pl, pk⟩ := p
      obtain ⟨qn, qd, ql, qk⟩ := q
      simp only [] at *
      have L1 := fun w => c_less pl pk qn qd w
      have L2 := fun w => c_less ql qk pn pd w
      generalize lessB pl pk qn qd = u1 at *
      generalize lessB ql qk pn pd = u2 at *
      have hv1 : Hid (v = (!u1 && !u2)) := hv
      replace L1 := Lib.hid L1
      replace L2 := Lib.hid L2
      clear hv h1 h2
      go_enter Try.func15, Try.ntmps15
      go_wp2_with fail
      generalize hW : World.alloc _ _ = W
      ((have a0 : W.cell? ⟨w.heap.size, 0, none⟩ = some (.int .i64 ax) := (by subst hW; go_simp)); (have a1 : W.cell? ⟨w.heap.size, 1, none⟩ = some (.int .i64 az) := (by subst hW; go_simp)); (have b0 : W.cell? ⟨w.heap.size + 1, 0, none⟩ = some (.int .i64 bx) := (by subst hW; go_simp)); (have b1 : W.cell? ⟨w.heap.size + 1, 1, none⟩ = some (.int .i64 bz) := (by subst hW; go_simp)); (have e0 : W.cell? ⟨w.heap.size + 1 + 1, 0, none⟩ = some (.int .i64 x) := (by subst hW; go_simp)); (have e1 : W.cell? ⟨w.heap.size + 1 + 1, 1, none⟩ = some (.int .i64 z) := (by subst hW; go_simp)); (have d0 : W.cell? ⟨w.heap.size + 1 + 1 + 1, 0, none⟩ = some (.int .i64 x') := (by subst hW; go_simp)); (have d1 : W.cell? ⟨w.heap.size + 1 + 1 + 1, 1, none⟩ = some (.int .i64 z') := (by subst hW; go_simp)))
      have hn : New w W := by subst hW; (repeat (first | (with_reducible exact New.refl _) | (with_reducible assumption) | ((with_reducible refine New.setB ?_ ?_ _); focus (first | omega | (simp; omega) | (simp; done))) | (with_reducible refine New.alloc ?_ _) | (with_reducible refine New.drew ?_) | (with_reducible refine New.drewN ?_ _) | (with_reducible refine New.hat ?_ _) | ((with_reducible apply New.snart); (with_reducible assumption))))
      clear hW
      refine (hm1 _).mono ?_
      rintro e w1 ⟨rfl, n1⟩
      ((replace a0 := New.keep n1 a0); (replace a1 := New.keep n1 a1); (replace b0 := New.keep n1 b0); (replace b1 := New.keep n1 b1); (replace e0 := New.keep n1 e0); (replace e1 := New.keep n1 e1); (replace d0 := New.keep n1 d0); (replace d1 := New.keep n1 d1))
      replace hn := hn.trans n1
      clear n1
      ((have lz0 : w.heap.size < w1.heap.size := World.block_lt_of_cell? _ _ a0); (have lz1 : w.heap.size + 1 < w1.heap.size := World.block_lt_of_cell? _ _ b0); (have lz2 : w.heap.size + 1 + 1 < w1.heap.size := World.block_lt_of_cell? _ _ e0); (have lz3 : w.heap.size + 1 + 1 + 1 < w1.heap.size := World.block_lt_of_cell? _ _ d0))
      go_upto_region 2 with fail
      refine Code.at (fun V hV => ?_)
      obtain ⟨B, hB⟩ : ∃ B, B = w1.heap.size := ⟨_, rfl⟩
      rw [← hB]
      have n2 : New w1 V := by subst hV; (repeat (first | (with_reducible exact New.refl _) | (with_reducible assumption) | ((with_reducible refine New.setB ?_ ?_ _); focus (first | omega | (simp; omega) | (simp; done))) | (with_reducible refine New.alloc ?_ _) | (with_reducible refine New.drew ?_) | (with_reducible refine New.drewN ?_ _) | (with_reducible refine New.hat ?_ _) | ((with_reducible apply New.snart); (with_reducible assumption))))
      have p2 : V.cell? ⟨B, 2, none⟩ = some (.int .i64 pn) := by subst hB; subst hV; go_simp
      have p3 : V.cell? ⟨B, 3, none⟩ = some (.int .i64 pd) := by subst hB; subst hV; go_simp
      have p4 : V.cell? ⟨B, 4, none⟩ = some (.int .i64 pl) := by subst hB; subst hV; go_simp
      have p5 : V.cell? ⟨B, 5, none⟩ = some (.int .i64 pk) := by subst hB; subst hV; go_simp
      ((replace a0 := New.keep n2 a0); (replace a1 := New.keep n2 a1); (replace b0 := New.keep n2 b0); (replace b1 := New.keep n2 b1); (replace e0 := New.keep n2 e0); (replace e1 := New.keep n2 e1); (replace d0 := New.keep n2 d0); (replace d1 := New.keep n2 d1))
      replace hn := hn.trans n2
      clear hV hB n2 lz0 lz1 lz2 lz3
      go_wp2_with fail
      refine (hm2 _).mono ?_
      rintro e w2 ⟨rfl, n2⟩
      replace p2 := New.keep n2 p2
      replace p3 := New.keep n2 p3
      replace p4 := New.keep n2 p4
      replace p5 := New.keep n2 p5
      replace hn := hn.trans n2
      have lB : B < w2.heap.size := World.block_lt_of_cell? _ _ p2
      clear n2 a0 a1 b0 b1 e0 e1 d0 d1
      go_upto_region 3 with fail
      refine Code.at (fun V hV => ?_)
      obtain ⟨B2, hB⟩ : ∃ B, B = w2.heap.size := ⟨_, rfl⟩
      rw [← hB]
      have n2 : New w2 V := by subst hV; (repeat (first | (with_reducible exact New.refl _) | (with_reducible assumption) | ((with_reducible refine New.setB ?_ ?_ _); focus (first | omega | (simp; omega) | (simp; done))) | (with_reducible refine New.alloc ?_ _) | (with_reducible refine New.drew ?_) | (with_reducible refine New.drewN ?_ _) | (with_reducible refine New.hat ?_ _) | ((with_reducible apply New.snart); (with_reducible assumption))))
      have q2 : V.cell? ⟨B2, 2, none⟩ = some (.int .i64 qn) := by subst hB; subst hV; go_simp
      have q3 : V.cell? ⟨B2, 3, none⟩ = some (.int .i64 qd) := by subst hB; subst hV; go_simp
      have q4 : V.cell? ⟨B2, 4, none⟩ = some (.int .i64 ql) := by subst hB; subst hV; go_simp
      have q5 : V.cell? ⟨B2, 5, none⟩ = some (.int .i64 qk) := by subst hB; subst hV; go_simp
      replace p2 := New.keep n2 p2
      replace p3 := New.keep n2 p3
      replace p4 := New.keep n2 p4
      replace p5 := New.keep n2 p5
      replace hn := hn.trans n2
      clear hV hB n2 lB
      go_wp2_with fail
      refine (L1.out _).mono ?_
      rintro e w3 ⟨rfl, n3⟩
      replace p2 := New.keep n3 p2
      replace p3 := New.keep n3 p3
      replace q4 := New.keep n3 q4
      replace q5 := New.keep n3 q5
      replace hn := hn.trans n3
      clear n3 p4 p5 q2 q3
      cases u1
      · go_wp2_with fail
        refine (L2.out _).mono ?_
        rintro e w4 ⟨rfl, n4⟩
        go_wp2_with fail
        go_ret
        rw [hv1.out]
        exact ⟨rfl, hn.trans n4⟩
      · go_wp2_with fail
        go_ret
        rw [hv1.out]
        exact ⟨rfl, hn⟩

end Go.Proofs.Ytmpkciidhopckaa
