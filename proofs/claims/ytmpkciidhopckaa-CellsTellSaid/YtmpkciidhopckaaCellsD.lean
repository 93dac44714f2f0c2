/- Package cells: lowest terms. -/
import Derived.Test.YtmpkciidhopckaaCellsA
import Derived.Deep.LoopGhost
namespace Go.Proofs.Ytmpkciidhopckaa
open Go.RowKit
set_option linter.unusedVariables false

theorem gcd_step (c r : Nat) (h : r ≠ 0) : Nat.gcd r (c % r) = Nat.gcd c r := by
  rw [Nat.gcd_comm r, ← Nat.gcd_rec, Nat.gcd_comm]

set_option maxHeartbeats 2000000 in
set_option maxRecDepth 100000 in
theorem c_reduced (n d : Nat) (w : World) (hn : n ≤ 1073741824) (hd : 0 < d) (hd2 : d ≤ 1073741824) :
    Calls Try.prog 72 #[.agg #[.int .i64 n, .int .i64 d]] w fun e w' => e = .returned (.agg #[.int .i64 ((n / Nat.gcd d n : Nat) : Int), .int .i64 ((d / Nat.gcd d n : Nat) : Int)]) ∧ New w w' := by
  go_enter Try.func72, Try.ntmps72
  go_wp2_with fail
  go_quiet (fail)
  generalize hW : World.drewN _ _ = W
  have c1 : W.cell? ⟨w.heap.size, 0, none⟩ = some (.int .i64 n) := by subst hW; go_simp
  have c2 : W.cell? ⟨w.heap.size, 1, none⟩ = some (.int .i64 d) := by subst hW; go_simp
  have c5 : W.cell? ⟨w.heap.size + 1, 0, none⟩ = some (.int .i64 0) := by subst hW; go_simp
  have c6 : W.cell? ⟨w.heap.size + 1, 1, none⟩ = some (.int .i64 0) := by subst hW; go_simp
  have f5 : W.frozen? ⟨w.heap.size + 1, 0, none⟩ = false := by subst hW; go_simp
  have f6 : W.frozen? ⟨w.heap.size + 1, 1, none⟩ = false := by subst hW; go_simp
  have hN : New w W := by subst hW; (repeat (first | (with_reducible exact New.refl _) | (with_reducible assumption) | ((with_reducible refine New.setB ?_ ?_ _); focus (first | omega | (simp; omega) | (simp; done))) | (with_reducible refine New.alloc ?_ _) | (with_reducible refine New.drew ?_) | (with_reducible refine New.drewN ?_ _) | (with_reducible refine New.hat ?_ _) | ((with_reducible apply New.snart); (with_reducible assumption))))
  clear hW
  go_wp2_with fail
  go_loopg [3, 4] n (fun kx s3 s4 wr => ∃ c r : Nat, s3 = .int .i64 c ∧ s4 = .int .i64 r ∧ r ≤ kx ∧ 0 < c ∧ c ≤ 1073741824 ∧ r ≤ 1073741824 ∧ Hid (Nat.gcd c r = Nat.gcd d n) ∧ New W wr)
  case atStart => exact ⟨d, n, rfl, rfl, Nat.le_refl _, hd, hd2, hn, rfl, New.refl _⟩
  case round =>
    obtain ⟨c, r, rfl, rfl, hkr, hc0, hc, hr, hg, hn1⟩ := hrel
    by_cases h0 : r = 0
    · subst h0
      have hgc : Nat.gcd d n = c := by rw [← hg.out, Nat.gcd_zero_right]
      have f5 := hn1.keepF c5 f5
      have f6 := hn1.keepF c6 f6
      have c1 := hn1.keep c1
      have c2 := hn1.keep c2
      have c5 := hn1.keep c5
      have c6 := hn1.keep c6
      obtain ⟨q1, e1⟩ : ∃ q : Nat, q = n / c := ⟨_, rfl⟩
      obtain ⟨q2, e2⟩ : ∃ q : Nat, q = d / c := ⟨_, rfl⟩
      have t1 : (n : Int) / (c : Int) = (q1 : Int) := by rw [e1]; rfl
      have t2 : (d : Int) / (c : Int) = (q2 : Int) := by rw [e2]; rfl
      have hcz : ((c : Int) == 0) = false := by rw [beq_eq_false_iff_ne]; omega
      have b1 : q1 ≤ n := by rw [e1]; exact Nat.div_le_self _ _
      have b2 : q2 ≤ d := by rw [e2]; exact Nat.div_le_self _ _
      have HG : Hid (n / Nat.gcd d n = q1 ∧ d / Nat.gcd d n = q2) := by show _ ∧ _; rw [hgc]; exact ⟨e1.symm, e2.symm⟩
      clear hg hgc e1 e2
      have hz := hN.size
      go_wp2_with fail
      go_region
      go_wp2_with fail
      refine bodyPost_ret (v := .agg #[.int .i64 (q1 : Int), .int .i64 (q2 : Int)]) (by simp [results, Try.results72, go_sem, *]) rfl ?_
      rw [HG.out.1, HG.out.2]
      have hN1 := hN.trans hn1
      exact ⟨rfl, by (repeat (first | (with_reducible exact New.refl _) | (with_reducible assumption) | ((with_reducible refine New.setB ?_ ?_ _); focus (first | omega | (simp; omega) | (simp; done))) | (with_reducible refine New.alloc ?_ _) | (with_reducible refine New.drew ?_) | (with_reducible refine New.drewN ?_ _) | (with_reducible refine New.hat ?_ _) | ((with_reducible apply New.snart); (with_reducible assumption))))⟩
    · have hz : ((r : Int) == 0) = false := by rw [beq_eq_false_iff_ne]; omega
      have q1 : (c : Int).tmod (r : Int) = ((c % r : Nat) : Int) := by rw [Int.tmod_eq_emod_of_nonneg (by omega)]; rfl
      have hlt : c % r < r := Nat.mod_lt _ (by omega)
      have hg' : Hid (Nat.gcd r (c % r) = Nat.gcd d n) := by
        show Nat.gcd r (c % r) = Nat.gcd d n
        rw [gcd_step c r h0]; exact hg.out
      clear hg
      go_wp2_with fail
      go_quiet (fail)
      go_wp2_with fail
      go_roundg (c % r)
      case measure => omega
      case rel => exact ⟨r, c % r, rfl, rfl, Nat.le_refl _, by omega, hr, by omega, hg', by (repeat (first | (with_reducible exact New.refl _) | (with_reducible assumption) | ((with_reducible refine New.setB ?_ ?_ _); focus (first | omega | (simp; omega) | (simp; done))) | (with_reducible refine New.alloc ?_ _) | (with_reducible refine New.drew ?_) | (with_reducible refine New.drewN ?_ _) | (with_reducible refine New.hat ?_ _) | ((with_reducible apply New.snart); (with_reducible assumption))))⟩

end Go.Proofs.Ytmpkciidhopckaa
