import Derived.Test.YteoongcajfcgcaaClHZ6
import Derived.Deep.LoopGhost

/- Package clip: lowest terms. -/
namespace Go.Proofs.Yteoongcajfcgcaa
open Go.RowKit
set_option linter.unusedVariables false

/-- One step of dividing on. -/
structure Euc (G : Nat) (c r : Int) : Prop where
  ne : c ≠ 0
  g : Nat.gcd c.natAbs r.natAbs = G
theorem Euc.step {G : Nat} {c r : Int} (h : Euc G c r) (hr : r ≠ 0) : Euc G r (c.tmod r) :=
  ⟨hr, by have := igcd_step c r hr; unfold Int.gcd at this; rw [this]; exact h.g⟩
theorem Euc.stop {G : Nat} {c : Int} (h : Euc G c 0) : c.natAbs = G := by have := h.g; simpa using this

theorem low_q {x z y d c : Int} (hd : d ≠ 0) (h : c.natAbs = cg x z y d) : c * (clampI c (-1) 1 * clampI d (-1) 1) = d.sign * (cg x z y d : Int) := by
  have hc : c ≠ 0 := by have := cg_pos (x := x) (z := z) (y := y) hd; omega
  rw [clamp_sign, clamp_sign, ← h, abs_sign hc]
  grind

theorem low_val (x z y d : Int) : low x z y d = ⟨x.tdiv (d.sign * (cg x z y d : Int)), z.tdiv (d.sign * (cg x z y d : Int)), y.tdiv (d.sign * (cg x z y d : Int)), d.tdiv (d.sign * (cg x z y d : Int))⟩ := rfl

/-- The two blocks of the walk. -/
structure Lk (h : Nat) (x z y d : Int) (w : World) : Prop where
  c0 : w.cell? ⟨h, 0, none⟩ = some (.int .i64 x)
  c1 : w.cell? ⟨h, 1, none⟩ = some (.int .i64 z)
  c2 : w.cell? ⟨h, 2, none⟩ = some (.int .i64 y)
  c3 : w.cell? ⟨h, 3, none⟩ = some (.int .i64 d)
  e0 : w.cell? ⟨h + 1, 0, none⟩ = some (.int .i64 0)
  e1 : w.cell? ⟨h + 1, 1, none⟩ = some (.int .i64 0)
  e2 : w.cell? ⟨h + 1, 2, none⟩ = some (.int .i64 0)
  e3 : w.cell? ⟨h + 1, 3, none⟩ = some (.int .i64 0)
  f0 : w.frozen? ⟨h + 1, 0, none⟩ = false
  f1 : w.frozen? ⟨h + 1, 1, none⟩ = false
  f2 : w.frozen? ⟨h + 1, 2, none⟩ = false
  f3 : w.frozen? ⟨h + 1, 3, none⟩ = false
theorem Lk.keep {h : Nat} {x z y d : Int} {w w' : World} (H : Lk h x z y d w) (n : New w w') : Lk h x z y d w' :=
  ⟨n.keep H.c0, n.keep H.c1, n.keep H.c2, n.keep H.c3, n.keep H.e0, n.keep H.e1, n.keep H.e2, n.keep H.e3, n.keepF H.e0 H.f0, n.keepF H.e1 H.f1, n.keepF H.e2 H.f2, n.keepF H.e3 H.f3⟩

set_option maxHeartbeats 4000000 in
set_option maxRecDepth 100000 in
theorem k_lowest (x z y d : Int) (w : World) (hd : d ≠ 0) (bx : -1099511627776 ≤ x ∧ x ≤ 1099511627776) (bz : -1099511627776 ≤ z ∧ z ≤ 1099511627776) (by' : -1099511627776 ≤ y ∧ y ≤ 1099511627776) (bd : -1099511627776 ≤ d ∧ d ≤ 1099511627776) :
    Calls Try.prog 67 #[.agg #[.int .i64 x, .int .i64 z, .int .i64 y, .int .i64 d]] w fun e w' => e = .returned (.agg #[.int .i64 (low x z y d).x, .int .i64 (low x z y d).z, .int .i64 (low x z y d).y, .int .i64 (low x z y d).d]) ∧ New w w' := by
  have HV := Lib.hid (low_val x z y d)
  have HD := Lib.hid hd
  have hlb := low_bd (x := x) (z := z) (y := y) hd
  obtain ⟨L, hL⟩ : ∃ L, L = low x z y d := ⟨_, rfl⟩
  rw [← hL] at hlb HV ⊢
  clear hL
  have HLB := Lib.hid hlb
  clear hd hlb
  have i0 : ∀ w, (Instr.index 119 (.agg #[.int .i64 x, .int .i64 z, .int .i64 y]) (.int .i64 0)).run Try.prog w = .ok (.int .i64 x) w := fun _ => by kernel_rfl
  have i1 : ∀ w, (Instr.index 119 (.agg #[.int .i64 x, .int .i64 z, .int .i64 y]) (.int .i64 1)).run Try.prog w = .ok (.int .i64 z) w := fun _ => by kernel_rfl
  have i2 : ∀ w, (Instr.index 119 (.agg #[.int .i64 x, .int .i64 z, .int .i64 y]) (.int .i64 2)).run Try.prog w = .ok (.int .i64 y) w := fun _ => by kernel_rfl
  go_enter Try.func67, Try.ntmps67
  go_wp2_with fail
  refine Code.at (fun W0 hW => ?_)
  have hn : New w W0 := by subst hW; (repeat (first | (with_reducible exact New.refl _) | (with_reducible assumption) | ((with_reducible refine New.setB ?_ ?_ _); focus (first | omega | (simp; omega) | (simp; done))) | (with_reducible refine New.alloc ?_ _) | (with_reducible refine New.drew ?_) | (with_reducible refine New.drewN ?_ _) | (with_reducible refine New.hat ?_ _) | ((with_reducible apply New.snart); (with_reducible assumption))))
  have c0 : W0.cell? ⟨w.heap.size, 0, none⟩ = some (.int .i64 x) := by subst hW; go_simp
  have c1 : W0.cell? ⟨w.heap.size, 1, none⟩ = some (.int .i64 z) := by subst hW; go_simp
  have c2 : W0.cell? ⟨w.heap.size, 2, none⟩ = some (.int .i64 y) := by subst hW; go_simp
  have c3 : W0.cell? ⟨w.heap.size, 3, none⟩ = some (.int .i64 d) := by subst hW; go_simp
  have e0 : W0.cell? ⟨w.heap.size + 1, 0, none⟩ = some (.int .i64 0) := by subst hW; go_simp
  have e1 : W0.cell? ⟨w.heap.size + 1, 1, none⟩ = some (.int .i64 0) := by subst hW; go_simp
  have e2 : W0.cell? ⟨w.heap.size + 1, 2, none⟩ = some (.int .i64 0) := by subst hW; go_simp
  have e3 : W0.cell? ⟨w.heap.size + 1, 3, none⟩ = some (.int .i64 0) := by subst hW; go_simp
  have f0 : W0.frozen? ⟨w.heap.size + 1, 0, none⟩ = false := by subst hW; go_simp
  have f1 : W0.frozen? ⟨w.heap.size + 1, 1, none⟩ = false := by subst hW; go_simp
  have f2 : W0.frozen? ⟨w.heap.size + 1, 2, none⟩ = false := by subst hW; go_simp
  have f3 : W0.frozen? ⟨w.heap.size + 1, 3, none⟩ = false := by subst hW; go_simp
  clear hW
  refine wp_loop_rounds 4 ?_
  have HK : Lk w.heap.size x z y d W0 := ⟨c0, c1, c2, c3, e0, e1, e2, e3, f0, f1, f2, f3⟩
  clear c0 c1 c2 c3 e0 e1 e2 e3 f0 f1 f2 f3
  rw [rounds_succ]
  go_wp2_with fail
  go_loopg [3, 5] x.natAbs (fun kx s3 s5 wr => ∃ c r : Int, s3 = .int .i64 c ∧ s5 = .int .i64 r ∧ r.natAbs ≤ kx ∧ Hid (Euc (Nat.gcd d.natAbs x.natAbs) c r) ∧ (-1099511627776 ≤ c ∧ c ≤ 1099511627776) ∧ (-1099511627776 ≤ r ∧ r ≤ 1099511627776) ∧ New w wr ∧ Lk w.heap.size x z y d wr)
  case atStart => exact ⟨d, x, rfl, rfl, Nat.le_refl _, Lib.hid ⟨HD.out, rfl⟩, bd, bx, hn, HK⟩
  case round =>
    obtain ⟨c1, r, rfl, rfl, hkr, HE, hc1, hr, hn1, HK1⟩ := hrel
    by_cases h0 : r = 0
    rotate_left
    · have hz : (r == 0) = false := by rw [beq_eq_false_iff_ne]; omega
      have hnz : (r != 0) = true := by rw [bne_iff_ne]; omega
      obtain ⟨q, hq⟩ : ∃ q, c1.tmod r = q := ⟨_, rfl⟩
      have hlt : q.natAbs < r.natAbs := by rw [← hq, Int.natAbs_tmod]; exact Nat.mod_lt _ (by omega)
      have HE2 : Hid (Euc (Nat.gcd d.natAbs x.natAbs) r q) := by rw [← hq]; exact Lib.hid (HE.out.step h0)
      clear HE h0
      go_wp2_with fail
      go_quiet (fail)
      go_wp2_with fail
      go_roundg q.natAbs
      case measure => omega
      case rel => exact ⟨r, q, rfl, rfl, Nat.le_refl _, HE2, hr, by omega, by (repeat (first | (with_reducible exact New.refl _) | (with_reducible assumption) | ((with_reducible refine New.setB ?_ ?_ _); focus (first | omega | (simp; omega) | (simp; done))) | (with_reducible refine New.alloc ?_ _) | (with_reducible refine New.drew ?_) | (with_reducible refine New.drewN ?_ _) | (with_reducible refine New.hat ?_ _) | ((with_reducible apply New.snart); (with_reducible assumption)))), HK1.keep (by (repeat (first | (with_reducible exact New.refl _) | (with_reducible assumption) | ((with_reducible refine New.setB ?_ ?_ _); focus (first | omega | (simp; omega) | (simp; done))) | (with_reducible refine New.alloc ?_ _) | (with_reducible refine New.drew ?_) | (with_reducible refine New.drewN ?_ _) | (with_reducible refine New.hat ?_ _) | ((with_reducible apply New.snart); (with_reducible assumption)))))⟩
    subst h0
    have N1 : Hid (c1 ≠ 0 ∧ c1.natAbs = Nat.gcd d.natAbs x.natAbs) := Lib.hid ⟨HE.out.ne, HE.out.stop⟩
    clear HE hkr hr HK
    go_wp2_with fail
    rw [rounds_succ]
    go_wp2_with fail
    go_loopg [3, 5] z.natAbs (fun kx s3 s5 wr => ∃ c r : Int, s3 = .int .i64 c ∧ s5 = .int .i64 r ∧ r.natAbs ≤ kx ∧ Hid (Euc (Nat.gcd (Nat.gcd d.natAbs x.natAbs) z.natAbs) c r) ∧ (-1099511627776 ≤ c ∧ c ≤ 1099511627776) ∧ (-1099511627776 ≤ r ∧ r ≤ 1099511627776) ∧ New w wr ∧ Lk w.heap.size x z y d wr)
    case atStart => exact ⟨c1, z, rfl, rfl, Nat.le_refl _, Lib.hid ⟨N1.out.1, by rw [N1.out.2]⟩, hc1, bz, hn1, HK1⟩
    case round =>
      obtain ⟨c2, r, rfl, rfl, hkr, HE, hc2, hr, hn2, HK2⟩ := hrel
      by_cases h0 : r = 0
      rotate_left
      · have hz : (r == 0) = false := by rw [beq_eq_false_iff_ne]; omega
        have hnz : (r != 0) = true := by rw [bne_iff_ne]; omega
        obtain ⟨q, hq⟩ : ∃ q, c2.tmod r = q := ⟨_, rfl⟩
        have hlt : q.natAbs < r.natAbs := by rw [← hq, Int.natAbs_tmod]; exact Nat.mod_lt _ (by omega)
        have HE2 : Hid (Euc (Nat.gcd (Nat.gcd d.natAbs x.natAbs) z.natAbs) r q) := by rw [← hq]; exact Lib.hid (HE.out.step h0)
        clear HE h0
        go_wp2_with fail
        go_quiet (fail)
        go_wp2_with fail
        go_roundg q.natAbs
        case measure => omega
        case rel => exact ⟨r, q, rfl, rfl, Nat.le_refl _, HE2, hr, by omega, by (repeat (first | (with_reducible exact New.refl _) | (with_reducible assumption) | ((with_reducible refine New.setB ?_ ?_ _); focus (first | omega | (simp; omega) | (simp; done))) | (with_reducible refine New.alloc ?_ _) | (with_reducible refine New.drew ?_) | (with_reducible refine New.drewN ?_ _) | (with_reducible refine New.hat ?_ _) | ((with_reducible apply New.snart); (with_reducible assumption)))), HK2.keep (by (repeat (first | (with_reducible exact New.refl _) | (with_reducible assumption) | ((with_reducible refine New.setB ?_ ?_ _); focus (first | omega | (simp; omega) | (simp; done))) | (with_reducible refine New.alloc ?_ _) | (with_reducible refine New.drew ?_) | (with_reducible refine New.drewN ?_ _) | (with_reducible refine New.hat ?_ _) | ((with_reducible apply New.snart); (with_reducible assumption)))))⟩
      subst h0
      have N2 : Hid (c2 ≠ 0 ∧ c2.natAbs = Nat.gcd (Nat.gcd d.natAbs x.natAbs) z.natAbs) := Lib.hid ⟨HE.out.ne, HE.out.stop⟩
      clear HE hkr hr HK1
      go_wp2_with fail
      rw [rounds_succ]
      go_wp2_with fail
      go_loopg [3, 5] y.natAbs (fun kx s3 s5 wr => ∃ c r : Int, s3 = .int .i64 c ∧ s5 = .int .i64 r ∧ r.natAbs ≤ kx ∧ Hid (Euc (Nat.gcd (Nat.gcd (Nat.gcd d.natAbs x.natAbs) z.natAbs) y.natAbs) c r) ∧ (-1099511627776 ≤ c ∧ c ≤ 1099511627776) ∧ (-1099511627776 ≤ r ∧ r ≤ 1099511627776) ∧ New w wr ∧ Lk w.heap.size x z y d wr)
      case atStart => exact ⟨c2, y, rfl, rfl, Nat.le_refl _, Lib.hid ⟨N2.out.1, by rw [N2.out.2]⟩, hc2, by', hn2, HK2⟩
      case round =>
        obtain ⟨c3, r, rfl, rfl, hkr, HE, hc3, hr, hn3, HK3⟩ := hrel
        by_cases h0 : r = 0
        rotate_left
        · have hz : (r == 0) = false := by rw [beq_eq_false_iff_ne]; omega
          have hnz : (r != 0) = true := by rw [bne_iff_ne]; omega
          obtain ⟨q, hq⟩ : ∃ q, c3.tmod r = q := ⟨_, rfl⟩
          have hlt : q.natAbs < r.natAbs := by rw [← hq, Int.natAbs_tmod]; exact Nat.mod_lt _ (by omega)
          have HE2 : Hid (Euc (Nat.gcd (Nat.gcd (Nat.gcd d.natAbs x.natAbs) z.natAbs) y.natAbs) r q) := by rw [← hq]; exact Lib.hid (HE.out.step h0)
          clear HE h0
          go_wp2_with fail
          go_quiet (fail)
          go_wp2_with fail
          go_roundg q.natAbs
          case measure => omega
          case rel => exact ⟨r, q, rfl, rfl, Nat.le_refl _, HE2, hr, by omega, by (repeat (first | (with_reducible exact New.refl _) | (with_reducible assumption) | ((with_reducible refine New.setB ?_ ?_ _); focus (first | omega | (simp; omega) | (simp; done))) | (with_reducible refine New.alloc ?_ _) | (with_reducible refine New.drew ?_) | (with_reducible refine New.drewN ?_ _) | (with_reducible refine New.hat ?_ _) | ((with_reducible apply New.snart); (with_reducible assumption)))), HK3.keep (by (repeat (first | (with_reducible exact New.refl _) | (with_reducible assumption) | ((with_reducible refine New.setB ?_ ?_ _); focus (first | omega | (simp; omega) | (simp; done))) | (with_reducible refine New.alloc ?_ _) | (with_reducible refine New.drew ?_) | (with_reducible refine New.drewN ?_ _) | (with_reducible refine New.hat ?_ _) | ((with_reducible apply New.snart); (with_reducible assumption)))))⟩
        subst h0
        have N3 : Hid (c3 ≠ 0 ∧ c3.natAbs = Nat.gcd (Nat.gcd (Nat.gcd d.natAbs x.natAbs) z.natAbs) y.natAbs) := Lib.hid ⟨HE.out.ne, HE.out.stop⟩
        clear HE hkr hr HK2
        go_wp2_with fail
        rw [rounds_succ]
        obtain ⟨q, hq⟩ : ∃ q, q = c3 * (clampI c3 (-1) 1 * clampI d (-1) 1) := ⟨_, rfl⟩
        have hq' : q = d.sign * (cg x z y d : Int) := by rw [hq]; exact low_q HD.out N3.out.2
        obtain ⟨q0, QX, QZ, QY, QD⟩ : q ≠ 0 ∧ x.tdiv q = L.x ∧ z.tdiv q = L.z ∧ y.tdiv q = L.y ∧ d.tdiv q = L.d := by
          rw [HV.out, ← hq']
          refine ⟨?_, rfl, rfl, rfl, rfl⟩
          intro e
          rw [hq] at e
          have hcne := N3.out.1
          have h1 := Int.mul_eq_zero.1 e
          rw [clamp_sign, clamp_sign] at h1
          rcases h1 with h1 | h1
          · exact hcne h1
          · rcases Int.mul_eq_zero.1 h1 with h2 | h2
            · exact hcne (Int.sign_eq_zero_iff_zero.1 h2)
            · exact HD.out (Int.sign_eq_zero_iff_zero.1 h2)
        obtain ⟨s1, hs1⟩ : ∃ s, s = clampI c3 (-1) 1 := ⟨_, rfl⟩
        obtain ⟨s2, hs2⟩ : ∃ s, s = clampI d (-1) 1 := ⟨_, rfl⟩
        have T1 : ∀ w, Calls Try.prog 65 #[.int .i64 c3] w fun e w' => e = .returned (.int .i64 s1) ∧ w = w' := fun w => by rw [hs1]; exact sign_any c3 w
        have T2 : ∀ w, Calls Try.prog 65 #[.int .i64 d] w fun e w' => e = .returned (.int .i64 s2) ∧ w = w' := fun w => by rw [hs2]; exact sign_any d w
        have b4 : -1 ≤ s1 ∧ s1 ≤ 1 := by rw [hs1]; unfold clampI; omega
        have b5 : -1 ≤ s2 ∧ s2 ≤ 1 := by rw [hs2]; unfold clampI; omega
        rw [← hs1, ← hs2] at hq
        have bm := mul_bd (a := s1) (b := s2) (A := 1) (B := 1) b4 b5
        obtain ⟨m, hm⟩ : ∃ m, s1 * s2 = m := ⟨_, rfl⟩
        rw [hm] at hq bm
        have bq := mul_bd (a := c3) (b := m) (A := 1099511627776) (B := 1) hc3 bm
        have hq2 : c3 * m = q := hq.symm
        rw [hq2] at bq
        have hz : (q == 0) = false := by rw [beq_eq_false_iff_ne]; exact q0
        obtain ⟨l1, l2, l3, l4⟩ := HLB.out
        obtain ⟨c0, g1, g2, g3, e0, e1, e2, e3, f0, f1, f2, f3⟩ := HK3
        replace T1 := Lib.hid T1
        replace T2 := Lib.hid T2
        clear hs1 hs2 hq hq' HV HLB N1 N2 N3 hn hn1 hn2 hc1 hc2
        go_wp2_with fail
        (refine wp_region_hat (by kernel_rfl) (by kernel_rfl) ?_; intro hatc hatf; (repeat (go_big_quiet_step ((go_at_call 65; first | (with_reducible exact Calls.hat_same (T1.out _)) | (with_reducible exact Calls.hat_same (T2.out _)))))); refine wpQuiet_nil ?_; rintro _ ⟨X, rfl⟩)
        clear hatc hatf T1 T2
        replace hn3 := hn3.trans X.h
        (replace c0 := New.keep X.h c0; replace g1 := New.keep X.h g1; replace g2 := New.keep X.h g2; replace g3 := New.keep X.h g3)
        (replace f0 := New.keepF X.h e0 f0; replace f1 := New.keepF X.h e1 f1; replace f2 := New.keepF X.h e2 f2; replace f3 := New.keepF X.h e3 f3)
        (replace e0 := New.keep X.h e0; replace e1 := New.keep X.h e1; replace e2 := New.keep X.h e2; replace e3 := New.keep X.h e3)
        generalize X.w = W9 at *
        clear X
        go_wp2_with fail
        have wx : IntKind.i64.wrap L.x = L.x := IntWalk.i64_in _ (by omega)
        have wz : IntKind.i64.wrap L.z = L.z := IntWalk.i64_in _ (by omega)
        have wy : IntKind.i64.wrap L.y = L.y := IntWalk.i64_in _ (by omega)
        have wd : IntKind.i64.wrap L.d = L.d := IntWalk.i64_in _ (by omega)
        go_region
        all_goals
          go_wp2_with fail
          refine bodyPost_ret (v := .agg #[.int .i64 L.x, .int .i64 L.z, .int .i64 L.y, .int .i64 L.d]) (by simp [results, Try.results67, go_sem, *]) rfl ?_
          exact ⟨rfl, by (repeat (first | (with_reducible exact New.refl _) | (with_reducible assumption) | ((with_reducible refine New.setB ?_ ?_ _); focus (first | omega | (simp; omega) | (simp; done))) | (with_reducible refine New.alloc ?_ _) | (with_reducible refine New.drew ?_) | (with_reducible refine New.drewN ?_ _) | (with_reducible refine New.hat ?_ _) | ((with_reducible apply New.snart); (with_reducible assumption))))⟩

end Go.Proofs.Yteoongcajfcgcaa
