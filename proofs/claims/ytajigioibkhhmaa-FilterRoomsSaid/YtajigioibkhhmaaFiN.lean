/- The law FilterRooms. -/
import Derived.Test.YtajigioibkhhmaaFiM
import Derived.Test.YtajigioibkhhmaaFiJ
import Derived.Deep.LoopGhost
namespace Go.Proofs.Ytajigioibkhhmaa
open Go.RowKit
set_option linter.unusedVariables false

set_option maxHeartbeats 8000000 in
set_option maxRecDepth 100000 in
theorem l_filterRooms (at0 : Option Addr) (l : List Sn) (c : Nat) (s : Sn) (w : World) (h : Sl Sn.enc 3 w (.slice at0 l.length c) l) :
    Calls Try.prog 4 #[.slice at0 l.length c, .agg #[.int .i64 s.lo, .int .i64 s.hi, .bool s.wk]] w fun e w' => e = .returned (.bool true) ∧ New w w' := by
  have hlm : l.length ≤ maxLen := by obtain ⟨_, h1, h2, _⟩ := h.row'; omega
  have KW := Lib.hid (fun W => fi_wakes W)
  have KC := Lib.hid (fun W n => rs_check at0 l c hlm W ((h.keep (n : New w W)).row'.2.2.2.2))
  have KP := Lib.hid (fun W n => r_Put at0 l c s W (h.keep (n : New w W)))
  have KR := Lib.hid (fun k W n => fi_room at0 l c hlm k W ((h.keep (n : New w W)).row'.2.2.2.2))
  have HH := Lib.hid h.row'.2.2.2.2
  obtain ⟨r, hr⟩ : ∃ r, r = spE l := ⟨_, rfl⟩
  rw [← hr] at KC
  have h2 := chkE_two l
  rw [← hr] at h2
  have HR := Lib.hid hr
  obtain ⟨n, hn⟩ : ∃ n, n = l.length := ⟨_, rfl⟩
  rw [← hn] at KC KP KR ⊢
  have HN := Lib.hid hn
  clear hn hr h hlm
  go_enter Try.func4, Try.ntmps4
  go_wp2_with fail
  refine Calls.at (fun W0 hW => ?_)
  have n0 : New w W0 := by subst hW; (repeat (first | (with_reducible exact New.refl _) | (with_reducible assumption) | ((with_reducible refine New.setB ?_ ?_ _); focus (first | omega | (simp; omega) | (simp; done))) | (with_reducible refine New.alloc ?_ _) | (with_reducible refine New.drew ?_) | (with_reducible refine New.drewN ?_ _) | (with_reducible refine New.hat ?_ _) | ((with_reducible apply New.snart); (with_reducible assumption))))
  have s0 : W0.cell? ⟨w.heap.size, 0, none⟩ = some (.int .i64 s.lo) := by subst hW; go_simp
  have s1 : W0.cell? ⟨w.heap.size, 1, none⟩ = some (.int .i64 s.hi) := by subst hW; go_simp
  have s2 : W0.cell? ⟨w.heap.size, 2, none⟩ = some (.bool s.wk) := by subst hW; go_simp
  clear hW
  refine (KC.out _ n0).mono ?_
  rintro e w1 ⟨rfl, n1⟩
  (replace s0 := n1.keep s0; replace s1 := n1.keep s1; replace s2 := n1.keep s2)
  have hn1 : New w w1 := n0.trans n1
  clear n1 n0
  rcases h2 with rfl | rfl
  rotate_left
  · go_wp2_with fail
    refine (KW.out _).mono ?_
    rintro e w2 ⟨rfl, n2⟩
    go_wp2_with fail
    go_ret
    exact ⟨rfl, hn1.trans n2⟩
  · have hl8 : n ≤ 8 := by rw [HN.out]; exact (chkE_zero HR.out.symm).1
    go_wp2_with fail
    go_loopg [5, 6] n (fun gk s5 s6 wr => ∃ (i : Nat) (z : Int), s5 = .int .i64 z ∧ s6 = .int .i64 i ∧ i ≤ n ∧ n - i ≤ gk ∧ Hid (z = lastF l i) ∧ Hid (New w1 wr))
    case atStart => exact ⟨0, -1048576, rfl, rfl, by omega, by omega, Lib.hid rfl, Lib.hid (New.refl _)⟩
    case round =>
      obtain ⟨i, z, rfl, rfl, hi, hgk, HZ, hnr⟩ := hrel
      by_cases hlt : i < n
      · have hil : i < l.length := by rw [← HN.out]; exact hlt
        have hd : decide (i < n) = true := decide_eq_true hlt
        obtain ⟨b0, off, rfl, hA⟩ := HH.out (by omega)
        obtain ⟨-, d1, -⟩ := Sn.cells (hA.keep (hn1.trans hnr.out)) i hil
        obtain ⟨q1, q2⟩ := rTop_at (l := l) HR.out.symm hil
        have t1 := last_le HR.out.symm hil
        obtain ⟨-, -, -, t2, -⟩ := roof_over HR.out.symm hil
        rw [← HZ.out] at t1
        have K1 := Lib.hid (fun W n => by have := KR.out i W n; rw [q1, q2] at this; exact this : ∀ W, New w W → Calls Try.prog 6 #[.slice (some ⟨b0, off, none⟩) n c, .int .i64 i] W fun e w' => e = .returned (.tuple #[.int .i64 (roofF l i), .bool true]) ∧ New W w')
        have HL : Hid (lastF l (i + 1) = roofF l i) := Lib.hid rfl
        generalize roofF l i = top at *
        generalize l[i].hi = y at *
        have g1 : decide (y < z) = false := decide_eq_false (by omega)
        have g2 : decide (top ≤ y) = false := decide_eq_false (by omega)
        have hno := hn1.trans hnr.out
        clear q1 q2 hA t1 t2 s0 s1 s2
        go_wp2_with fail
        refine (K1.out _ hno).mono ?_
        rintro e w2 ⟨rfl, n2⟩
        replace d1 := n2.keep d1
        have hn2 := Lib.hid (hnr.out.trans n2)
        clear n2
        go_wp2_with fail
        go_roundg (n - (i + 1))
        case measure => omega
        case rel => exact ⟨i + 1, top, rfl, by go_num, by omega, by omega, Lib.hid HL.out.symm, hn2⟩
      · have hd : decide (i < n) = false := decide_eq_false hlt
        have hno := Lib.hid (hn1.trans hnr.out)
        (replace s0 := hnr.out.keep s0; replace s1 := hnr.out.keep s1; replace s2 := hnr.out.keep s2)
        go_wp2_with fail
        refine (KP.out _ hno.out).mono ?_
        intro e w2 hm
        obtain ⟨n2, R, a1, c1, q, hR, hRl, rfl, hs1⟩ := hm.flat
        have hn2 : New w w2 := hno.out.trans n2
        have hR8 : R.length ≤ maxLen := by unfold maxLen; omega
        have K2 := Lib.hid (fun k W n => fi_room a1 R c1 hR8 k W ((hs1.keep (n : New w2 W)).row'.2.2.2.2))
        have HS := Lib.hid hs1.row'.2.2.2.2
        have HPR := Lib.hid hR
        obtain ⟨m, hm'⟩ : ∃ m, m = R.length := ⟨_, rfl⟩
        rw [← hm'] at K2 hRl ⊢
        have HM := Lib.hid hm'
        clear hm hs1 n2 hm' hR8 s0 s1 s2 hnr hR HZ
        by_cases hq : q = 0
        · subst hq
          obtain ⟨-, hRz, hR8', hover⟩ := roof_put HPR.out
          have HOV := Lib.hid hover
          have HRZ := Lib.hid hRz
          have HN2 := Lib.hid hn2
          clear hover hRz hR8' HPR hn2 hno hi hgk hlt hd
          rename_i gk' wr'
          go_wp2_with fail
          go_loopg [11] m (fun gk s11 wr => ∃ j : Nat, s11 = .int .i64 j ∧ j ≤ m ∧ m - j ≤ gk ∧ Hid (New w2 wr))
          case atStart => exact ⟨0, rfl, by omega, by omega, Lib.hid (New.refl _)⟩
          case round =>
            obtain ⟨j, rfl, hj, hgj, hnj⟩ := hrel
            by_cases hjt : j < m
            · have hjR : j < R.length := by rw [← HM.out]; exact hjt
              have hdj : decide (j < m) = true := decide_eq_true hjt
              obtain ⟨b1, of1, rfl, hB⟩ := HS.out (by omega)
              obtain ⟨p1, p2⟩ := rTop_at (l := R) HRZ.out hjR
              have K3 := Lib.hid (fun W n => by have := K2.out j W n; rw [p1, p2] at this; exact this : ∀ W, New w2 W → Calls Try.prog 6 #[.slice (some ⟨b1, of1, none⟩) m c1, .int .i64 j] W fun e w' => e = .returned (.tuple #[.int .i64 (roofF R j), .bool true]) ∧ New W w')
              have HB := Lib.hid hB
              have HOJ := Lib.hid (fun k hk => HOV.out j hjR k hk)
              obtain ⟨top, htop⟩ : ∃ top, top = roofF R j := ⟨_, rfl⟩
              rw [← htop] at K3 HOJ
              clear p1 p2 hB htop
              go_wp2_with fail
              refine (K3.out _ hnj.out).mono ?_
              rintro e w3 ⟨rfl, n3⟩
              have hn3 := Lib.hid (hnj.out.trans n3)
              clear n3 hnj
              rename_i gk2 wr2
              go_wp2_with fail
              go_loopg [14] n (fun gk s14 wr => ∃ k : Nat, s14 = .int .i64 k ∧ k ≤ n ∧ n - k ≤ gk ∧ Hid (New w2 wr))
              case atStart => exact ⟨0, rfl, by omega, by omega, hn3⟩
              case round =>
                clear hn3
                obtain ⟨k, rfl, hk, hgk3, hnk⟩ := hrel
                have hwk := HN2.out.trans hnk.out
                by_cases hkt : k < n
                · have hkl : k < l.length := by rw [← HN.out]; exact hkt
                  have hdk : decide (k < n) = true := decide_eq_true hkt
                  obtain ⟨b0, off, rfl, hA⟩ := HH.out (by omega)
                  obtain ⟨-, d1, -⟩ := Sn.cells (hA.keep hwk) k hkl
                  obtain ⟨-, e1, -⟩ := Sn.cells (HB.out.keep hnk.out) j hjR
                  obtain ⟨q1, q2⟩ := rTop_at (l := l) HR.out.symm hkl
                  have K1 := Lib.hid (fun W n => by have := KR.out k W n; rw [q1, q2] at this; exact this : ∀ W, New w W → Calls Try.prog 6 #[.slice (some ⟨b0, off, none⟩) n c, .int .i64 k] W fun e w' => e = .returned (.tuple #[.int .i64 (roofF l k), .bool true]) ∧ New W w')
                  have hov := HOJ.out k hkl
                  generalize roofF l k = old at *
                  generalize l[k].hi = y at *
                  generalize R[j].hi = x at *
                  clear hA q1 q2
                  by_cases hyx : y = x
                  · have hb : (y == x) = true := by rw [beq_iff_eq]; exact hyx
                    have hdo : decide (old < top) = false := decide_eq_false (by have := hov hyx; omega)
                    have HYX := Lib.hid hyx
                    clear hov hyx
                    go_wp2_with fail
                    refine (K1.out _ hwk).mono ?_
                    rintro e w4 ⟨rfl, n4⟩
                    replace d1 := n4.keep d1
                    replace e1 := n4.keep e1
                    have hn4 := hnk.out.trans n4
                    clear n4
                    go_wp2_with fail
                    (refine wp_region_hat (by kernel_rfl) (by kernel_rfl) ?_; intro hatc hatf; (repeat (go_big_quiet_step ((fail)))); refine wpQuiet_nil ?_; rintro _ ⟨X, rfl⟩)
                    have hn5 := Lib.hid (hn4.trans X.h)
                    generalize X.w = W6 at *
                    clear X hatc hatf hn4 d1 e1
                    go_wp2_with fail
                    go_roundg (n - (k + 1))
                    case measure => omega
                    case rel => exact ⟨k + 1, by go_num, by omega, by omega, hn5⟩
                  · have hb : (y == x) = false := by rw [beq_eq_false_iff_ne]; exact hyx
                    clear hov hyx
                    go_wp2_with fail
                    refine (K1.out _ hwk).mono ?_
                    rintro e w4 ⟨rfl, n4⟩
                    replace d1 := n4.keep d1
                    replace e1 := n4.keep e1
                    have hn4 := hnk.out.trans n4
                    clear n4
                    go_wp2_with fail
                    (refine wp_region_hat (by kernel_rfl) (by kernel_rfl) ?_; intro hatc hatf; (repeat (go_big_quiet_step ((fail)))); refine wpQuiet_nil ?_; rintro _ ⟨X, rfl⟩)
                    have hn5 := Lib.hid (hn4.trans X.h)
                    generalize X.w = W6 at *
                    clear X hatc hatf hn4 d1 e1
                    go_wp2_with fail
                    go_roundg (n - (k + 1))
                    case measure => omega
                    case rel => exact ⟨k + 1, by go_num, by omega, by omega, hn5⟩
                · have hdk : decide (k < n) = false := decide_eq_false hkt
                  have hkn : k = n := by omega
                  have HKN := Lib.hid hkn
                  clear hkn
                  go_wp2_with fail
                  go_roundg (m - (j + 1))
                  case measure => omega
                  case rel => exact ⟨j + 1, by go_num, by omega, by omega, hnk⟩
            · have hdj : decide (j < m) = false := decide_eq_false hjt
              go_wp2_with fail
              refine (KW.out _).mono ?_
              rintro e w3 ⟨rfl, n3⟩
              go_wp2_with fail
              go_ret
              exact ⟨rfl, (HN2.out.trans hnj.out).trans n3⟩
        · have hqd : (q != 0) = true := by simpa using hq
          clear hq
          go_wp2_with fail
          refine (KW.out _).mono ?_
          rintro e w3 ⟨rfl, n3⟩
          go_wp2_with fail
          go_ret
          exact ⟨rfl, hn2.trans n3⟩

end Go.Proofs.Ytajigioibkhhmaa
