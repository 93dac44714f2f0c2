/- The document's Walk, Height. -/
import Derived.Test.YtmpkciidhopckaaTriQ
import Derived.Test.YtmpkciidhopckaaTriG
import Derived.Test.YtmpkciidhopckaaTriP
import Derived.Test.YtmpkciidhopckaaWholeJ
namespace Go.Proofs.Ytmpkciidhopckaa
open Go.RowKit
set_option linter.unusedVariables false

set_option maxHeartbeats 2000000 in
set_option maxRecDepth 100000 in
theorem r_walk (cl cb ht ri ru wd dp i x0 y0 z0 x1 y1 z1 x2 y2 z2 : Int) (w : World) :
    Calls Try.prog 30 #[.agg #[.int .i64 cl, .int .i64 cb, .int .i64 ht, .int .i64 ri, .int .i64 ru, .int .i64 wd, .int .i64 dp], .agg #[.int .i64 i, .int .i64 x0, .int .i64 y0, .int .i64 z0, .int .i64 x1, .int .i64 y1, .int .i64 z1, .int .i64 x2, .int .i64 y2, .int .i64 z2]] w fun e w' => e = .returned (.tuple #[.bool (walkB cl cb ht ri ru wd dp x0 y0 z0 x1 y1 z1 x2 y2 z2), .int .i64 (walkE cl cb ht ri ru wd dp x0 y0 z0 x1 y1 z1 x2 y2 z2)]) ∧ New w w' := by
  obtain ⟨v, hv⟩ : ∃ v, v = walkE cl cb ht ri ru wd dp x0 y0 z0 x1 y1 z1 x2 y2 z2 := ⟨_, rfl⟩
  obtain ⟨b, hb⟩ : ∃ b, b = walkB cl cb ht ri ru wd dp x0 y0 z0 x1 y1 z1 x2 y2 z2 := ⟨_, rfl⟩
  rw [← hv, ← hb]
  unfold walkE at hv
  unfold walkB at hb
  have hcc := fun W => rcheck_any cl cb ht ri ru wd dp W
  have htwo := checkE_two cl cb ht ri ru wd dp
  have hok := checkE_ok (cl := cl) (cb := cb) (ht := ht) (ri := ri) (ru := ru) (wd := wd) (dp := dp)
  generalize checkE cl cb ht ri ru wd dp = ce at *
  rcases htwo with rfl | rfl
  rotate_left
  · have hv1 : Hid (v = 20 ∧ b = false) := by show v = 20 ∧ b = false; rw [hv, hb]; simp
    clear hv hb hok
    go_enter Try.func30, Try.ntmps30
    go_wp2_with fail
    refine (hcc _).mono ?_
    rintro e W0 ⟨rfl, n1, -⟩
    have hn : New w W0 := New.trans (by (repeat (first | (with_reducible exact New.refl _) | (with_reducible assumption) | ((with_reducible refine New.setB ?_ ?_ _); focus (first | omega | (simp; omega) | (simp; done))) | (with_reducible refine New.alloc ?_ _) | (with_reducible refine New.drew ?_) | (with_reducible refine New.drewN ?_ _) | (with_reducible refine New.hat ?_ _) | ((with_reducible apply New.snart); (with_reducible assumption))))) n1
    clear n1 hcc
    go_wp2_with fail
    refine bodyPost_ret (v := .tuple #[.bool false, .int .i64 20]) (by simp [results, Try.results30, go_sem]) rfl ?_
    rw [hv1.out.1, hv1.out.2]
    exact ⟨rfl, hn⟩
  have hno := fun W => r_normal i x0 y0 z0 x1 y1 z1 x2 y2 z2 W
  obtain ⟨hri, hru, -, -⟩ := hok rfl
  clear hok
  cases hk : okB x0 y0 z0 x1 y1 z1 x2 y2 z2
  · obtain ⟨h1, h2, h3, h4⟩ := norm_no hk
    rw [h1, h2, h3, h4] at hno
    have hv1 : Hid (v = 40 ∧ b = false) := by show v = 40 ∧ b = false; rw [hv, hb, h4, hk]; simp
    clear hv hb hri hru h1 h2 h3 h4 hk
    go_enter Try.func30, Try.ntmps30
    go_wp2_with fail
    generalize hW : World.alloc _ _ = W
    (have c0 : (W).cell? ⟨w.heap.size + 1, 0, none⟩ = some (.int .i64 i) := (by subst hW; go_simp)); (have c1 : (W).cell? ⟨w.heap.size + 1, 1, none⟩ = some (.int .i64 x0) := (by subst hW; go_simp)); (have c2 : (W).cell? ⟨w.heap.size + 1, 2, none⟩ = some (.int .i64 y0) := (by subst hW; go_simp)); (have c3 : (W).cell? ⟨w.heap.size + 1, 3, none⟩ = some (.int .i64 z0) := (by subst hW; go_simp)); (have c4 : (W).cell? ⟨w.heap.size + 1, 4, none⟩ = some (.int .i64 x1) := (by subst hW; go_simp)); (have c5 : (W).cell? ⟨w.heap.size + 1, 5, none⟩ = some (.int .i64 y1) := (by subst hW; go_simp)); (have c6 : (W).cell? ⟨w.heap.size + 1, 6, none⟩ = some (.int .i64 z1) := (by subst hW; go_simp)); (have c7 : (W).cell? ⟨w.heap.size + 1, 7, none⟩ = some (.int .i64 x2) := (by subst hW; go_simp)); (have c8 : (W).cell? ⟨w.heap.size + 1, 8, none⟩ = some (.int .i64 y2) := (by subst hW; go_simp)); (have c9 : (W).cell? ⟨w.heap.size + 1, 9, none⟩ = some (.int .i64 z2) := (by subst hW; go_simp))
    have hn : New w W := by subst hW; (repeat (first | (with_reducible exact New.refl _) | (with_reducible assumption) | ((with_reducible refine New.setB ?_ ?_ _); focus (first | omega | (simp; omega) | (simp; done))) | (with_reducible refine New.alloc ?_ _) | (with_reducible refine New.drew ?_) | (with_reducible refine New.drewN ?_ _) | (with_reducible refine New.hat ?_ _) | ((with_reducible apply New.snart); (with_reducible assumption))))
    clear hW
    refine (hcc _).mono ?_
    rintro e W0 ⟨rfl, n1, -⟩
    ((replace c0 := New.keep n1 c0); (replace c1 := New.keep n1 c1); (replace c2 := New.keep n1 c2); (replace c3 := New.keep n1 c3); (replace c4 := New.keep n1 c4); (replace c5 := New.keep n1 c5); (replace c6 := New.keep n1 c6); (replace c7 := New.keep n1 c7); (replace c8 := New.keep n1 c8); (replace c9 := New.keep n1 c9))
    replace hn : New w W0 := New.trans hn n1
    clear n1 hcc
    go_wp2_with fail
    refine (hno _).mono ?_
    rintro e W1 ⟨rfl, n1⟩
    replace hn : New w W1 := New.trans hn n1
    clear n1 hno
    go_wp2_with fail
    refine bodyPost_ret (v := .tuple #[.bool false, .int .i64 40]) (by simp [results, Try.results30, go_sem]) rfl ?_
    rw [hv1.out.1, hv1.out.2]
    exact ⟨rfl, hn⟩
  · obtain ⟨h1, h2, h3, h4⟩ := norm_yes hk
    obtain ⟨bx, by', bz⟩ := nI_bd (ok_st hk).1
    rw [h1, h2, h3, h4] at hno
    rw [hk, Bool.and_true] at hb
    rw [h4] at hv
    clear h1 h2 h3 h4 hk
    generalize nxI x0 y0 z0 x1 y1 z1 x2 y2 z2 = nx at *
    generalize nyI x0 y0 z0 x1 y1 z1 x2 y2 z2 = ny at *
    generalize nzI x0 y0 z0 x1 y1 z1 x2 y2 z2 = nz at *
    have hv1 : Hid (v = 0 ∧ b = decide ((nx * nx + nz * nz) * ru * ru ≤ ny * ny * ri * ri)) := by
      show v = 0 ∧ b = _
      rw [hv, hb]; simp [slopeB]
    have s1 := sq_in bx
    have s2 := sq_in by'
    have s3 := sq_in bz
    have s4 := pos_mul (a := nx * nx + nz * nz) (b := ru) (A := 137438953472) (B := 100) (by omega) (by omega)
    have s5 := pos_mul (a := (nx * nx + nz * nz) * ru) (b := ru) (A := 13743895347200) (B := 100) (by omega) (by omega)
    have s6 := pos_mul (a := ny * ny) (b := ri) (A := 4194304) (B := 100) (by omega) (by omega)
    have s7 := pos_mul (a := ny * ny * ri) (b := ri) (A := 419430400) (B := 100) (by omega) (by omega)
    clear hv hb hri hru bx by' bz
    go_enter Try.func30, Try.ntmps30
    go_wp2_with fail
    generalize hW : World.alloc _ _ = W
    (have c0 : (W).cell? ⟨w.heap.size + 1, 0, none⟩ = some (.int .i64 i) := (by subst hW; go_simp)); (have c1 : (W).cell? ⟨w.heap.size + 1, 1, none⟩ = some (.int .i64 x0) := (by subst hW; go_simp)); (have c2 : (W).cell? ⟨w.heap.size + 1, 2, none⟩ = some (.int .i64 y0) := (by subst hW; go_simp)); (have c3 : (W).cell? ⟨w.heap.size + 1, 3, none⟩ = some (.int .i64 z0) := (by subst hW; go_simp)); (have c4 : (W).cell? ⟨w.heap.size + 1, 4, none⟩ = some (.int .i64 x1) := (by subst hW; go_simp)); (have c5 : (W).cell? ⟨w.heap.size + 1, 5, none⟩ = some (.int .i64 y1) := (by subst hW; go_simp)); (have c6 : (W).cell? ⟨w.heap.size + 1, 6, none⟩ = some (.int .i64 z1) := (by subst hW; go_simp)); (have c7 : (W).cell? ⟨w.heap.size + 1, 7, none⟩ = some (.int .i64 x2) := (by subst hW; go_simp)); (have c8 : (W).cell? ⟨w.heap.size + 1, 8, none⟩ = some (.int .i64 y2) := (by subst hW; go_simp)); (have c9 : (W).cell? ⟨w.heap.size + 1, 9, none⟩ = some (.int .i64 z2) := (by subst hW; go_simp))
    have b3 : W.cell? ⟨w.heap.size, 3, none⟩ = some (.int .i64 ri) := by subst hW; go_simp
    have b4 : W.cell? ⟨w.heap.size, 4, none⟩ = some (.int .i64 ru) := by subst hW; go_simp
    have hn : New w W := by subst hW; (repeat (first | (with_reducible exact New.refl _) | (with_reducible assumption) | ((with_reducible refine New.setB ?_ ?_ _); focus (first | omega | (simp; omega) | (simp; done))) | (with_reducible refine New.alloc ?_ _) | (with_reducible refine New.drew ?_) | (with_reducible refine New.drewN ?_ _) | (with_reducible refine New.hat ?_ _) | ((with_reducible apply New.snart); (with_reducible assumption))))
    clear hW
    refine (hcc _).mono ?_
    rintro e W0 ⟨rfl, n1, -⟩
    ((replace c0 := New.keep n1 c0); (replace c1 := New.keep n1 c1); (replace c2 := New.keep n1 c2); (replace c3 := New.keep n1 c3); (replace c4 := New.keep n1 c4); (replace c5 := New.keep n1 c5); (replace c6 := New.keep n1 c6); (replace c7 := New.keep n1 c7); (replace c8 := New.keep n1 c8); (replace c9 := New.keep n1 c9))
    replace b3 := New.keep n1 b3
    replace b4 := New.keep n1 b4
    replace hn : New w W0 := New.trans hn n1
    clear n1 hcc
    go_wp2_with fail
    refine (hno _).mono ?_
    rintro e W1 ⟨rfl, n1⟩
    replace b3 := New.keep n1 b3
    replace b4 := New.keep n1 b4
    replace hn : New w W1 := New.trans hn n1
    clear n1 hno c0 c1 c2 c3 c4 c5 c6 c7 c8 c9
    go_wp2_with fail
    refine bodyPost_ret (v := .tuple #[.bool (decide ((nx * nx + nz * nz) * ru * ru ≤ ny * ny * ri * ri)), .int .i64 0]) (by simp [results, Try.results30, go_sem]) rfl ?_
    rw [hv1.out.1, hv1.out.2]
    exact ⟨rfl, hn⟩

theorem low_r {n d : Int} (hd : d ≠ 0) : (if d < 0 then -n else n).tdiv (Nat.gcd d.natAbs n.natAbs : Nat) = lowN n d ∧ (d.natAbs : Int).tdiv (Nat.gcd d.natAbs n.natAbs : Nat) = lowD n d ∧ 0 < Nat.gcd d.natAbs n.natAbs := by
  obtain ⟨q0, h1, h2⟩ := low_div (n := n) hd rfl
  have hg : 0 < Int.gcd d n := Int.gcd_pos_of_ne_zero_left n hd
  have hge : Nat.gcd d.natAbs n.natAbs = Int.gcd d n := rfl
  rw [hge]
  refine ⟨?_, ?_, hg⟩
  · rw [← h1]
    rcases Int.lt_trichotomy d 0 with h | h | h
    · rw [if_pos h, Int.sign_eq_neg_one_of_neg h, show (-1 : Int) * (Int.gcd d n : Int) = -(Int.gcd d n : Int) by omega, Int.tdiv_neg, Int.neg_tdiv]
    · exact absurd h hd
    · rw [if_neg (by omega), Int.sign_eq_one_of_pos h, Int.one_mul]
  · rw [← h2]
    rcases Int.lt_trichotomy d 0 with h | h | h
    · rw [Int.sign_eq_neg_one_of_neg h, show (-1 : Int) * (Int.gcd d n : Int) = -(Int.gcd d n : Int) by omega, Int.tdiv_neg, show (d.natAbs : Int) = -d by omega, Int.neg_tdiv]
    · exact absurd h hd
    · rw [Int.sign_eq_one_of_pos h, Int.one_mul, show (d.natAbs : Int) = d by omega]

set_option maxHeartbeats 2000000 in
set_option maxRecDepth 100000 in
theorem r_height (i x0 y0 z0 x1 y1 z1 x2 y2 z2 x z : Int) (w : World) :
    Calls Try.prog 32 #[.agg #[.int .i64 i, .int .i64 x0, .int .i64 y0, .int .i64 z0, .int .i64 x1, .int .i64 y1, .int .i64 z1, .int .i64 x2, .int .i64 y2, .int .i64 z2], .int .i64 x, .int .i64 z] w fun e w' => e = .returned (.tuple #[.int .i64 (heightN x z x0 y0 z0 x1 y1 z1 x2 y2 z2), .int .i64 (heightD x z x0 y0 z0 x1 y1 z1 x2 y2 z2), .int .i64 (heightE x z x0 y0 z0 x1 y1 z1 x2 y2 z2)]) ∧ New w w' := by
  have hno := fun W => r_normal i x0 y0 z0 x1 y1 z1 x2 y2 z2 W
  cases hk : okB x0 y0 z0 x1 y1 z1 x2 y2 z2
  · obtain ⟨h1, h2, h3, h4⟩ := norm_no hk
    rw [h1, h2, h3, h4] at hno
    obtain ⟨g1, g2, g3⟩ := height_no (x := x) (z := z) (by unfold hOkB; rw [hk]; rfl : hOkB x z x0 y0 z0 x1 y1 z1 x2 y2 z2 = false)
    rw [g1, g2, g3]
    clear h1 h2 h3 h4 g1 g2 g3 hk
    go_enter Try.func32, Try.ntmps32
    go_wp2_with fail
    refine (hno _).mono ?_
    rintro e W0 ⟨rfl, n1⟩
    have hn : New w W0 := New.trans (by (repeat (first | (with_reducible exact New.refl _) | (with_reducible assumption) | ((with_reducible refine New.setB ?_ ?_ _); focus (first | omega | (simp; omega) | (simp; done))) | (with_reducible refine New.alloc ?_ _) | (with_reducible refine New.drew ?_) | (with_reducible refine New.drewN ?_ _) | (with_reducible refine New.hat ?_ _) | ((with_reducible apply New.snart); (with_reducible assumption))))) n1
    clear n1 hno
    go_wp2_with fail
    go_ret3
    exact ⟨rfl, hn⟩
  · obtain ⟨h1, h2, h3, h4⟩ := norm_yes hk
    rw [h1, h2, h3, h4] at hno
    clear h1 h2 h3 h4
    by_cases hxz : ((-64 ≤ x ∧ x ≤ 64) ∧ (-64 ≤ z ∧ z ≤ 64))
    rotate_left
    · obtain ⟨g1, g2, g3⟩ := height_no (x := x) (z := z) (by unfold hOkB; rw [hk, Bool.true_and]; simp only [Bool.and_eq_false_iff, decide_eq_false_iff_not]; omega : hOkB x z x0 y0 z0 x1 y1 z1 x2 y2 z2 = false)
      rw [g1, g2, g3]
      have hbad : Hid _ := hxz
      clear g1 g2 g3 hk hxz
      go_enter Try.func32, Try.ntmps32
      go_wp2_with fail
      refine (hno _).mono ?_
      rintro e W0 ⟨rfl, n1⟩
      have hn : New w W0 := New.trans (by (repeat (first | (with_reducible exact New.refl _) | (with_reducible assumption) | ((with_reducible refine New.setB ?_ ?_ _); focus (first | omega | (simp; omega) | (simp; done))) | (with_reducible refine New.alloc ?_ _) | (with_reducible refine New.drew ?_) | (with_reducible refine New.drewN ?_ _) | (with_reducible refine New.hat ?_ _) | ((with_reducible apply New.snart); (with_reducible assumption))))) n1
      clear n1 hno
      by_cases k1 : x < -64
      · go_wp2_with fail
        go_ret3
        exact ⟨rfl, hn⟩
      by_cases k2 : 64 < x
      · go_wp2_with fail
        go_ret3
        exact ⟨rfl, hn⟩
      by_cases k3 : z < -64
      · go_wp2_with fail
        go_ret3
        exact ⟨rfl, hn⟩
      by_cases k4 : 64 < z
      · go_wp2_with fail
        go_ret3
        exact ⟨rfl, hn⟩
      exact absurd ⟨⟨by omega, by omega⟩, ⟨by omega, by omega⟩⟩ hbad.out
    · have hx' : decide (-64 ≤ x ∧ x ≤ 64) = true := by simpa using hxz.1
      have hz' : decide (-64 ≤ z ∧ z ≤ 64) = true := by simpa using hxz.2
      obtain ⟨g1, g2, g3⟩ := height_yes (x := x) (z := z) (by unfold hOkB; rw [hk, hx', hz']; rfl : hOkB x z x0 y0 z0 x1 y1 z1 x2 y2 z2 = true)
      rw [g1, g2, g3]
      obtain ⟨hst, hny⟩ := ok_st hk
      obtain ⟨bx, by', bz⟩ := nI_bd hst
      unfold StP StV at hst
      clear g1 g2 g3 hk hx' hz'
      generalize nxI x0 y0 z0 x1 y1 z1 x2 y2 z2 = nx at *
      generalize nyI x0 y0 z0 x1 y1 z1 x2 y2 z2 = ny at *
      generalize nzI x0 y0 z0 x1 y1 z1 x2 y2 z2 = nz at *
      obtain ⟨⟨⟨X0, X0'⟩, ⟨Z0, Z0'⟩, ⟨Y0, Y0'⟩⟩, -, -⟩ := hst
      obtain ⟨⟨bx1, bx2⟩, ⟨bz1, bz2⟩⟩ := hxz
      have p1 := mul_bd (a := y0) (b := ny) (A := 2048) (B := 2048) (by omega) (by omega)
      have p2 := mul_bd (a := nx) (b := x - x0) (A := 262144) (B := 96) (by omega) (by omega)
      have p3 := mul_bd (a := nz) (b := z - z0) (A := 262144) (B := 96) (by omega) (by omega)
      obtain ⟨l1, l2, l3⟩ := low_r (n := hTop x z x0 y0 z0 nx ny nz) hny
      obtain ⟨s0, -, s1, s2⟩ := low_spec (n := hTop x z x0 y0 z0 nx ny nz) hny
      generalize lowN (hTop x z x0 y0 z0 nx ny nz) ny = A at *
      generalize lowD (hTop x z x0 y0 z0 nx ny nz) ny = B at *
      have et : hTop x z x0 y0 z0 nx ny nz = y0 * ny - (nx * (x - x0) + nz * (z - z0)) := by unfold hTop; omega
      rw [et] at l1 l2 l3 s2
      obtain ⟨T, hT⟩ : ∃ T, T = y0 * ny - (nx * (x - x0) + nz * (z - z0)) := ⟨_, rfl⟩
      have bT : -54525952 ≤ T ∧ T ≤ 54525952 := by omega
      rw [← hT] at l1 l2 l3 s2
      have hgr := fun W => r_greatest T.natAbs ny.natAbs W (by omega) (by omega)
      have hab := fun W => r_abs T W (by omega)
      have hab' := fun W => r_abs (-T) W (by omega)
      rw [Int.natAbs_neg] at hab'
      have hgb : Nat.gcd ny.natAbs T.natAbs ≤ 2048 := Nat.le_trans (Nat.gcd_le_left _ (by omega)) (by omega)
      generalize Nat.gcd ny.natAbs T.natAbs = G at *
      have hG0 : ((G : Int) == 0) = false := by rw [beq_eq_false_iff_ne]; omega
      rcases (by omega : ny < 0 ∨ 0 < ny) with hneg | hpos
      · rw [if_pos hneg] at l1
        rw [show (ny.natAbs : Int) = -ny by omega] at l2 hgr
        have s3 : -54525952 ≤ A ∧ A ≤ 54525952 := by omega
        have s4 : B ≤ 2048 ∧ 0 < B := by omega
        have hT' := hT.symm
        clear hT et s1 s2 hny
        replace hgr := Lib.hid hgr
        replace hab := Lib.hid hab
        replace hab' := Lib.hid hab'
        go_enter Try.func32, Try.ntmps32
        go_wp2_with fail
        refine (hno _).mono ?_
        rintro e W0 ⟨rfl, n1⟩
        (have c0 : (W0).cell? ⟨w.heap.size, 0, none⟩ = some (.int .i64 i) := (n1.keep (by go_simp))); (have c1 : (W0).cell? ⟨w.heap.size, 1, none⟩ = some (.int .i64 x0) := (n1.keep (by go_simp))); (have c2 : (W0).cell? ⟨w.heap.size, 2, none⟩ = some (.int .i64 y0) := (n1.keep (by go_simp))); (have c3 : (W0).cell? ⟨w.heap.size, 3, none⟩ = some (.int .i64 z0) := (n1.keep (by go_simp))); (have c4 : (W0).cell? ⟨w.heap.size, 4, none⟩ = some (.int .i64 x1) := (n1.keep (by go_simp))); (have c5 : (W0).cell? ⟨w.heap.size, 5, none⟩ = some (.int .i64 y1) := (n1.keep (by go_simp))); (have c6 : (W0).cell? ⟨w.heap.size, 6, none⟩ = some (.int .i64 z1) := (n1.keep (by go_simp))); (have c7 : (W0).cell? ⟨w.heap.size, 7, none⟩ = some (.int .i64 x2) := (n1.keep (by go_simp))); (have c8 : (W0).cell? ⟨w.heap.size, 8, none⟩ = some (.int .i64 y2) := (n1.keep (by go_simp))); (have c9 : (W0).cell? ⟨w.heap.size, 9, none⟩ = some (.int .i64 z2) := (n1.keep (by go_simp)))
        have hn : New w W0 := New.trans (by (repeat (first | (with_reducible exact New.refl _) | (with_reducible assumption) | ((with_reducible refine New.setB ?_ ?_ _); focus (first | omega | (simp; omega) | (simp; done))) | (with_reducible refine New.alloc ?_ _) | (with_reducible refine New.drew ?_) | (with_reducible refine New.drewN ?_ _) | (with_reducible refine New.hat ?_ _) | ((with_reducible apply New.snart); (with_reducible assumption))))) n1
        have zz := hn.size
        clear n1 hno c4 c5 c6 c7 c8 c9 c0
        go_wp2_with fail
        refine (hab'.out _).mono ?_
        rintro e w' ⟨rfl, rfl⟩
        go_wp2_with fail
        refine (hgr.out _).mono ?_
        rintro e W2 ⟨rfl, n1⟩
        replace hn : New w W2 := New.trans (by (repeat (first | (with_reducible exact New.refl _) | (with_reducible assumption) | ((with_reducible refine New.setB ?_ ?_ _); focus (first | omega | (simp; omega) | (simp; done))) | (with_reducible refine New.alloc ?_ _) | (with_reducible refine New.drew ?_) | (with_reducible refine New.drewN ?_ _) | (with_reducible refine New.hat ?_ _) | ((with_reducible apply New.snart); (with_reducible assumption))))) n1
        clear n1
        go_wp2_with fail
        go_quiet (fail)
        go_wp2_with fail
        go_ret3
        exact ⟨rfl, by (repeat (first | (with_reducible exact New.refl _) | (with_reducible assumption) | ((with_reducible refine New.setB ?_ ?_ _); focus (first | omega | (simp; omega) | (simp; done))) | (with_reducible refine New.alloc ?_ _) | (with_reducible refine New.drew ?_) | (with_reducible refine New.drewN ?_ _) | (with_reducible refine New.hat ?_ _) | ((with_reducible apply New.snart); (with_reducible assumption))))⟩
      · rw [if_neg (by omega)] at l1
        rw [show (ny.natAbs : Int) = ny by omega] at l2 hgr
        have s3 : -54525952 ≤ A ∧ A ≤ 54525952 := by omega
        have s4 : B ≤ 2048 ∧ 0 < B := by omega
        have hT' := hT.symm
        clear hT et s1 s2 hny
        replace hgr := Lib.hid hgr
        replace hab := Lib.hid hab
        replace hab' := Lib.hid hab'
        go_enter Try.func32, Try.ntmps32
        go_wp2_with fail
        refine (hno _).mono ?_
        rintro e W0 ⟨rfl, n1⟩
        (have c0 : (W0).cell? ⟨w.heap.size, 0, none⟩ = some (.int .i64 i) := (n1.keep (by go_simp))); (have c1 : (W0).cell? ⟨w.heap.size, 1, none⟩ = some (.int .i64 x0) := (n1.keep (by go_simp))); (have c2 : (W0).cell? ⟨w.heap.size, 2, none⟩ = some (.int .i64 y0) := (n1.keep (by go_simp))); (have c3 : (W0).cell? ⟨w.heap.size, 3, none⟩ = some (.int .i64 z0) := (n1.keep (by go_simp))); (have c4 : (W0).cell? ⟨w.heap.size, 4, none⟩ = some (.int .i64 x1) := (n1.keep (by go_simp))); (have c5 : (W0).cell? ⟨w.heap.size, 5, none⟩ = some (.int .i64 y1) := (n1.keep (by go_simp))); (have c6 : (W0).cell? ⟨w.heap.size, 6, none⟩ = some (.int .i64 z1) := (n1.keep (by go_simp))); (have c7 : (W0).cell? ⟨w.heap.size, 7, none⟩ = some (.int .i64 x2) := (n1.keep (by go_simp))); (have c8 : (W0).cell? ⟨w.heap.size, 8, none⟩ = some (.int .i64 y2) := (n1.keep (by go_simp))); (have c9 : (W0).cell? ⟨w.heap.size, 9, none⟩ = some (.int .i64 z2) := (n1.keep (by go_simp)))
        have hn : New w W0 := New.trans (by (repeat (first | (with_reducible exact New.refl _) | (with_reducible assumption) | ((with_reducible refine New.setB ?_ ?_ _); focus (first | omega | (simp; omega) | (simp; done))) | (with_reducible refine New.alloc ?_ _) | (with_reducible refine New.drew ?_) | (with_reducible refine New.drewN ?_ _) | (with_reducible refine New.hat ?_ _) | ((with_reducible apply New.snart); (with_reducible assumption))))) n1
        have zz := hn.size
        clear n1 hno c4 c5 c6 c7 c8 c9 c0
        go_wp2_with fail
        refine (hab.out _).mono ?_
        rintro e w' ⟨rfl, rfl⟩
        go_wp2_with fail
        refine (hgr.out _).mono ?_
        rintro e W2 ⟨rfl, n1⟩
        replace hn : New w W2 := New.trans (by (repeat (first | (with_reducible exact New.refl _) | (with_reducible assumption) | ((with_reducible refine New.setB ?_ ?_ _); focus (first | omega | (simp; omega) | (simp; done))) | (with_reducible refine New.alloc ?_ _) | (with_reducible refine New.drew ?_) | (with_reducible refine New.drewN ?_ _) | (with_reducible refine New.hat ?_ _) | ((with_reducible apply New.snart); (with_reducible assumption))))) n1
        clear n1
        go_wp2_with fail
        go_quiet (fail)
        go_wp2_with fail
        go_ret3
        exact ⟨rfl, by (repeat (first | (with_reducible exact New.refl _) | (with_reducible assumption) | ((with_reducible refine New.setB ?_ ?_ _); focus (first | omega | (simp; omega) | (simp; done))) | (with_reducible refine New.alloc ?_ _) | (with_reducible refine New.drew ?_) | (with_reducible refine New.drewN ?_ _) | (with_reducible refine New.hat ?_ _) | ((with_reducible apply New.snart); (with_reducible assumption))))⟩

end Go.Proofs.Ytmpkciidhopckaa
