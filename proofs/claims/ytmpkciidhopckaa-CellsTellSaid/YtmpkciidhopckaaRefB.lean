/- The document's within, walked. -/
import Derived.Test.YtmpkciidhopckaaRefA
import Derived.Test.YtmpkciidhopckaaRefM
import Derived.Test.YtmpkciidhopckaaSteady
import Derived.Deep.DeepCutAuto
import Derived.Deep.CutBlock
import Derived.Deep.RegionWith
namespace Go.Proofs.Ytmpkciidhopckaa
open Go.RowKit
set_option linter.unusedVariables false

theorem low_bd {n d : Int} (hd : d ≠ 0) (bn : -100 ≤ n ∧ n ≤ 100) (bd : -100 ≤ d ∧ d ≤ 100) : (-100 ≤ lowN n d ∧ lowN n d ≤ 100) ∧ (1 ≤ lowD n d ∧ lowD n d ≤ 100) := by
  obtain ⟨s0, -, s1, s2⟩ := low_spec (n := n) hd
  omega

set_option maxHeartbeats 2000000 in
set_option maxRecDepth 100000 in
theorem q_within0 (fn fd ln ld a d lo hi : Int) (w : World) (hd : d = 0) :
    Calls Try.prog 66 #[.agg #[.int .i64 fn, .int .i64 fd], .agg #[.int .i64 ln, .int .i64 ld], .int .i64 a, .int .i64 d, .int .i64 lo, .int .i64 hi] w fun e w' => e = .returned (.tuple #[.agg #[.int .i64 (cutI fn fd ln ld a d lo hi).fn, .int .i64 (cutI fn fd ln ld a d lo hi).fd], .agg #[.int .i64 (cutI fn fd ln ld a d lo hi).ln, .int .i64 (cutI fn fd ln ld a d lo hi).ld], .bool (cutI fn fd ln ld a d lo hi).ok]) ∧ New w w' := by
  subst hd
  have e : cutI fn fd ln ld a 0 lo hi = ⟨fn, fd, ln, ld, decide (lo ≤ a) && decide (a ≤ hi)⟩ := by unfold cutI; rw [if_pos rfl]
  rw [e]
  simp only []
  by_cases h1 : lo ≤ a
  · have g1 : decide (lo ≤ a) = true := decide_eq_true h1
    rw [g1, Bool.true_and]
    go_enter Try.func66, Try.ntmps66
    go_wp2_with fail
    go_region
    all_goals
      go_wp2_with fail
      refine bodyPost_ret (v := .tuple #[.agg #[.int .i64 fn, .int .i64 fd], .agg #[.int .i64 ln, .int .i64 ld], .bool (decide (a ≤ hi))]) (by simp [results, Try.results66, go_sem, *]) rfl ?_
      exact ⟨rfl, by (repeat (first | (with_reducible exact New.refl _) | (with_reducible assumption) | ((with_reducible refine New.setB ?_ ?_ _); focus (first | omega | (simp; omega) | (simp; done))) | (with_reducible refine New.alloc ?_ _) | (with_reducible refine New.drew ?_) | (with_reducible refine New.drewN ?_ _) | (with_reducible refine New.hat ?_ _) | ((with_reducible apply New.snart); (with_reducible assumption))))⟩
  · have g1 : decide (lo ≤ a) = false := decide_eq_false h1
    rw [g1, Bool.false_and]
    go_enter Try.func66, Try.ntmps66
    go_wp2_with fail
    go_region
    all_goals
      go_wp2_with fail
      refine bodyPost_ret (v := .tuple #[.agg #[.int .i64 fn, .int .i64 fd], .agg #[.int .i64 ln, .int .i64 ld], .bool false]) (by simp [results, Try.results66, go_sem, *]) rfl ?_
      exact ⟨rfl, by (repeat (first | (with_reducible exact New.refl _) | (with_reducible assumption) | ((with_reducible refine New.setB ?_ ?_ _); focus (first | omega | (simp; omega) | (simp; done))) | (with_reducible refine New.alloc ?_ _) | (with_reducible refine New.drew ?_) | (with_reducible refine New.drewN ?_ _) | (with_reducible refine New.hat ?_ _) | ((with_reducible apply New.snart); (with_reducible assumption))))⟩

set_option maxHeartbeats 4000000 in
set_option maxRecDepth 100000 in
theorem q_within1 (fn fd ln ld a d lo hi : Int) (w : World) (hd : ¬ d = 0) (u1 : -100 ≤ fn ∧ fn ≤ 100) (u2 : 1 ≤ fd ∧ fd ≤ 100) (u3 : -100 ≤ ln ∧ ln ≤ 100) (u4 : 1 ≤ ld ∧ ld ≤ 100) (u5 : 0 ≤ a ∧ a ≤ 64) (u6 : -64 ≤ d ∧ d ≤ 64) (u7 : -2 ≤ lo ∧ lo ≤ 66) (u8 : -2 ≤ hi ∧ hi ≤ 68) :
    Calls Try.prog 66 #[.agg #[.int .i64 fn, .int .i64 fd], .agg #[.int .i64 ln, .int .i64 ld], .int .i64 a, .int .i64 d, .int .i64 lo, .int .i64 hi] w fun e w' => e = .returned (.tuple #[.agg #[.int .i64 (cutI fn fd ln ld a d lo hi).fn, .int .i64 (cutI fn fd ln ld a d lo hi).fd], .agg #[.int .i64 (cutI fn fd ln ld a d lo hi).ln, .int .i64 (cutI fn fd ln ld a d lo hi).ld], .bool (cutI fn fd ln ld a d lo hi).ok]) ∧ New w w' := by
  have RX := fun W => q_ratio (lo - a) d W hd (by omega) (by omega)
  have RY := fun W => q_ratio (hi - a) d W hd (by omega) (by omega)
  obtain ⟨c1, c2⟩ := low_bd (n := lo - a) hd (by omega) (by omega)
  obtain ⟨c3, c4⟩ := low_bd (n := hi - a) hd (by omega) (by omega)
  obtain ⟨C, hC⟩ : ∃ C, C = cutI fn fd ln ld a d lo hi := ⟨_, rfl⟩
  rw [← hC]
  unfold cutI at hC
  rw [if_neg hd] at hC
  generalize lowN (lo - a) d = xn at *
  generalize lowD (lo - a) d = xd at *
  generalize lowN (hi - a) d = yn at *
  generalize lowD (hi - a) d = yd at *
  have T1 := fun W => q_less yn yd xn xd W (by omega) (by omega) (by omega) (by omega)
  obtain ⟨pn, pd, qn, qd, s, hs, hp1, hp2, hp3, hp4, hs1, hs2, hcc⟩ : ∃ pn pd qn qd s, ltR yn yd xn xd = s ∧ (-100 ≤ pn ∧ pn ≤ 100) ∧ (1 ≤ pd ∧ pd ≤ 100) ∧ (-100 ≤ qn ∧ qn ≤ 100) ∧ (1 ≤ qd ∧ qd ≤ 100) ∧ (s = true → pn = yn ∧ pd = yd ∧ qn = xn ∧ qd = xd) ∧ (s = false → pn = xn ∧ pd = xd ∧ qn = yn ∧ qd = yd) ∧ C = cutP fn fd ln ld pn pd qn qd := by
    cases h : ltR yn yd xn xd
    · exact ⟨xn, xd, yn, yd, false, rfl, c1, c2, c3, c4, by simp, by simp, by rw [hC, h]; rfl⟩
    · exact ⟨yn, yd, xn, xd, true, rfl, c3, c4, c1, c2, by simp, by simp, by rw [hC, h]; rfl⟩
  rw [hs] at T1
  have T2 := fun W => q_less fn fd pn pd W (by omega) (by omega) (by omega) (by omega)
  have T3 := fun W => q_less qn qd ln ld W (by omega) (by omega) (by omega) (by omega)
  obtain ⟨F, FD, f, hf, hF1, hF2, hf1, hf2, hcf1, hcf2⟩ : ∃ F FD f, ltR fn fd pn pd = f ∧ (-100 ≤ F ∧ F ≤ 100) ∧ (1 ≤ FD ∧ FD ≤ 100) ∧ (f = true → F = pn ∧ FD = pd) ∧ (f = false → F = fn ∧ FD = fd) ∧ F = (if ltR fn fd pn pd then pn else fn) ∧ FD = (if ltR fn fd pn pd then pd else fd) := by
    cases h : ltR fn fd pn pd
    · exact ⟨fn, fd, false, rfl, u1, u2, by simp, by simp, by simp, by simp⟩
    · exact ⟨pn, pd, true, rfl, hp1, hp2, by simp, by simp, by simp, by simp⟩
  obtain ⟨L, LD, l, hl, hL1, hL2, hl1, hl2, hcl1, hcl2⟩ : ∃ L LD l, ltR qn qd ln ld = l ∧ (-100 ≤ L ∧ L ≤ 100) ∧ (1 ≤ LD ∧ LD ≤ 100) ∧ (l = true → L = qn ∧ LD = qd) ∧ (l = false → L = ln ∧ LD = ld) ∧ L = (if ltR qn qd ln ld then qn else ln) ∧ LD = (if ltR qn qd ln ld then qd else ld) := by
    cases h : ltR qn qd ln ld
    · exact ⟨ln, ld, false, rfl, u3, u4, by simp, by simp, by simp, by simp⟩
    · exact ⟨qn, qd, true, rfl, hp3, hp4, by simp, by simp, by simp, by simp⟩
  have T4 := fun W => q_less L LD F FD W (by omega) (by omega) (by omega) (by omega)
  have he : C = ⟨F, FD, L, LD, !ltR L LD F FD⟩ := by rw [hcc, hcf1, hcf2, hcl1, hcl2]; rfl
  rw [hf] at T2
  rw [hl] at T3
  generalize ltR L LD F FD = z at *
  have HE : Hid _ := he
  have HS1 : Hid _ := hs1
  have HS2 : Hid _ := hs2
  have HF1 : Hid _ := hf1
  have HF2 : Hid _ := hf2
  have HL1 : Hid _ := hl1
  have HL2 : Hid _ := hl2
  clear he hs1 hs2 hf1 hf2 hl1 hl2 hcf1 hcf2 hcl1 hcl2 hcc hf hl hs hC hp1 hp2 hp3 hp4 hF1 hF2 hL1 hL2 c1 c2 c3 c4 u1 u2 u3 u4
  replace T2 := Lib.hid T2
  replace T3 := Lib.hid T3
  replace T4 := Lib.hid T4
  have hdb : (d == 0) = false := by rw [beq_eq_false_iff_ne]; exact hd
  replace RX := Lib.hid RX
  replace RY := Lib.hid RY
  replace T1 := Lib.hid T1
  clear hd
  go_enter Try.func66, Try.ntmps66
  go_wp2_with fail
  generalize hW : World.alloc _ _ = W
  have a0 : W.cell? ⟨w.heap.size, 0, none⟩ = some (.int .i64 fn) := by subst hW; go_simp
  have fa0 : W.frozen? ⟨w.heap.size, 0, none⟩ = false := by subst hW; go_simp
  have a1 : W.cell? ⟨w.heap.size, 1, none⟩ = some (.int .i64 fd) := by subst hW; go_simp
  have fa1 : W.frozen? ⟨w.heap.size, 1, none⟩ = false := by subst hW; go_simp
  have b0 : W.cell? ⟨w.heap.size + 1, 0, none⟩ = some (.int .i64 ln) := by subst hW; go_simp
  have fb0 : W.frozen? ⟨w.heap.size + 1, 0, none⟩ = false := by subst hW; go_simp
  have b1 : W.cell? ⟨w.heap.size + 1, 1, none⟩ = some (.int .i64 ld) := by subst hW; go_simp
  have fb1 : W.frozen? ⟨w.heap.size + 1, 1, none⟩ = false := by subst hW; go_simp
  have r0 : W.cell? ⟨w.heap.size + 1 + 1, 0, none⟩ = some (.int .i64 0) := by subst hW; go_simp
  have fr0 : W.frozen? ⟨w.heap.size + 1 + 1, 0, none⟩ = false := by subst hW; go_simp
  have r1 : W.cell? ⟨w.heap.size + 1 + 1, 1, none⟩ = some (.int .i64 0) := by subst hW; go_simp
  have fr1 : W.frozen? ⟨w.heap.size + 1 + 1, 1, none⟩ = false := by subst hW; go_simp
  have s0 : W.cell? ⟨w.heap.size + 1 + 1 + 1, 0, none⟩ = some (.int .i64 0) := by subst hW; go_simp
  have fs0 : W.frozen? ⟨w.heap.size + 1 + 1 + 1, 0, none⟩ = false := by subst hW; go_simp
  have s1 : W.cell? ⟨w.heap.size + 1 + 1 + 1, 1, none⟩ = some (.int .i64 0) := by subst hW; go_simp
  have fs1 : W.frozen? ⟨w.heap.size + 1 + 1 + 1, 1, none⟩ = false := by subst hW; go_simp
  have hn : New w W := by subst hW; (repeat (first | (with_reducible exact New.refl _) | (with_reducible assumption) | ((with_reducible refine New.setB ?_ ?_ _); focus (first | omega | (simp; omega) | (simp; done))) | (with_reducible refine New.alloc ?_ _) | (with_reducible refine New.drew ?_) | (with_reducible refine New.drewN ?_ _) | (with_reducible refine New.hat ?_ _) | ((with_reducible apply New.snart); (with_reducible assumption))))
  have hsz : w.heap.size + 1 + 1 + 1 < W.heap.size := by subst hW; simp <;> omega
  clear hW
  refine (RX.out _).mono ?_
  rintro e w1 ⟨rfl, n1⟩
  ((replace fa0 := New.keepF n1 a0 fa0); (replace a0 := New.keep n1 a0); (replace fa1 := New.keepF n1 a1 fa1); (replace a1 := New.keep n1 a1); (replace fb0 := New.keepF n1 b0 fb0); (replace b0 := New.keep n1 b0); (replace fb1 := New.keepF n1 b1 fb1); (replace b1 := New.keep n1 b1); (replace fr0 := New.keepF n1 r0 fr0); (replace r0 := New.keep n1 r0); (replace fr1 := New.keepF n1 r1 fr1); (replace r1 := New.keep n1 r1); (replace fs0 := New.keepF n1 s0 fs0); (replace s0 := New.keep n1 s0); (replace fs1 := New.keepF n1 s1 fs1); (replace s1 := New.keep n1 s1))
  have hs1 := n1.size
  replace hn := hn.trans n1
  clear n1
  go_upto_region 4 with fail
  refine Code.at (fun V hV => ?_)
  obtain ⟨PX, hPX⟩ : ∃ P, P = w1.heap.size := ⟨_, rfl⟩
  rw [← hPX]
  have gx : w.heap.size + 1 + 1 + 1 < PX := by omega
  have n2 : New w1 V := by subst hV; (repeat (first | (with_reducible exact New.refl _) | (with_reducible assumption) | ((with_reducible refine New.setB ?_ ?_ _); focus (first | omega | (simp; omega) | (simp; done))) | (with_reducible refine New.alloc ?_ _) | (with_reducible refine New.drew ?_) | (with_reducible refine New.drewN ?_ _) | (with_reducible refine New.hat ?_ _) | ((with_reducible apply New.snart); (with_reducible assumption))))
  have x0 : V.cell? ⟨PX, 0, none⟩ = some (.int .i64 xn) := by subst hPX; subst hV; go_simp
  have fx0 : V.frozen? ⟨PX, 0, none⟩ = false := by subst hPX; subst hV; go_simp
  have x1 : V.cell? ⟨PX, 1, none⟩ = some (.int .i64 xd) := by subst hPX; subst hV; go_simp
  have fx1 : V.frozen? ⟨PX, 1, none⟩ = false := by subst hPX; subst hV; go_simp
  ((replace fa0 := New.keepF n2 a0 fa0); (replace a0 := New.keep n2 a0); (replace fa1 := New.keepF n2 a1 fa1); (replace a1 := New.keep n2 a1); (replace fb0 := New.keepF n2 b0 fb0); (replace b0 := New.keep n2 b0); (replace fb1 := New.keepF n2 b1 fb1); (replace b1 := New.keep n2 b1); (replace fr0 := New.keepF n2 r0 fr0); (replace r0 := New.keep n2 r0); (replace fr1 := New.keepF n2 r1 fr1); (replace r1 := New.keep n2 r1); (replace fs0 := New.keepF n2 s0 fs0); (replace s0 := New.keep n2 s0); (replace fs1 := New.keepF n2 s1 fs1); (replace s1 := New.keep n2 s1))
  replace hn := hn.trans n2
  have lx : PX < V.heap.size := World.block_lt_of_cell? _ _ x0
  clear hV hPX n2 hs1
  go_wp2_with fail
  refine (RY.out _).mono ?_
  rintro e w2 ⟨rfl, n1⟩
  ((replace fa0 := New.keepF n1 a0 fa0); (replace a0 := New.keep n1 a0); (replace fa1 := New.keepF n1 a1 fa1); (replace a1 := New.keep n1 a1); (replace fb0 := New.keepF n1 b0 fb0); (replace b0 := New.keep n1 b0); (replace fb1 := New.keepF n1 b1 fb1); (replace b1 := New.keep n1 b1); (replace fr0 := New.keepF n1 r0 fr0); (replace r0 := New.keep n1 r0); (replace fr1 := New.keepF n1 r1 fr1); (replace r1 := New.keep n1 r1); (replace fs0 := New.keepF n1 s0 fs0); (replace s0 := New.keep n1 s0); (replace fs1 := New.keepF n1 s1 fs1); (replace s1 := New.keep n1 s1); (replace fx0 := New.keepF n1 x0 fx0); (replace x0 := New.keep n1 x0); (replace fx1 := New.keepF n1 x1 fx1); (replace x1 := New.keep n1 x1))
  have hs1 := n1.size
  replace hn := hn.trans n1
  clear n1
  go_upto_region 5 with fail
  refine Code.at (fun V2 hV => ?_)
  obtain ⟨PY, hPY⟩ : ∃ P, P = w2.heap.size := ⟨_, rfl⟩
  rw [← hPY]
  have gy : PX < PY := by omega
  have n2 : New w2 V2 := by subst hV; (repeat (first | (with_reducible exact New.refl _) | (with_reducible assumption) | ((with_reducible refine New.setB ?_ ?_ _); focus (first | omega | (simp; omega) | (simp; done))) | (with_reducible refine New.alloc ?_ _) | (with_reducible refine New.drew ?_) | (with_reducible refine New.drewN ?_ _) | (with_reducible refine New.hat ?_ _) | ((with_reducible apply New.snart); (with_reducible assumption))))
  have y0 : V2.cell? ⟨PY, 0, none⟩ = some (.int .i64 yn) := by subst hPY; subst hV; go_simp
  have fy0 : V2.frozen? ⟨PY, 0, none⟩ = false := by subst hPY; subst hV; go_simp
  have y1 : V2.cell? ⟨PY, 1, none⟩ = some (.int .i64 yd) := by subst hPY; subst hV; go_simp
  have fy1 : V2.frozen? ⟨PY, 1, none⟩ = false := by subst hPY; subst hV; go_simp
  ((replace fa0 := New.keepF n2 a0 fa0); (replace a0 := New.keep n2 a0); (replace fa1 := New.keepF n2 a1 fa1); (replace a1 := New.keep n2 a1); (replace fb0 := New.keepF n2 b0 fb0); (replace b0 := New.keep n2 b0); (replace fb1 := New.keepF n2 b1 fb1); (replace b1 := New.keep n2 b1); (replace fr0 := New.keepF n2 r0 fr0); (replace r0 := New.keep n2 r0); (replace fr1 := New.keepF n2 r1 fr1); (replace r1 := New.keep n2 r1); (replace fs0 := New.keepF n2 s0 fs0); (replace s0 := New.keep n2 s0); (replace fs1 := New.keepF n2 s1 fs1); (replace s1 := New.keep n2 s1); (replace fx0 := New.keepF n2 x0 fx0); (replace x0 := New.keep n2 x0); (replace fx1 := New.keepF n2 x1 fx1); (replace x1 := New.keep n2 x1))
  replace hn := hn.trans n2
  have ly : PY < V2.heap.size := World.block_lt_of_cell? _ _ y0
  have gw : w.heap.size ≤ PX := by omega
  have gw2 : w.heap.size ≤ PY := by omega
  clear hV hPY n2 hs1 lx hsz
  go_wp2_with fail
  refine (T1.out _).mono ?_
  rintro e w3 ⟨rfl, n1⟩
  ((replace fa0 := New.keepF n1 a0 fa0); (replace a0 := New.keep n1 a0); (replace fa1 := New.keepF n1 a1 fa1); (replace a1 := New.keep n1 a1); (replace fb0 := New.keepF n1 b0 fb0); (replace b0 := New.keep n1 b0); (replace fb1 := New.keepF n1 b1 fb1); (replace b1 := New.keep n1 b1); (replace fr0 := New.keepF n1 r0 fr0); (replace r0 := New.keep n1 r0); (replace fr1 := New.keepF n1 r1 fr1); (replace r1 := New.keep n1 r1); (replace fs0 := New.keepF n1 s0 fs0); (replace s0 := New.keep n1 s0); (replace fs1 := New.keepF n1 s1 fs1); (replace s1 := New.keep n1 s1); (replace fx0 := New.keepF n1 x0 fx0); (replace x0 := New.keep n1 x0); (replace fx1 := New.keepF n1 x1 fx1); (replace x1 := New.keep n1 x1); (replace fy0 := New.keepF n1 y0 fy0); (replace y0 := New.keep n1 y0); (replace fy1 := New.keepF n1 y1 fy1); (replace y1 := New.keep n1 y1))
  replace hn := hn.trans n1
  have ly3 : PY < w3.heap.size := World.block_lt_of_cell? _ _ y0
  have lx3 : PX < w3.heap.size := by omega
  have lw3 : w.heap.size + 1 + 1 + 1 < w3.heap.size := by omega
  have lw2 : w.heap.size + 1 + 1 < w3.heap.size := by omega
  have lw1 : w.heap.size + 1 < w3.heap.size := by omega
  have lw0 : w.heap.size < w3.heap.size := by omega
  have qx0 : w.heap.size ≠ PX := by omega
  have qx1 : w.heap.size + 1 ≠ PX := by omega
  have qx2 : w.heap.size + 1 + 1 ≠ PX := by omega
  have qx3 : w.heap.size + 1 + 1 + 1 ≠ PX := by omega
  have qy0 : w.heap.size ≠ PY := by omega
  have qy1 : w.heap.size + 1 ≠ PY := by omega
  have qy2 : w.heap.size + 1 + 1 ≠ PY := by omega
  have qy3 : w.heap.size + 1 + 1 + 1 ≠ PY := by omega
  have qxy : PX ≠ PY := by omega
  clear n1 ly
  go_upto_if 42 with (fail)
  go_cut [14] (fun s14 Z => s14 = .bool false ∧ New w Z ∧ (Z.cell? ⟨w.heap.size, 0, none⟩ = some (.int .i64 fn) ∧ Z.frozen? ⟨w.heap.size, 0, none⟩ = false) ∧ (Z.cell? ⟨w.heap.size, 1, none⟩ = some (.int .i64 fd) ∧ Z.frozen? ⟨w.heap.size, 1, none⟩ = false) ∧ (Z.cell? ⟨w.heap.size + 1, 0, none⟩ = some (.int .i64 ln) ∧ Z.frozen? ⟨w.heap.size + 1, 0, none⟩ = false) ∧ (Z.cell? ⟨w.heap.size + 1, 1, none⟩ = some (.int .i64 ld) ∧ Z.frozen? ⟨w.heap.size + 1, 1, none⟩ = false) ∧ (Z.cell? ⟨w.heap.size + 1 + 1, 0, none⟩ = some (.int .i64 0) ∧ Z.frozen? ⟨w.heap.size + 1 + 1, 0, none⟩ = false) ∧ (Z.cell? ⟨w.heap.size + 1 + 1, 1, none⟩ = some (.int .i64 0) ∧ Z.frozen? ⟨w.heap.size + 1 + 1, 1, none⟩ = false) ∧ (Z.cell? ⟨w.heap.size + 1 + 1 + 1, 0, none⟩ = some (.int .i64 0) ∧ Z.frozen? ⟨w.heap.size + 1 + 1 + 1, 0, none⟩ = false) ∧ (Z.cell? ⟨w.heap.size + 1 + 1 + 1, 1, none⟩ = some (.int .i64 0) ∧ Z.frozen? ⟨w.heap.size + 1 + 1 + 1, 1, none⟩ = false) ∧ (Z.cell? ⟨PX, 0, none⟩ = some (.int .i64 pn) ∧ Z.frozen? ⟨PX, 0, none⟩ = false) ∧ (Z.cell? ⟨PX, 1, none⟩ = some (.int .i64 pd) ∧ Z.frozen? ⟨PX, 1, none⟩ = false) ∧ (Z.cell? ⟨PY, 0, none⟩ = some (.int .i64 qn) ∧ Z.frozen? ⟨PY, 0, none⟩ = false) ∧ (Z.cell? ⟨PY, 1, none⟩ = some (.int .i64 qd) ∧ Z.frozen? ⟨PY, 1, none⟩ = false))
  case first =>
    cases s
    · obtain ⟨rfl, rfl, rfl, rfl⟩ := HS2.out rfl
      clear HE HF1 HF2 HL1 HL2 HS1 HS2 T1 T2 T3 T4 RX RY
      go_wp2_with fail
      go_meet
      exact ⟨rfl, by (repeat (first | (with_reducible exact New.refl _) | (with_reducible assumption) | ((with_reducible refine New.setB ?_ ?_ _); focus (first | omega | (simp; omega) | (simp; done))) | (with_reducible refine New.alloc ?_ _) | (with_reducible refine New.drew ?_) | (with_reducible refine New.drewN ?_ _) | (with_reducible refine New.hat ?_ _) | ((with_reducible apply New.snart); (with_reducible assumption)))), ⟨by go_simp, by go_simp⟩, ⟨by go_simp, by go_simp⟩, ⟨by go_simp, by go_simp⟩, ⟨by go_simp, by go_simp⟩, ⟨by go_simp, by go_simp⟩, ⟨by go_simp, by go_simp⟩, ⟨by go_simp, by go_simp⟩, ⟨by go_simp, by go_simp⟩, ⟨by go_simp, by go_simp⟩, ⟨by go_simp, by go_simp⟩, ⟨by go_simp, by go_simp⟩, ⟨by go_simp, by go_simp⟩⟩
    · obtain ⟨rfl, rfl, rfl, rfl⟩ := HS1.out rfl
      clear HE HF1 HF2 HL1 HL2 HS1 HS2 T1 T2 T3 T4 RX RY
      go_wp2_with fail
      go_meet
      exact ⟨rfl, by (repeat (first | (with_reducible exact New.refl _) | (with_reducible assumption) | ((with_reducible refine New.setB ?_ ?_ _); focus (first | omega | (simp; omega) | (simp; done))) | (with_reducible refine New.alloc ?_ _) | (with_reducible refine New.drew ?_) | (with_reducible refine New.drewN ?_ _) | (with_reducible refine New.hat ?_ _) | ((with_reducible apply New.snart); (with_reducible assumption)))), ⟨by go_simp, by go_simp⟩, ⟨by go_simp, by go_simp⟩, ⟨by go_simp, by go_simp⟩, ⟨by go_simp, by go_simp⟩, ⟨by go_simp, by go_simp⟩, ⟨by go_simp, by go_simp⟩, ⟨by go_simp, by go_simp⟩, ⟨by go_simp, by go_simp⟩, ⟨by go_simp, by go_simp⟩, ⟨by go_simp, by go_simp⟩, ⟨by go_simp, by go_simp⟩, ⟨by go_simp, by go_simp⟩⟩
  case rest =>
    clear a0 a1 b0 b1 r0 r1 s0 s1 x0 x1 y0 y1 fa0 fa1 fb0 fb1 fr0 fr1 fs0 fs1 fx0 fx1 fy0 fy1
    obtain ⟨rfl, hnZ, ⟨a0, fa0⟩, ⟨a1, fa1⟩, ⟨b0, fb0⟩, ⟨b1, fb1⟩, ⟨r0, fr0⟩, ⟨r1, fr1⟩, ⟨s0, fs0⟩, ⟨s1, fs1⟩, ⟨x0, fx0⟩, ⟨x1, fx1⟩, ⟨y0, fy0⟩, ⟨y1, fy1⟩⟩ := hcut
    clear hn
    have hn := hnZ
    clear hnZ
    rename World => V3
    clear HS1 HS2
    go_wp2_with fail
    refine (T2.out _).mono ?_
    rintro e w4 ⟨rfl, n1⟩
    ((replace fa0 := New.keepF n1 a0 fa0); (replace a0 := New.keep n1 a0); (replace fa1 := New.keepF n1 a1 fa1); (replace a1 := New.keep n1 a1); (replace fb0 := New.keepF n1 b0 fb0); (replace b0 := New.keep n1 b0); (replace fb1 := New.keepF n1 b1 fb1); (replace b1 := New.keep n1 b1); (replace fr0 := New.keepF n1 r0 fr0); (replace r0 := New.keep n1 r0); (replace fr1 := New.keepF n1 r1 fr1); (replace r1 := New.keep n1 r1); (replace fs0 := New.keepF n1 s0 fs0); (replace s0 := New.keep n1 s0); (replace fs1 := New.keepF n1 s1 fs1); (replace s1 := New.keep n1 s1); (replace fx0 := New.keepF n1 x0 fx0); (replace x0 := New.keep n1 x0); (replace fx1 := New.keepF n1 x1 fx1); (replace x1 := New.keep n1 x1); (replace fy0 := New.keepF n1 y0 fy0); (replace y0 := New.keep n1 y0); (replace fy1 := New.keepF n1 y1 fy1); (replace y1 := New.keep n1 y1))
    replace hn := hn.trans n1
    clear n1
    go_upto_if 48 with (fail)
    go_cut [14] (fun s14 Z => s14 = .bool false ∧ New w Z ∧ (Z.cell? ⟨w.heap.size, 0, none⟩ = some (.int .i64 F) ∧ Z.frozen? ⟨w.heap.size, 0, none⟩ = false) ∧ (Z.cell? ⟨w.heap.size, 1, none⟩ = some (.int .i64 FD) ∧ Z.frozen? ⟨w.heap.size, 1, none⟩ = false) ∧ (Z.cell? ⟨w.heap.size + 1, 0, none⟩ = some (.int .i64 ln) ∧ Z.frozen? ⟨w.heap.size + 1, 0, none⟩ = false) ∧ (Z.cell? ⟨w.heap.size + 1, 1, none⟩ = some (.int .i64 ld) ∧ Z.frozen? ⟨w.heap.size + 1, 1, none⟩ = false) ∧ (Z.cell? ⟨w.heap.size + 1 + 1, 0, none⟩ = some (.int .i64 0) ∧ Z.frozen? ⟨w.heap.size + 1 + 1, 0, none⟩ = false) ∧ (Z.cell? ⟨w.heap.size + 1 + 1, 1, none⟩ = some (.int .i64 0) ∧ Z.frozen? ⟨w.heap.size + 1 + 1, 1, none⟩ = false) ∧ (Z.cell? ⟨w.heap.size + 1 + 1 + 1, 0, none⟩ = some (.int .i64 0) ∧ Z.frozen? ⟨w.heap.size + 1 + 1 + 1, 0, none⟩ = false) ∧ (Z.cell? ⟨w.heap.size + 1 + 1 + 1, 1, none⟩ = some (.int .i64 0) ∧ Z.frozen? ⟨w.heap.size + 1 + 1 + 1, 1, none⟩ = false) ∧ (Z.cell? ⟨PX, 0, none⟩ = some (.int .i64 pn) ∧ Z.frozen? ⟨PX, 0, none⟩ = false) ∧ (Z.cell? ⟨PX, 1, none⟩ = some (.int .i64 pd) ∧ Z.frozen? ⟨PX, 1, none⟩ = false) ∧ (Z.cell? ⟨PY, 0, none⟩ = some (.int .i64 qn) ∧ Z.frozen? ⟨PY, 0, none⟩ = false) ∧ (Z.cell? ⟨PY, 1, none⟩ = some (.int .i64 qd) ∧ Z.frozen? ⟨PY, 1, none⟩ = false))
    case first =>
      cases f
      · obtain ⟨rfl, rfl⟩ := HF2.out rfl
        clear HE HL1 HL2 HF1 HF2 T1 T2 T3 T4 RX RY
        go_wp2_with fail
        go_meet
        exact ⟨rfl, by (repeat (first | (with_reducible exact New.refl _) | (with_reducible assumption) | ((with_reducible refine New.setB ?_ ?_ _); focus (first | omega | (simp; omega) | (simp; done))) | (with_reducible refine New.alloc ?_ _) | (with_reducible refine New.drew ?_) | (with_reducible refine New.drewN ?_ _) | (with_reducible refine New.hat ?_ _) | ((with_reducible apply New.snart); (with_reducible assumption)))), ⟨by go_simp, by go_simp⟩, ⟨by go_simp, by go_simp⟩, ⟨by go_simp, by go_simp⟩, ⟨by go_simp, by go_simp⟩, ⟨by go_simp, by go_simp⟩, ⟨by go_simp, by go_simp⟩, ⟨by go_simp, by go_simp⟩, ⟨by go_simp, by go_simp⟩, ⟨by go_simp, by go_simp⟩, ⟨by go_simp, by go_simp⟩, ⟨by go_simp, by go_simp⟩, ⟨by go_simp, by go_simp⟩⟩
      · obtain ⟨rfl, rfl⟩ := HF1.out rfl
        clear HE HL1 HL2 HF1 HF2 T1 T2 T3 T4 RX RY
        go_wp2_with fail
        go_meet
        exact ⟨rfl, by (repeat (first | (with_reducible exact New.refl _) | (with_reducible assumption) | ((with_reducible refine New.setB ?_ ?_ _); focus (first | omega | (simp; omega) | (simp; done))) | (with_reducible refine New.alloc ?_ _) | (with_reducible refine New.drew ?_) | (with_reducible refine New.drewN ?_ _) | (with_reducible refine New.hat ?_ _) | ((with_reducible apply New.snart); (with_reducible assumption)))), ⟨by go_simp, by go_simp⟩, ⟨by go_simp, by go_simp⟩, ⟨by go_simp, by go_simp⟩, ⟨by go_simp, by go_simp⟩, ⟨by go_simp, by go_simp⟩, ⟨by go_simp, by go_simp⟩, ⟨by go_simp, by go_simp⟩, ⟨by go_simp, by go_simp⟩, ⟨by go_simp, by go_simp⟩, ⟨by go_simp, by go_simp⟩, ⟨by go_simp, by go_simp⟩, ⟨by go_simp, by go_simp⟩⟩
    case rest =>
      clear a0 a1 b0 b1 r0 r1 s0 s1 x0 x1 y0 y1 fa0 fa1 fb0 fb1 fr0 fr1 fs0 fs1 fx0 fx1 fy0 fy1
      obtain ⟨rfl, hnZ, ⟨a0, fa0⟩, ⟨a1, fa1⟩, ⟨b0, fb0⟩, ⟨b1, fb1⟩, ⟨r0, fr0⟩, ⟨r1, fr1⟩, ⟨s0, fs0⟩, ⟨s1, fs1⟩, ⟨x0, fx0⟩, ⟨x1, fx1⟩, ⟨y0, fy0⟩, ⟨y1, fy1⟩⟩ := hcut
      clear hn
      have hn := hnZ
      clear hnZ
      rename World => V4
      clear HF1 HF2
      go_wp2_with fail
      refine (T3.out _).mono ?_
      rintro e w5 ⟨rfl, n1⟩
      ((replace fa0 := New.keepF n1 a0 fa0); (replace a0 := New.keep n1 a0); (replace fa1 := New.keepF n1 a1 fa1); (replace a1 := New.keep n1 a1); (replace fb0 := New.keepF n1 b0 fb0); (replace b0 := New.keep n1 b0); (replace fb1 := New.keepF n1 b1 fb1); (replace b1 := New.keep n1 b1); (replace fr0 := New.keepF n1 r0 fr0); (replace r0 := New.keep n1 r0); (replace fr1 := New.keepF n1 r1 fr1); (replace r1 := New.keep n1 r1); (replace fs0 := New.keepF n1 s0 fs0); (replace s0 := New.keep n1 s0); (replace fs1 := New.keepF n1 s1 fs1); (replace s1 := New.keep n1 s1); (replace fx0 := New.keepF n1 x0 fx0); (replace x0 := New.keep n1 x0); (replace fx1 := New.keepF n1 x1 fx1); (replace x1 := New.keep n1 x1); (replace fy0 := New.keepF n1 y0 fy0); (replace y0 := New.keep n1 y0); (replace fy1 := New.keepF n1 y1 fy1); (replace y1 := New.keep n1 y1))
      replace hn := hn.trans n1
      clear n1
      go_upto_if 52 with (fail)
      go_cut [14] (fun s14 Z => s14 = .bool false ∧ New w Z ∧ (Z.cell? ⟨w.heap.size, 0, none⟩ = some (.int .i64 F) ∧ Z.frozen? ⟨w.heap.size, 0, none⟩ = false) ∧ (Z.cell? ⟨w.heap.size, 1, none⟩ = some (.int .i64 FD) ∧ Z.frozen? ⟨w.heap.size, 1, none⟩ = false) ∧ (Z.cell? ⟨w.heap.size + 1, 0, none⟩ = some (.int .i64 L) ∧ Z.frozen? ⟨w.heap.size + 1, 0, none⟩ = false) ∧ (Z.cell? ⟨w.heap.size + 1, 1, none⟩ = some (.int .i64 LD) ∧ Z.frozen? ⟨w.heap.size + 1, 1, none⟩ = false) ∧ (Z.cell? ⟨w.heap.size + 1 + 1, 0, none⟩ = some (.int .i64 0) ∧ Z.frozen? ⟨w.heap.size + 1 + 1, 0, none⟩ = false) ∧ (Z.cell? ⟨w.heap.size + 1 + 1, 1, none⟩ = some (.int .i64 0) ∧ Z.frozen? ⟨w.heap.size + 1 + 1, 1, none⟩ = false) ∧ (Z.cell? ⟨w.heap.size + 1 + 1 + 1, 0, none⟩ = some (.int .i64 0) ∧ Z.frozen? ⟨w.heap.size + 1 + 1 + 1, 0, none⟩ = false) ∧ (Z.cell? ⟨w.heap.size + 1 + 1 + 1, 1, none⟩ = some (.int .i64 0) ∧ Z.frozen? ⟨w.heap.size + 1 + 1 + 1, 1, none⟩ = false) ∧ (Z.cell? ⟨PX, 0, none⟩ = some (.int .i64 pn) ∧ Z.frozen? ⟨PX, 0, none⟩ = false) ∧ (Z.cell? ⟨PX, 1, none⟩ = some (.int .i64 pd) ∧ Z.frozen? ⟨PX, 1, none⟩ = false) ∧ (Z.cell? ⟨PY, 0, none⟩ = some (.int .i64 qn) ∧ Z.frozen? ⟨PY, 0, none⟩ = false) ∧ (Z.cell? ⟨PY, 1, none⟩ = some (.int .i64 qd) ∧ Z.frozen? ⟨PY, 1, none⟩ = false))
      case first =>
        cases l
        · obtain ⟨rfl, rfl⟩ := HL2.out rfl
          clear HE HL1 HL2 T1 T2 T3 T4 RX RY
          go_wp2_with fail
          go_meet
          exact ⟨rfl, by (repeat (first | (with_reducible exact New.refl _) | (with_reducible assumption) | ((with_reducible refine New.setB ?_ ?_ _); focus (first | omega | (simp; omega) | (simp; done))) | (with_reducible refine New.alloc ?_ _) | (with_reducible refine New.drew ?_) | (with_reducible refine New.drewN ?_ _) | (with_reducible refine New.hat ?_ _) | ((with_reducible apply New.snart); (with_reducible assumption)))), ⟨by go_simp, by go_simp⟩, ⟨by go_simp, by go_simp⟩, ⟨by go_simp, by go_simp⟩, ⟨by go_simp, by go_simp⟩, ⟨by go_simp, by go_simp⟩, ⟨by go_simp, by go_simp⟩, ⟨by go_simp, by go_simp⟩, ⟨by go_simp, by go_simp⟩, ⟨by go_simp, by go_simp⟩, ⟨by go_simp, by go_simp⟩, ⟨by go_simp, by go_simp⟩, ⟨by go_simp, by go_simp⟩⟩
        · obtain ⟨rfl, rfl⟩ := HL1.out rfl
          clear HE HL1 HL2 T1 T2 T3 T4 RX RY
          go_wp2_with fail
          go_meet
          exact ⟨rfl, by (repeat (first | (with_reducible exact New.refl _) | (with_reducible assumption) | ((with_reducible refine New.setB ?_ ?_ _); focus (first | omega | (simp; omega) | (simp; done))) | (with_reducible refine New.alloc ?_ _) | (with_reducible refine New.drew ?_) | (with_reducible refine New.drewN ?_ _) | (with_reducible refine New.hat ?_ _) | ((with_reducible apply New.snart); (with_reducible assumption)))), ⟨by go_simp, by go_simp⟩, ⟨by go_simp, by go_simp⟩, ⟨by go_simp, by go_simp⟩, ⟨by go_simp, by go_simp⟩, ⟨by go_simp, by go_simp⟩, ⟨by go_simp, by go_simp⟩, ⟨by go_simp, by go_simp⟩, ⟨by go_simp, by go_simp⟩, ⟨by go_simp, by go_simp⟩, ⟨by go_simp, by go_simp⟩, ⟨by go_simp, by go_simp⟩, ⟨by go_simp, by go_simp⟩⟩
      case rest =>
        clear a0 a1 b0 b1 r0 r1 s0 s1 x0 x1 y0 y1 fa0 fa1 fb0 fb1 fr0 fr1 fs0 fs1 fx0 fx1 fy0 fy1
        obtain ⟨rfl, hnZ, ⟨a0, fa0⟩, ⟨a1, fa1⟩, ⟨b0, fb0⟩, ⟨b1, fb1⟩, ⟨r0, fr0⟩, ⟨r1, fr1⟩, ⟨s0, fs0⟩, ⟨s1, fs1⟩, ⟨x0, fx0⟩, ⟨x1, fx1⟩, ⟨y0, fy0⟩, ⟨y1, fy1⟩⟩ := hcut
        clear hn
        have hn := hnZ
        clear hnZ
        rename World => V5
        clear HL1 HL2
        clear x0 x1 y0 y1 fx0 fx1 fy0 fy1 T1 T2 T3 RX RY
        go_upto_region 13 with fail
        go_cut [14] (fun s14 Z => s14 = .bool (!z) ∧ New w Z ∧ (Z.cell? ⟨w.heap.size + 1 + 1, 0, none⟩ = some (.int .i64 F) ∧ Z.cell? ⟨w.heap.size + 1 + 1, 1, none⟩ = some (.int .i64 FD)) ∧ (Z.cell? ⟨w.heap.size + 1 + 1 + 1, 0, none⟩ = some (.int .i64 L) ∧ Z.cell? ⟨w.heap.size + 1 + 1 + 1, 1, none⟩ = some (.int .i64 LD)))
        case first =>
          clear HE
          go_region_with (go_at_call 44; refine (T4.out _).mono ?_; rintro e w7 ⟨rfl, n7⟩; have m7 := New.trans (New.drew (New.refl V5)) n7; have a0' := m7.keep a0; have a1' := m7.keep a1; have b0' := m7.keep b0; have b1' := m7.keep b1; have r0' := m7.keep r0; have r1' := m7.keep r1; have s0' := m7.keep s0; have s1' := m7.keep s1; have fr0' := m7.keepF r0 fr0; have fr1' := m7.keepF r1 fr1; have fs0' := m7.keepF s0 fs0; have fs1' := m7.keepF s1 fs1; have hn7 : New w w7 := hn.trans m7; clear n7 m7)
          all_goals
            go_wp2_with fail
            go_meet
            exact ⟨rfl, by (repeat (first | (with_reducible exact New.refl _) | (with_reducible assumption) | ((with_reducible refine New.setB ?_ ?_ _); focus (first | omega | (simp; omega) | (simp; done))) | (with_reducible refine New.alloc ?_ _) | (with_reducible refine New.drew ?_) | (with_reducible refine New.drewN ?_ _) | (with_reducible refine New.hat ?_ _) | ((with_reducible apply New.snart); (with_reducible assumption)))), ⟨by go_simp, by go_simp⟩, ⟨by go_simp, by go_simp⟩⟩
        case rest =>
          clear a0 a1 b0 b1 r0 r1 s0 s1 fa0 fa1 fb0 fb1 fr0 fr1 fs0 fs1
          obtain ⟨rfl, hnZ, ⟨r0, r1⟩, s0, s1⟩ := hcut
          go_wp2_with fail
          refine bodyPost_ret (v := .tuple #[.agg #[.int .i64 F, .int .i64 FD], .agg #[.int .i64 L, .int .i64 LD], .bool (!z)]) (by simp [results, Try.results66, go_sem, *]) rfl ?_
          rw [HE.out]
          exact ⟨rfl, hnZ⟩

end Go.Proofs.Ytmpkciidhopckaa
