import Derived.Test.YtklopjbpfddgfaaGreatClZbZ12

/- The document's own corners over a column: the whole. -/
namespace Go.Proofs.YtklopjbpfddgfaaGreat
open Go.RowKit
set_option linter.unusedVariables false

theorem rcr_bd {a b n p q : Int} (ha : 0 ≤ a ∧ a ≤ 32) (hb : 0 ≤ b ∧ b ≤ 32) (h : rcr a b n = some (p, q)) : 1 ≤ q ∧ q ≤ 32 ∧ 0 ≤ p ∧ p ≤ q := by
  unfold rcr at h
  split at h
  · cases h
  · rename_i hn
    split at h
    · injection h with h; injection h with h1 h2; omega
    · injection h with h; injection h with h1 h2; omega
theorem rX_none {T : TriR} {z n : Int} {s : Sd} (h : rcr s.ax s.bx n = none) : rX T z n s = [] := by unfold rX; rw [h]
theorem rX_out {T : TriR} {z n p q : Int} {s : Sd} (h : rcr s.ax s.bx n = some (p, q)) (hi : inR (s.az * q + (s.bz - s.az) * p) q z (z + 1) = false) : rX T z n s = [] := by unfold rX; rw [h]; simp only []; rw [hi]; rfl
theorem rX_in {T : TriR} {z n p q : Int} {s : Sd} (h : rcr s.ax s.bx n = some (p, q)) (hi : inR (s.az * q + (s.bz - s.az) * p) q z (z + 1) = true) : rX T z n s = [rcC T (n * q) (s.az * q + (s.bz - s.az) * p) q] := by unfold rX; rw [h]; simp only []; rw [hi]; rfl
theorem rZ_none {T : TriR} {x n : Int} {s : Sd} (h : rcr s.az s.bz n = none) : rZ T x n s = [] := by unfold rZ; rw [h]
theorem rZ_out {T : TriR} {x n p q : Int} {s : Sd} (h : rcr s.az s.bz n = some (p, q)) (hi : inR (s.ax * q + (s.bx - s.ax) * p) q x (x + 1) = false) : rZ T x n s = [] := by unfold rZ; rw [h]; simp only []; rw [hi]; rfl
theorem rZ_in {T : TriR} {x n p q : Int} {s : Sd} (h : rcr s.az s.bz n = some (p, q)) (hi : inR (s.ax * q + (s.bx - s.ax) * p) q x (x + 1) = true) : rZ T x n s = [rcC T (s.ax * q + (s.bx - s.ax) * p) (n * q) q] := by unfold rZ; rw [h]; simp only []; rw [hi]; rfl

theorem RS.nothing {T : TriR} {x z : Int} {b b' : Nat} {w w' : World} {v : Value} {ps qs : List Co} (h : RS T x z b w v ps) (n : New w w') (hb : b ≤ b') (hq : qs = []) : RS T x z b' w' v (ps ++ qs) := by
  rw [hq, List.append_nil]
  exact (h.keep n).more hb

set_option maxHeartbeats 4000000 in
set_option maxRecDepth 100000 in
theorem r_cor_bad (T : TriR) (x z : Int) (w : World) (h : corE T x z ≠ 0) :
    Calls Tryz.prog 71 #[.agg #[.int .i64 T.i, .int .i64 T.x0, .int .i64 T.y0, .int .i64 T.z0, .int .i64 T.x1, .int .i64 T.y1, .int .i64 T.z1, .int .i64 T.x2, .int .i64 T.y2, .int .i64 T.z2], .int .i64 x, .int .i64 z] w fun e w' => e = .returned (.tuple #[.slice none 0 0, .int .i64 (corE T x z)]) ∧ New w w' := by
  have KM := fun W => k_may T W
  cases hk : okT T
  · have e : corE T x z = 40 := by unfold corE; rw [hk]; rfl
    rw [e]
    rw [hk] at KM
    replace KM := Lib.hid KM
    clear h hk e
    go_enter Tryz.func71, Tryz.ntmps71
    go_wp2_with fail
    refine (KM.out _).mono ?_
    rintro e W1 ⟨rfl, n1⟩
    have hn : New w W1 := New.trans (by (repeat (first | (with_reducible exact New.refl _) | (with_reducible assumption) | ((with_reducible refine New.setB ?_ ?_ _); focus (first | omega | (simp; omega) | (simp; done))) | (with_reducible refine New.alloc ?_ _) | (with_reducible refine New.drew ?_) | (with_reducible refine New.drewN ?_ _) | (with_reducible refine New.hat ?_ _) | ((with_reducible apply New.snart); (with_reducible assumption))))) n1
    clear n1 KM
    go_wp2_with fail
    refine bodyPost_ret (v := .tuple #[.slice none 0 0, .int .i64 40]) (by simp [results, Tryz.results71, go_sem, *]) rfl ?_
    exact ⟨rfl, hn⟩
  · have hout : x < -1 ∨ 32 < x ∨ z < -1 ∨ 32 < z := by
      unfold corE colB at h
      rw [hk] at h
      simp only [if_true] at h
      split at h
      · exact absurd rfl h
      · rename_i h2
        simp only [Bool.and_eq_true, decide_eq_true_eq] at h2
        omega
    have e : corE T x z = 2 := by
      unfold corE colB
      rw [hk]
      simp only [if_true]
      rw [if_neg]
      simp only [Bool.and_eq_true, decide_eq_true_eq]
      omega
    rw [e]
    rw [hk] at KM
    replace KM := Lib.hid KM
    clear h hk e
    by_cases q1 : x < -1
    · have t1 : decide (x < -1) = true := decide_eq_true q1
      go_enter Tryz.func71, Tryz.ntmps71
      go_wp2_with fail
      refine (KM.out _).mono ?_
      rintro e W1 ⟨rfl, n1⟩
      have hn : New w W1 := New.trans (by (repeat (first | (with_reducible exact New.refl _) | (with_reducible assumption) | ((with_reducible refine New.setB ?_ ?_ _); focus (first | omega | (simp; omega) | (simp; done))) | (with_reducible refine New.alloc ?_ _) | (with_reducible refine New.drew ?_) | (with_reducible refine New.drewN ?_ _) | (with_reducible refine New.hat ?_ _) | ((with_reducible apply New.snart); (with_reducible assumption))))) n1
      clear n1 KM
      go_wp2_with fail
      refine bodyPost_ret (v := .tuple #[.slice none 0 0, .int .i64 2]) (by simp [results, Tryz.results71, go_sem, *]) rfl ?_
      exact ⟨rfl, hn⟩
    have t1 : decide (x < -1) = false := decide_eq_false q1
    by_cases q2 : 32 < x
    · have t2 : decide (32 < x) = true := decide_eq_true q2
      go_enter Tryz.func71, Tryz.ntmps71
      go_wp2_with fail
      refine (KM.out _).mono ?_
      rintro e W1 ⟨rfl, n1⟩
      have hn : New w W1 := New.trans (by (repeat (first | (with_reducible exact New.refl _) | (with_reducible assumption) | ((with_reducible refine New.setB ?_ ?_ _); focus (first | omega | (simp; omega) | (simp; done))) | (with_reducible refine New.alloc ?_ _) | (with_reducible refine New.drew ?_) | (with_reducible refine New.drewN ?_ _) | (with_reducible refine New.hat ?_ _) | ((with_reducible apply New.snart); (with_reducible assumption))))) n1
      clear n1 KM
      go_wp2_with fail
      refine bodyPost_ret (v := .tuple #[.slice none 0 0, .int .i64 2]) (by simp [results, Tryz.results71, go_sem, *]) rfl ?_
      exact ⟨rfl, hn⟩
    have t2 : decide (32 < x) = false := decide_eq_false q2
    by_cases q3 : z < -1
    · have t3 : decide (z < -1) = true := decide_eq_true q3
      go_enter Tryz.func71, Tryz.ntmps71
      go_wp2_with fail
      refine (KM.out _).mono ?_
      rintro e W1 ⟨rfl, n1⟩
      have hn : New w W1 := New.trans (by (repeat (first | (with_reducible exact New.refl _) | (with_reducible assumption) | ((with_reducible refine New.setB ?_ ?_ _); focus (first | omega | (simp; omega) | (simp; done))) | (with_reducible refine New.alloc ?_ _) | (with_reducible refine New.drew ?_) | (with_reducible refine New.drewN ?_ _) | (with_reducible refine New.hat ?_ _) | ((with_reducible apply New.snart); (with_reducible assumption))))) n1
      clear n1 KM
      go_wp2_with fail
      refine bodyPost_ret (v := .tuple #[.slice none 0 0, .int .i64 2]) (by simp [results, Tryz.results71, go_sem, *]) rfl ?_
      exact ⟨rfl, hn⟩
    have t3 : decide (z < -1) = false := decide_eq_false q3
    have q4 : 32 < z := by omega
    have t4 : decide (32 < z) = true := decide_eq_true q4
    go_enter Tryz.func71, Tryz.ntmps71
    go_wp2_with fail
    refine (KM.out _).mono ?_
    rintro e W1 ⟨rfl, n1⟩
    have hn : New w W1 := New.trans (by (repeat (first | (with_reducible exact New.refl _) | (with_reducible assumption) | ((with_reducible refine New.setB ?_ ?_ _); focus (first | omega | (simp; omega) | (simp; done))) | (with_reducible refine New.alloc ?_ _) | (with_reducible refine New.drew ?_) | (with_reducible refine New.drewN ?_ _) | (with_reducible refine New.hat ?_ _) | ((with_reducible apply New.snart); (with_reducible assumption))))) n1
    clear n1 KM
    go_wp2_with fail
    refine bodyPost_ret (v := .tuple #[.slice none 0 0, .int .i64 2]) (by simp [results, Tryz.results71, go_sem, *]) rfl ?_
    exact ⟨rfl, hn⟩

set_option maxHeartbeats 8000000 in
set_option maxRecDepth 100000 in
theorem r_cor (T : TriR) (x z : Int) (w : World) (h : corE T x z = 0) :
    Calls Tryz.prog 71 #[.agg #[.int .i64 T.i, .int .i64 T.x0, .int .i64 T.y0, .int .i64 T.z0, .int .i64 T.x1, .int .i64 T.y1, .int .i64 T.z1, .int .i64 T.x2, .int .i64 T.y2, .int .i64 T.z2], .int .i64 x, .int .i64 z] w (CorP T x z w) := by
  obtain ⟨hk, -, -, hx, hz⟩ := cor_zero h
  have KM := fun W => k_may T W
  rw [hk] at KM
  replace KM := Lib.hid KM
  have HK := Lib.hid hk
  have KI := Lib.hid (fun px pz W hx hz => r_inside T hk px pz W hx hz)
  have KC := Lib.hid (fun px pz den W hx hz hd => r_corner T hk px pz den W hx hz hd)
  have KP := Lib.hid (fun b hb W v ps h c hc => r_putS T hk x z hx hz b hb W v ps h c hc)
  have t1 : decide (x < -1) = false := decide_eq_false (by omega)
  have t2 : decide (32 < x) = false := decide_eq_false (by omega)
  have t3 : decide (z < -1) = false := decide_eq_false (by omega)
  have t4 : decide (32 < z) = false := decide_eq_false (by omega)
  clear h hk
  go_enter Tryz.func71, Tryz.ntmps71
  go_wp2_with fail
  refine Calls.at (fun V hV => ?_)
  have n0 : New w V := by subst hV; (repeat (first | (with_reducible exact New.refl _) | (with_reducible assumption) | ((with_reducible refine New.setB ?_ ?_ _); focus (first | omega | (simp; omega) | (simp; done))) | (with_reducible refine New.alloc ?_ _) | (with_reducible refine New.drew ?_) | (with_reducible refine New.drewN ?_ _) | (with_reducible refine New.hat ?_ _) | ((with_reducible apply New.snart); (with_reducible assumption))))
  have HT0 : TAt V w.heap.size T := by subst hV; exact TAt.mk (by go_simp) (by go_simp) (by go_simp) (by go_simp) (by go_simp) (by go_simp) (by go_simp) (by go_simp) (by go_simp) (by go_simp)
  clear hV
  refine (KM.out V).mono ?_
  rintro e W0 ⟨rfl, n1⟩
  have HT : Hid (TAt W0 w.heap.size T) := Lib.hid (fun i hi => n1.keep (HT0 i hi))
  have HN0 : Hid (New w W0) := Lib.hid (n0.trans n1)
  clear n0 n1 HT0 KM
  go_wp2_with fail
  clear t1 t2 t3 t4
  go_loopg [8, 9, 10] 2 (fun gk s8 s9 s10 wr => ∃ (dz : Nat) (v : Value), v = s8 ∧ s9 = .int .i64 dz ∧ dz ≤ 2 ∧ 2 - dz ≤ gk ∧ Hid (RS T x z (2 * dz) wr v (preA T x z (2 * dz))) ∧ Hid (New W0 wr))
  case atStart => exact ⟨0, _, rfl, rfl, by omega, by omega, Lib.hid ⟨[], Sl.nil, List.Pairwise.nil, fun c => Iff.rfl, by simp, fun c hc => by cases hc⟩, Lib.hid (New.refl _)⟩
  case round =>
    obtain ⟨dz, v, rfl, rfl, hdz, hgk, HS, HN⟩ := hrel
    by_cases hlt : dz < 2
    · have td : decide ((dz : Int) ≤ 1) = true := decide_eq_true (by omega)
      go_wp2_with fail
      go_loopg [8, 10] 2 (fun gk s8 s10 wr => ∃ (dx : Nat) (v2 : Value), v2 = s8 ∧ s10 = .int .i64 dx ∧ dx ≤ 2 ∧ 2 - dx ≤ gk ∧ Hid (RS T x z (2 * dz + dx) wr v2 (preA T x z (2 * dz + dx))) ∧ Hid (New W0 wr))
      case atStart => exact ⟨0, _, rfl, rfl, by omega, by omega, HS, HN⟩
      case round =>
        clear HS HN
        obtain ⟨dx, v2, rfl, rfl, hdx, hgk2, HS, HN⟩ := hrel
        by_cases hlt2 : dx < 2
        · have tx : decide ((dx : Int) ≤ 1) = true := decide_eq_true (by omega)
          have HT2 : Hid (TAt wr w.heap.size T) := Lib.hid (fun i hi => HN.out.keep (HT.out i hi))
          obtain ⟨c0, c1, c2, c3, c4, c5, c6, c7, c8, c9⟩ := HT2.out.cells
          have KI1 := Lib.hid (fun W => KI.out (x + (dx : Int)) (z + (dz : Int)) W (by omega) (by omega))
          have KC1 := Lib.hid (fun W => KC.out (x + (dx : Int)) (z + (dz : Int)) 1 W (by omega) (by omega) (by omega))
          have HSN := Lib.hid (preA_succ T x z (dx := dx) (dz := dz) (by omega))
          cases hin : insB T (x + (dx : Int)) (z + (dz : Int)) with
          | false =>
            rw [hin] at KI1
            have HE : Hid (rA T (x + (dx : Int)) (z + (dz : Int)) = []) := Lib.hid (by unfold rA; rw [hin]; rfl)
            clear hin
            go_wp2_with fail
            refine (KI1.out _).mono ?_
            rintro e W2 ⟨rfl, n2⟩
            have HN2 := Lib.hid (HN.out.trans n2)
            have HS2 : Hid (RS T x z (2 * dz + (dx + 1)) W2 v2 (preA T x z (2 * dz + (dx + 1)))) := Lib.hid (by rw [HSN.out]; exact HS.out.nothing n2 (by omega) HE.out)
            clear c0 c1 c2 c3 c4 c5 c6 c7 c8 c9 KI1 KC1 n2 HSN HE HS HN HT2
            go_wp2_with fail
            go_roundg (2 - (dx + 1))
            case measure => omega
            case rel => exact ⟨dx + 1, _, rfl, by go_num, by omega, by omega, HS2, HN2⟩
          | true =>
            rw [hin] at KI1
            have HE : Hid (rA T (x + (dx : Int)) (z + (dz : Int)) = [rcC T (x + (dx : Int)) (z + (dz : Int)) 1]) := Lib.hid (by unfold rA; rw [hin]; rfl)
            have HM : Hid (rcC T (x + (dx : Int)) (z + (dz : Int)) 1 ∈ comL T x z) := Lib.hid (rA_com HK.out hx hz (px := x + (dx : Int)) (pz := z + (dz : Int)) (by omega) (by omega) (by rw [HE.out]; exact List.mem_singleton.2 rfl))
            clear hin
            go_wp2_with fail
            refine (KI1.out _).mono ?_
            rintro e W2 ⟨rfl, n2⟩
            replace c0 := New.keep n2 c0
            replace c1 := New.keep n2 c1
            replace c2 := New.keep n2 c2
            replace c3 := New.keep n2 c3
            replace c4 := New.keep n2 c4
            replace c5 := New.keep n2 c5
            replace c6 := New.keep n2 c6
            replace c7 := New.keep n2 c7
            replace c8 := New.keep n2 c8
            replace c9 := New.keep n2 c9
            have HN2 := Lib.hid (HN.out.trans n2)
            have HS2 := Lib.hid (HS.out.keep n2)
            clear KI1 n2 HS HN HT2
            go_wp2_with fail
            refine (KC1.out _).mono ?_
            rintro e W3 ⟨rfl, n2⟩
            have HN3 := Lib.hid (HN2.out.trans n2)
            have HS3 := Lib.hid (HS2.out.keep n2)
            clear KC1 n2 HS2 HN2 c0 c1 c2 c3 c4 c5 c6 c7 c8 c9
            go_wp2_with fail
            refine (KP.out _ (by omega) _ _ _ HS3.out _ HM.out).mono ?_
            rintro e W4 ⟨v3, rfl, hS, n2⟩
            have HN4 := Lib.hid (HN3.out.trans n2)
            have HS4 : Hid (RS T x z (2 * dz + (dx + 1)) W4 v3 (preA T x z (2 * dz + (dx + 1)))) := Lib.hid (by rw [HSN.out, HE.out]; exact hS)
            clear n2 HS3 HN3 hS HSN HE HM
            go_wp2_with fail
            go_roundg (2 - (dx + 1))
            case measure => omega
            case rel => exact ⟨dx + 1, _, rfl, by go_num, by omega, by omega, HS4, HN4⟩
        · have e2 : dx = 2 := by omega
          have tx : decide ((dx : Int) ≤ 1) = false := decide_eq_false (by omega)
          have HS2 : Hid (RS T x z (2 * (dz + 1)) wr v2 (preA T x z (2 * (dz + 1)))) := Lib.hid (by rw [show 2 * (dz + 1) = 2 * dz + dx by omega]; exact HS.out)
          go_wp2_with fail
          go_roundg (2 - (dz + 1))
          case measure => omega
          case rel => exact ⟨dz + 1, _, rfl, by go_num, by omega, by omega, HS2, HN⟩
    · have HS4 : Hid (RS T x z 4 wr v (preS T x z 0)) := Lib.hid (by rw [preS_zero]; have := HS.out; rw [show 2 * dz = 4 by omega] at this; exact this)
      have td : decide ((dz : Int) ≤ 1) = false := decide_eq_false (by omega)
      clear HS
      go_wp2_with fail
      go_loopg [8, 11, 12, 13, 14, 15, 16, 17, 18] 3 (fun gk s8 s11 s12 s13 s14 s15 s16 s17 s18 wr => ∃ (i : Nat) (I : Int) (v2 : Value), v2 = s8 ∧ s11 = .int .i64 I ∧ 0 ≤ I ∧ I ≤ 3 ∧ i ≤ 3 ∧ 3 - i ≤ gk ∧ Hid (I = i) ∧ Hid (RS T x z (4 + 5 * i) wr v2 (preS T x z i)) ∧ Hid (New W0 wr))
      case atStart => exact ⟨0, 0, _, rfl, rfl, by omega, by omega, by omega, by omega, Lib.hid rfl, HS4, HN⟩
      case round =>
        clear HS4 HN hlt hgk hdz
        obtain ⟨i, I, v2, rfl, rfl, hI0, hI3, hi3, hgk3, HI, HS, HN⟩ := hrel
        by_cases hlt3 : I < 3
        ·
          have ti : decide (I < 3) = true := decide_eq_true hlt3
          have hi2 : i < 3 := by have := HI.out; omega
          have HT2 : Hid (TAt wr w.heap.size T) := Lib.hid (fun i hi => HN.out.keep (HT.out i hi))
          obtain ⟨c0, c1, c2, c3, c4, c5, c6, c7, c8, c9⟩ := HT2.out.cells
          have zt : w.heap.size < wr.heap.size := World.block_lt_of_cell? _ _ c0
          obtain ⟨S, hS⟩ : ∃ S, S = side T i := ⟨_, rfl⟩
          have HSd := Lib.hid hS
          have sok := side_ok HK.out i
          rw [← hS] at sok
          obtain ⟨⟨sax0, sax1⟩, ⟨saz0, saz1⟩, -, ⟨sbx0, sbx1⟩, ⟨sbz0, sbz1⟩, -⟩ := sok
          clear hS
          go_upto_region 17 with fail
          go_cut [12, 13] (fun s12 s13 Z => ∃ b b' : Nat, s12 = .pointer (some ⟨b, 0, none⟩) ∧ s13 = .pointer (some ⟨b', 0, none⟩) ∧ New wr Z ∧ Z.cell? ⟨b, 0, none⟩ = some (.int .i64 S.ax) ∧ Z.cell? ⟨b, 2, none⟩ = some (.int .i64 S.az) ∧ Z.cell? ⟨b', 0, none⟩ = some (.int .i64 S.bx) ∧ Z.cell? ⟨b', 2, none⟩ = some (.int .i64 S.bz))
          case first =>
            have hII := HI.out
            rcases (show (i = 0 ∧ I = 0) ∨ (i = 1 ∧ I = 1) ∨ (i = 2 ∧ I = 2) by omega) with ⟨rfl, rfl⟩ | ⟨rfl, rfl⟩ | ⟨rfl, rfl⟩
            ·
              have ea0 : S.ax = T.x0 := by rw [HSd.out]; rfl
              have ea2 : S.az = T.z0 := by rw [HSd.out]; rfl
              have eb0 : S.bx = T.x1 := by rw [HSd.out]; rfl
              have eb2 : S.bz = T.z1 := by rw [HSd.out]; rfl
              clear hII HSd HI
              go_region
              all_goals
                go_wp2_with fail
                go_meet
                exact ⟨_, _, rfl, rfl, by (repeat (first | (with_reducible exact New.refl _) | (with_reducible assumption) | ((with_reducible refine New.setB ?_ ?_ _); focus (first | omega | (simp; omega) | (simp; done))) | (with_reducible refine New.alloc ?_ _) | (with_reducible refine New.drew ?_) | (with_reducible refine New.drewN ?_ _) | (with_reducible refine New.hat ?_ _) | ((with_reducible apply New.snart); (with_reducible assumption)))), by go_simp, by go_simp, by go_simp, by go_simp⟩
            ·
              have ea0 : S.ax = T.x1 := by rw [HSd.out]; rfl
              have ea2 : S.az = T.z1 := by rw [HSd.out]; rfl
              have eb0 : S.bx = T.x2 := by rw [HSd.out]; rfl
              have eb2 : S.bz = T.z2 := by rw [HSd.out]; rfl
              clear hII HSd HI
              go_region
              all_goals
                go_wp2_with fail
                go_meet
                exact ⟨_, _, rfl, rfl, by (repeat (first | (with_reducible exact New.refl _) | (with_reducible assumption) | ((with_reducible refine New.setB ?_ ?_ _); focus (first | omega | (simp; omega) | (simp; done))) | (with_reducible refine New.alloc ?_ _) | (with_reducible refine New.drew ?_) | (with_reducible refine New.drewN ?_ _) | (with_reducible refine New.hat ?_ _) | ((with_reducible apply New.snart); (with_reducible assumption)))), by go_simp, by go_simp, by go_simp, by go_simp⟩
            ·
              have ea0 : S.ax = T.x2 := by rw [HSd.out]; rfl
              have ea2 : S.az = T.z2 := by rw [HSd.out]; rfl
              have eb0 : S.bx = T.x0 := by rw [HSd.out]; rfl
              have eb2 : S.bz = T.z0 := by rw [HSd.out]; rfl
              clear hII HSd HI
              go_region
              all_goals
                go_wp2_with fail
                go_meet
                exact ⟨_, _, rfl, rfl, by (repeat (first | (with_reducible exact New.refl _) | (with_reducible assumption) | ((with_reducible refine New.setB ?_ ?_ _); focus (first | omega | (simp; omega) | (simp; done))) | (with_reducible refine New.alloc ?_ _) | (with_reducible refine New.drew ?_) | (with_reducible refine New.drewN ?_ _) | (with_reducible refine New.hat ?_ _) | ((with_reducible apply New.snart); (with_reducible assumption)))), by go_simp, by go_simp, by go_simp, by go_simp⟩
          case rest =>
            obtain ⟨A, B, rfl, rfl, nZ, p0, p2, q0, q2⟩ := hcut
            rename World => X
            replace c0 := New.keep nZ c0
            replace c1 := New.keep nZ c1
            replace c2 := New.keep nZ c2
            replace c3 := New.keep nZ c3
            replace c4 := New.keep nZ c4
            replace c5 := New.keep nZ c5
            replace c6 := New.keep nZ c6
            replace c7 := New.keep nZ c7
            replace c8 := New.keep nZ c8
            replace c9 := New.keep nZ c9
            replace HN := Lib.hid (HN.out.trans nZ)
            replace HS := Lib.hid (HS.out.keep nZ)
            clear nZ zt HT2
            obtain ⟨b1, hb1⟩ : ∃ b, inR S.ax 1 x (x + 1) = b := ⟨_, rfl⟩
            obtain ⟨b2, hb2⟩ : ∃ b, inR S.az 1 z (z + 1) = b := ⟨_, rfl⟩
            have KW1 := Lib.hid (fun W => r_within S.ax 1 x (x + 1) W (by omega) (by omega) (by omega))
            have KW2 := Lib.hid (fun W => r_within S.az 1 z (z + 1) W (by omega) (by omega) (by omega))
            rw [hb1] at KW1
            rw [hb2] at KW2
            have HV : Hid (rV T x z S = if (b1 && b2) = true then [rcC T S.ax S.az 1] else []) := Lib.hid (by unfold rV; rw [hb1, hb2])
            clear hb1 hb2
            go_upto_region 18 with fail
            go_cut [91] (fun s91 Z => s91 = .bool (b1 && b2) ∧ X = Z)
            case first =>
              cases b1 with
              | false =>
                go_wp2_with fail
                refine (KW1.out _).mono ?_
                rintro e W2 ⟨rfl, rfl⟩
                go_wp2_with fail
                go_meet
                exact ⟨rfl, rfl⟩
              | true =>
                go_wp2_with fail
                refine (KW1.out _).mono ?_
                rintro e W2 ⟨rfl, rfl⟩
                go_wp2_with fail
                refine (KW2.out _).mono ?_
                rintro e W2 ⟨rfl, rfl⟩
                go_wp2_with fail
                go_meet
                exact ⟨by simp, rfl⟩
            case rest =>
              obtain ⟨rfl, rfl⟩ := hcut
              clear KW1 KW2
              generalize (b1 && b2) = bb at *
              have KC1 := Lib.hid (fun W => KC.out S.ax S.az 1 W (by omega) (by omega) (by omega))
              go_upto_if 91 with fail
              go_cut [8] (fun s8 Z => ∃ v3 : Value, v3 = s8 ∧ Hid (RS T x z (5 + 5 * i) Z v3 (preK T x z i 0)) ∧ New X Z)
              case first =>
                cases bb with
                | false =>
                  go_wp2_with fail
                  go_meet
                  exact ⟨_, rfl, Lib.hid (by rw [preK_zero, ← HSd.out]; exact HS.out.nothing (New.refl _) (by omega) HV.out), New.refl _⟩
                | true =>
                  have HM : Hid (rcC T S.ax S.az 1 ∈ comL T x z) := Lib.hid (rV_com HK.out hx hz i (by rw [← HSd.out, HV.out]; exact List.mem_singleton.2 rfl))
                  go_wp2_with fail
                  refine (KC1.out _).mono ?_
                  rintro e W3 ⟨rfl, n2⟩
                  have HS3 := Lib.hid (HS.out.keep n2)
                  have HX3 := Lib.hid n2
                  clear KC1 n2 c0 c1 c2 c3 c4 c5 c6 c7 c8 c9 p0 p2 q0 q2
                  go_wp2_with fail
                  refine (KP.out _ (by omega) _ _ _ HS3.out _ HM.out).mono ?_
                  rintro e W4 ⟨v3, rfl, hS, n2⟩
                  have HS4 : Hid (RS T x z (5 + 5 * i) W4 v3 (preK T x z i 0)) := Lib.hid (by rw [preK_zero, ← HSd.out, HV.out]; exact hS.more (by omega))
                  have HX4 := Lib.hid (HX3.out.trans n2)
                  clear hS n2
                  go_wp2_with fail
                  go_meet
                  exact ⟨_, rfl, HS4, HX4.out⟩
              case rest =>
                obtain ⟨v3, rfl, HS3, nY⟩ := hcut
                rename World => Y
                replace c0 := New.keep nY c0
                replace c1 := New.keep nY c1
                replace c2 := New.keep nY c2
                replace c3 := New.keep nY c3
                replace c4 := New.keep nY c4
                replace c5 := New.keep nY c5
                replace c6 := New.keep nY c6
                replace c7 := New.keep nY c7
                replace c8 := New.keep nY c8
                replace c9 := New.keep nY c9
                replace p0 := nY.keep p0
                replace p2 := nY.keep p2
                replace q0 := nY.keep q0
                replace q2 := nY.keep q2
                replace HN := Lib.hid (HN.out.trans nY)
                have HAB := Lib.hid (And.intro p0 (And.intro p2 (And.intro q0 q2)))
                have HT3 : Hid (TAt Y w.heap.size T) := Lib.hid (TAt.mk c0 c1 c2 c3 c4 c5 c6 c7 c8 c9)
                clear HS HV KC1 nY c0 c1 c2 c3 c4 c5 c6 c7 c8 c9 p0 p2 q0 q2
                go_wp2_with fail
                go_loopg [8, 14, 15, 16, 17, 18] 2 (fun gk s8 s14 s15 s16 s17 s18 wr => ∃ (k : Nat) (v4 : Value), v4 = s8 ∧ s14 = .int .i64 k ∧ k ≤ 2 ∧ 2 - k ≤ gk ∧ Hid (RS T x z (5 + 5 * i + 2 * k) wr v4 (preK T x z i k)) ∧ Hid (New Y wr))
                case atStart => exact ⟨0, _, rfl, rfl, by omega, by omega, HS3, Lib.hid (New.refl _)⟩
                case round =>
                  clear HS3
                  obtain ⟨k, v4, rfl, rfl, hk2, hgk4, HS, HY⟩ := hrel
                  by_cases hlt4 : k < 2
                  ·
                    have tk : decide ((k : Int) ≤ 1) = true := decide_eq_true (by omega)
                    obtain ⟨c0, c1, c2, c3, c4, c5, c6, c7, c8, c9⟩ := (show TAt wr w.heap.size T from fun i hi => HY.out.keep (HT3.out i hi)).cells
                    have p0 := HY.out.keep HAB.out.1
                    have p2 := HY.out.keep HAB.out.2.1
                    have q0 := HY.out.keep HAB.out.2.2.1
                    have q2 := HY.out.keep HAB.out.2.2.2
                    have HSN := Lib.hid (preK_succ T x z i k)
                    rw [← HSd.out] at HSN
                    obtain ⟨r, hr⟩ : ∃ r, rcr S.ax S.bx (x + (k : Int)) = r := ⟨_, rfl⟩
                    have KX := Lib.hid (fun W => r_crossing S.ax S.bx (x + (k : Int)) W (by omega) (by omega) (by omega) r hr)
                    obtain ⟨r', hr'⟩ : ∃ r, rcr S.az S.bz (z + (k : Int)) = r := ⟨_, rfl⟩
                    have KZ := Lib.hid (fun W => r_crossing S.az S.bz (z + (k : Int)) W (by omega) (by omega) (by omega) r' hr')
                    have HR := Lib.hid hr
                    have HR' := Lib.hid hr'
                    clear hr hr'
                    cases r with
                    | none =>
                      have HE : Hid (rX T z (x + (k : Int)) S = []) := Lib.hid (rX_none HR.out)
                      have HSx : Hid (RS T x z (5 + 5 * i + 2 * k + 1) wr v4 (preK T x z i k ++ rX T z (x + (k : Int)) S)) := Lib.hid (HS.out.nothing (New.refl _) (by omega) HE.out)
                      clear HE HR
                      go_wp2_with fail
                      refine (KX.out _).mono ?_
                      rintro e W2 ⟨rfl, rfl⟩
                      simp only [Option.elim_none, Option.isSome_none]
                      clear KX
                      cases r' with
                      | none =>
                        have HE : Hid (rZ T x (z + (k : Int)) S = []) := Lib.hid (rZ_none HR'.out)
                        have HSx' : Hid (RS T x z (5 + 5 * i + 2 * k + 1 + 1) wr v4 (preK T x z i k ++ rX T z (x + (k : Int)) S ++ rZ T x (z + (k : Int)) S)) := Lib.hid (HSx.out.nothing (New.refl _) (by omega) HE.out)
                        clear HE HR'
                        go_wp2_with fail
                        refine (KZ.out _).mono ?_
                        rintro e W2 ⟨rfl, rfl⟩
                        simp only [Option.elim_none, Option.isSome_none]
                        clear KZ
                        have HSE : Hid (RS T x z (5 + 5 * i + 2 * (k + 1)) wr v4 (preK T x z i (k + 1))) := Lib.hid (by rw [HSN.out, show 5 + 5 * i + 2 * (k + 1) = 5 + 5 * i + 2 * k + 1 + 1 by omega]; exact HSx'.out)
                        clear HSN HSx'
                        go_wp2_with fail
                        go_roundg (2 - (k + 1))
                        case measure => omega
                        case rel => exact ⟨k + 1, _, rfl, by go_num, by omega, by omega, HSE, HY⟩
                      | some pq =>
                        obtain ⟨p', q'⟩ := pq
                        obtain ⟨bq0', bq1', bp0', bp1'⟩ := rcr_bd (by omega) (by omega) HR'.out
                        have ma' := mul_bd (a := S.ax) (b := q') (A := 32) (B := 32) (by omega) (by omega)
                        have mb' := mul_bd (a := S.bx - S.ax) (b := p') (A := 32) (B := 32) (by omega) (by omega)
                        have mc' := mul_bd (a := z + (k : Int)) (b := q') (A := 33) (B := 32) (by omega) (by omega)
                        have KW' := Lib.hid (fun W => r_within (S.ax * q' + (S.bx - S.ax) * p') q' x (x + 1) W (by omega) (by omega) (by omega))
                        have KC'1 := Lib.hid (fun W => KC.out (S.ax * q' + (S.bx - S.ax) * p') ((z + (k : Int)) * q') q' W (by omega) (by omega) (by omega))
                        cases hin' : inR (S.ax * q' + (S.bx - S.ax) * p') q' x (x + 1) with
                        | false =>
                          rw [hin'] at KW'
                          have HE : Hid (rZ T x (z + (k : Int)) S = []) := Lib.hid (rZ_out HR'.out hin')
                          have HSx' : Hid (RS T x z (5 + 5 * i + 2 * k + 1 + 1) wr v4 (preK T x z i k ++ rX T z (x + (k : Int)) S ++ rZ T x (z + (k : Int)) S)) := Lib.hid (HSx.out.nothing (New.refl _) (by omega) HE.out)
                          clear HE HR' hin' KC'1
                          go_wp2_with fail
                          refine (KZ.out _).mono ?_
                          rintro e W2 ⟨rfl, rfl⟩
                          simp only [Option.elim_some, Option.isSome_some]
                          go_wp2_with fail
                          refine (KW'.out _).mono ?_
                          rintro e W2 ⟨rfl, rfl⟩
                          clear KZ KW'
                          clear c0 c1 c2 c3 c4 c5 c6 c7 c8 c9 p0 p2 q0 q2
                          have HSE : Hid (RS T x z (5 + 5 * i + 2 * (k + 1)) wr v4 (preK T x z i (k + 1))) := Lib.hid (by rw [HSN.out, show 5 + 5 * i + 2 * (k + 1) = 5 + 5 * i + 2 * k + 1 + 1 by omega]; exact HSx'.out)
                          clear HSN HSx'
                          go_wp2_with fail
                          go_roundg (2 - (k + 1))
                          case measure => omega
                          case rel => exact ⟨k + 1, _, rfl, by go_num, by omega, by omega, HSE, HY⟩
                        | true =>
                          rw [hin'] at KW'
                          have HE : Hid (rZ T x (z + (k : Int)) S = [rcC T (S.ax * q' + (S.bx - S.ax) * p') ((z + (k : Int)) * q') q']) := Lib.hid (rZ_in HR'.out hin')
                          have HM : Hid (rcC T (S.ax * q' + (S.bx - S.ax) * p') ((z + (k : Int)) * q') q' ∈ comL T x z) := Lib.hid (rZ_com HK.out (n := z + (k : Int)) (by omega) hi2 (by rw [← HSd.out, HE.out]; exact List.mem_singleton.2 rfl))
                          clear HR' hin'
                          go_wp2_with fail
                          refine (KZ.out _).mono ?_
                          rintro e W2 ⟨rfl, rfl⟩
                          simp only [Option.elim_some, Option.isSome_some]
                          go_wp2_with fail
                          refine (KW'.out _).mono ?_
                          rintro e W2 ⟨rfl, rfl⟩
                          go_wp2_with fail
                          refine (KC'1.out _).mono ?_
                          rintro e WZ3 ⟨rfl, n2⟩
                          clear c0 c1 c2 c3 c4 c5 c6 c7 c8 c9 p0 p2 q0 q2
                          have HSy' := Lib.hid (HSx.out.keep n2)
                          have HYy' := Lib.hid (HY.out.trans n2)
                          clear n2 KZ KW' KC'1
                          go_wp2_with fail
                          refine (KP.out _ (by omega) _ _ _ HSy'.out _ HM.out).mono ?_
                          rintro e WZ4 ⟨vZ, rfl, hS, n2⟩
                          have HSx' : Hid (RS T x z (5 + 5 * i + 2 * k + 1 + 1) WZ4 vZ (preK T x z i k ++ rX T z (x + (k : Int)) S ++ rZ T x (z + (k : Int)) S)) := Lib.hid (by rw [HE.out]; exact hS)
                          have HYx' := Lib.hid (HYy'.out.trans n2)
                          clear n2 hS HSy' HYy' HM HE
                          have HSE : Hid (RS T x z (5 + 5 * i + 2 * (k + 1)) WZ4 vZ (preK T x z i (k + 1))) := Lib.hid (by rw [HSN.out, show 5 + 5 * i + 2 * (k + 1) = 5 + 5 * i + 2 * k + 1 + 1 by omega]; exact HSx'.out)
                          clear HSN HSx'
                          go_wp2_with fail
                          go_roundg (2 - (k + 1))
                          case measure => omega
                          case rel => exact ⟨k + 1, _, rfl, by go_num, by omega, by omega, HSE, HYx'⟩
                    | some pq =>
                      obtain ⟨p, q⟩ := pq
                      obtain ⟨bq0, bq1, bp0, bp1⟩ := rcr_bd (by omega) (by omega) HR.out
                      have ma := mul_bd (a := S.az) (b := q) (A := 32) (B := 32) (by omega) (by omega)
                      have mb := mul_bd (a := S.bz - S.az) (b := p) (A := 32) (B := 32) (by omega) (by omega)
                      have mc := mul_bd (a := x + (k : Int)) (b := q) (A := 33) (B := 32) (by omega) (by omega)
                      have KW := Lib.hid (fun W => r_within (S.az * q + (S.bz - S.az) * p) q z (z + 1) W (by omega) (by omega) (by omega))
                      have KC1 := Lib.hid (fun W => KC.out ((x + (k : Int)) * q) (S.az * q + (S.bz - S.az) * p) q W (by omega) (by omega) (by omega))
                      cases hin : inR (S.az * q + (S.bz - S.az) * p) q z (z + 1) with
                      | false =>
                        rw [hin] at KW
                        have HE : Hid (rX T z (x + (k : Int)) S = []) := Lib.hid (rX_out HR.out hin)
                        have HSx : Hid (RS T x z (5 + 5 * i + 2 * k + 1) wr v4 (preK T x z i k ++ rX T z (x + (k : Int)) S)) := Lib.hid (HS.out.nothing (New.refl _) (by omega) HE.out)
                        clear HE HR hin KC1
                        go_wp2_with fail
                        refine (KX.out _).mono ?_
                        rintro e W2 ⟨rfl, rfl⟩
                        simp only [Option.elim_some, Option.isSome_some]
                        go_wp2_with fail
                        refine (KW.out _).mono ?_
                        rintro e W2 ⟨rfl, rfl⟩
                        clear KX KW
                        cases r' with
                        | none =>
                          have HE : Hid (rZ T x (z + (k : Int)) S = []) := Lib.hid (rZ_none HR'.out)
                          have HSx' : Hid (RS T x z (5 + 5 * i + 2 * k + 1 + 1) wr v4 (preK T x z i k ++ rX T z (x + (k : Int)) S ++ rZ T x (z + (k : Int)) S)) := Lib.hid (HSx.out.nothing (New.refl _) (by omega) HE.out)
                          clear HE HR'
                          go_wp2_with fail
                          refine (KZ.out _).mono ?_
                          rintro e W2 ⟨rfl, rfl⟩
                          simp only [Option.elim_none, Option.isSome_none]
                          clear KZ
                          have HSE : Hid (RS T x z (5 + 5 * i + 2 * (k + 1)) wr v4 (preK T x z i (k + 1))) := Lib.hid (by rw [HSN.out, show 5 + 5 * i + 2 * (k + 1) = 5 + 5 * i + 2 * k + 1 + 1 by omega]; exact HSx'.out)
                          clear HSN HSx'
                          go_wp2_with fail
                          go_roundg (2 - (k + 1))
                          case measure => omega
                          case rel => exact ⟨k + 1, _, rfl, by go_num, by omega, by omega, HSE, HY⟩
                        | some pq =>
                          obtain ⟨p', q'⟩ := pq
                          obtain ⟨bq0', bq1', bp0', bp1'⟩ := rcr_bd (by omega) (by omega) HR'.out
                          have ma' := mul_bd (a := S.ax) (b := q') (A := 32) (B := 32) (by omega) (by omega)
                          have mb' := mul_bd (a := S.bx - S.ax) (b := p') (A := 32) (B := 32) (by omega) (by omega)
                          have mc' := mul_bd (a := z + (k : Int)) (b := q') (A := 33) (B := 32) (by omega) (by omega)
                          have KW' := Lib.hid (fun W => r_within (S.ax * q' + (S.bx - S.ax) * p') q' x (x + 1) W (by omega) (by omega) (by omega))
                          have KC'1 := Lib.hid (fun W => KC.out (S.ax * q' + (S.bx - S.ax) * p') ((z + (k : Int)) * q') q' W (by omega) (by omega) (by omega))
                          cases hin' : inR (S.ax * q' + (S.bx - S.ax) * p') q' x (x + 1) with
                          | false =>
                            rw [hin'] at KW'
                            have HE : Hid (rZ T x (z + (k : Int)) S = []) := Lib.hid (rZ_out HR'.out hin')
                            have HSx' : Hid (RS T x z (5 + 5 * i + 2 * k + 1 + 1) wr v4 (preK T x z i k ++ rX T z (x + (k : Int)) S ++ rZ T x (z + (k : Int)) S)) := Lib.hid (HSx.out.nothing (New.refl _) (by omega) HE.out)
                            clear HE HR' hin' KC'1
                            go_wp2_with fail
                            refine (KZ.out _).mono ?_
                            rintro e W2 ⟨rfl, rfl⟩
                            simp only [Option.elim_some, Option.isSome_some]
                            go_wp2_with fail
                            refine (KW'.out _).mono ?_
                            rintro e W2 ⟨rfl, rfl⟩
                            clear KZ KW'
                            clear c0 c1 c2 c3 c4 c5 c6 c7 c8 c9 p0 p2 q0 q2
                            have HSE : Hid (RS T x z (5 + 5 * i + 2 * (k + 1)) wr v4 (preK T x z i (k + 1))) := Lib.hid (by rw [HSN.out, show 5 + 5 * i + 2 * (k + 1) = 5 + 5 * i + 2 * k + 1 + 1 by omega]; exact HSx'.out)
                            clear HSN HSx'
                            go_wp2_with fail
                            go_roundg (2 - (k + 1))
                            case measure => omega
                            case rel => exact ⟨k + 1, _, rfl, by go_num, by omega, by omega, HSE, HY⟩
                          | true =>
                            rw [hin'] at KW'
                            have HE : Hid (rZ T x (z + (k : Int)) S = [rcC T (S.ax * q' + (S.bx - S.ax) * p') ((z + (k : Int)) * q') q']) := Lib.hid (rZ_in HR'.out hin')
                            have HM : Hid (rcC T (S.ax * q' + (S.bx - S.ax) * p') ((z + (k : Int)) * q') q' ∈ comL T x z) := Lib.hid (rZ_com HK.out (n := z + (k : Int)) (by omega) hi2 (by rw [← HSd.out, HE.out]; exact List.mem_singleton.2 rfl))
                            clear HR' hin'
                            go_wp2_with fail
                            refine (KZ.out _).mono ?_
                            rintro e W2 ⟨rfl, rfl⟩
                            simp only [Option.elim_some, Option.isSome_some]
                            go_wp2_with fail
                            refine (KW'.out _).mono ?_
                            rintro e W2 ⟨rfl, rfl⟩
                            go_wp2_with fail
                            refine (KC'1.out _).mono ?_
                            rintro e WZ3 ⟨rfl, n2⟩
                            clear c0 c1 c2 c3 c4 c5 c6 c7 c8 c9 p0 p2 q0 q2
                            have HSy' := Lib.hid (HSx.out.keep n2)
                            have HYy' := Lib.hid (HY.out.trans n2)
                            clear n2 KZ KW' KC'1
                            go_wp2_with fail
                            refine (KP.out _ (by omega) _ _ _ HSy'.out _ HM.out).mono ?_
                            rintro e WZ4 ⟨vZ, rfl, hS, n2⟩
                            have HSx' : Hid (RS T x z (5 + 5 * i + 2 * k + 1 + 1) WZ4 vZ (preK T x z i k ++ rX T z (x + (k : Int)) S ++ rZ T x (z + (k : Int)) S)) := Lib.hid (by rw [HE.out]; exact hS)
                            have HYx' := Lib.hid (HYy'.out.trans n2)
                            clear n2 hS HSy' HYy' HM HE
                            have HSE : Hid (RS T x z (5 + 5 * i + 2 * (k + 1)) WZ4 vZ (preK T x z i (k + 1))) := Lib.hid (by rw [HSN.out, show 5 + 5 * i + 2 * (k + 1) = 5 + 5 * i + 2 * k + 1 + 1 by omega]; exact HSx'.out)
                            clear HSN HSx'
                            go_wp2_with fail
                            go_roundg (2 - (k + 1))
                            case measure => omega
                            case rel => exact ⟨k + 1, _, rfl, by go_num, by omega, by omega, HSE, HYx'⟩
                      | true =>
                        rw [hin] at KW
                        have HE : Hid (rX T z (x + (k : Int)) S = [rcC T ((x + (k : Int)) * q) (S.az * q + (S.bz - S.az) * p) q]) := Lib.hid (rX_in HR.out hin)
                        have HM : Hid (rcC T ((x + (k : Int)) * q) (S.az * q + (S.bz - S.az) * p) q ∈ comL T x z) := Lib.hid (rX_com HK.out (n := x + (k : Int)) (by omega) hi2 (by rw [← HSd.out, HE.out]; exact List.mem_singleton.2 rfl))
                        clear HR hin
                        go_wp2_with fail
                        refine (KX.out _).mono ?_
                        rintro e W2 ⟨rfl, rfl⟩
                        simp only [Option.elim_some, Option.isSome_some]
                        go_wp2_with fail
                        refine (KW.out _).mono ?_
                        rintro e W2 ⟨rfl, rfl⟩
                        go_wp2_with fail
                        refine (KC1.out _).mono ?_
                        rintro e WX3 ⟨rfl, n2⟩
                        replace c0 := New.keep n2 c0
                        replace c1 := New.keep n2 c1
                        replace c2 := New.keep n2 c2
                        replace c3 := New.keep n2 c3
                        replace c4 := New.keep n2 c4
                        replace c5 := New.keep n2 c5
                        replace c6 := New.keep n2 c6
                        replace c7 := New.keep n2 c7
                        replace c8 := New.keep n2 c8
                        replace c9 := New.keep n2 c9
                        replace p0 := n2.keep p0
                        replace p2 := n2.keep p2
                        replace q0 := n2.keep q0
                        replace q2 := n2.keep q2
                        have HSy := Lib.hid (HS.out.keep n2)
                        have HYy := Lib.hid (HY.out.trans n2)
                        clear n2 KX KW KC1
                        go_wp2_with fail
                        refine (KP.out _ (by omega) _ _ _ HSy.out _ HM.out).mono ?_
                        rintro e WX4 ⟨vX, rfl, hS, n2⟩
                        replace c0 := New.keep n2 c0
                        replace c1 := New.keep n2 c1
                        replace c2 := New.keep n2 c2
                        replace c3 := New.keep n2 c3
                        replace c4 := New.keep n2 c4
                        replace c5 := New.keep n2 c5
                        replace c6 := New.keep n2 c6
                        replace c7 := New.keep n2 c7
                        replace c8 := New.keep n2 c8
                        replace c9 := New.keep n2 c9
                        replace p0 := n2.keep p0
                        replace p2 := n2.keep p2
                        replace q0 := n2.keep q0
                        replace q2 := n2.keep q2
                        have HSx : Hid (RS T x z (5 + 5 * i + 2 * k + 1) WX4 vX (preK T x z i k ++ rX T z (x + (k : Int)) S)) := Lib.hid (by rw [HE.out]; exact hS)
                        have HYx := Lib.hid (HYy.out.trans n2)
                        clear n2 hS HSy HYy HM HE
                        cases r' with
                        | none =>
                          have HE : Hid (rZ T x (z + (k : Int)) S = []) := Lib.hid (rZ_none HR'.out)
                          have HSx' : Hid (RS T x z (5 + 5 * i + 2 * k + 1 + 1) WX4 vX (preK T x z i k ++ rX T z (x + (k : Int)) S ++ rZ T x (z + (k : Int)) S)) := Lib.hid (HSx.out.nothing (New.refl _) (by omega) HE.out)
                          clear HE HR'
                          go_wp2_with fail
                          refine (KZ.out _).mono ?_
                          rintro e W2 ⟨rfl, rfl⟩
                          simp only [Option.elim_none, Option.isSome_none]
                          clear KZ
                          have HSE : Hid (RS T x z (5 + 5 * i + 2 * (k + 1)) WX4 vX (preK T x z i (k + 1))) := Lib.hid (by rw [HSN.out, show 5 + 5 * i + 2 * (k + 1) = 5 + 5 * i + 2 * k + 1 + 1 by omega]; exact HSx'.out)
                          clear HSN HSx'
                          go_wp2_with fail
                          go_roundg (2 - (k + 1))
                          case measure => omega
                          case rel => exact ⟨k + 1, _, rfl, by go_num, by omega, by omega, HSE, HYx⟩
                        | some pq =>
                          obtain ⟨p', q'⟩ := pq
                          obtain ⟨bq0', bq1', bp0', bp1'⟩ := rcr_bd (by omega) (by omega) HR'.out
                          have ma' := mul_bd (a := S.ax) (b := q') (A := 32) (B := 32) (by omega) (by omega)
                          have mb' := mul_bd (a := S.bx - S.ax) (b := p') (A := 32) (B := 32) (by omega) (by omega)
                          have mc' := mul_bd (a := z + (k : Int)) (b := q') (A := 33) (B := 32) (by omega) (by omega)
                          have KW' := Lib.hid (fun W => r_within (S.ax * q' + (S.bx - S.ax) * p') q' x (x + 1) W (by omega) (by omega) (by omega))
                          have KC'1 := Lib.hid (fun W => KC.out (S.ax * q' + (S.bx - S.ax) * p') ((z + (k : Int)) * q') q' W (by omega) (by omega) (by omega))
                          cases hin' : inR (S.ax * q' + (S.bx - S.ax) * p') q' x (x + 1) with
                          | false =>
                            rw [hin'] at KW'
                            have HE : Hid (rZ T x (z + (k : Int)) S = []) := Lib.hid (rZ_out HR'.out hin')
                            have HSx' : Hid (RS T x z (5 + 5 * i + 2 * k + 1 + 1) WX4 vX (preK T x z i k ++ rX T z (x + (k : Int)) S ++ rZ T x (z + (k : Int)) S)) := Lib.hid (HSx.out.nothing (New.refl _) (by omega) HE.out)
                            clear HE HR' hin' KC'1
                            go_wp2_with fail
                            refine (KZ.out _).mono ?_
                            rintro e W2 ⟨rfl, rfl⟩
                            simp only [Option.elim_some, Option.isSome_some]
                            go_wp2_with fail
                            refine (KW'.out _).mono ?_
                            rintro e W2 ⟨rfl, rfl⟩
                            clear KZ KW'
                            clear c0 c1 c2 c3 c4 c5 c6 c7 c8 c9 p0 p2 q0 q2
                            have HSE : Hid (RS T x z (5 + 5 * i + 2 * (k + 1)) WX4 vX (preK T x z i (k + 1))) := Lib.hid (by rw [HSN.out, show 5 + 5 * i + 2 * (k + 1) = 5 + 5 * i + 2 * k + 1 + 1 by omega]; exact HSx'.out)
                            clear HSN HSx'
                            go_wp2_with fail
                            go_roundg (2 - (k + 1))
                            case measure => omega
                            case rel => exact ⟨k + 1, _, rfl, by go_num, by omega, by omega, HSE, HYx⟩
                          | true =>
                            rw [hin'] at KW'
                            have HE : Hid (rZ T x (z + (k : Int)) S = [rcC T (S.ax * q' + (S.bx - S.ax) * p') ((z + (k : Int)) * q') q']) := Lib.hid (rZ_in HR'.out hin')
                            have HM : Hid (rcC T (S.ax * q' + (S.bx - S.ax) * p') ((z + (k : Int)) * q') q' ∈ comL T x z) := Lib.hid (rZ_com HK.out (n := z + (k : Int)) (by omega) hi2 (by rw [← HSd.out, HE.out]; exact List.mem_singleton.2 rfl))
                            clear HR' hin'
                            go_wp2_with fail
                            refine (KZ.out _).mono ?_
                            rintro e W2 ⟨rfl, rfl⟩
                            simp only [Option.elim_some, Option.isSome_some]
                            go_wp2_with fail
                            refine (KW'.out _).mono ?_
                            rintro e W2 ⟨rfl, rfl⟩
                            go_wp2_with fail
                            refine (KC'1.out _).mono ?_
                            rintro e WZ3 ⟨rfl, n2⟩
                            clear c0 c1 c2 c3 c4 c5 c6 c7 c8 c9 p0 p2 q0 q2
                            have HSy' := Lib.hid (HSx.out.keep n2)
                            have HYy' := Lib.hid (HYx.out.trans n2)
                            clear n2 KZ KW' KC'1
                            go_wp2_with fail
                            refine (KP.out _ (by omega) _ _ _ HSy'.out _ HM.out).mono ?_
                            rintro e WZ4 ⟨vZ, rfl, hS, n2⟩
                            have HSx' : Hid (RS T x z (5 + 5 * i + 2 * k + 1 + 1) WZ4 vZ (preK T x z i k ++ rX T z (x + (k : Int)) S ++ rZ T x (z + (k : Int)) S)) := Lib.hid (by rw [HE.out]; exact hS)
                            have HYx' := Lib.hid (HYy'.out.trans n2)
                            clear n2 hS HSy' HYy' HM HE
                            have HSE : Hid (RS T x z (5 + 5 * i + 2 * (k + 1)) WZ4 vZ (preK T x z i (k + 1))) := Lib.hid (by rw [HSN.out, show 5 + 5 * i + 2 * (k + 1) = 5 + 5 * i + 2 * k + 1 + 1 by omega]; exact HSx'.out)
                            clear HSN HSx'
                            go_wp2_with fail
                            go_roundg (2 - (k + 1))
                            case measure => omega
                            case rel => exact ⟨k + 1, _, rfl, by go_num, by omega, by omega, HSE, HYx'⟩
                  · have tk : decide ((k : Int) ≤ 1) = false := decide_eq_false (by omega)
                    have HSE : Hid (RS T x z (4 + 5 * (i + 1)) wr v4 (preS T x z (i + 1))) := Lib.hid (by rw [← preK_two, show (2 : Nat) = k by omega, show 4 + 5 * (i + 1) = 5 + 5 * i + 2 * k by omega]; exact HS.out)
                    have HNE := Lib.hid (HN.out.trans HY.out)
                    clear HS HY HSd
                    go_wp2_with fail
                    go_roundg (3 - (i + 1))
                    case measure => omega
                    case rel => exact ⟨i + 1, I + 1, _, rfl, by go_num, by omega, by omega, by omega, by omega, Lib.hid (by rw [HI.out]; rfl), HSE, HNE⟩
        · have ti : decide (I < 3) = false := decide_eq_false hlt3
          have e3 : i = 3 := by have := HI.out; omega
          obtain ⟨R, hR, hC, -⟩ := RS.cor HK.out hx hz (e3 ▸ HS.out)
          have HRR := Lib.hid (And.intro hR hC)
          clear hR hC e3 HS
          go_wp2_with fail
          refine bodyPost_ret (v := .tuple #[v2, .int .i64 0]) (by simp [results, Tryz.results71, go_sem, *]) rfl ?_
          exact ⟨_, R, rfl, HRR.out.1, HRR.out.2, HN0.out.trans HN.out⟩

end Go.Proofs.YtklopjbpfddgfaaGreat
