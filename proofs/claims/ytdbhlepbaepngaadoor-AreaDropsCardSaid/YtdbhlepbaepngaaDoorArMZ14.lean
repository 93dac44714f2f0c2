import Derived.Test.YtdbhlepbaepngaaDoorArKZ14
import Derived.Test.YtdbhlepbaepngaaDoorArJZ14
import Derived.Test.YtdbhlepbaepngaaDoorSlAppZ14

/- The law AreaDrops. -/
namespace Go.Proofs.YtdbhlepbaepngaaDoor
open Go.RowKit
set_option linter.unusedVariables false

theorem ad_bx_info : (Tryd.prog.info? 24).map (fun i => (i.zero, i.size, i.bytes)) = some (some (.agg #[.int .i64 0, .int .i64 0, .int .i64 0, .int .i64 0, .int .i64 0, .int .i64 0, .int .i64 0, .int .i64 0]), 8, 64) := by kernel_rfl
/-- A result of Mark: its error apart. -/
theorem outs_of {er : Int} {G : Gd} {l : List BoxR} {w w' : World} {e : Ending} (h : Outs er G.x G.z G.w G.d (markL G l) w e w') : ∃ O : Gd, e = .returned (.tuple #[.agg #[.int .i64 O.x, .int .i64 O.z, .int .i64 O.w, .int .i64 O.d, .slice O.ga O.L.length O.gc], .int .i64 er]) ∧ O.ok w' ∧ (er = 0 → MadeBy O G l) ∧ New w w' := by
  obtain ⟨O, he, hr, h1, -, hn⟩ := h
  exact ⟨O, he, hr.rows, fun h => by obtain ⟨a, b, c, d, f⟩ := h1 h; exact ⟨a, b, c, d, f⟩, hn⟩
theorem row_take {w : World} {b off : Nat} {l : List BoxR} (h : RowAt BoxR.enc 8 w b off l) {cap j : Nat} (hj : j ≤ l.length) (hc : l.length ≤ cap) (hm : cap ≤ maxLen) : Sl BoxR.enc 8 w (.slice (some ⟨b, off, none⟩) j cap) (l.take j) :=
  ⟨_, _, by rw [List.length_take, Nat.min_eq_left hj], by rw [List.length_take]; omega, hm, fun e => (by cases e), fun _ => ⟨b, off, rfl, h.take j⟩⟩
theorem row_drop {w : World} {b off : Nat} {l : List BoxR} (h : RowAt BoxR.enc 8 w b off l) {cap j : Nat} (hj : j ≤ l.length) (hc : l.length ≤ cap) (hm : cap ≤ maxLen) : Sl BoxR.enc 8 w (.slice (some ⟨b, off + j * 8, none⟩) (l.length - j) (cap - j)) (l.drop j) :=
  ⟨_, _, by rw [List.length_drop], by rw [List.length_drop]; omega, by omega, fun e => (by cases e), fun _ => ⟨b, off + j * 8, rfl, h.drop j⟩⟩
/-- Which box, as it is computed. -/
theorem which_is (x : Int) {n : Nat} (h : 0 < n) : ∃ j : Nat, j < n ∧ (x.tmod (n : Int) + n).tmod (n : Int) = (j : Int) ∧ -(n : Int) < x.tmod (n : Int) ∧ x.tmod (n : Int) < n := by
  have h1 : -(n : Int) < x.tmod (n : Int) ∧ x.tmod (n : Int) < n := by
    have hx : (x.tmod (n : Int)).natAbs < n := by
      rw [Int.natAbs_tmod]
      exact Nat.mod_lt _ (by omega)
    omega
  have h2 : 0 ≤ x.tmod (n : Int) + n := by omega
  have h3 := Int.tmod_nonneg (n : Int) h2
  have h4 := Int.tmod_lt_of_pos (x.tmod (n : Int) + n) (show (0 : Int) < n by omega)
  exact ⟨((x.tmod (n : Int) + n).tmod (n : Int)).toNat, by omega, by omega, h1.1, h1.2⟩

set_option maxHeartbeats 8000000 in
set_option maxRecDepth 100000 in
theorem l_areaDrops (C : CfgR) (G : Gd) (at0 : Option Addr) (l : List BoxR) (cap : Nat) (wh : Int) (w : World) (hN : Nowhere w) (hG : G.ok w) (hs : Sl BoxR.enc 8 w (.slice at0 l.length cap) l) :
    Calls Tryd.prog 5 #[.agg #[.int .i64 C.cl, .int .i64 C.cb, .int .i64 C.ht, .int .i64 C.ri, .int .i64 C.ru, .int .i64 C.wd, .int .i64 C.dp], .agg #[.int .i64 G.x, .int .i64 G.z, .int .i64 G.w, .int .i64 G.d, .slice G.ga G.L.length G.gc], .slice at0 l.length cap, .int .i64 wh] w fun e w' => e = .returned (.bool true) ∧ New w w' := by
  obtain ⟨i0, hi0, hz0, hz1, hz2⟩ := info_parts ad_bx_info
  have HL := Lib.hid hs.row'.2.2.2.2
  have hlc := hs.row'.2.1
  have hcm := hs.row'.2.2.1
  have KW := Lib.hid (fun W n => ar_wakes W (hN.new (n : New w W)))
  have KG := Lib.hid (fun W n => ar_great G W (hG.keep (n : New w W)))
  have KO := Lib.hid (fun (O : Gd) (at2 : Option Addr) (b : List BoxR) (cp : Nat) (hb : b.length ≤ maxLen) W n hO H => (ar_Mark C O at2 b cp hb W (hN.new (n : New w W)) hO H).mono fun e w' h => outs_of h)
  have HOK := Lib.hid (fun W n => hG.keep (n : New w W))
  have KF := Lib.hid (fun (at2 : Option Addr) (b : List BoxR) (cp : Nat) (x z y : Int) (hb : b.length ≤ maxLen) W H => ar_Of at2 b cp x z y hb W H)
  have KI := Lib.hid (fun (X : BoxR) (x z y : Int) W => ar_In X x z y W)
  obtain ⟨gn, hgn⟩ : ∃ q, q = G.L.length := ⟨_, rfl⟩
  obtain ⟨ln, hln⟩ : ∃ q, q = l.length := ⟨_, rfl⟩
  rw [← hgn] at KG ⊢
  rw [← hln] at hlc ⊢
  have HLN := Lib.hid hln
  have HGN := Lib.hid hgn
  unfold maxLen at hcm
  clear hgn hln hG hN hs
  go_enter Tryd.func5, Tryd.ntmps5
  go_upto_region 1 with fail
  refine Code.at (fun W0 hW => ?_)
  have n0 : New w W0 := by subst hW; (repeat (first | (with_reducible exact New.refl _) | (with_reducible assumption) | ((with_reducible refine New.setB ?_ ?_ _); focus (first | omega | (simp; omega) | (simp; done))) | (with_reducible refine New.alloc ?_ _) | (with_reducible refine New.drew ?_) | (with_reducible refine New.drewN ?_ _) | (with_reducible refine New.hat ?_ _) | ((with_reducible apply New.snart); (with_reducible assumption))))
  have c0 : W0.cell? ⟨w.heap.size, 0, none⟩ = some (.int .i64 C.cl) := by subst hW; go_simp
  have c1 : W0.cell? ⟨w.heap.size, 1, none⟩ = some (.int .i64 C.cb) := by subst hW; go_simp
  have c2 : W0.cell? ⟨w.heap.size, 2, none⟩ = some (.int .i64 C.ht) := by subst hW; go_simp
  have c3 : W0.cell? ⟨w.heap.size, 3, none⟩ = some (.int .i64 C.ri) := by subst hW; go_simp
  have c4 : W0.cell? ⟨w.heap.size, 4, none⟩ = some (.int .i64 C.ru) := by subst hW; go_simp
  have c5 : W0.cell? ⟨w.heap.size, 5, none⟩ = some (.int .i64 C.wd) := by subst hW; go_simp
  have c6 : W0.cell? ⟨w.heap.size, 6, none⟩ = some (.int .i64 C.dp) := by subst hW; go_simp
  have g0 : W0.cell? ⟨w.heap.size + 1, 0, none⟩ = some (.int .i64 G.x) := by subst hW; go_simp
  have g1 : W0.cell? ⟨w.heap.size + 1, 1, none⟩ = some (.int .i64 G.z) := by subst hW; go_simp
  have g2 : W0.cell? ⟨w.heap.size + 1, 2, none⟩ = some (.int .i64 G.w) := by subst hW; go_simp
  have g3 : W0.cell? ⟨w.heap.size + 1, 3, none⟩ = some (.int .i64 G.d) := by subst hW; go_simp
  have g4 : W0.cell? ⟨w.heap.size + 1, 4, none⟩ = some (.slice G.ga gn G.gc) := by subst hW; go_simp
  clear hW
  obtain ⟨Bc, hBc⟩ : ∃ q, q = w.heap.size := ⟨_, rfl⟩
  obtain ⟨Bg, hBg⟩ : ∃ q, q = w.heap.size + 1 := ⟨_, rfl⟩
  rw [← hBg] at g0 g1 g2 g3 g4
  rw [← hBc] at c0 c1 c2 c3 c4 c5 c6
  rw [← hBg, ← hBc]
  clear hBc hBg
  have HC := Lib.hid (fun W (q : New W0 W) => And.intro (q.keep c0) (And.intro (q.keep c1) (And.intro (q.keep c2) (And.intro (q.keep c3) (And.intro (q.keep c4) (And.intro (q.keep c5) (q.keep c6)))))))
  have HG := Lib.hid (fun W (q : New W0 W) => And.intro (q.keep g0) (And.intro (q.keep g1) (And.intro (q.keep g2) (And.intro (q.keep g3) (q.keep g4)))))
  have N0 := Lib.hid n0
  clear n0 c0 c1 c2 c3 c4 c5 c6
  go_wp2_with fail
  refine (KG.out _ N0.out).mono ?_
  rintro e w1 ⟨b1, rfl, hb1, n1⟩
  have N1 := Lib.hid n1
  clear n1 g0 g1 g2 g3 g4 KG
  cases b1
  rotate_left
  · clear hb1
    go_wp2_with fail
    refine (KW.out _ (N0.out.trans N1.out)).mono ?_
    rintro e w2 ⟨rfl, n2⟩
    have nn := N0.out.trans (N1.out.trans n2)
    go_wp2_with fail
    go_ret
    exact ⟨rfl, nn⟩
  have HSM := Lib.hid (hb1 rfl)
  clear hb1
  by_cases h16 : 16 < ln
  · have hd : decide (16 < ln) = true := decide_eq_true h16
    have hd2 : ((ln : Int) > 16) := by omega
    clear h16
    go_wp2_with fail
    refine (KW.out _ (N0.out.trans N1.out)).mono ?_
    rintro e w2 ⟨rfl, n2⟩
    have nn := N0.out.trans (N1.out.trans n2)
    go_wp2_with fail
    go_ret
    exact ⟨rfl, nn⟩
  by_cases h00 : ln = 0
  · subst h00
    go_wp2_with fail
    refine (KW.out _ (N0.out.trans N1.out)).mono ?_
    rintro e w2 ⟨rfl, n2⟩
    have nn := N0.out.trans (N1.out.trans n2)
    go_wp2_with fail
    go_ret
    exact ⟨rfl, nn⟩
  have hd : decide (16 < ln) = false := decide_eq_false h16
  have hd2 : ¬ ((ln : Int) > 16) := by omega
  have hd3 : ((ln : Int) == 0) = false := by rw [beq_eq_false_iff_ne]; omega
  have hl16 : ln ≤ 16 := by omega
  obtain ⟨b, off, rfl, hRow⟩ := HL.out (by rw [← HLN.out]; omega)
  obtain ⟨j, hj, hr2, hp1, hp2⟩ := which_is wh (n := ln) (by omega)
  obtain ⟨p, hp⟩ : ∃ p, p = wh.tmod (ln : Int) := ⟨_, rfl⟩
  rw [← hp] at hr2 hp1 hp2
  have hr1 : wh.tmod (ln : Int) = p := hp.symm
  have hw1 : IntKind.i64.wrap p = p := IntWalk.i64_in _ (by omega)
  have hw2 : IntKind.i64.wrap (p + (ln : Int)) = p + ln := IntWalk.i64_in _ (by omega)
  have hw3 : IntKind.i64.wrap (j : Int) = j := IntWalk.i64_in _ (by omega)
  have hw4 : IntKind.i64.wrap ((j : Int) + 1) = ((j + 1 : Nat) : Int) := by rw [IntWalk.i64_in _ (by omega)]; omega
  have hln0 : ¬ ln = 0 := h00
  have hlni : ¬ (ln : Int) = 0 := by omega
  have HROW := Lib.hid (fun W (n : New w W) => hRow.keep n)
  have HH00 := Lib.hid h00
  clear h16 h00 hp hRow
  go_upto_region 6 with fail
  clear hd hd2 hd3 hr1 hw1 hw2 hr2
  obtain ⟨b0, hb0⟩ : ∃ q, q = w1.heap.size := ⟨_, rfl⟩
  have HB0 := Lib.hid hb0
  clear hb0
  have hjl : j ≤ l.length := by rw [← HLN.out]; omega
  have hj1l : j + 1 ≤ l.length := by rw [← HLN.out]; omega
  have HT1 := Lib.hid (fun W (n : New w W) => row_take (HROW.out W n) hjl (by rw [← HLN.out]; exact hlc) (by unfold maxLen; exact hcm))
  have HT2 := Lib.hid (fun W (n : New w W) => (by have h := row_drop (HROW.out W n) hj1l (by rw [← HLN.out]; exact hlc) (by unfold maxLen; exact hcm); rw [← HLN.out] at h; exact h : Sl BoxR.enc 8 W (.slice (some ⟨b, off + (j + 1) * 8, none⟩) (ln - (j + 1)) (cap - (j + 1))) (l.drop (j + 1))))
  have ht1 : (l.take j).length = j := by rw [List.length_take]; omega
  have ht2 : (l.drop (j + 1)).length = ln - (j + 1) := by rw [List.length_drop, HLN.out]
  clear hjl hj1l
  go_upto_region 7 with (at_builtin; refine wpList_append_sl rfl _ _ 22 rfl BoxR.enc_len BoxR.enc_one b0 24 i0 _ 64 Tryd.underlying22 hi0 hz0 hz1 hz2 rfl (by decide) _ ([] : List BoxR) rfl (World.ownsRow_nil _ _ _ _) _ (l.take j) rfl (HT1.out _ (N0.out.trans N1.out)) (by unfold maxLen; simp; omega) (by simp; omega) (Nat.le_of_eq HB0.out) ?_; intro v' w5 hown' hnew _; obtain ⟨a', d', N', hN', rfl⟩ := own_shape2 hown'; clear hN'; have nw1 := hnew w1 (New.refl _) (Nat.le_of_eq HB0.out.symm))
  rw [List.nil_append] at hown'
  have HOW := Lib.hid hown'
  have NW := Lib.hid nw1
  clear hown' hnew nw1
  go_cut [10] (fun s10 Z => ∃ (a2 : Option Addr) (N2 d2 : Nat), s10 = .slice a2 N2 d2 ∧ Hid (Z.ownsRow b0 24 8 (.slice a2 N2 d2) (l.take j ++ l.drop (j + 1)).length ((l.take j ++ l.drop (j + 1)).flatMap BoxR.enc)) ∧ Hid (New w1 Z))
  case first =>
    by_cases hcap : cap = j + 1
    · have hlj : ln = j + 1 := by omega
      have hdn : l.drop (j + 1) = [] := List.drop_eq_nil_of_le (by rw [← HLN.out]; omega)
      have HT3 := Lib.hid (fun W => (⟨_, 0, rfl, Nat.le_refl _, by unfold maxLen; omega, fun e => (by cases e), RowIn.nil⟩ : Sl BoxR.enc 8 W (.slice (some ⟨b, off, none⟩) ([] : List BoxR).length 0) []))
      have HDN := Lib.hid hdn
      subst hcap
      subst hlj
      clear HT2 HT1 hdn
      go_wp2_with (at_builtin; refine wpList_append_sl rfl _ _ 22 rfl BoxR.enc_len BoxR.enc_one b0 24 i0 _ 64 Tryd.underlying22 hi0 hz0 hz1 hz2 rfl (by decide) _ (l.take j) rfl HOW.out _ ([] : List BoxR) rfl (HT3.out _) (by unfold maxLen; simp; omega) (by simp; omega) (by have := HB0.out; have := NW.out.size; omega) ?_; intro v' w5 hown' hnew _; obtain ⟨a2, d2, N2, hN2, rfl⟩ := own_shape2 hown'; clear hN2; have nw2 := hnew w1 NW.out (Nat.le_of_eq HB0.out.symm))
      have HO := Lib.hid hown'
      have NN := Lib.hid nw2
      clear hown' hnew nw2
      go_meet
      exact ⟨a2, N2, d2, rfl, Lib.hid (by rw [HDN.out]; exact HO.out), NN⟩
    · have hc2 : ¬ (cap - (j + 1) = 0) := by omega
      have hc3 : ¬ (cap = j + 1) := hcap
      have HCP := Lib.hid hcap
      clear hcap
      go_wp2_with (at_builtin; refine wpList_append_sl rfl _ _ 22 rfl BoxR.enc_len BoxR.enc_one b0 24 i0 _ 64 Tryd.underlying22 hi0 hz0 hz1 hz2 rfl (by decide) _ (l.take j) rfl HOW.out _ (l.drop (j + 1)) rfl (HT2.out _ (N0.out.trans (N1.out.trans NW.out))) (by unfold maxLen; omega) (by omega) (by have := HB0.out; have := NW.out.size; omega) ?_; intro v' w5 hown' hnew _; obtain ⟨a2, d2, N2, hN2, rfl⟩ := own_shape2 hown'; clear hN2; have nw2 := hnew w1 NW.out (Nat.le_of_eq HB0.out.symm))
      have HO := Lib.hid hown'
      have NN := Lib.hid nw2
      clear hown' hnew nw2
      go_meet
      exact ⟨a2, N2, d2, rfl, HO, NN⟩
  case rest =>
    obtain ⟨a2, N2, d2, rfl, HO, NN⟩ := hcut
    obtain ⟨R, hR⟩ : ∃ R, R = l.take j ++ l.drop (j + 1) := ⟨_, rfl⟩
    rw [← hR] at HO
    have HRD := Lib.hid hR
    have hRl : R.length + 1 = ln := by rw [hR, List.length_append, ht1, ht2]; omega
    obtain ⟨ra, rc, e1, e2, e3, e4, hrow⟩ := own_sl BoxR.enc_len HO.out
    obtain ⟨rfl, rfl, rfl⟩ : a2 = ra ∧ N2 = R.length ∧ d2 = rc := by injection e1 with a b c; exact ⟨a, b, c⟩
    rename_i Z0
    have HR2 := Lib.hid (fun W (n : New wc W) => hrow.keep n)
    have N2 := Lib.hid NN.out
    have hRS : ∀ q ∈ R, q ∈ l := fun q hq => by
      rw [hR] at hq
      rcases List.mem_append.1 hq with h | h
      · exact List.mem_of_mem_take h
      · exact List.mem_of_mem_drop h
    have HRS := Lib.hid hRS
    have K1 := Lib.hid (by have h := KO.out G (some ⟨b, off, none⟩) l cap (by rw [← HLN.out]; unfold maxLen; omega); rw [← HLN.out, ← HGN.out] at h; exact h)
    have hE0 : markE C G l = 0 → C.err = 0 ∧ gE G = 0 ∧ l.length ≤ 16 ∧ ∀ b ∈ l, b.may C = true := fun h => markE_is h
    generalize markE C G l = E at *
    have HE0 := Lib.hid hE0
    clear e1 e2 e3 e4 hrow HO NN hE0 hRS HT1 HT2 HOW NW hR
    obtain ⟨c0, c1, c2, c3, c4, c5, c6⟩ := HC.out _ (N1.out.trans N2.out)
    obtain ⟨g0, g1, g2, g3, g4⟩ := HG.out _ (N1.out.trans N2.out)
    go_wp2_with fail
    refine (K1.out _ (N0.out.trans (N1.out.trans N2.out)) (HOK.out _ (N0.out.trans (N1.out.trans N2.out))) (fun _ => ⟨b, off, rfl, HROW.out _ (N0.out.trans (N1.out.trans N2.out))⟩)).mono ?_
    rintro e w4 ⟨A, rfl, hAok, hAm, n4⟩
    clear c0 c1 c2 c3 c4 c5 c6 g0 g1 g2 g3 g4 K1
    go_upto_region 9 with fail
    refine Code.at (fun W5 hW => ?_)
    have n5 : New w4 W5 := by subst hW; (repeat (first | (with_reducible exact New.refl _) | (with_reducible assumption) | ((with_reducible refine New.setB ?_ ?_ _); focus (first | omega | (simp; omega) | (simp; done))) | (with_reducible refine New.alloc ?_ _) | (with_reducible refine New.drew ?_) | (with_reducible refine New.drewN ?_ _) | (with_reducible refine New.hat ?_ _) | ((with_reducible apply New.snart); (with_reducible assumption))))
    have u0 : W5.cell? ⟨w4.heap.size, 0, none⟩ = some (.int .i64 A.x) := by subst hW; go_simp
    have u1 : W5.cell? ⟨w4.heap.size, 1, none⟩ = some (.int .i64 A.z) := by subst hW; go_simp
    have u2 : W5.cell? ⟨w4.heap.size, 2, none⟩ = some (.int .i64 A.w) := by subst hW; go_simp
    have u3 : W5.cell? ⟨w4.heap.size, 3, none⟩ = some (.int .i64 A.d) := by subst hW; go_simp
    have u4 : W5.cell? ⟨w4.heap.size, 4, none⟩ = some (.slice A.ga A.L.length A.gc) := by subst hW; go_simp
    clear hW
    obtain ⟨PA, hPA⟩ : ∃ q, q = w4.heap.size := ⟨_, rfl⟩
    rw [← hPA] at u0 u1 u2 u3 u4
    rw [← hPA]
    clear hPA
    have HA := Lib.hid (fun W (q : New W5 W) => And.intro (q.keep u0) (And.intro (q.keep u1) (And.intro (q.keep u2) (And.intro (q.keep u3) (q.keep u4)))))
    have HAK := Lib.hid (fun W (n : New W5 W) => hAok.keep (n5.trans n))
    have HAM := Lib.hid hAm
    have n45 := n4.trans n5
    have N5 := Lib.hid (N2.out.trans n45)
    have HR5 := Lib.hid (fun W (n : New W5 W) => HR2.out W (n45.trans n))
    have K2 := Lib.hid (KO.out A a2 R d2 (by unfold maxLen; omega))
    clear hAok hAm n4 n5 n45 HR2
    obtain ⟨c0, c1, c2, c3, c4, c5, c6⟩ := HC.out _ (N1.out.trans N5.out)
    have hE2 : E = 0 → markE C A R = 0 := fun h => by
      obtain ⟨q1, q2, q3, q4⟩ := HE0.out h
      exact markE_of q1 ((HAM.out h).fine q2 (fun b hb => may_area (q4 b hb))) (by omega) (fun b hb => q4 b (HRS.out b hb))
    generalize markE C A R = E2 at *
    have HE2 := Lib.hid hE2
    clear hE2
    go_wp2_with fail
    refine (K2.out _ (N0.out.trans (N1.out.trans N5.out)) (HAK.out _ (New.refl _)) (HR5.out _ (New.refl _))).mono ?_
    rintro e w6 ⟨B, rfl, hBok, hBm, n6⟩
    clear c0 c1 c2 c3 c4 c5 c6 u0 u1 u2 u3 u4 K2 KO
    go_upto_region 10 with fail
    refine Code.at (fun W7 hW => ?_)
    have n7 : New w6 W7 := by subst hW; (repeat (first | (with_reducible exact New.refl _) | (with_reducible assumption) | ((with_reducible refine New.setB ?_ ?_ _); focus (first | omega | (simp; omega) | (simp; done))) | (with_reducible refine New.alloc ?_ _) | (with_reducible refine New.drew ?_) | (with_reducible refine New.drewN ?_ _) | (with_reducible refine New.hat ?_ _) | ((with_reducible apply New.snart); (with_reducible assumption))))
    have u0 : W7.cell? ⟨w6.heap.size, 0, none⟩ = some (.int .i64 B.x) := by subst hW; go_simp
    have u1 : W7.cell? ⟨w6.heap.size, 1, none⟩ = some (.int .i64 B.z) := by subst hW; go_simp
    have u2 : W7.cell? ⟨w6.heap.size, 2, none⟩ = some (.int .i64 B.w) := by subst hW; go_simp
    have u3 : W7.cell? ⟨w6.heap.size, 3, none⟩ = some (.int .i64 B.d) := by subst hW; go_simp
    have u4 : W7.cell? ⟨w6.heap.size, 4, none⟩ = some (.slice B.ga B.L.length B.gc) := by subst hW; go_simp
    clear hW
    obtain ⟨PB, hPB⟩ : ∃ q, q = w6.heap.size := ⟨_, rfl⟩
    rw [← hPB] at u0 u1 u2 u3 u4
    rw [← hPB]
    clear hPB
    have HBB := Lib.hid (fun W (q : New W7 W) => And.intro (q.keep u0) (And.intro (q.keep u1) (And.intro (q.keep u2) (And.intro (q.keep u3) (q.keep u4)))))
    have HBK := Lib.hid (fun W (n : New W7 W) => hBok.keep (n7.trans n))
    have HBM := Lib.hid hBm
    have n67 := n6.trans n7
    have N7 := Lib.hid (N1.out.trans (N5.out.trans n67))
    have HA7 := Lib.hid (fun W (n : New W7 W) => HA.out W (n67.trans n))
    have HAK7 := Lib.hid (fun W (n : New W7 W) => HAK.out W (n67.trans n))
    have HR7 := Lib.hid (fun W (n : New W7 W) => HR5.out W (n67.trans n))
    clear u0 u1 u2 u3 u4 hBok hBm n6 n7 n67 HA HAK HR5
    by_cases hEz : E = 0
    rotate_left
    · have hne : (E != 0) = true := by rw [bne_iff_ne]; exact hEz
      clear hEz
      go_wp2_with fail
      refine (KW.out _ (N0.out.trans N7.out)).mono ?_
      rintro e w8 ⟨rfl, n8⟩
      have nn := N0.out.trans (N7.out.trans n8)
      go_wp2_with fail
      go_ret
      exact ⟨rfl, nn⟩
    subst hEz
    have hE2z := HE2.out rfl
    subst hE2z
    obtain ⟨hCe, hGE, hR16, hRm⟩ := HE0.out rfl
    have HAMD := Lib.hid (HAM.out rfl)
    have HBMD := Lib.hid ((HAM.out rfl).trans (HBM.out rfl))
    have HGE := Lib.hid hGE
    have hAlen : A.L.length = gn := by rw [HAMD.out.len, HGN.out]
    have hBlen : B.L.length = gn := by rw [HBMD.out.len, HGN.out]
    have HAL := Lib.hid hAlen
    have HBL := Lib.hid hBlen
    have HAT := Lib.hid (fun i (h1 : i < G.L.length) (h2 : i < A.L.length) => HAMD.out.at h1 h2)
    have HBT := Lib.hid (fun i (h1 : i < G.L.length) (h2 : i < B.L.length) => HBMD.out.at h1 h2)
    have hgn6 : gn ≤ 600 := by have := HSM.out.2; rw [HGN.out]; exact this
    rw [hAlen] at HA7
    rw [hBlen] at HBB
    obtain ⟨gaG, hgaG⟩ : ∃ q, q = G.ga := ⟨_, rfl⟩
    rw [← hgaG] at HG
    have HGR := Lib.hid (fun W (n : New w W) => (by have h := HOK.out W n; unfold Gd.ok at h; rw [← hgaG, ← HGN.out] at h; exact h : RowsK Fl.enc 3 W (.slice gaG gn G.gc) G.L))
    obtain ⟨gaA, hgaA⟩ : ∃ q, q = A.ga := ⟨_, rfl⟩
    rw [← hgaA] at HA7
    have HAR := Lib.hid (fun W (n : New W7 W) => (by have h := HAK7.out W n; unfold Gd.ok at h; rw [hAlen, ← hgaA] at h; exact h : RowsK Fl.enc 3 W (.slice gaA gn A.gc) A.L))
    obtain ⟨gaB, hgaB⟩ : ∃ q, q = B.ga := ⟨_, rfl⟩
    rw [← hgaB] at HBB
    have HBR := Lib.hid (fun W (n : New W7 W) => (by have h := HBK.out W n; unfold Gd.ok at h; rw [hBlen, ← hgaB] at h; exact h : RowsK Fl.enc 3 W (.slice gaB gn B.gc) B.L))
    have hpl := placeB_iff.1 (gd_is hGE).1
    have hwd := (gd_is hGE).2.1
    obtain ⟨wN, hwN⟩ : ∃ q, q = G.w.toNat := ⟨_, rfl⟩
    have hwi : G.w = wN := by omega
    have hw64 : wN ≤ 64 := by omega
    have hx64 : -64 ≤ G.x ∧ G.x ≤ 64 := by omega
    have hz64 : -64 ≤ G.z ∧ G.z ≤ 64 := by omega
    rw [hwi] at HG
    have hwp : Hid (0 < gn → 0 < wN) := Lib.hid (fun h => by
      rw [← HGN.out] at hwd
      rcases Nat.eq_zero_or_pos wN with q | q
      · rw [hwi, q] at hwd; simp at hwd; omega
      · exact q)
    have HWN := Lib.hid hwN
    have HDR := Lib.hid (fun (hj : j < l.length) x z y (h : inX l[j] x z y = false) => (by rw [ofX_drop hj x z y h, ← HRD.out] : ofX l x z y = ofX R x z y))
    have HJL : Hid (j < l.length) := Lib.hid (by rw [← HLN.out]; exact hj)
    clear hgaG hgaA hgaB hAlen hBlen hCe hGE hR16 hRm HE0 HE2 HAM HBM HAMD HBMD HAK7 HBK hpl hwd hwN hwi HRD ht1 ht2
    obtain ⟨g0, g1, g2, g3, g4⟩ := HG.out _ (N7.out)
    obtain ⟨u0, u1, u2, u3, u4⟩ := HA7.out _ (New.refl _)
    obtain ⟨q0, q1, q2, q3, q4⟩ := HBB.out _ (New.refl _)
    have hgg : ((gn : Int) != (gn : Int)) = false := by simp
    have HGC := Lib.hid (fun W (n : New W7 W) => And.intro (n.keep g0) (And.intro (n.keep g1) (And.intro (n.keep g2) (n.keep g4))))
    have HAC := Lib.hid (fun W (n : New W7 W) => And.intro (n.keep u4) (n.keep q4))
    go_wp2_with fail
    clear g0 g1 g2 g3 g4 u0 u1 u2 u3 u4 q0 q1 q2 q3 q4 hgg
    go_loopg [15] gn (fun gk s15 wr => ∃ i : Nat, s15 = .int .i64 i ∧ i ≤ gn ∧ gn - i ≤ gk ∧ Hid (New W7 wr))
    case atStart => exact ⟨0, rfl, by omega, by omega, Lib.hid (New.refl _)⟩
    case round =>
      obtain ⟨i, rfl, hi, hgk, HNR⟩ := hrel
      obtain ⟨g0, g1, g2, g4⟩ := HGC.out _ HNR.out
      obtain ⟨u4, q4⟩ := HAC.out _ HNR.out
      by_cases hlt : i < gn
      · have hiG : i < G.L.length := by rw [← HGN.out]; exact hlt
        have hiA : i < A.L.length := by rw [HAL.out]; exact hlt
        have hiB : i < B.L.length := by rw [HBL.out]; exact hlt
        obtain ⟨hlA, hat⟩ := HAT.out i hiG hiA
        obtain ⟨hlB, hbt⟩ := HBT.out i hiG hiB
        obtain ⟨bG, oG, aG, dG, rfl, hcG, hsG⟩ := (HGR.out _ (N0.out.trans (N7.out.trans HNR.out))).at i hiG
        obtain ⟨bA, oA, aA, dA, rfl, hcA, hsA⟩ := (HAR.out _ HNR.out).at i hiA
        obtain ⟨bB, oB, aB, dB, rfl, hcB, hsB⟩ := (HBR.out _ HNR.out).at i hiB
        rw [hlA] at hcA
        rw [hlB] at hcB
        obtain ⟨mi, hmi⟩ : ∃ q, q = G.L[i].length := ⟨_, rfl⟩
        rw [← hmi] at hcG hcA hcB
        have hm8 : mi ≤ 1000 := by have := HSM.out.1 i hiG; omega
        have HMI := Lib.hid hmi
        have HLA := Lib.hid hlA
        have HLB := Lib.hid hlB
        have HATT := Lib.hid hat
        have HBTT := Lib.hid hbt
        have HSG := Lib.hid (fun W (n : New wr W) => (hsG.keep n).row'.2.2.2.2)
        have HSA := Lib.hid (fun W (n : New wr W) => (hsA.keep n).row'.2.2.2.2)
        have HSB := Lib.hid (fun W (n : New wr W) => (hsB.keep n).row'.2.2.2.2)
        have HCL := Lib.hid (fun W (n : New wr W) => And.intro (n.keep hcG) (And.intro (n.keep hcA) (And.intro (n.keep hcB) (And.intro (n.keep g0) (And.intro (n.keep g1) (And.intro (n.keep g2) (And.intro (n.keep g4) (And.intro (n.keep u4) (n.keep q4)))))))))
        have HGK := Lib.hid hgk
        have hmm : ((mi : Int) != (mi : Int)) = false := by simp
        have hwp' := hwp.out (by omega)
        obtain ⟨xm, hxm⟩ : ∃ q, q = i % wN := ⟨_, rfl⟩
        obtain ⟨zm, hzm⟩ : ∃ q, q = i / wN := ⟨_, rfl⟩
        have hmod : xm < wN := by rw [hxm]; exact Nat.mod_lt _ hwp'
        have hdv : zm ≤ 600 := by have := Nat.div_le_self i wN; omega
        have HXM := Lib.hid hxm
        have HZM := Lib.hid hzm
        have HR1 : Hid (((i : Int).tmod (wN : Int)) = (xm : Int)) := Lib.hid (by rw [hxm]; rfl)
        have HR2 : Hid (((i : Int).tdiv (wN : Int)) = (zm : Int)) := Lib.hid (by rw [hzm]; rfl)
        clear hmi hlA hlB hat hbt hsG hsA hsB hgk hxm hzm
        go_upto_region 17 with fail
        (refine wp_region_hat (by kernel_rfl) (by kernel_rfl) ?_; intro hatc hatf; (repeat (go_big_quiet_step ((fail)))); refine wpQuiet_nil ?_; rintro _ ⟨y, rfl⟩)
        have ny := Lib.hid (HNR.out.trans y.h)
        have HCL2 := Lib.hid (fun W (n : New y.w W) => HCL.out W (New.trans y.h n))
        have HSG2 := Lib.hid (fun W (n : New y.w W) => HSG.out W (New.trans y.h n))
        have HSA2 := Lib.hid (fun W (n : New y.w W) => HSA.out W (New.trans y.h n))
        have HSB2 := Lib.hid (fun W (n : New y.w W) => HSB.out W (New.trans y.h n))
        clear hcG hcA hcB g0 g1 g2 g4 u4 q4 hmm HCL HSG HSA HSB hatc hatf
        generalize y.w = wA at *
        go_wp2_with fail
        go_loopg [16] mi (fun gk s16 wr => ∃ k : Nat, s16 = .int .i64 k ∧ k ≤ mi ∧ mi - k ≤ gk ∧ Hid (New wA wr))
        case atStart => exact ⟨0, rfl, by omega, by omega, Lib.hid (New.refl _)⟩
        case round =>
          obtain ⟨k, rfl, hk, hgk, HNQ⟩ := hrel
          obtain ⟨hcG, hcA, hcB, g0, g1, g2, g4, u4, q4⟩ := HCL2.out _ HNQ.out
          by_cases hkt : k < mi
          · have hkG : k < G.L[i].length := by rw [← HMI.out]; exact hkt
            have hkA : k < A.L[i].length := by rw [HLA.out]; exact hkG
            have hkB : k < B.L[i].length := by rw [HLB.out]; exact hkG
            obtain ⟨-, -, e3⟩ := HATT.out k hkG hkA
            obtain ⟨-, -, e6⟩ := HBTT.out k hkG hkB
            rw [← HWN.out, ← HXM.out, ← HZM.out] at e3 e6
            obtain ⟨bG2, oG2, rfl, hrG⟩ := (HSG2.out _ HNQ.out) (by omega)
            obtain ⟨bA2, oA2, rfl, hrA⟩ := (HSA2.out _ HNQ.out) (by omega)
            obtain ⟨bB2, oB2, rfl, hrB⟩ := (HSB2.out _ HNQ.out) (by omega)
            obtain ⟨y0, -, -⟩ := Fl.cells hrG k hkG
            obtain ⟨-, -, x2⟩ := Fl.cells hrA k hkA
            obtain ⟨-, -, z2⟩ := Fl.cells hrB k hkB
            rw [e3] at x2
            rw [e6] at z2
            obtain ⟨fy, hfy⟩ : ∃ q, q = G.L[i][k].y := ⟨_, rfl⟩
            rw [← hfy] at y0 x2 z2
            have hr1 := HR1.out
            have hr2 := HR2.out
            have hxw : IntKind.i64.wrap (G.x + (xm : Int)) = G.x + xm := IntWalk.i64_in _ (by omega)
            have hzw : IntKind.i64.wrap (G.z + (zm : Int)) = G.z + zm := IntWalk.i64_in _ (by omega)
            have hw1 : IntKind.i64.wrap (xm : Int) = xm := IntWalk.i64_in _ (by omega)
            have hw2 : IntKind.i64.wrap (zm : Int) = zm := IntWalk.i64_in _ (by omega)
            have hwne : ¬ wN = 0 := by omega
            have hwni : ¬ (wN : Int) = 0 := by omega
            have HK1 := Lib.hid (fun W (n : New wr W) => And.intro (n.keep hcA) (And.intro (n.keep hcB) (And.intro (n.keep u4) (And.intro (n.keep q4) (And.intro (n.keep x2) (n.keep z2))))))
            have HGK2 := Lib.hid hgk
            clear hrG hrA hrB e3 e6 hfy hkG hkA hkB hcA hcB u4 q4 x2 z2 hgk
            go_upto_region 22 with fail
            (refine wp_region_steady1 25 24 17 (ob := .cells #[.int .i64 0, .int .i64 0, .int .i64 0] 26) (by kernel_rfl) (by kernel_rfl) rfl rfl rfl (fun _ _ => by kernel_rfl) (by kernel_rfl) (by simp) ?_; (intro hatc hatf; simp only [List.take_succ_cons, List.take_zero, List.drop_succ_cons, List.drop_zero]; (repeat (first | (refine mildWalk_made (by decide) ?_; simp only [Act.put, List.setIfInBounds_toArray, List.set_cons_zero, List.set_cons_succ]) | (refine mildWalk_step (by decide) (fun K hK => ?_); go_simp; first | (refine hK _ ?_; clear hK K) | (apply Exists.intro; refine ⟨fun _ => ?_, hK _ ?_⟩; (fail); clear hK K)))); refine mildWalk_nil ?_; (try simp only [List.setIfInBounds_toArray, List.set_cons_zero, List.set_cons_succ])))
            intro y PS hPS hh
            have d0 := cell_of_heap (o := 0) hh rfl
            have d1 := cell_of_heap (o := 1) hh rfl
            have d2' := cell_of_heap (o := 2) hh rfl
            have f0 := fun o => frozen_of_heap (o := o) hh
            have hy := y.h
            have HKY := Lib.hid (fun W (n : New y.w W) => HK1.out W (New.trans hy n))
            have HPS := Lib.hid hPS
            have HY := Lib.hid (show New wr y.w from hy)
            clear hh hatc hatf hcG g0 g1 g2 g4 y0 hr1 hr2 hxw hzw hw1 hw2 hwne hwni hy
            generalize y.w = v1 at *
            go_upto_region 23 with fail
            refine Code.at (fun W5 hW => ?_)
            have n5 : New wr W5 := by
              subst hW
              exact New.setB (p := ⟨PS, 2, none⟩) HPS.out (New.setB (p := ⟨PS, 1, none⟩) HPS.out (New.setB (p := ⟨PS, 0, none⟩) HPS.out HY.out _) _) _
            have s0 : W5.cell? ⟨PS, 0, none⟩ = some (.int .i64 (G.x + xm)) := by subst hW; go_simp
            have s1 : W5.cell? ⟨PS, 1, none⟩ = some (.int .i64 (G.z + zm)) := by subst hW; go_simp
            have s2 : W5.cell? ⟨PS, 2, none⟩ = some (.int .i64 fy) := by subst hW; go_simp
            clear hW d0 d1 d2' f0
            obtain ⟨hcA, hcB, u4, q4, x2, z2⟩ := HK1.out _ n5
            obtain ⟨c0, c1, c2, c3, c4, c5, c6, c7⟩ := BoxR.cells (HROW.out W5 (N0.out.trans (N7.out.trans (ny.out.trans (HNQ.out.trans n5))))) j HJL.out
            have hdr := HDR.out HJL.out (G.x + xm) (G.z + zm) fy
            obtain ⟨X, hX⟩ : ∃ X, X = l[j]'HJL.out := ⟨_, rfl⟩
            rw [← hX] at c0 c1 c2 c3 c4 c5 c6 c7 hdr
            clear hX
            have F1 := Lib.hid (fun (q : Hat W5) => KF.out a2 R d2 (G.x + xm) (G.z + zm) fy (by unfold maxLen; omega) q.w (HR7.out q.w (ny.out.trans (HNQ.out.trans (n5.trans q.h)))))
            have F2 := Lib.hid (fun (q : Hat W5) => KI.out X (G.x + xm) (G.z + zm) fy q.w)
            generalize ofX R (G.x + xm) (G.z + zm) fy = r at *
            have hrr : (r != r) = false := by simp
            have N5' := Lib.hid (HNQ.out.trans n5)
            cases hin : inX X (G.x + xm) (G.z + zm) fy
            · rw [hin] at F2
              rw [hdr hin] at x2
              clear hdr hin
              (refine wp_region_hat (by kernel_rfl) (by kernel_rfl) ?_; intro hatc hatf; (repeat (go_big_quiet_step ((first | (go_at_call 9; with_reducible exact Calls.hat (F1.out _)) | (go_at_call 7; with_reducible exact Calls.hat (F2.out _)))))); refine wpQuiet_nil ?_; rintro _ ⟨z, rfl⟩)
              have nz := Lib.hid (N5'.out.trans z.h)
              clear hcA hcB u4 q4 x2 z2 c0 c1 c2 c3 c4 c5 c6 c7 s0 s1 s2 hrr
              go_wp2_with fail
              go_roundg (mi - (k + 1))
              case measure => have := HGK2.out; omega
              case rel => exact ⟨k + 1, by go_num, by omega, by omega, nz⟩
            · rw [hin] at F2
              clear hdr hin
              (refine wp_region_hat (by kernel_rfl) (by kernel_rfl) ?_; intro hatc hatf; (repeat (go_big_quiet_step ((first | (go_at_call 9; with_reducible exact Calls.hat (F1.out _)) | (go_at_call 7; with_reducible exact Calls.hat (F2.out _)))))); refine wpQuiet_nil ?_; rintro _ ⟨z, rfl⟩)
              have nz := Lib.hid (N5'.out.trans z.h)
              clear hcA hcB u4 q4 x2 z2 c0 c1 c2 c3 c4 c5 c6 c7 s0 s1 s2 hrr
              go_wp2_with fail
              go_roundg (mi - (k + 1))
              case measure => have := HGK2.out; omega
              case rel => exact ⟨k + 1, by go_num, by omega, by omega, nz⟩
          · obtain rfl : k = mi := by omega
            go_wp2_with fail
            go_roundg (gn - (i + 1))
            case measure => have := HGK.out; omega
            case rel => exact ⟨i + 1, by go_num, by omega, by omega, Lib.hid (ny.out.trans HNQ.out)⟩
      · obtain rfl : i = gn := by omega
        go_wp2_with fail
        clear u4 q4 g0 g1 g2 g4
        refine (KW.out _ (N0.out.trans (N7.out.trans HNR.out))).mono ?_
        rintro e v6 ⟨rfl, n16⟩
        have nn := N0.out.trans (N7.out.trans (HNR.out.trans n16))
        clear n16
        go_wp2_with fail
        go_ret
        exact ⟨rfl, nn⟩

  end Go.Proofs.YtdbhlepbaepngaaDoor
