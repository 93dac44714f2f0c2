import Derived.Test.YtljcebahjfifhaaDoorLkBb
import Derived.Test.YtljcebahjfifhaaDoorLkBa
import Derived.Test.YtljcebahjfifhaaDoorLkBc
import Derived.Test.YtljcebahjfifhaaDoorLkAtB
import Derived.Test.YtljcebahjfifhaaDoorOgU

/- The law LinksBack. -/
namespace Go.Proofs.YtljcebahjfifhaaDoor
open Go.RowKit
set_option linter.unusedVariables false

/-- With which of a column a floor is linked. -/
theorem lk_only {C : CfgR} {G : Gd} (hC : C.err = 0) (hE : gE G = 0) {s t : Sd} {d : Int} (h : toS C G s d = some t) : ∃ (kk n0 : Nat) (hk : kk < (atG G s.x s.z).length), s.k = kk ∧ t.k = n0 ∧ n0 < (atG G (s.x + dxD d) (s.z + dzD d)).length ∧ ∀ j (hj : j < (atG G (s.x + dxD d) (s.z + dzD d)).length), lkB C (atG G s.x s.z)[kk] (atG G (s.x + dxD d) (s.z + dzD d))[j] = decide (j = n0) := by
  obtain ⟨hd, a, b, ha, hb, hl, hx, hz⟩ := toS_is h
  obtain ⟨kk, hk, hkl, rfl⟩ := flG_is ha
  obtain ⟨n0, hn, hnl, rfl⟩ := flG_is hb
  simp only [hx, hz] at hl hnl
  refine ⟨kk, n0, hkl, hk, hn, hnl, fun j hj => ?_⟩
  by_cases e : j = n0
  · subst e
    rw [hl]
    simp
  · rw [decide_eq_false e]
    cases q : lkB C (atG G s.x s.z)[kk] (atG G (s.x + dxD d) (s.z + dzD d))[j]
    · rfl
    · exact absurd (lk_one hC (at_rise hE _ _) hj hnl q hl) e

set_option maxHeartbeats 32000000 in
set_option maxRecDepth 100000 in
theorem l_linksBack (C : CfgR) (G : Gd) (x z k d d2 : Int) (w : World) (hG : G.ok w) (hD : Dirs w) : Calls Tryd.prog 4 #[.agg #[.int .i64 C.cl, .int .i64 C.cb, .int .i64 C.ht, .int .i64 C.ri, .int .i64 C.ru, .int .i64 C.wd, .int .i64 C.dp], .agg #[.int .i64 G.x, .int .i64 G.z, .int .i64 G.w, .int .i64 G.d, .slice G.ga G.L.length G.gc], .int .i64 x, .int .i64 z, .int .i64 k, .int .i64 d, .int .i64 d2] w fun e w' => e = .returned (.bool true) ∧ New w w' := by
  have KW := Lib.hid (fun W (q : New w W) => lk_wakes W (hD.new q))
  have KG := Lib.hid (fun W (q : New w W) => og_great G W (hG.keep q))
  have KC : Hid (∀ W, Calls Tryd.prog 22 #[.agg #[.int .i64 C.cl, .int .i64 C.cb, .int .i64 C.ht, .int .i64 C.ri, .int .i64 C.ru, .int .i64 C.wd, .int .i64 C.dp]] W fun e w' => e = .returned (.int .i64 C.err) ∧ New W w') := Lib.hid (fun W => (rcheck_any C.cl C.cb C.ht C.ri C.ru C.wd C.dp W).mono fun e w' h => ⟨h.1, h.2.1⟩)
  have KR := Lib.hid (fun W n => rg_check G W (hG.keep (n : New w W)))
  have KS := Lib.hid (fun d W (q : New w W) => lk_Step d W (hD.new q))
  have KT := Lib.hid (fun x z k d W (q : New w W) => lk_To C G x z k d W (hG.keep q) (hD.new q))
  have KD := Lib.hid (fun x z k d d2 W (q : New w W) => lk_Diagonal C G x z k d d2 W (hG.keep q) (hD.new q))
  have KL := Lib.hid (fun a b W => lk_Linked C a b W)
  have KA := Lib.hid (fun q x z => rg_At_fix G q x z w hG)
  have hc2 := err_or C
  have hg2 := gE_two G
  have HLE := Lib.hid (lkE_is (C := C) (G := G))
  have HTF := Lib.hid (fun q s d => toT_fine (C := C) (G := G) q s d)
  have HDF := Lib.hid (fun q s d e => diT_fine (C := C) (G := G) q s d e)
  unfold Greated at KG
  unfold stV at KS
  obtain ⟨n, hn⟩ : ∃ n, n = G.L.length := ⟨_, rfl⟩
  rw [← hn] at KG KR KT KD KA ⊢
  clear hn hG hD
  go_enter Tryd.func4, Tryd.ntmps4
  go_upto_region 1 with fail
  refine Code.at (fun W hW => ?_)
  have n0 : New w W := by subst hW; (repeat (first | (with_reducible exact New.refl _) | (with_reducible assumption) | ((with_reducible refine New.setB ?_ ?_ _); focus (first | omega | (simp; omega) | (simp; done))) | (with_reducible refine New.alloc ?_ _) | (with_reducible refine New.drew ?_) | (with_reducible refine New.drewN ?_ _) | (with_reducible refine New.hat ?_ _) | ((with_reducible apply New.snart); (with_reducible assumption))))
  ((have c0 : W.cell? ⟨w.heap.size, 0, none⟩ = some (.int .i64 C.cl) := (by subst hW; go_simp)); (have c1 : W.cell? ⟨w.heap.size, 1, none⟩ = some (.int .i64 C.cb) := (by subst hW; go_simp)); (have c2 : W.cell? ⟨w.heap.size, 2, none⟩ = some (.int .i64 C.ht) := (by subst hW; go_simp)); (have c3 : W.cell? ⟨w.heap.size, 3, none⟩ = some (.int .i64 C.ri) := (by subst hW; go_simp)); (have c4 : W.cell? ⟨w.heap.size, 4, none⟩ = some (.int .i64 C.ru) := (by subst hW; go_simp)); (have c5 : W.cell? ⟨w.heap.size, 5, none⟩ = some (.int .i64 C.wd) := (by subst hW; go_simp)); (have c6 : W.cell? ⟨w.heap.size, 6, none⟩ = some (.int .i64 C.dp) := (by subst hW; go_simp)))
  have g0 : W.cell? ⟨w.heap.size + 1, 0, none⟩ = some (.int .i64 G.x) := by subst hW; go_simp
  have g1 : W.cell? ⟨w.heap.size + 1, 1, none⟩ = some (.int .i64 G.z) := by subst hW; go_simp
  have g2 : W.cell? ⟨w.heap.size + 1, 2, none⟩ = some (.int .i64 G.w) := by subst hW; go_simp
  have g3 : W.cell? ⟨w.heap.size + 1, 3, none⟩ = some (.int .i64 G.d) := by subst hW; go_simp
  have g4 : W.cell? ⟨w.heap.size + 1, 4, none⟩ = some (.slice G.ga n G.gc) := by subst hW; go_simp
  clear hW
  have HCG := Lib.hid (fun W2 (q : New W W2) => And.intro (q.keep c0) (And.intro (q.keep c1) (And.intro (q.keep c2) (And.intro (q.keep c3) (And.intro (q.keep c4) (And.intro (q.keep c5) (And.intro (q.keep c6) (And.intro (q.keep g0) (And.intro (q.keep g1) (And.intro (q.keep g2) (And.intro (q.keep g3) (q.keep g4))))))))))))
  have N0 := Lib.hid n0
  clear n0
  go_cut [61] (fun s61 Z => (∃ q : Bool, s61 = .bool q ∧ (q = false → C.err = 0 ∧ gE G = 0 ∧ -100 ≤ x ∧ x ≤ 100 ∧ -100 ≤ z ∧ z ≤ 100)) ∧ New W Z)
  case first =>
    generalize C.err = ce at *
    generalize gE G = ge at *
    go_wp2_with fail
    refine (KG.out _ N0.out).mono ?_
    rintro e w1 ⟨bg, rfl, -, n1⟩
    have N1 := Lib.hid n1
    clear c0 c1 c2 c3 c4 c5 c6 g0 g1 g2 g3 g4
    clear n1 KG
    cases bg
    rotate_left
    · go_wp2_with fail
      go_meet
      exact ⟨⟨true, rfl, fun q => by cases q⟩, N1.out⟩
    obtain ⟨c0, c1, c2, c3, c4, c5, c6, g0, g1, g2, g3, g4⟩ := HCG.out _ N1.out
    go_wp2_with fail
    refine (KC.out _).mono ?_
    rintro e w2 ⟨rfl, n2⟩
    have N2 := Lib.hid (N1.out.trans n2)
    clear c0 c1 c2 c3 c4 c5 c6 g0 g1 g2 g3 g4
    clear n2 N1 KC
    rcases hc2 with rfl | rfl
    rotate_left
    · go_wp2_with fail
      go_meet
      exact ⟨⟨true, rfl, fun q => by cases q⟩, N2.out⟩
    obtain ⟨c0, c1, c2, c3, c4, c5, c6, g0, g1, g2, g3, g4⟩ := HCG.out _ N2.out
    go_wp2_with fail
    refine (KR.out _ (N0.out.trans N2.out)).mono ?_
    rintro e w3 ⟨rfl, n3⟩
    have N3 := Lib.hid (N2.out.trans n3)
    clear c0 c1 c2 c3 c4 c5 c6 g0 g1 g2 g3 g4
    clear n3 N2 KR
    rcases hg2 with rfl | rfl
    rotate_left
    · go_wp2_with fail
      go_meet
      exact ⟨⟨true, rfl, fun q => by cases q⟩, N3.out⟩
    by_cases q0 : x < -100
    · have e0 : decide (x < -100) = true := decide_eq_true q0
      clear q0
      go_wp2_with fail
      go_meet
      exact ⟨⟨true, rfl, fun q => by cases q⟩, N3.out⟩
    have e0 : decide (x < -100) = false := decide_eq_false q0
    by_cases q1 : 100 < x
    · have e1 : decide (100 < x) = true := decide_eq_true q1
      clear q1
      go_wp2_with fail
      go_meet
      exact ⟨⟨true, rfl, fun q => by cases q⟩, N3.out⟩
    have e1 : decide (100 < x) = false := decide_eq_false q1
    by_cases q2 : z < -100
    · have e2 : decide (z < -100) = true := decide_eq_true q2
      clear q2
      go_wp2_with fail
      go_meet
      exact ⟨⟨true, rfl, fun q => by cases q⟩, N3.out⟩
    have e2 : decide (z < -100) = false := decide_eq_false q2
    by_cases q3 : 100 < z
    · have e3 : decide (100 < z) = true := decide_eq_true q3
      clear q3
      go_wp2_with fail
      go_meet
      exact ⟨⟨true, rfl, fun q => by cases q⟩, N3.out⟩
    have e3 : decide (100 < z) = false := decide_eq_false q3
    have HB := Lib.hid (And.intro q0 (And.intro q1 (And.intro q2 q3)))
    clear q0 q1 q2 q3
    go_wp2_with fail
    go_meet
    exact ⟨⟨false, rfl, fun _ => by have := HB.out; exact ⟨by trivial, by trivial, by omega⟩⟩, N3.out⟩
  case rest =>
    clear c0 c1 c2 c3 c4 c5 c6 g0 g1 g2 g3 g4
    obtain ⟨⟨q, rfl, hq⟩, hN⟩ := hcut
    have N3 := Lib.hid hN
    have HQ := Lib.hid hq
    clear hN hq KG KC KR hc2 hg2
    rename World => w3
    cases q
    rotate_left
    · go_wp2_with fail
      refine (KW.out _ (N0.out.trans N3.out)).mono ?_
      rintro e w4 ⟨rfl, n4⟩
      go_wp2_with fail
      go_ret
      exact ⟨rfl, (N0.out.trans N3.out).trans n4⟩
    obtain ⟨hC, hE, hb⟩ := HQ.out rfl
    clear HQ
    have HCE := Lib.hid (And.intro hC hE)
    have hle := HLE.out.2 ⟨hC, hE⟩
    have HTF2 := Lib.hid (HTF.out hle)
    have HDF2 := Lib.hid (HDF.out hle)
    have KA2 := Lib.hid (fun x z => KA.out hE x z)
    clear HTF HDF KA HLE hle hC hE
    obtain ⟨dx, hdx⟩ : ∃ q, q = dxD d := ⟨_, rfl⟩
    obtain ⟨dz, hdz⟩ : ∃ q, q = dzD d := ⟨_, rfl⟩
    obtain ⟨ex, hex⟩ : ∃ q, q = dxD d2 := ⟨_, rfl⟩
    obtain ⟨ez, hez⟩ : ∃ q, q = dzD d2 := ⟨_, rfl⟩
    have KS1 := Lib.hid (KS.out d)
    have KS2 := Lib.hid (KS.out d2)
    rw [← hdx, ← hdz] at KS1
    rw [← hex, ← hez] at KS2
    have HDX := Lib.hid (And.intro hdx (And.intro hdz (And.intro hex hez)))
    clear hdx hdz hex hez KS
    go_wp2_with fail
    refine (KS1.out _ (N0.out.trans N3.out)).mono ?_
    rintro e w4 ⟨rfl, n4⟩
    have N4 := Lib.hid (N3.out.trans n4)
    clear n4 N3 KS1
    go_wp2_with fail
    refine (KS2.out _ (N0.out.trans N4.out)).mono ?_
    rintro e w5 ⟨rfl, n5⟩
    have N5 := Lib.hid (N4.out.trans n5)
    clear n5 N4 KS2
    cases ok1 : okD d
    · go_wp2_with fail
      refine (KW.out _ (N0.out.trans N5.out)).mono ?_
      rintro e w6 ⟨rfl, n6⟩
      go_wp2_with fail
      go_ret
      exact ⟨rfl, (N0.out.trans N5.out).trans n6⟩
    cases ok2 : okD d2
    · go_wp2_with fail
      refine (KW.out _ (N0.out.trans N5.out)).mono ?_
      rintro e w6 ⟨rfl, n6⟩
      go_wp2_with fail
      go_ret
      exact ⟨rfl, (N0.out.trans N5.out).trans n6⟩
    have HOK := Lib.hid (And.intro ok1 ok2)
    have hs1 := dxD_small d
    have hs2 := dzD_small d
    have hs3 := dxD_small d2
    have hs4 := dzD_small d2
    rw [← HDX.out.1] at hs1
    rw [← HDX.out.2.1] at hs2
    rw [← HDX.out.2.2.1] at hs3
    rw [← HDX.out.2.2.2] at hs4
    have hr1 : 0 ≤ d ∧ d ≤ 3 := wiB_iff.1 ok1
    have hr2 : 0 ≤ d2 ∧ d2 ≤ 3 := wiB_iff.1 ok2
    have hw1 : IntKind.i64.wrap (x + dx) = x + dx := IntWalk.i64_in _ (by omega)
    have hw2 : IntKind.i64.wrap (z + dz) = z + dz := IntWalk.i64_in _ (by omega)
    have hw3 : IntKind.i64.wrap (x + dx + ex) = x + dx + ex := IntWalk.i64_in _ (by omega)
    have hw4 : IntKind.i64.wrap (z + dz + ez) = z + dz + ez := IntWalk.i64_in _ (by omega)
    have hw5 : IntKind.i64.wrap (d + 2) = d + 2 := IntWalk.i64_in _ (by omega)
    have hw6 : IntKind.i64.wrap (d2 + 2) = d2 + 2 := IntWalk.i64_in _ (by omega)
    have hm1 : Int.tmod (d + 2) 4 = backD d := rfl
    have hm2 : Int.tmod (d2 + 2) 4 = backD d2 := rfl
    clear ok1 ok2 hs1 hs2 hs3 hs4 hr1 hr2 hb
    have K1 : Hid (∀ W, New w W → Calls Tryd.prog 9 #[.agg #[.int .i64 C.cl, .int .i64 C.cb, .int .i64 C.ht, .int .i64 C.ri, .int .i64 C.ru, .int .i64 C.wd, .int .i64 C.dp], .agg #[.int .i64 G.x, .int .i64 G.z, .int .i64 G.w, .int .i64 G.d, .slice G.ga n G.gc], .int .i64 x, .int .i64 z, .int .i64 k, .int .i64 d] W fun e w' => e = .returned (.tuple #[.int .i64 (sdO (toS C G ⟨x, z, k⟩ d)).k, .bool (toS C G ⟨x, z, k⟩ d).isSome]) ∧ New W w') := Lib.hid (fun W q => by
      have := KT.out x z k d W q
      rw [HTF2.out] at this
      exact this)
    obtain ⟨o1, ho1⟩ : ∃ o, o = toS C G ⟨x, z, k⟩ d := ⟨_, rfl⟩
    have HO1 := Lib.hid ho1
    rw [← ho1] at K1
    clear ho1
    obtain ⟨c0, c1, c2, c3, c4, c5, c6, g0, g1, g2, g3, g4⟩ := HCG.out _ N5.out
    go_wp2_with fail
    refine (K1.out _ (N0.out.trans N5.out)).mono ?_
    rintro e w6 ⟨rfl, n6⟩
    have N6 := Lib.hid (N5.out.trans n6)
    clear c0 c1 c2 c3 c4 c5 c6 g0 g1 g2 g3 g4
    clear n6 N5 K1
    rcases o1 with _ | t1
    · simp only [Option.isSome_none]
      have KD1 : Hid (∀ W, New w W → Calls Tryd.prog 11 #[.agg #[.int .i64 C.cl, .int .i64 C.cb, .int .i64 C.ht, .int .i64 C.ri, .int .i64 C.ru, .int .i64 C.wd, .int .i64 C.dp], .agg #[.int .i64 G.x, .int .i64 G.z, .int .i64 G.w, .int .i64 G.d, .slice G.ga n G.gc], .int .i64 x, .int .i64 z, .int .i64 k, .int .i64 d, .int .i64 d2] W fun e w' => e = .returned (.tuple #[.int .i64 (sdO (diaS C G ⟨x, z, k⟩ d d2)).k, .bool (diaS C G ⟨x, z, k⟩ d d2).isSome]) ∧ New W w') := Lib.hid (fun W q => by
        have := KD.out x z k d d2 W q
        rw [HDF2.out] at this
        exact this)
      obtain ⟨o5, ho5⟩ : ∃ o, o = diaS C G ⟨x, z, k⟩ d d2 := ⟨_, rfl⟩
      have HO5 := Lib.hid ho5
      rw [← ho5] at KD1
      clear ho5
      obtain ⟨c0, c1, c2, c3, c4, c5, c6, g0, g1, g2, g3, g4⟩ := HCG.out _ N6.out
      go_wp2_with fail
      refine (KD1.out _ (N0.out.trans N6.out)).mono ?_
      rintro e v7 ⟨rfl, n7⟩
      have N7 := Lib.hid (N6.out.trans n7)
      clear c0 c1 c2 c3 c4 c5 c6 g0 g1 g2 g3 g4
      clear n7 KD1
      rcases o5 with _ | t5
      · simp only [Option.isSome_none]
        go_wp2_with fail
        refine (KW.out _ (N0.out.trans N7.out)).mono ?_
        rintro e v8 ⟨rfl, n8⟩
        go_wp2_with fail
        go_ret
        exact ⟨rfl, (N0.out.trans N7.out).trans n8⟩
      simp only [Option.isSome_some]
      have hb5 := diaS_back HCE.out.1 HCE.out.2 HO5.out.symm
      have ht5 := rndS_at (diaS_is HO5.out.symm).2.1
      obtain ⟨tx, tz, tk⟩ := t5
      simp only at ht5
      obtain ⟨hx5, hz5⟩ := ht5
      rw [← HDX.out.1, ← HDX.out.2.2.1] at hx5
      rw [← HDX.out.2.1, ← HDX.out.2.2.2] at hz5
      subst hx5
      subst hz5
      have hk5 : (sdO (some (⟨x + dx + ex, z + dz + ez, tk⟩ : Sd))).k = tk := rfl
      rw [hk5]
      have KD2 : Hid (∀ W, New w W → Calls Tryd.prog 11 #[.agg #[.int .i64 C.cl, .int .i64 C.cb, .int .i64 C.ht, .int .i64 C.ri, .int .i64 C.ru, .int .i64 C.wd, .int .i64 C.dp], .agg #[.int .i64 G.x, .int .i64 G.z, .int .i64 G.w, .int .i64 G.d, .slice G.ga n G.gc], .int .i64 (x + dx + ex), .int .i64 (z + dz + ez), .int .i64 tk, .int .i64 (backD d), .int .i64 (backD d2)] W fun e w' => e = .returned (.tuple #[.int .i64 k, .bool true]) ∧ New W w') := Lib.hid (fun W q => by
        have := KD.out (x + dx + ex) (z + dz + ez) tk (backD d) (backD d2) W q
        rw [HDF2.out, hb5.1] at this
        exact this)
      have KD3 : Hid (∀ W, New w W → Calls Tryd.prog 11 #[.agg #[.int .i64 C.cl, .int .i64 C.cb, .int .i64 C.ht, .int .i64 C.ri, .int .i64 C.ru, .int .i64 C.wd, .int .i64 C.dp], .agg #[.int .i64 G.x, .int .i64 G.z, .int .i64 G.w, .int .i64 G.d, .slice G.ga n G.gc], .int .i64 x, .int .i64 z, .int .i64 k, .int .i64 d2, .int .i64 d] W fun e w' => e = .returned (.tuple #[.int .i64 tk, .bool true]) ∧ New W w') := Lib.hid (fun W q => by
        have := KD.out x z k d2 d W q
        rw [HDF2.out, hb5.2] at this
        exact this)
      have hkk : (k != k) = false := by simp
      have htt : (tk != tk) = false := by simp
      clear hk5 hb5 HO5
      obtain ⟨c0, c1, c2, c3, c4, c5, c6, g0, g1, g2, g3, g4⟩ := HCG.out _ N7.out
      go_wp2_with fail
      refine (KD2.out _ (N0.out.trans N7.out)).mono ?_
      rintro e v8 ⟨rfl, n8⟩
      have N8 := Lib.hid (N7.out.trans n8)
      clear c0 c1 c2 c3 c4 c5 c6 g0 g1 g2 g3 g4
      clear n8 KD2 N7
      obtain ⟨c0, c1, c2, c3, c4, c5, c6, g0, g1, g2, g3, g4⟩ := HCG.out _ N8.out
      go_wp2_with fail
      refine (KD3.out _ (N0.out.trans N8.out)).mono ?_
      rintro e v9 ⟨rfl, n9⟩
      have N9 := Lib.hid (N8.out.trans n9)
      clear c0 c1 c2 c3 c4 c5 c6 g0 g1 g2 g3 g4
      clear n9 KD3 N8
      go_wp2_with fail
      refine (KW.out _ (N0.out.trans N9.out)).mono ?_
      rintro e va ⟨rfl, na⟩
      go_wp2_with fail
      go_ret
      exact ⟨rfl, (N0.out.trans N9.out).trans na⟩
    simp only [Option.isSome_some]
    have hsh := toS_shape HO1.out.symm
    have hbk := toS_back HCE.out.1 HCE.out.2 HO1.out.symm
    obtain ⟨kk, m0, hkl, hk, hm0, hml, honly⟩ := lk_only HCE.out.1 HCE.out.2 HO1.out.symm
    obtain ⟨x1, z1, k1⟩ := t1
    simp only at hk hm0 hkl hml honly
    simp only [Sd.mk.injEq] at hsh
    obtain ⟨hx1, hz1, -⟩ := hsh
    rw [← HDX.out.1] at hx1 hml
    rw [← HDX.out.2.1] at hz1 hml
    subst hx1
    subst hz1
    subst hk
    have honly2 : ∀ j (hj : j < (atG G (x + dx) (z + dz)).length), lkB C (atG G x z)[kk] (atG G (x + dx) (z + dz))[j] = decide (j = m0) := by
      obtain ⟨h1, h2, -, -⟩ := HDX.out
      subst h1
      subst h2
      exact honly
    have hk1 : (sdO (some (⟨x + dx, z + dz, k1⟩ : Sd))).k = k1 := rfl
    rw [hk1]
    have K2 : Hid (∀ W, New w W → Calls Tryd.prog 9 #[.agg #[.int .i64 C.cl, .int .i64 C.cb, .int .i64 C.ht, .int .i64 C.ri, .int .i64 C.ru, .int .i64 C.wd, .int .i64 C.dp], .agg #[.int .i64 G.x, .int .i64 G.z, .int .i64 G.w, .int .i64 G.d, .slice G.ga n G.gc], .int .i64 (x + dx), .int .i64 (z + dz), .int .i64 k1, .int .i64 (backD d)] W fun e w' => e = .returned (.tuple #[.int .i64 (kk : Nat), .bool true]) ∧ New W w') := Lib.hid (fun W q => by
      have := KT.out (x + dx) (z + dz) k1 (backD d) W q
      rw [HTF2.out, hbk] at this
      exact this)
    obtain ⟨v1, hv1, KA1⟩ := KA2.out (x + dx) (z + dz)
    obtain ⟨v0, hv0, KA0⟩ := KA2.out x z
    have KL2 : Hid (∀ j (hj : j < (atG G (x + dx) (z + dz)).length) W, Calls Tryd.prog 17 #[.agg #[.int .i64 C.cl, .int .i64 C.cb, .int .i64 C.ht, .int .i64 C.ri, .int .i64 C.ru, .int .i64 C.wd, .int .i64 C.dp], .agg #[.int .i64 ((atG G x z)[kk]).y, .int .i64 ((atG G x z)[kk]).top, .int .i64 ((atG G x z)[kk]).area], .agg #[.int .i64 ((atG G (x + dx) (z + dz))[j]).y, .int .i64 ((atG G (x + dx) (z + dz))[j]).top, .int .i64 ((atG G (x + dx) (z + dz))[j]).area]] W fun e w' => e = .returned (.bool (decide (j = m0))) ∧ New W w') := Lib.hid (fun j hj W => by
      have := KL.out (atG G x z)[kk] (atG G (x + dx) (z + dz))[j] W
      rw [lkF_fine HCE.out.1, honly2 j hj] at this
      exact this)
    have hl8 := at_len HCE.out.2 (x + dx) (z + dz)
    generalize atG G (x + dx) (z + dz) = l1 at *
    generalize atG G x z = l0 at *
    have HV1 := Lib.hid hv1
    obtain ⟨va1, vc1, rfl, -⟩ := hv1
    obtain ⟨vb0, vo0, va0c, ht0, hA0⟩ : ∃ b off c, v0 = .slice (some ⟨b, off, none⟩) l0.length c ∧ RowAt Fl.enc 3 w b off l0 := by
      obtain ⟨a, c, rfl, -, -, -, hr⟩ := hv0
      obtain ⟨b, off, rfl, h⟩ := hr (by omega)
      exact ⟨b, off, c, rfl, h⟩
    subst ht0
    have HA0 := Lib.hid (fun W (q : New w W) => Fl.cells (hA0.keep q) kk hkl)
    have HKA1 := Lib.hid KA1
    have HKA0 := Lib.hid KA0
    obtain ⟨a, ha⟩ : ∃ a, a = l0[kk] := ⟨_, rfl⟩
    rw [← ha] at HA0 KL2
    obtain ⟨ln, hln⟩ : ∃ q, q = l0.length := ⟨_, rfl⟩
    rw [← hln] at HKA0 hkl
    obtain ⟨m, hm⟩ : ∃ q, q = l1.length := ⟨_, rfl⟩
    have HM := Lib.hid hm
    rw [← hm] at HKA1 hml hl8
    clear ha hln hm hv0 KA0 KA1 hA0 hbk honly honly2 hk1 HO1 hm0
    have hkk : ((kk : Int) != (kk : Int)) = false := by simp
    obtain ⟨c0, c1, c2, c3, c4, c5, c6, g0, g1, g2, g3, g4⟩ := HCG.out _ N6.out
    go_wp2_with fail
    refine (K2.out _ (N0.out.trans N6.out)).mono ?_
    rintro e w7 ⟨rfl, n7⟩
    have N7 := Lib.hid (N6.out.trans n7)
    clear c0 c1 c2 c3 c4 c5 c6 g0 g1 g2 g3 g4
    clear n7 K2 N6
    obtain ⟨c0, c1, c2, c3, c4, c5, c6, g0, g1, g2, g3, g4⟩ := HCG.out _ N7.out
    go_wp2_with fail
    refine (HKA1.out _ (N0.out.trans N7.out)).mono ?_
    rintro e w8 ⟨rfl, n8⟩
    have N8 := Lib.hid (N7.out.trans n8)
    clear c0 c1 c2 c3 c4 c5 c6 g0 g1 g2 g3 g4
    clear n8 HKA1 N7
    go_wp2_with fail
    go_loopg [125, 25] m (fun gk s125 s25 wr => ∃ i : Nat, s125 = .int .i64 i ∧ s25 = .int .i64 (if m0 < i then 1 else 0) ∧ i ≤ m ∧ m - i ≤ gk ∧ Hid (New W wr))
    case atStart => exact ⟨0, rfl, by rw [if_neg (by omega)], by omega, by omega, N8⟩
    case round =>
      obtain ⟨i, rfl, rfl, hi, hgk, hnr⟩ := hrel
      by_cases hlt : i < m
      · have hil : i < l1.length := by rw [← HM.out]; exact hlt
        obtain ⟨b, off, rfl, hA⟩ := HV1.out.row'.2.2.2.2 (by omega)
        obtain ⟨d0, d1, e2⟩ := Fl.cells (hA.keep (N0.out.trans hnr.out)) i hil
        have KLi := Lib.hid (KL2.out i hil)
        generalize l1[i] = f at *
        clear hA
        go_upto_region 16 with fail
        refine Code.at (fun W9 hW => ?_)
        have n9 : New wr W9 := by subst hW; (repeat (first | (with_reducible exact New.refl _) | (with_reducible assumption) | ((with_reducible refine New.setB ?_ ?_ _); focus (first | omega | (simp; omega) | (simp; done))) | (with_reducible refine New.alloc ?_ _) | (with_reducible refine New.drew ?_) | (with_reducible refine New.drewN ?_ _) | (with_reducible refine New.hat ?_ _) | ((with_reducible apply New.snart); (with_reducible assumption))))
        have p0 : W9.cell? ⟨wr.heap.size, 0, none⟩ = some (.int .i64 f.y) := by subst hW; go_simp
        have p1 : W9.cell? ⟨wr.heap.size, 1, none⟩ = some (.int .i64 f.top) := by subst hW; go_simp
        have p2 : W9.cell? ⟨wr.heap.size, 2, none⟩ = some (.int .i64 f.area) := by subst hW; go_simp
        clear hW d0 d1 e2
        have N9 := Lib.hid (hnr.out.trans n9)
        obtain ⟨c0, c1, c2, c3, c4, c5, c6, g0, g1, g2, g3, g4⟩ := HCG.out _ N9.out
        obtain ⟨a0, a1, a2⟩ := HA0.out _ (N0.out.trans N9.out)
        have F0 := Lib.hid (fun (q : Hat W9) => HKA0.out q.w ((N0.out.trans N9.out).trans q.h))
        have F1 := Lib.hid (fun (q : Hat W9) => KLi.out q.w)
        (refine wp_region_hat (by kernel_rfl) (by kernel_rfl) ?_; intro hatc hatf; (repeat (go_big_quiet_step ((first | (go_at_call 24; with_reducible exact Calls.hat (F0.out _)) | (go_at_call 17; with_reducible exact Calls.hat (F1.out _)))))); refine wpQuiet_nil ?_; rintro _ ⟨q, rfl⟩)
        replace N9 := Lib.hid (N9.out.trans q.h)
        clear c0 c1 c2 c3 c4 c5 c6 g0 g1 g2 g3 g4
        clear hatc hatf F0 F1 p0 p1 p2 a0 a1 a2 n9
        generalize q.w = wq at *
        clear q
        by_cases e : i = m0
        · have hd : decide (i = m0) = true := decide_eq_true e
          have hz0 : (if m0 < i then (1 : Int) else 0) = 0 := if_neg (by omega)
          have hnx : (if m0 < i + 1 then (1 : Int) else 0) = 1 := if_pos (by omega)
          rw [hd, hz0]
          clear hd hz0 e
          go_wp2_with fail
          go_roundg (m - (i + 1))
          case measure => omega
          case rel => exact ⟨i + 1, by go_num, by rw [hnx], by omega, by omega, N9⟩
        · have hd : decide (i = m0) = false := decide_eq_false e
          have hnx : (if m0 < i + 1 then (1 : Int) else 0) = if m0 < i then 1 else 0 := by
            by_cases q : m0 < i
            · rw [if_pos q, if_pos (by omega)]
            · rw [if_neg q, if_neg (by omega)]
          rw [hd]
          generalize (if m0 < i then (1 : Int) else 0) = cv at *
          clear hd e
          go_wp2_with fail
          go_roundg (m - (i + 1))
          case measure => omega
          case rel => exact ⟨i + 1, by go_num, by rw [hnx], by omega, by omega, N9⟩
      · obtain rfl : i = m := by omega
        have hone : (if m0 < i then (1 : Int) else 0) = 1 := if_pos hml
        rw [hone]
        clear hone
        have KD1 : Hid (∀ W, New w W → Calls Tryd.prog 11 #[.agg #[.int .i64 C.cl, .int .i64 C.cb, .int .i64 C.ht, .int .i64 C.ri, .int .i64 C.ru, .int .i64 C.wd, .int .i64 C.dp], .agg #[.int .i64 G.x, .int .i64 G.z, .int .i64 G.w, .int .i64 G.d, .slice G.ga n G.gc], .int .i64 x, .int .i64 z, .int .i64 (kk : Nat), .int .i64 d, .int .i64 d2] W fun e w' => e = .returned (.tuple #[.int .i64 (sdO (diaS C G ⟨x, z, kk⟩ d d2)).k, .bool (diaS C G ⟨x, z, kk⟩ d d2).isSome]) ∧ New W w') := Lib.hid (fun W q => by
          have := KD.out x z kk d d2 W q
          rw [HDF2.out] at this
          exact this)
        obtain ⟨o5, ho5⟩ : ∃ o, o = diaS C G ⟨x, z, kk⟩ d d2 := ⟨_, rfl⟩
        have HO5 := Lib.hid ho5
        rw [← ho5] at KD1
        clear ho5
        obtain ⟨c0, c1, c2, c3, c4, c5, c6, g0, g1, g2, g3, g4⟩ := HCG.out _ hnr.out
        go_wp2_with fail
        refine (KD1.out _ (N0.out.trans hnr.out)).mono ?_
        rintro e v7 ⟨rfl, n7⟩
        have N7 := Lib.hid (hnr.out.trans n7)
        clear c0 c1 c2 c3 c4 c5 c6 g0 g1 g2 g3 g4
        clear n7 KD1
        rcases o5 with _ | t5
        · simp only [Option.isSome_none]
          go_wp2_with fail
          refine (KW.out _ (N0.out.trans N7.out)).mono ?_
          rintro e v8 ⟨rfl, n8⟩
          go_wp2_with fail
          go_ret
          exact ⟨rfl, (N0.out.trans N7.out).trans n8⟩
        simp only [Option.isSome_some]
        have hb5 := diaS_back HCE.out.1 HCE.out.2 HO5.out.symm
        have ht5 := rndS_at (diaS_is HO5.out.symm).2.1
        obtain ⟨tx, tz, tk⟩ := t5
        simp only at ht5
        obtain ⟨hx5, hz5⟩ := ht5
        rw [← HDX.out.1, ← HDX.out.2.2.1] at hx5
        rw [← HDX.out.2.1, ← HDX.out.2.2.2] at hz5
        subst hx5
        subst hz5
        have hk5 : (sdO (some (⟨x + dx + ex, z + dz + ez, tk⟩ : Sd))).k = tk := rfl
        rw [hk5]
        have KD2 : Hid (∀ W, New w W → Calls Tryd.prog 11 #[.agg #[.int .i64 C.cl, .int .i64 C.cb, .int .i64 C.ht, .int .i64 C.ri, .int .i64 C.ru, .int .i64 C.wd, .int .i64 C.dp], .agg #[.int .i64 G.x, .int .i64 G.z, .int .i64 G.w, .int .i64 G.d, .slice G.ga n G.gc], .int .i64 (x + dx + ex), .int .i64 (z + dz + ez), .int .i64 tk, .int .i64 (backD d), .int .i64 (backD d2)] W fun e w' => e = .returned (.tuple #[.int .i64 (kk : Nat), .bool true]) ∧ New W w') := Lib.hid (fun W q => by
          have := KD.out (x + dx + ex) (z + dz + ez) tk (backD d) (backD d2) W q
          rw [HDF2.out, hb5.1] at this
          exact this)
        have KD3 : Hid (∀ W, New w W → Calls Tryd.prog 11 #[.agg #[.int .i64 C.cl, .int .i64 C.cb, .int .i64 C.ht, .int .i64 C.ri, .int .i64 C.ru, .int .i64 C.wd, .int .i64 C.dp], .agg #[.int .i64 G.x, .int .i64 G.z, .int .i64 G.w, .int .i64 G.d, .slice G.ga n G.gc], .int .i64 x, .int .i64 z, .int .i64 (kk : Nat), .int .i64 d2, .int .i64 d] W fun e w' => e = .returned (.tuple #[.int .i64 tk, .bool true]) ∧ New W w') := Lib.hid (fun W q => by
          have := KD.out x z kk d2 d W q
          rw [HDF2.out, hb5.2] at this
          exact this)
        have hkk2 : ((kk : Int) != (kk : Int)) = false := by simp
        have htt : (tk != tk) = false := by simp
        clear hk5 hb5 HO5
        obtain ⟨c0, c1, c2, c3, c4, c5, c6, g0, g1, g2, g3, g4⟩ := HCG.out _ N7.out
        go_wp2_with fail
        refine (KD2.out _ (N0.out.trans N7.out)).mono ?_
        rintro e v8 ⟨rfl, n8⟩
        have N8 := Lib.hid (N7.out.trans n8)
        clear c0 c1 c2 c3 c4 c5 c6 g0 g1 g2 g3 g4
        clear n8 KD2 N7
        obtain ⟨c0, c1, c2, c3, c4, c5, c6, g0, g1, g2, g3, g4⟩ := HCG.out _ N8.out
        go_wp2_with fail
        refine (KD3.out _ (N0.out.trans N8.out)).mono ?_
        rintro e v9 ⟨rfl, n9⟩
        have N9 := Lib.hid (N8.out.trans n9)
        clear c0 c1 c2 c3 c4 c5 c6 g0 g1 g2 g3 g4
        clear n9 KD3 N8
        go_wp2_with fail
        refine (KW.out _ (N0.out.trans N9.out)).mono ?_
        rintro e va ⟨rfl, na⟩
        go_wp2_with fail
        go_ret
        exact ⟨rfl, (N0.out.trans N9.out).trans na⟩

end Go.Proofs.YtljcebahjfifhaaDoor
