import Derived.Test.YtgoggogcbjfofaaDoorFdMbY14

/- The law FieldMirrors. -/
namespace Go.Proofs.YtgoggogcbjfofaaDoor
open Go.RowKit
set_option linter.unusedVariables false

/-- What the statement that puts a column to the mirrored grid yields. -/
def mmV (P B1 : Nat) (ra ga : Option Addr) (rn rc n gc : Nat) (gx gz : Int) (wn dn mw i xm zm k j : Nat) (ea : Option Addr) (u : Value) : Nat → World → Value → Prop
  | 0, _, v => v = .pointer (some ⟨P, 4, none⟩)
  | 1, _, v => v = .slice ra rn rc
  | 2, _, v => v = .pointer (some ⟨B1, 4, none⟩)
  | 3, _, v => v = .slice ga n gc
  | 4, _, v => v = .agg #[.int .i64 gx, .int .i64 gz, .int .i64 (wn : Nat), .int .i64 (dn : Nat), .slice ga n gc]
  | 5, _, v => v = .int .i64 (i : Nat)
  | 6, _, v => v = .pointer (some ⟨P, 2, none⟩)
  | 7, _, v => v = .int .i64 (mw : Nat)
  | 8, _, v => v = .int .i64 (xm : Nat)
  | 9, _, v => v = .int .i64 (i : Nat)
  | 10, _, v => v = .pointer (some ⟨P, 2, none⟩)
  | 11, _, v => v = .int .i64 (mw : Nat)
  | 12, _, v => v = .int .i64 (zm : Nat)
  | 13, _, v => v = .int .i64 (k : Nat)
  | 14, _, v => v = .int .i64 (j : Nat)
  | 15, _, v => v = .pointer ea
  | 16, _, v => v = u
  | 17, w, v => ∃ p, v = .slice (some ⟨p, 0, none⟩) 1 1 ∧ w.cell? ⟨p, 0, none⟩ = some u
  | _, _, _ => True
theorem mmV_keep {P B1 : Nat} {ra ga : Option Addr} {rn rc n gc : Nat} {gx gz : Int} {wn dn mw i xm zm k j : Nat} {ea : Option Addr} {u : Value} : ∀ o w w' v, mmV P B1 ra ga rn rc n gc gx gz wn dn mw i xm zm k j ea u o w v → New w w' → mmV P B1 ra ga rn rc n gc gx gz wn dn mw i xm zm k j ea u o w' v := by
  intro o w w' v h hn
  match o, h with
  | 0, h => exact h
  | 1, h => exact h
  | 2, h => exact h
  | 3, h => exact h
  | 4, h => exact h
  | 5, h => exact h
  | 6, h => exact h
  | 7, h => exact h
  | 8, h => exact h
  | 9, h => exact h
  | 10, h => exact h
  | 11, h => exact h
  | 12, h => exact h
  | 13, h => exact h
  | 14, h => exact h
  | 15, h => exact h
  | 16, h => exact h
  | 17, ⟨p, e, h1⟩ => exact ⟨p, e, hn.keep h1⟩
  | o + 18, _ => trivial
theorem sl_own_below {w : World} {v : Value} {l : List Fl} (h : Sl Fl.enc 3 w v l) (h0 : 0 < l.length) : ∀ g, v.ownBlock = some g → g < w.heap.size := by
  obtain ⟨a, c, rfl, -, -, -, hr⟩ := h
  obtain ⟨b, off, rfl, ha⟩ := hr h0
  intro g e
  have q : b = g := by simpa [Value.ownBlock] using e
  subst q
  have := World.block_lt_of_cell? _ _ (ha 0 h0 0 (by rw [Fl.enc_len]; omega))
  simpa using this

set_option maxHeartbeats 32000000 in
set_option maxRecDepth 100000 in
theorem l_fieldMirrors (C : CfgR) (G : Gd) (how : Int) (w : World) (hG : G.ok w) (hD : Dirs w) : Calls Tryd.prog 8 #[.agg #[.int .i64 C.cl, .int .i64 C.cb, .int .i64 C.ht, .int .i64 C.ri, .int .i64 C.ru, .int .i64 C.wd, .int .i64 C.dp], .agg #[.int .i64 G.x, .int .i64 G.z, .int .i64 G.w, .int .i64 G.d, .slice G.ga G.L.length G.gc], .int .i64 how] w fun e w' => e = .returned (.bool true) ∧ New w w' := by
  have KW := Lib.hid (fun W (q : New w W) => lw_wakes W (hD.new q))
  have KG := Lib.hid (fun W (q : New w W) => ar_great G W (hG.keep q))
  have KR := Lib.hid (fun W n => rg_check G W (hG.keep (n : New w W)))
  have hg2 := gE_two G
  have KA := Lib.hid (fun W (q : New w W) => fd_Build C G W (hG.keep q) (hD.new q))
  have HBD := Lib.hid (fun (P : Gd) W (h : P.ok W) (q : New w W) => fd_Build C P W h (hD.new q))
  have HGR : Hid (RowsK Fl.enc 3 w (.slice G.ga G.L.length G.gc) G.L) := Lib.hid hG
  unfold ArGreated at KG
  unfold FBuilt at KA HBD
  obtain ⟨r, hr⟩ : ∃ r, r = Int.tmod how 3 := ⟨_, rfl⟩
  have hr3 : -3 < r ∧ r < 3 := by
    have a := Int.tmod_lt_of_pos how (show (0:Int) < 3 by omega)
    have b := Int.tmod_lt_of_pos (-how) (show (0:Int) < 3 by omega)
    rw [Int.neg_tmod] at b
    rw [hr]
    omega
  obtain ⟨kn, hk, hk3⟩ : ∃ kn : Nat, Int.tmod (r + 3) 3 = kn ∧ kn < 3 := by
    have a := Int.tmod_lt_of_pos (r + 3) (show (0:Int) < 3 by omega)
    have b := Int.tmod_nonneg (3 : Int) (show (0:Int) ≤ r + 3 by omega)
    exact ⟨(Int.tmod (r + 3) 3).toNat, by omega, by omega⟩
  have HR := Lib.hid (And.intro hr hk)
  obtain ⟨n, hn⟩ : ∃ n, n = G.L.length := ⟨_, rfl⟩
  have HN := Lib.hid hn
  rw [← hn] at KG KR KA HGR ⊢
  obtain ⟨ga, hga⟩ : ∃ q, q = G.ga := ⟨_, rfl⟩
  have HGA := Lib.hid hga
  rw [← hga] at KG KR KA HGR ⊢
  obtain ⟨ge, hge⟩ : ∃ q, q = gE G := ⟨_, rfl⟩
  have HGE := Lib.hid hge
  rw [← hge] at KR hg2
  clear hn hga hge hG hD hr hk
  go_enter Tryd.func8, Tryd.ntmps8
  go_upto_region 1 with fail
  refine Code.at (fun W hW => ?_)
  have n0 : New w W := by subst hW; (repeat (first | (with_reducible exact New.refl _) | (with_reducible assumption) | ((with_reducible refine New.setB ?_ ?_ _); focus (first | omega | (simp; omega) | (simp; done))) | (with_reducible refine New.alloc ?_ _) | (with_reducible refine New.drew ?_) | (with_reducible refine New.drewN ?_ _) | (with_reducible refine New.hat ?_ _) | ((with_reducible apply New.snart); (with_reducible assumption))))
  ((have c0 : W.cell? ⟨w.heap.size, 0, none⟩ = some (.int .i64 C.cl) := (by subst hW; go_simp)); (have c1 : W.cell? ⟨w.heap.size, 1, none⟩ = some (.int .i64 C.cb) := (by subst hW; go_simp)); (have c2 : W.cell? ⟨w.heap.size, 2, none⟩ = some (.int .i64 C.ht) := (by subst hW; go_simp)); (have c3 : W.cell? ⟨w.heap.size, 3, none⟩ = some (.int .i64 C.ri) := (by subst hW; go_simp)); (have c4 : W.cell? ⟨w.heap.size, 4, none⟩ = some (.int .i64 C.ru) := (by subst hW; go_simp)); (have c5 : W.cell? ⟨w.heap.size, 5, none⟩ = some (.int .i64 C.wd) := (by subst hW; go_simp)); (have c6 : W.cell? ⟨w.heap.size, 6, none⟩ = some (.int .i64 C.dp) := (by subst hW; go_simp)))
  have g0 : W.cell? ⟨w.heap.size + 1, 0, none⟩ = some (.int .i64 G.x) := by subst hW; go_simp
  have g1 : W.cell? ⟨w.heap.size + 1, 1, none⟩ = some (.int .i64 G.z) := by subst hW; go_simp
  have g2 : W.cell? ⟨w.heap.size + 1, 2, none⟩ = some (.int .i64 G.w) := by subst hW; go_simp
  have g3 : W.cell? ⟨w.heap.size + 1, 3, none⟩ = some (.int .i64 G.d) := by subst hW; go_simp
  have g4 : W.cell? ⟨w.heap.size + 1, 4, none⟩ = some (.slice ga n G.gc) := by subst hW; go_simp
  clear hW
  have HCG := Lib.hid (fun W2 (q : New W W2) => And.intro (q.keep c0) (And.intro (q.keep c1) (And.intro (q.keep c2) (And.intro (q.keep c3) (And.intro (q.keep c4) (And.intro (q.keep c5) (And.intro (q.keep c6) (And.intro (q.keep g0) (And.intro (q.keep g1) (And.intro (q.keep g2) (And.intro (q.keep g3) (q.keep g4))))))))))))
  have N0 := Lib.hid n0
  clear n0
  go_wp2_with fail
  refine (KG.out _ N0.out).mono ?_
  rintro e w1 ⟨bg, rfl, -, n1⟩
  dsimp only []
  have N1 := Lib.hid n1
  clear c0 c1 c2 c3 c4 c5 c6 g0 g1 g2 g3 g4
  clear n1 KG
  cases bg
  rotate_left
  · go_wp2_with fail
    refine (KW.out _ (N0.out.trans N1.out)).mono ?_
    rintro e w4 ⟨rfl, n4⟩
    go_wp2_with fail
    go_ret
    exact ⟨rfl, (N0.out.trans N1.out).trans n4⟩
  obtain ⟨c0, c1, c2, c3, c4, c5, c6, g0, g1, g2, g3, g4⟩ := HCG.out _ N1.out
  go_wp2_with fail
  refine (KR.out _ (N0.out.trans N1.out)).mono ?_
  rintro e w2 ⟨rfl, n2⟩
  dsimp only []
  have N2 := Lib.hid (N1.out.trans n2)
  clear c0 c1 c2 c3 c4 c5 c6 g0 g1 g2 g3 g4
  clear n2 N1 KR
  rcases hg2 with rfl | rfl
  rotate_left
  · go_wp2_with fail
    refine (KW.out _ (N0.out.trans N2.out)).mono ?_
    rintro e w4 ⟨rfl, n4⟩
    go_wp2_with fail
    go_ret
    exact ⟨rfl, (N0.out.trans N2.out).trans n4⟩
  have hE : gE G = 0 := HGE.out.symm
  have hb := placeB_iff.1 (gd_is hE).1
  obtain ⟨wn, hwn⟩ : ∃ wn : Nat, G.w = wn := ⟨G.w.toNat, by omega⟩
  obtain ⟨dn, hdn⟩ : ∃ dn : Nat, G.d = dn := ⟨G.d.toNat, by omega⟩
  have hw64 : wn ≤ 64 := by omega
  have hd64 : dn ≤ 64 := by omega
  have hlen := mir_len hE hk3
  have hnn : n = dn * wn := by rw [HN.out, hlen]; congr 1 <;> omega
  have HWD := Lib.hid (And.intro hwn (And.intro hdn (And.intro hE hnn)))
  have HCG2 := Lib.hid (fun W2 (q : New W W2) => HCG.out W2 q)
  rw [hwn, hdn] at HCG2
  clear hb hlen hnn hwn hdn hE
  obtain ⟨c0, c1, c2, c3, c4, c5, c6, g0, g1, g2, g3, g4⟩ := HCG2.out _ N2.out
  have hrr : Int.tmod how 3 = r := HR.out.1.symm
  have hwr : IntKind.i64.wrap (r + 3) = r + 3 := IntWalk.i64_in _ (by omega)
  have hkk : Int.tmod (r + 3) 3 = (kn : Int) := HR.out.2
  have hzz := World.block_lt_of_cell? _ _ g0
  simp only [] at hzz
  clear c0 c1 c2 c3 c4 c5 c6
  obtain ⟨P, hP⟩ : ∃ P, P = w2.heap.size := ⟨_, rfl⟩
  have HPP := Lib.hid hP
  have hP1 : w.heap.size + 1 < P := by rw [hP]; exact hzz
  clear hP hzz
  obtain ⟨mw, hmw⟩ : ∃ mw : Nat, mw = if kn = 2 then dn else wn := ⟨_, rfl⟩
  obtain ⟨mh, hmh⟩ : ∃ mh : Nat, mh = if kn = 2 then wn else dn := ⟨_, rfl⟩
  have HMW := Lib.hid (And.intro hmw hmh)
  clear hmw hmh
  go_upto_region 4 with fail
  go_cut [7] (fun s7 Z => s7 = .pointer (some ⟨P, 0, none⟩) ∧ Hid (((Z.cell? ⟨P, 0, none⟩ = some (.int .i64 0)) ∧ (Z.cell? ⟨P, 1, none⟩ = some (.int .i64 0)) ∧ (Z.cell? ⟨P, 2, none⟩ = some (.int .i64 (wn : Nat))) ∧ (Z.cell? ⟨P, 3, none⟩ = some (.int .i64 (dn : Nat))) ∧ (Z.cell? ⟨P, 4, none⟩ = some (.slice none 0 0))) ∧ (Z.frozen? ⟨P, 0, none⟩ = false ∧ Z.frozen? ⟨P, 1, none⟩ = false ∧ Z.frozen? ⟨P, 2, none⟩ = false ∧ Z.frozen? ⟨P, 3, none⟩ = false ∧ Z.frozen? ⟨P, 4, none⟩ = false) ∧ Z.heap.size = P + 1 ∧ New w2 Z))
  case first =>
    clear hrr hwr hkk
    go_wp2_with fail
    go_meet
    rw [HPP.out]
    exact ⟨rfl, Lib.hid ⟨⟨by go_simp, by go_simp, by go_simp, by go_simp, by go_simp⟩, ⟨by go_simp, by go_simp, by go_simp, by go_simp, by go_simp⟩, by simp, by (repeat (first | (with_reducible exact New.refl _) | (with_reducible assumption) | ((with_reducible refine New.setB ?_ ?_ _); focus (first | omega | (simp; omega) | (simp; done))) | (with_reducible refine New.alloc ?_ _) | (with_reducible refine New.drew ?_) | (with_reducible refine New.drewN ?_ _) | (with_reducible refine New.hat ?_ _) | ((with_reducible apply New.snart); (with_reducible assumption))))⟩⟩
  rename World => W5
  obtain ⟨rfl, HD5⟩ := hcut
  clear hrr hwr hkk g0 g1 g2 g3 g4
  go_upto_if 32 with fail
  go_cut [32] (fun s32 Z => Hid (Mk w2 P 0 0 mw mh Z none 0 0 [] (mirL G kn 0)))
  case first =>
    obtain ⟨hmw, hmh⟩ := HMW.out
    by_cases hq : kn = 2
    · rw [if_pos hq] at hmw hmh
      have e : ((kn : Int) == 2) = true := by rw [beq_iff_eq]; omega
      obtain ⟨-, -, -, -, -, -, -, g0, g1, g2, g3, g4⟩ := HCG2.out _ (N2.out.trans HD5.out.2.2.2)
      obtain ⟨⟨d0, d1, d2, d3, d4⟩, ⟨f0, f1, f2, f3, f4⟩, hz, hn⟩ := HD5.out
      have HZ := Lib.hid hz
      have HNN := Lib.hid hn
      have HWE := Lib.hid (And.intro hmw hmh)
      clear hz hn hmw hmh hq
      go_wp2_with fail
      generalize hW6 : World.setCell _ _ _ = W6
      have HM6 : Hid (Mk w2 P 0 0 mw mh W6 none 0 0 [] (mirL G kn 0)) := Lib.hid (by
        rw [HWE.out.1, HWE.out.2]
        subst hW6
        refine ⟨⟨by go_simp, by go_simp, by go_simp, by go_simp, by go_simp, by go_simp⟩, RowsOK.nil, fun j hj => absurd hj (by simp [mirL]), by have := HZ.out; simp; omega, ?_, by rw [HPP.out]; exact Nat.le_refl _⟩
        have hlo : w2.heap.size ≤ P := by rw [HPP.out]; exact Nat.le_refl _
        have hn2 := HNN.out
        (repeat (first | (with_reducible exact New.refl _) | (with_reducible assumption) | ((with_reducible refine New.setB ?_ ?_ _); focus (first | omega | (simp; omega) | (simp; done))) | (with_reducible refine New.alloc ?_ _) | (with_reducible refine New.drew ?_) | (with_reducible refine New.drewN ?_ _) | (with_reducible refine New.hat ?_ _) | ((with_reducible apply New.snart); (with_reducible assumption)))))
      go_meet
      exact HM6
    · rw [if_neg hq] at hmw hmh
      have e : ((kn : Int) == 2) = false := by rw [beq_eq_false_iff_ne]; omega
      have HWE := Lib.hid (And.intro hmw hmh)
      clear hmw hmh hq
      go_wp2_with fail
      go_meet
      rw [HWE.out.1, HWE.out.2]
      obtain ⟨⟨d0, d1, d2, d3, d4⟩, ⟨f0, f1, f2, f3, f4⟩, hz, hn⟩ := HD5.out
      exact Lib.hid ⟨⟨d0, d1, d2, d3, d4, f4⟩, RowsOK.nil, fun j hj => absurd hj (by simp [mirL]), by omega, hn, by rw [HPP.out]; exact Nat.le_refl _⟩
  case rest =>
    have HM := hcut
    obtain ⟨hmw, hmh⟩ := HMW.out
    have hmw64 : mw ≤ 64 := by rw [hmw]; split <;> omega
    have hmh64 : mh ≤ 64 := by rw [hmh]; split <;> omega
    have hE : gE G = 0 := HWD.out.2.2.1
    have hmn : mh * mw = n := by
      rw [HWD.out.2.2.2, hmw, hmh]
      split
      · exact Nat.mul_comm _ _
      · rfl
    have hmW : mirW G kn = (mw : Nat) := by
      unfold mirW
      rw [hmw]
      by_cases hq : kn = 2
      · rw [if_pos hq, if_pos hq]; exact HWD.out.2.1
      · rw [if_neg hq, if_neg hq]; exact HWD.out.1
    have hmH : mirH G kn = (mh : Nat) := by
      unfold mirH
      rw [hmh]
      by_cases hq : kn = 2
      · rw [if_pos hq, if_pos hq]; exact HWD.out.1
      · rw [if_neg hq, if_neg hq]; exact HWD.out.2.1
    have hn64 : n ≤ 4096 := by
      rw [← hmn]
      have := Nat.mul_le_mul hmh64 hmw64
      omega
    have hwm : IntKind.i64.wrap ((mw : Int) * (mh : Int)) = (n : Int) := by
      rw [show (mw : Int) * (mh : Int) = (n : Int) by rw [← hmn, Int.natCast_mul, Int.mul_comm]]
      exact IntWalk.i64_in _ (by omega)
    have hgl : G.L.length = G.d.toNat * G.w.toNat := mir_len hE hk3
    have hdw : G.d.toNat * G.w.toNat = n := by rw [← hgl]; exact HN.out.symm
    have HMI : Hid (∀ i, i < n → mirI G kn i < G.L.length ∧ i % mw < mw ∧ i / mw < mh ∧ 0 < mw) := Lib.hid (fun i hi => by
      have h1 := mir_lt hE hk3 (i := i) (by rw [hdw]; exact hi)
      obtain ⟨h2, h3, h4⟩ := mir_i hE hk3 (i := i) (by rw [hdw]; exact hi)
      rw [hmW, Int.toNat_natCast] at h2 h3 h4
      rw [hmH, Int.toNat_natCast] at h3
      exact ⟨by rw [hgl]; exact h1, h2, h3, h4⟩)
    have HT : Hid (∀ i, i < n → ∀ W, Calls Tryd.prog 28 #[.agg #[.int .i64 G.x, .int .i64 G.z, .int .i64 (wn : Nat), .int .i64 (dn : Nat), .slice ga n G.gc], .int .i64 (i % mw : Nat), .int .i64 (i / mw : Nat), .int .i64 (kn : Nat)] W fun e w' => e = .returned (.int .i64 ((mirI G kn i : Nat) : Int)) ∧ New W w') := Lib.hid (fun i hi W => by
      obtain ⟨-, h2, h3, -⟩ := HMI.out i hi
      have h := lw_turned G.x G.z ga n G.gc wn dn (i % mw) (i / mw) kn hw64 hd64 (by omega) (by omega) hk3 W
      rw [trn_mir hE hk3 HWD.out.1 HWD.out.2.1 hmW (by rw [← HWD.out.2.2.2]; exact hi)] at h
      exact h)
    have HPG : Hid (∀ ra rc, mirG G kn ra rc = ⟨0, 0, (mw : Nat), (mh : Nat), mirL G kn n, ra, rc⟩) := Lib.hid (fun ra rc => by
      unfold mirG
      rw [hmW, hmH, Int.toNat_natCast, Int.toNat_natCast, hmn])
    have HB : Hid (∀ ra rc, lkE C (mirG G kn ra rc) = lkE C G ∧ (fdT C (mirG G kn ra rc)).length = (fdT C G).length ∧ ∀ i (h : i < (fdT C (mirG G kn ra rc)).length), i < n ∧ ∃ h1 : mirI G kn i < (fdT C G).length, (fdT C (mirG G kn ra rc))[i] = (fdT C G)[mirI G kn i]) := Lib.hid (fun ra rc => by
      have hM := mir_ok hE hk3 ra rc
      have hl : lkE C (mirG G kn ra rc) = lkE C G := by unfold lkE; rw [hM, hE]
      refine ⟨hl, ?_⟩
      by_cases hq : lkE C G = 0
      · have e1 : fdT C G = fdL C G := fdT_get hq
        have e2 : fdT C (mirG G kn ra rc) = fdL C (mirG G kn ra rc) := fdT_get (hl.trans hq)
        rw [e1, e2]
        have hl2 : (fdL C (mirG G kn ra rc)).length = n := by
          rw [fdL_len, HPG.out]
          exact mirL_len _ _ _
        refine ⟨by rw [hl2, fdL_len]; exact HN.out, fun i hi => ?_⟩
        have hin : i < n := by rw [← hl2]; exact hi
        obtain ⟨h1, h2, h3⟩ := mir_rows hE hk3 C ra rc i (by rw [hdw]; exact hin)
        exact ⟨hin, h1, h3⟩
      · have e1 : fdT C G = [] := by unfold fdT; rw [if_neg hq]
        have e2 : fdT C (mirG G kn ra rc) = [] := by unfold fdT; rw [if_neg (by rw [hl]; exact hq)]
        rw [e1, e2]
        exact ⟨rfl, fun i hi => absurd hi (by simp)⟩)
    have HLS : Hid (∀ i, (mirL G kn i).length = i ∧ mirL G kn (i + 1) = mirL G kn i ++ [gcol G (mirI G kn i)]) := Lib.hid (fun i => ⟨mirL_len _ _ _, mirL_succ _ _ _⟩)
    clear hcut HD5 hmw hmh hmW hmH hgl hdw hmn hE
    go_wp2_with fail
    go_loopg [8] n (fun gk s8 wr => ∃ (i : Nat) (ra : Option Addr) (rn rc : Nat) (us : List Value), s8 = .int .i64 i ∧ i ≤ n ∧ n - i ≤ gk ∧ Hid (Mk w2 P 0 0 (mw : Nat) (mh : Nat) wr ra rn rc us (mirL G kn i)))
    case atStart => exact ⟨0, none, 0, 0, [], rfl, by omega, by omega, HM⟩
    case round =>
      clear HM
      rename World => wr0
      obtain ⟨i, ra, rn, rc, us, rfl, hi, hgk, HM⟩ := hrel
      rename World => wr
      obtain ⟨-, -, p2, p3, p4, -⟩ := HM.out.gd
      by_cases hlt : i < n
      rotate_left
      · obtain rfl : n = i := by omega
        have NR := Lib.hid (N2.out.trans HM.out.nw)
        obtain ⟨hle, hBl, hBr⟩ := HB.out ra rc
        rw [HPG.out ra rc] at hle hBl hBr
        have hlen := HM.out.len
        have HPok : Hid (∀ W, New wr W → Gd.ok (⟨0, 0, (mw : Nat), (mh : Nat), mirL G kn n, ra, rc⟩ : Gd) W) := Lib.hid (fun W q => by
          have h : Gd.ok (⟨0, 0, (mw : Nat), (mh : Nat), mirL G kn n, ra, rc⟩ : Gd) wr := by
            show RowsK Fl.enc 3 wr (.slice ra (mirL G kn n).length rc) (mirL G kn n)
            rw [← hlen]
            exact HM.out.ro.rows
          exact h.keep q)
        have KB : Hid (∀ W, New wr W → Calls Tryd.prog 11 #[.agg #[.int .i64 C.cl, .int .i64 C.cb, .int .i64 C.ht, .int .i64 C.ri, .int .i64 C.ru, .int .i64 C.wd, .int .i64 C.dp], .agg #[.int .i64 0, .int .i64 0, .int .i64 (mw : Nat), .int .i64 (mh : Nat), .slice ra rn rc]] W fun e w' => ∃ v, e = .returned (.tuple #[v, .int .i64 (lkE C G)]) ∧ RowsK iE 1 w' v (fdT C ⟨0, 0, (mw : Nat), (mh : Nat), mirL G kn n, ra, rc⟩) ∧ New W w') := Lib.hid (fun W q => by
          have h := HBD.out ⟨0, 0, (mw : Nat), (mh : Nat), mirL G kn n, ra, rc⟩ W (HPok.out W q) (N0.out.trans (NR.out.trans q))
          rw [hle] at h
          rw [hlen]
          exact h)
        have HBR := Lib.hid hBr
        have HBL := Lib.hid hBl
        have HGD := Lib.hid HM.out.gd
        have hd1 : decide ((n : Int) < (n : Int)) = false := decide_eq_false (by omega)
        have hd2 : decide (n < n) = false := decide_eq_false (by omega)
        clear hle hBl hBr hlen HPok HBD HM hgk
        generalize fdT C ⟨0, 0, (mw : Nat), (mh : Nat), mirL G kn n, ra, rc⟩ = B at *
        generalize fdT C G = A at *
        generalize lkE C G = er at *
        have hee : (er != er) = false := by simp
        obtain ⟨c0, c1, c2, c3, c4, c5, c6, g0, g1, g2, g3, g4⟩ := HCG.out _ NR.out
        go_wp2_with fail
        clear hd1 hd2 hwm
        refine (KA.out _ (N0.out.trans NR.out)).mono ?_
        rintro e w6 ⟨va, rfl, hra, n6⟩
        have HRA := Lib.hid hra
        have N6 := Lib.hid n6
        have HN6 := Lib.hid (NR.out.trans n6)
        clear c0 c1 c2 c3 c4 c5 c6 g0 g1 g2 g3 g4
        clear hra n6 KA p2 p3 p4
        obtain ⟨c0, c1, c2, c3, c4, c5, c6, g0, g1, g2, g3, g4⟩ := HCG.out _ HN6.out
        obtain ⟨p0, p1, p2, p3, p4, -⟩ := HGD.out.new N6.out
        go_wp2_with fail
        refine (KB.out _ N6.out).mono ?_
        rintro e w7 ⟨vb, rfl, hrb, n7⟩
        have HRB := Lib.hid hrb
        have HRA7 := Lib.hid (HRA.out.keep n7)
        have HGD7 := Lib.hid (HGD.out.new (N6.out.trans n7))
        have HN7 := Lib.hid (HN6.out.trans n7)
        clear c0 c1 c2 c3 c4 c5 c6 g0 g1 g2 g3 g4
        clear hrb n7 KB p0 p1 p2 p3 p4 N6 HN6 HRA HGD
        obtain ⟨aa, ac, rfl⟩ := HRA7.out.shape
        obtain ⟨ba, bc, rfl⟩ := HRB.out.shape
        have hmx := rows_max HRB.out
        unfold maxLen at hmx
        obtain ⟨bn, hbn⟩ : ∃ q, q = B.length := ⟨_, rfl⟩
        have han : A.length = bn := by rw [hbn]; exact HBL.out.symm
        rw [← hbn] at HRB hmx ⊢
        rw [han] at HRA7 ⊢
        have HBN := Lib.hid (And.intro hbn han)
        clear hbn han HBL
        have hnn : ((bn : Int) != (bn : Int)) = false := by simp
        go_wp2_with fail
        go_loopg [13] bn (fun gk s13 wx => ∃ k : Nat, s13 = .int .i64 k ∧ k ≤ bn ∧ bn - k ≤ gk ∧ Hid (New w7 wx))
        case atStart => exact ⟨0, rfl, by omega, by omega, Lib.hid (New.refl _)⟩
        case round =>
          rename World => wk0
          obtain ⟨k, rfl, hk, hgk, hnk⟩ := hrel
          rename World => wk
          by_cases hlt : k < bn
          rotate_left
          · obtain rfl : bn = k := by omega
            have NE := Lib.hid (N0.out.trans (HN7.out.trans hnk.out))
            go_wp2_with fail
            refine (KW.out _ NE.out).mono ?_
            rintro e wb ⟨rfl, nb⟩
            go_wp2_with fail
            go_ret
            exact ⟨rfl, NE.out.trans nb⟩
          have h2 : k < B.length := by rw [← HBN.out.1]; exact hlt
          obtain ⟨hkn, h1, hrow⟩ := HBR.out k h2
          obtain ⟨b2, o2, a2, d2, rfl, hc2, hs2⟩ := (HRB.out.keep hnk.out).at k h2
          obtain ⟨b1, o1, a1, d1, rfl, hc1, hs1⟩ := (HRA7.out.keep hnk.out).at (mirI G kn k) h1
          have KI : Hid (∀ W, New wk W → Calls Tryd.prog 29 #[.slice a2 B[k].length d2, .slice a1 A[mirI G kn k].length d1] W fun e w' => e = .returned (.bool true) ∧ New W w') := Lib.hid (fun W q => by
            have h := rInts_any _ _ _ _ W (hs2.keep q) (hs1.keep q)
            rw [decide_eq_true hrow] at h
            exact h)
          obtain ⟨-, hxm, hzm, hm0⟩ := HMI.out k hkn
          have HTI0 := HT.out k hkn
          obtain ⟨xm, hxe⟩ : ∃ t, t = k % mw := ⟨_, rfl⟩
          obtain ⟨zm, hze⟩ : ∃ t, t = k / mw := ⟨_, rfl⟩
          have hr1 : ((k : Int).tmod (mw : Int)) = (xm : Int) := by rw [hxe]; rfl
          have hr2 : ((k : Int).tdiv (mw : Int)) = (zm : Int) := by rw [hze]; rfl
          rw [← hxe] at hxm HTI0
          rw [← hze] at hzm HTI0
          have hw1 : IntKind.i64.wrap (xm : Int) = xm := IntWalk.i64_in _ (by omega)
          have hw2 : IntKind.i64.wrap (zm : Int) = zm := IntWalk.i64_in _ (by omega)
          have hpne : ¬ mw = 0 := by omega
          have hpn1 : ((mw : Int) == 0) = false := by rw [beq_eq_false_iff_ne]; omega
          have hjb : mirI G kn k < bn := by rw [← HBN.out.2]; exact h1
          generalize B[k].length = l2 at *
          generalize A[mirI G kn k].length = l1 at *
          obtain ⟨j, hj⟩ : ∃ j, j = mirI G kn k := ⟨_, rfl⟩
          rw [← hj] at hc1 HTI0 hjb
          have HTI := Lib.hid HTI0
          have HGK := Lib.hid hgk
          obtain ⟨-, -, -, -, -, -, -, g0, g1, g2, g3, g4⟩ := HCG2.out _ (HN7.out.trans hnk.out)
          obtain ⟨-, -, p2, -, -, -⟩ := HGD7.out.new hnk.out
          have F0 := Lib.hid (fun (q : Hat wk) => HTI.out q.w)
          have F1 := Lib.hid (fun (q : Hat wk) => KI.out q.w q.h)
          clear hxe hze hj h1 h2 hrow hs1 hs2 HTI0 hgk hxm hzm hm0
          go_upto_region 18 with fail
          (refine wp_region_hat (by kernel_rfl) (by kernel_rfl) ?_; intro hatc hatf; (repeat (go_big_quiet_step (((first | (go_at_call 28; with_reducible exact Calls.hat (F0.out _)) | (go_at_call 29; with_reducible exact Calls.hat (F1.out _))))))); refine wpQuiet_nil ?_; rintro _ ⟨qq, rfl⟩)
          have HQ := Lib.hid (hnk.out.trans qq.h)
          clear hatc hatf F0 F1 hr1 hr2 hw1 hw2 hpne hpn1 p2 g0 g1 g2 g3 g4 hc1 hc2
          generalize qq.w = wj at *
          clear qq
          have hgk := HGK.out
          go_wp2_with fail
          go_roundg (bn - (k + 1))
          case measure => omega
          case rel => exact ⟨k + 1, by go_num, by omega, by omega, HQ⟩
      obtain ⟨hjl, hxm, hzm, hm0⟩ := HMI.out i hlt
      have HTI0 := HT.out i hlt
      obtain ⟨xm, hxe⟩ : ∃ t, t = i % mw := ⟨_, rfl⟩
      obtain ⟨zm, hze⟩ : ∃ t, t = i / mw := ⟨_, rfl⟩
      have hr1 : ((i : Int).tmod (mw : Int)) = (xm : Int) := by rw [hxe]; rfl
      have hr2 : ((i : Int).tdiv (mw : Int)) = (zm : Int) := by rw [hze]; rfl
      rw [← hxe] at hxm HTI0
      rw [← hze] at hzm HTI0
      have hw1 : IntKind.i64.wrap (xm : Int) = xm := IntWalk.i64_in _ (by omega)
      have hw2 : IntKind.i64.wrap (zm : Int) = zm := IntWalk.i64_in _ (by omega)
      have hpne : ¬ mw = 0 := by omega
      have hpn1 : ((mw : Int) == 0) = false := by rw [beq_eq_false_iff_ne]; omega
      have HNR := Lib.hid (N2.out.trans HM.out.nw)
      obtain ⟨b1, o1, a1, d1, e1, hc, hs⟩ := HGR.out.at (mirI G kn i) hjl
      have hls := (HLS.out i).2
      rw [gcol_at hjl] at hls
      have hjn : mirI G kn i < n := by rw [HN.out]; exact hjl
      obtain ⟨l, hl⟩ : ∃ l, l = G.L[mirI G kn i] := ⟨_, rfl⟩
      rw [← hl] at hc hs hls
      obtain ⟨j, hj⟩ : ∃ j, j = mirI G kn i := ⟨_, rfl⟩
      rw [← hj] at hc HTI0 hjn
      have hlt1 := fun h0 => sl_own_below hs h0
      obtain ⟨ln, hln⟩ : ∃ q, q = l.length := ⟨_, rfl⟩
      rw [← hln] at hc hs hlt1
      have HL1 := Lib.hid hlt1
      have HSL := Lib.hid hs
      have HPRT := Lib.hid hls
      have HLN := Lib.hid hln
      have hcell := (N0.out.trans HNR.out).keep hc
      have hul : us.length ≤ 100000 := by
        have h := HM.out.ro.len
        rw [(HLS.out i).1] at h
        omega
      have HGK := Lib.hid hgk
      have hd1 : decide ((i : Int) < (n : Int)) = true := decide_eq_true (by omega)
      have hd2 : decide (i < n) = true := decide_eq_true hlt
      clear hc hs hlt1 hl hln hj hjl hls hxe hze hgk
      subst e1
      have HTI := Lib.hid HTI0
      clear HTI0
      go_upto_region 10 with fail
      clear hd1 hd2
      obtain ⟨-, -, -, -, -, -, -, g0, g1, g2, g3, g4⟩ := HCG2.out _ HNR.out
      refine wp_region_loose 18 (mmV P (w.heap.size + 1) ra (some ⟨b1, o1, none⟩) rn rc n G.gc G.x G.z wn dn mw i xm zm kn j (some ⟨b1, o1 + j, none⟩) (.slice a1 ln d1)) (by kernel_rfl) (by kernel_rfl) mmV_keep ?_ ?_
      · intro i' o hi2 ho a' w' nn hr hd
        replace g0 := nn.keep g0
        replace g1 := nn.keep g1
        replace g2 := nn.keep g2
        replace g3 := nn.keep g3
        replace g4 := nn.keep g4
        replace p2 := nn.keep p2
        replace p4 := nn.keep p4
        replace hcell := nn.keep hcell
        rcases (show i' = 0 ∨ i' = 1 ∨ i' = 2 ∨ i' = 3 ∨ i' = 4 ∨ i' = 5 ∨ i' = 6 ∨ i' = 7 ∨ i' = 8 ∨ i' = 9 ∨ i' = 10 ∨ i' = 11 ∨ i' = 12 ∨ i' = 13 ∨ i' = 14 ∨ i' = 15 ∨ i' = 16 ∨ i' = 17 by omega) with rfl | rfl | rfl | rfl | rfl | rfl | rfl | rfl | rfl | rfl | rfl | rfl | rfl | rfl | rfl | rfl | rfl | rfl <;> obtain rfl := Option.some.inj ho
        · have r1 : (a'.tmps[7]?).getD undef = .pointer (some ⟨P, 0, none⟩) := (eval_get a' 7).symm.trans (hr 7 (by kernel_rfl))
          exact yields_value (.pointer (some ⟨P, 4, none⟩)) (by go_simp) ⟨New.refl _, rfl⟩
        · have r1 : (a'.tmps[47]?).getD undef = .pointer (some ⟨P, 4, none⟩) := (eval_get a' 47).symm.trans (hd 0 47 (by omega) (by kernel_rfl) (by kernel_rfl))
          exact yields_value (.slice ra rn rc) (by go_simp) ⟨New.refl _, rfl⟩
        · have r1 : (a'.tmps[4]?).getD undef = .pointer (some ⟨w.heap.size + 1, 0, none⟩) := (eval_get a' 4).symm.trans (hr 4 (by kernel_rfl))
          exact yields_value (.pointer (some ⟨w.heap.size + 1, 4, none⟩)) (by go_simp) ⟨New.refl _, rfl⟩
        · have r1 : (a'.tmps[49]?).getD undef = .pointer (some ⟨w.heap.size + 1, 4, none⟩) := (eval_get a' 49).symm.trans (hd 2 49 (by omega) (by kernel_rfl) (by kernel_rfl))
          exact yields_value (.slice (some ⟨b1, o1, none⟩) n G.gc) (by go_simp) ⟨New.refl _, rfl⟩
        · have r1 : (a'.tmps[4]?).getD undef = .pointer (some ⟨w.heap.size + 1, 0, none⟩) := (eval_get a' 4).symm.trans (hr 4 (by kernel_rfl))
          exact yields_value (.agg #[.int .i64 G.x, .int .i64 G.z, .int .i64 (wn : Nat), .int .i64 (dn : Nat), .slice (some ⟨b1, o1, none⟩) n G.gc]) (by go_simp) ⟨New.refl _, rfl⟩
        · have r1 : (a'.tmps[8]?).getD undef = .int .i64 (i : Nat) := (eval_get a' 8).symm.trans (hr 8 (by kernel_rfl))
          exact yields_value (.int .i64 (i : Nat)) (by go_simp) ⟨New.refl _, rfl⟩
        · have r1 : (a'.tmps[7]?).getD undef = .pointer (some ⟨P, 0, none⟩) := (eval_get a' 7).symm.trans (hr 7 (by kernel_rfl))
          exact yields_value (.pointer (some ⟨P, 2, none⟩)) (by go_simp) ⟨New.refl _, rfl⟩
        · have r1 : (a'.tmps[53]?).getD undef = .pointer (some ⟨P, 2, none⟩) := (eval_get a' 53).symm.trans (hd 6 53 (by omega) (by kernel_rfl) (by kernel_rfl))
          exact yields_value (.int .i64 (mw : Nat)) (by go_simp) ⟨New.refl _, rfl⟩
        · have r1 : (a'.tmps[52]?).getD undef = .int .i64 (i : Nat) := (eval_get a' 52).symm.trans (hd 5 52 (by omega) (by kernel_rfl) (by kernel_rfl))
          have r2 : (a'.tmps[54]?).getD undef = .int .i64 (mw : Nat) := (eval_get a' 54).symm.trans (hd 7 54 (by omega) (by kernel_rfl) (by kernel_rfl))
          exact yields_value (.int .i64 (xm : Nat)) (by go_simp) ⟨New.refl _, rfl⟩
        · have r1 : (a'.tmps[8]?).getD undef = .int .i64 (i : Nat) := (eval_get a' 8).symm.trans (hr 8 (by kernel_rfl))
          exact yields_value (.int .i64 (i : Nat)) (by go_simp) ⟨New.refl _, rfl⟩
        · have r1 : (a'.tmps[7]?).getD undef = .pointer (some ⟨P, 0, none⟩) := (eval_get a' 7).symm.trans (hr 7 (by kernel_rfl))
          exact yields_value (.pointer (some ⟨P, 2, none⟩)) (by go_simp) ⟨New.refl _, rfl⟩
        · have r1 : (a'.tmps[57]?).getD undef = .pointer (some ⟨P, 2, none⟩) := (eval_get a' 57).symm.trans (hd 10 57 (by omega) (by kernel_rfl) (by kernel_rfl))
          exact yields_value (.int .i64 (mw : Nat)) (by go_simp) ⟨New.refl _, rfl⟩
        · have r1 : (a'.tmps[56]?).getD undef = .int .i64 (i : Nat) := (eval_get a' 56).symm.trans (hd 9 56 (by omega) (by kernel_rfl) (by kernel_rfl))
          have r2 : (a'.tmps[58]?).getD undef = .int .i64 (mw : Nat) := (eval_get a' 58).symm.trans (hd 11 58 (by omega) (by kernel_rfl) (by kernel_rfl))
          exact yields_value (.int .i64 (zm : Nat)) (by go_simp) ⟨New.refl _, rfl⟩
        · have r1 : (a'.tmps[2]?).getD undef = .int .i64 (kn : Nat) := (eval_get a' 2).symm.trans (hr 2 (by kernel_rfl))
          exact yields_value (.int .i64 (kn : Nat)) (by go_simp) ⟨New.refl _, rfl⟩
        · have r1 : (a'.tmps[51]?).getD undef = .agg #[.int .i64 G.x, .int .i64 G.z, .int .i64 (wn : Nat), .int .i64 (dn : Nat), .slice (some ⟨b1, o1, none⟩) n G.gc] := (eval_get a' 51).symm.trans (hd 4 51 (by omega) (by kernel_rfl) (by kernel_rfl))
          have r2 : (a'.tmps[55]?).getD undef = .int .i64 (xm : Nat) := (eval_get a' 55).symm.trans (hd 8 55 (by omega) (by kernel_rfl) (by kernel_rfl))
          have r3 : (a'.tmps[59]?).getD undef = .int .i64 (zm : Nat) := (eval_get a' 59).symm.trans (hd 12 59 (by omega) (by kernel_rfl) (by kernel_rfl))
          have r4 : (a'.tmps[60]?).getD undef = .int .i64 (kn : Nat) := (eval_get a' 60).symm.trans (hd 13 60 (by omega) (by kernel_rfl) (by kernel_rfl))
          exact yields_enter 28 #[.agg #[.int .i64 G.x, .int .i64 G.z, .int .i64 (wn : Nat), .int .i64 (dn : Nat), .slice (some ⟨b1, o1, none⟩) n G.gc], .int .i64 (xm : Nat), .int .i64 (zm : Nat), .int .i64 (kn : Nat)] (by go_simp) ((HTI.out w').mono fun e w'' ⟨he, hn⟩ => ⟨_, he, hn, rfl⟩)
        · have r1 : (a'.tmps[50]?).getD undef = .slice (some ⟨b1, o1, none⟩) n G.gc := (eval_get a' 50).symm.trans (hd 3 50 (by omega) (by kernel_rfl) (by kernel_rfl))
          have r2 : (a'.tmps[61]?).getD undef = .int .i64 (j : Nat) := (eval_get a' 61).symm.trans (hd 14 61 (by omega) (by kernel_rfl) (by kernel_rfl))
          exact yields_value (.pointer (some ⟨b1, o1 + j, none⟩)) (by go_simp) ⟨New.refl _, rfl⟩
        · have r1 : (a'.tmps[62]?).getD undef = .pointer (some ⟨b1, o1 + j, none⟩) := (eval_get a' 62).symm.trans (hd 15 62 (by omega) (by kernel_rfl) (by kernel_rfl))
          exact yields_value (.slice a1 ln d1) (by go_simp) ⟨New.refl _, rfl⟩
        · have r1 : (a'.tmps[63]?).getD undef = .slice a1 ln d1 := (eval_get a' 63).symm.trans (hd 16 63 (by omega) (by kernel_rfl) (by kernel_rfl))
          have na : New w' (w'.alloc (.cells #[.slice a1 ln d1] 44)) := by (repeat (first | (with_reducible exact New.refl _) | (with_reducible assumption) | ((with_reducible refine New.setB ?_ ?_ _); focus (first | omega | (simp; omega) | (simp; done))) | (with_reducible refine New.alloc ?_ _) | (with_reducible refine New.drew ?_) | (with_reducible refine New.drewN ?_ _) | (with_reducible refine New.hat ?_ _) | ((with_reducible apply New.snart); (with_reducible assumption))))
          exact yields_value (w' := w'.alloc (.cells #[.slice a1 ln d1] 44)) (.slice (some ⟨w'.heap.size, 0, none⟩) 1 1) (by go_simp) ⟨na, w'.heap.size, rfl, cell_of_heap (heap_new _ _) rfl⟩
      · intro vs w9 nn hv
        have e1 : vs 1 = .slice ra rn rc := hv 1 (by omega)
        obtain ⟨pp, e12, hp⟩ : ∃ pp, vs 17 = .slice (some ⟨pp, 0, none⟩) 1 1 ∧ w9.cell? ⟨pp, 0, none⟩ = some (.slice a1 ln d1) := hv 17 (by omega)
        simp only [List.take_succ_cons, List.take_zero, List.drop_succ_cons, List.drop_zero, putL, Act.put, List.setIfInBounds_toArray, List.set_cons_zero, List.set_cons_succ, Nat.reduceAdd, Nat.zero_add]
        rw [e1, e12]
        have HM9 := Lib.hid (HM.out.new nn)
        have HS9 := Lib.hid (HSL.out.keep (N0.out.trans (HNR.out.trans nn)))
        have hb9 := HM9.out.sz
        have ho9 := HM9.out.ro.own
        clear hv e1 e12 nn g0 g1 g2 g3 g4 p2 p3 p4 hcell hwm hr1 hr2 hw1 hw2 hpne hpn1
        go_upto_region 9 with (at_builtin; refine wpList_app_row rfl _ _ rfl (P + 1) _ us rfl ho9 pp _ rfl hp rfl hul hb9 ?_; intro v' w4' hown' hgrow hat; obtain ⟨a', d', N', hN', rfl⟩ := own_shape2 hown'; clear hN'; have hgb := HM9.out.after hgrow; have g4' := hgb.c4; have gf := hgb.fz)
        refine Code.at (fun W5 hW => ?_)
        have HM5 : Hid (Mk w2 P 0 0 (mw : Nat) (mh : Nat) W5 a' N' d' (us ++ [.slice a1 ln d1]) (mirL G kn (i + 1))) := Lib.hid (by
          subst hW
          rw [HPRT.out]
          refine HM9.out.push HS9.out (fun h0 g e => ?_) hown' hgrow hat
          have q1 := HL1.out (by rw [HLN.out]; exact h0) g e
          refine ⟨fun e2 => ?_, by omega⟩
          have := (HM.out.ro.own.lt g e2).1
          omega)
        have hgk := HGK.out
        clear hW hgrow hat hown' hgb g4' gf hp HS9 HM9 HM ho9
        go_wp2_with fail
        go_roundg (n - (i + 1))
        case measure => omega
        case rel => exact ⟨i + 1, a', N', d', _, by go_num, by omega, by omega, HM5⟩

end Go.Proofs.YtgoggogcbjfofaaDoor
