import Derived.Test.YtgoggogcbjfofaaDoorFdPbY14
import Derived.Test.YtgoggogcbjfofaaDoorFdSpY14
import Derived.Test.YtgoggogcbjfofaaDoorFdCpY14

/- The law FieldParts. -/
namespace Go.Proofs.YtgoggogcbjfofaaDoor
open Go.RowKit
set_option linter.unusedVariables false

/-- What the statement that puts a column to the part yields. -/
def pcV (P B1 : Nat) (ra ga : Option Addr) (rn rc n gc : Nat) (z wd x j : Int) (ea : Option Addr) (u : Value) : Nat → World → Value → Prop
  | 0, _, v => v = .pointer (some ⟨P, 4, none⟩)
  | 1, _, v => v = .slice ra rn rc
  | 2, _, v => v = .pointer (some ⟨B1, 4, none⟩)
  | 3, _, v => v = .slice ga n gc
  | 4, _, v => v = .int .i64 z
  | 5, _, v => v = .pointer (some ⟨B1, 2, none⟩)
  | 6, _, v => v = .int .i64 wd
  | 7, _, v => v = .int .i64 (z * wd)
  | 8, _, v => v = .int .i64 x
  | 9, _, v => v = .int .i64 j
  | 10, _, v => v = .pointer ea
  | 11, _, v => v = u
  | 12, w, v => ∃ p, v = .slice (some ⟨p, 0, none⟩) 1 1 ∧ w.cell? ⟨p, 0, none⟩ = some u
  | _, _, _ => True
theorem pcV_keep {P B1 : Nat} {ra ga : Option Addr} {rn rc n gc : Nat} {z wd x j : Int} {ea : Option Addr} {u : Value} : ∀ i w w' v, pcV P B1 ra ga rn rc n gc z wd x j ea u i w v → New w w' → pcV P B1 ra ga rn rc n gc z wd x j ea u i w' v := by
  intro i w w' v h hn
  match i, h with
  | 0, h => exact h
  | 1, h => exact h
  | 2, h => exact h
  | 3, h => exact h
  | 4, h => exact h
  | 5, h => exact h
  | 6, h => exact h
  | 7, h => exact h
  | 8, h => exact h
  | 9, h => exact h
  | 10, h => exact h
  | 11, h => exact h
  | 12, ⟨p, e, h1⟩ => exact ⟨p, e, hn.keep h1⟩
  | i + 13, _ => trivial

theorem sl_own_lt {w : World} {v : Value} {l : List Fl} (h : Sl Fl.enc 3 w v l) (h0 : 0 < l.length) : ∀ g, v.ownBlock = some g → g < w.heap.size := by
  obtain ⟨a, c, rfl, -, -, -, hr⟩ := h
  obtain ⟨b, off, rfl, ha⟩ := hr h0
  intro g e
  have q : b = g := by simpa [Value.ownBlock] using e
  subst q
  have := World.block_lt_of_cell? _ _ (ha 0 h0 0 (by rw [Fl.enc_len]; omega))
  simpa using this
theorem prt_at {G : Gd} (hE : gE G = 0) {x0 z0 p q a b wn : Nat} (hwt : G.w.toNat = wn) (hp : 0 < p) (hx : x0 + p ≤ wn) (hz : z0 + q ≤ G.d.toNat) (ha : a < q) (hb : b < p) :
    ∃ j, ∃ h : j < G.L.length, j = (z0 + a) * wn + (x0 + b) ∧ prtL G x0 z0 p (a * p + (b + 1)) = prtL G x0 z0 p (a * p + b) ++ [G.L[j]] := by
  subst hwt
  have hi : a * p + b < q * p := by
    have := Nat.mul_le_mul_right p (show a + 1 ≤ q by omega)
    rw [Nat.add_mul, Nat.one_mul] at this
    omega
  have hdiv : (a * p + b) / p = a := by rw [Nat.mul_comm a p, Nat.mul_add_div hp, Nat.div_eq_of_lt hb, Nat.add_zero]
  have hmod : (a * p + b) % p = b := by rw [Nat.mul_comm a p, Nat.mul_add_mod, Nat.mod_eq_of_lt hb]
  have hcol := (prt_col hE hp hx hz hi).1
  rw [hdiv, hmod] at hcol
  refine ⟨_, hcol, rfl, ?_⟩
  rw [← Nat.add_assoc, prtL_succ]
  unfold prtC
  rw [hdiv, hmod, gcol_at hcol]

theorem prt_look {C : CfgR} {G : Gd} (hC : C.err = 0) (hE : gE G = 0) {x0 z0 p q wn : Nat} {ga : Option Addr} {gc : Nat} (hwt : G.w.toNat = wn) (hp : 0 < p) (hq : 0 < q) (hx : x0 + p ≤ G.w.toNat) (hz : z0 + q ≤ G.d.toNat) (hP : gE (prtG G x0 z0 p q ga gc) = 0) (i : Nat) (hi : i < q * p) :
    ∃ j, j = (z0 + i / p) * wn + (x0 + i % p) ∧ i / p < q ∧ i % p < p ∧ ∃ (h1 : j < (fdL C G).length), ∃ (h2 : i < (fdL C (prtG G x0 z0 p q ga gc)).length), ((fdL C G)[j]).length = ((fdL C (prtG G x0 z0 p q ga gc))[i]).length ∧
      ∀ k (q1 : k < ((fdL C G)[j]).length) (q2 : k < ((fdL C (prtG G x0 z0 p q ga gc))[i]).length), ((fdL C (prtG G x0 z0 p q ga gc))[i])[k] ≤ ((fdL C G)[j])[k] ∧ (FarA G x0 z0 p q (capN C) (i % p) (i / p) → ((fdL C (prtG G x0 z0 p q ga gc))[i])[k] = ((fdL C G)[j])[k]) := by
  subst hwt
  exact ⟨_, rfl, (prt_col hE hp hx hz hi).2.1, (prt_col hE hp hx hz hi).2.2, prt_rows hC hE hp hq hx hz hP i hi⟩

theorem far_ways (x y m r : Nat) : (((x : Int) == (y : Int)) = true ∧ Hid (x = y ∨ m ≤ r)) ∨ (((x : Int) == (y : Int)) = false ∧ decide ((m : Int) ≤ (r : Int)) = true ∧ decide (m ≤ r) = true ∧ Hid (x = y ∨ m ≤ r)) ∨ (((x : Int) == (y : Int)) = false ∧ decide ((m : Int) ≤ (r : Int)) = false ∧ decide (m ≤ r) = false) := by
  by_cases h : x = y
  · exact Or.inl ⟨by rw [beq_iff_eq]; omega, Lib.hid (Or.inl h)⟩
  · have e : ((x : Int) == (y : Int)) = false := by rw [beq_eq_false_iff_ne]; omega
    by_cases q : m ≤ r
    · exact Or.inr (Or.inl ⟨e, decide_eq_true (by omega), decide_eq_true q, Lib.hid (Or.inr q)⟩)
    · exact Or.inr (Or.inr ⟨e, decide_eq_false (by omega), decide_eq_false q⟩)
theorem far_ways0 (x m r : Nat) : (((x : Int) == 0) = true ∧ Hid (x = 0 ∨ m ≤ r)) ∨ (((x : Int) == 0) = false ∧ decide ((m : Int) ≤ (r : Int)) = true ∧ decide (m ≤ r) = true ∧ Hid (x = 0 ∨ m ≤ r)) ∨ (((x : Int) == 0) = false ∧ decide ((m : Int) ≤ (r : Int)) = false ∧ decide (m ≤ r) = false) := far_ways x 0 m r

set_option maxHeartbeats 32000000 in
set_option maxRecDepth 100000 in
theorem l_fieldParts (C : CfgR) (G : Gd) (left low right high : Int) (w : World) (hG : G.ok w) (hD : Dirs w) : Calls Tryd.prog 6 #[.agg #[.int .i64 C.cl, .int .i64 C.cb, .int .i64 C.ht, .int .i64 C.ri, .int .i64 C.ru, .int .i64 C.wd, .int .i64 C.dp], .agg #[.int .i64 G.x, .int .i64 G.z, .int .i64 G.w, .int .i64 G.d, .slice G.ga G.L.length G.gc], .int .i64 left, .int .i64 low, .int .i64 right, .int .i64 high] w fun e w' => e = .returned (.bool true) ∧ New w w' := by
  have KW := Lib.hid (fun W (q : New w W) => lw_wakes W (hD.new q))
  have KG := Lib.hid (fun W (q : New w W) => ar_great G W (hG.keep q))
  have KR := Lib.hid (fun W n => rg_check G W (hG.keep (n : New w W)))
  have KC : Hid (∀ W, Calls Tryd.prog 25 #[.agg #[.int .i64 C.cl, .int .i64 C.cb, .int .i64 C.ht, .int .i64 C.ri, .int .i64 C.ru, .int .i64 C.wd, .int .i64 C.dp]] W fun e w' => e = .returned (.int .i64 C.err) ∧ New W w') := Lib.hid (fun W => (rcheck_any C.cl C.cb C.ht C.ri C.ru C.wd C.dp W).mono fun e w' h => ⟨h.1, h.2.1⟩)
  have hc2 := err_or C
  have hg2 := gE_two G
  have KA := Lib.hid (fun W (q : New w W) => fd_Build C G W (hG.keep q) (hD.new q))
  have HBD := Lib.hid (fun (P : Gd) W (h : P.ok W) (q : New w W) => fd_Build C P W h (hD.new q))
  have KFI := Lib.hid (fun (hC : C.err = 0) (hE : gE G = 0) va W (q : New w W) (h : RowsK iE 1 W va (fdL C G)) => (fr_Fits G va (fdL C G) W (hG.keep q) h).mono (fun e w' r => fitV_true (fit_made hC hE) r))
  have KFP := Lib.hid (fun (P : Gd) (hC : C.err = 0) (hE : gE P = 0) va W (h : P.ok W) (hr : RowsK iE 1 W va (fdL C P)) => (fr_Fits P va (fdL C P) W h hr).mono (fun e w' r => fitV_true (fit_made hC hE) r))
  have KRP := Lib.hid (fun (P : Gd) W (h : P.ok W) => rg_check P W h)
  have KP := Lib.hid (fun W => fd_Cap C W)
  have HGR : Hid (RowsK Fl.enc 3 w (.slice G.ga G.L.length G.gc) G.L) := Lib.hid hG
  have KCUT := Lib.hid (fun a b n h1 h2 W => lw_cut a b n h1 h2 W)
  unfold ArGreated at KG
  unfold FBuilt at KA HBD
  have HGOK := Lib.hid hG
  obtain ⟨n, hn⟩ : ∃ n, n = G.L.length := ⟨_, rfl⟩
  have HN := Lib.hid hn
  rw [← hn] at KG KR KA HGR KFI ⊢
  obtain ⟨ga, hga⟩ : ∃ q, q = G.ga := ⟨_, rfl⟩
  have HGA := Lib.hid hga
  rw [← hga] at KG KR KA HGR KFI ⊢
  obtain ⟨ce, hce⟩ : ∃ q, q = C.err := ⟨_, rfl⟩
  have HCE := Lib.hid hce
  rw [← hce] at KC hc2
  obtain ⟨ge, hge⟩ : ∃ q, q = gE G := ⟨_, rfl⟩
  have HGE := Lib.hid hge
  rw [← hge] at KR hg2
  clear hn hga hce hge hG hD
  go_enter Tryd.func6, Tryd.ntmps6
  go_upto_region 1 with fail
  refine Code.at (fun W hW => ?_)
  have n0 : New w W := by subst hW; (repeat (first | (with_reducible exact New.refl _) | (with_reducible assumption) | ((with_reducible refine New.setB ?_ ?_ _); focus (first | omega | (simp; omega) | (simp; done))) | (with_reducible refine New.alloc ?_ _) | (with_reducible refine New.drew ?_) | (with_reducible refine New.drewN ?_ _) | (with_reducible refine New.hat ?_ _) | ((with_reducible apply New.snart); (with_reducible assumption))))
  ((have c0 : W.cell? ⟨w.heap.size, 0, none⟩ = some (.int .i64 C.cl) := (by subst hW; go_simp)); (have c1 : W.cell? ⟨w.heap.size, 1, none⟩ = some (.int .i64 C.cb) := (by subst hW; go_simp)); (have c2 : W.cell? ⟨w.heap.size, 2, none⟩ = some (.int .i64 C.ht) := (by subst hW; go_simp)); (have c3 : W.cell? ⟨w.heap.size, 3, none⟩ = some (.int .i64 C.ri) := (by subst hW; go_simp)); (have c4 : W.cell? ⟨w.heap.size, 4, none⟩ = some (.int .i64 C.ru) := (by subst hW; go_simp)); (have c5 : W.cell? ⟨w.heap.size, 5, none⟩ = some (.int .i64 C.wd) := (by subst hW; go_simp)); (have c6 : W.cell? ⟨w.heap.size, 6, none⟩ = some (.int .i64 C.dp) := (by subst hW; go_simp)))
  have g0 : W.cell? ⟨w.heap.size + 1, 0, none⟩ = some (.int .i64 G.x) := by subst hW; go_simp
  have g1 : W.cell? ⟨w.heap.size + 1, 1, none⟩ = some (.int .i64 G.z) := by subst hW; go_simp
  have g2 : W.cell? ⟨w.heap.size + 1, 2, none⟩ = some (.int .i64 G.w) := by subst hW; go_simp
  have g3 : W.cell? ⟨w.heap.size + 1, 3, none⟩ = some (.int .i64 G.d) := by subst hW; go_simp
  have g4 : W.cell? ⟨w.heap.size + 1, 4, none⟩ = some (.slice ga n G.gc) := by subst hW; go_simp
  clear hW
  have HCG := Lib.hid (fun W2 (q : New W W2) => And.intro (q.keep c0) (And.intro (q.keep c1) (And.intro (q.keep c2) (And.intro (q.keep c3) (And.intro (q.keep c4) (And.intro (q.keep c5) (And.intro (q.keep c6) (And.intro (q.keep g0) (And.intro (q.keep g1) (And.intro (q.keep g2) (And.intro (q.keep g3) (q.keep g4))))))))))))
  have N0 := Lib.hid n0
  clear n0
  go_cut [52] (fun s52 Z => (∃ q : Bool, s52 = .bool q ∧ (q = false → ce = 0 ∧ ge = 0 ∧ 1 ≤ G.w ∧ 1 ≤ G.d)) ∧ New W Z)
  case first =>
    as_aux_lemma =>
      go_wp2_with fail
      refine (KG.out _ N0.out).mono ?_
      rintro e w1 ⟨bg, rfl, -, n1⟩
      dsimp only []
      have N1 := Lib.hid n1
      clear c0 c1 c2 c3 c4 c5 c6 g0 g1 g2 g3 g4
      clear n1 KG
      cases bg
      rotate_left
      · go_wp2_with fail
        go_meet
        exact ⟨⟨true, rfl, fun q => by cases q⟩, N1.out⟩
      obtain ⟨c0, c1, c2, c3, c4, c5, c6, g0, g1, g2, g3, g4⟩ := HCG.out _ N1.out
      go_wp2_with fail
      refine (KR.out _ (N0.out.trans N1.out)).mono ?_
      rintro e w2 ⟨rfl, n2⟩
      dsimp only []
      have N2 := Lib.hid (N1.out.trans n2)
      clear c0 c1 c2 c3 c4 c5 c6 g0 g1 g2 g3 g4
      clear n2 N1 KR
      rcases hg2 with rfl | rfl
      rotate_left
      · go_wp2_with fail
        go_meet
        exact ⟨⟨true, rfl, fun q => by cases q⟩, N2.out⟩
      obtain ⟨c0, c1, c2, c3, c4, c5, c6, g0, g1, g2, g3, g4⟩ := HCG.out _ N2.out
      go_wp2_with fail
      refine (KC.out _).mono ?_
      rintro e w3 ⟨rfl, n3⟩
      dsimp only []
      have N3 := Lib.hid (N2.out.trans n3)
      clear c0 c1 c2 c3 c4 c5 c6 g0 g1 g2 g3 g4
      clear n3 N2 KC
      rcases hc2 with rfl | rfl
      rotate_left
      · go_wp2_with fail
        go_meet
        exact ⟨⟨true, rfl, fun q => by cases q⟩, N3.out⟩
      obtain ⟨c0, c1, c2, c3, c4, c5, c6, g0, g1, g2, g3, g4⟩ := HCG.out _ N3.out
      by_cases q0 : G.w < 1
      · have e0 : decide (G.w < 1) = true := decide_eq_true q0
        clear q0
        go_wp2_with fail
        go_meet
        exact ⟨⟨true, rfl, fun q => by cases q⟩, N3.out⟩
      have e0 : decide (G.w < 1) = false := decide_eq_false q0
      by_cases q1 : G.d < 1
      · have e1 : decide (G.d < 1) = true := decide_eq_true q1
        clear q1
        go_wp2_with fail
        go_meet
        exact ⟨⟨true, rfl, fun q => by cases q⟩, N3.out⟩
      have e1 : decide (G.d < 1) = false := decide_eq_false q1
      have HQ := Lib.hid (And.intro q0 q1)
      clear q0 q1
      go_wp2_with fail
      go_meet
      exact ⟨⟨false, rfl, fun _ => by have := HQ.out; exact ⟨by trivial, by trivial, by omega, by omega⟩⟩, N3.out⟩
  case rest =>
    clear c0 c1 c2 c3 c4 c5 c6 g0 g1 g2 g3 g4
    obtain ⟨⟨q, rfl, hq⟩, hN⟩ := hcut
    have N3 := Lib.hid hN
    have HQ := Lib.hid hq
    clear hN hq KG KC hc2 hg2
    rename World => w3
    cases q
    rotate_left
    · go_wp2_with fail
      refine (KW.out _ (N0.out.trans N3.out)).mono ?_
      rintro e w4 ⟨rfl, n4⟩
      go_wp2_with fail
      go_ret
      exact ⟨rfl, (N0.out.trans N3.out).trans n4⟩
    obtain ⟨hc0, hg0, hw1, hd1⟩ := HQ.out rfl
    have hE : gE G = 0 := by rw [← HGE.out]; exact hg0
    have hC : C.err = 0 := by rw [← HCE.out]; exact hc0
    have hb := placeB_iff.1 (gd_is hE).1
    obtain ⟨wn, hwn⟩ : ∃ wn : Nat, G.w = wn := ⟨G.w.toNat, by omega⟩
    obtain ⟨dn, hdn⟩ : ∃ dn : Nat, G.d = dn := ⟨G.d.toNat, by omega⟩
    have HWD := Lib.hid (And.intro hwn hdn)
    have HCE2 := Lib.hid (And.intro hC hE)
    have hw64 : 1 ≤ wn ∧ wn ≤ 64 := by omega
    have hd64 : 1 ≤ dn ∧ dn ≤ 64 := by omega
    have hx64 : -64 ≤ G.x ∧ G.x ≤ 64 := hb.1
    have hz64 : -64 ≤ G.z ∧ G.z ≤ 64 := hb.2.1
    have KC1 := Lib.hid (fun W => KCUT.out left right wn hw64.1 hw64.2 W)
    have KC2 := Lib.hid (fun W => KCUT.out low high dn hd64.1 hd64.2 W)
    have HCG2 := Lib.hid (fun W2 (q : New W W2) => HCG.out W2 q)
    rw [hwn, hdn] at HCG2
    clear HQ hc0 hg0 hw1 hd1 hE hC hb KCUT
    obtain ⟨-, -, -, -, -, -, -, -, -, g2, -, -⟩ := HCG2.out _ N3.out
    go_wp2_with fail
    refine (KC1.out _).mono ?_
    rintro e w4 ⟨x0, x1, rfl, hx01, hx1w, n4⟩
    have N4 := Lib.hid (N3.out.trans n4)
    clear n4 N3 KC1 g2
    obtain ⟨-, -, -, -, -, -, -, -, -, -, g3, -⟩ := HCG2.out _ N4.out
    go_wp2_with fail
    refine (KC2.out _).mono ?_
    rintro e w5 ⟨z0, z1, rfl, hz01, hz1d, n5⟩
    have N5 := Lib.hid (N4.out.trans n5)
    clear n5 N4 KC2 g3
    obtain ⟨p, hp⟩ : ∃ p, p = x1 - x0 := ⟨_, rfl⟩
    obtain ⟨q, hq⟩ : ∃ q, q = z1 - z0 := ⟨_, rfl⟩
    have hp0 : 0 < p := by omega
    have hq0 : 0 < q := by omega
    have hwx1 : IntKind.i64.wrap (G.x + (x0 : Int)) = G.x + x0 := IntWalk.i64_in _ (by omega)
    have hwx2 : IntKind.i64.wrap (G.z + (z0 : Int)) = G.z + z0 := IntWalk.i64_in _ (by omega)
    have hwx3 : IntKind.i64.wrap ((x1 : Int) - (x0 : Int)) = (p : Nat) := by rw [show (x1 : Int) - (x0 : Int) = (p : Nat) by omega]; exact IntWalk.i64_in _ (by omega)
    have hwx4 : IntKind.i64.wrap ((z1 : Int) - (z0 : Int)) = (q : Nat) := by rw [show (z1 : Int) - (z0 : Int) = (q : Nat) by omega]; exact IntWalk.i64_in _ (by omega)
    obtain ⟨-, -, -, -, -, -, -, g0, g1, -, -, -⟩ := HCG2.out _ N5.out
    have hzz := World.block_lt_of_cell? _ _ g0
    simp only [] at hzz
    go_upto_region 6 with fail
    refine Code.at (fun W6 hW => ?_)
    obtain ⟨P, hP⟩ : ∃ P, P = w5.heap.size := ⟨_, rfl⟩
    have HM : Hid (Mk w5 P (G.x + x0) (G.z + z0) p q W6 none 0 0 [] (prtL G x0 z0 p 0)) := Lib.hid (by
      subst hP
      refine ⟨?_, RowsOK.nil, fun j hj => absurd hj (by simp [prtL]), by subst hW; simp, by subst hW; (repeat (first | (with_reducible exact New.refl _) | (with_reducible assumption) | ((with_reducible refine New.setB ?_ ?_ _); focus (first | omega | (simp; omega) | (simp; done))) | (with_reducible refine New.alloc ?_ _) | (with_reducible refine New.drew ?_) | (with_reducible refine New.drewN ?_ _) | (with_reducible refine New.hat ?_ _) | ((with_reducible apply New.snart); (with_reducible assumption)))), Nat.le_refl _⟩
      subst hW
      exact ⟨by go_simp, by go_simp, by go_simp, by go_simp, by go_simp, by go_simp⟩)
    rw [← hP]
    have HPP := Lib.hid hP
    clear hW hP hwx1 hwx2 hwx3 hwx4 g0 g1 hzz
    have hP1 : w.heap.size + 1 < P := by
      obtain ⟨-, -, -, -, -, -, -, g0, -⟩ := HCG2.out _ N5.out
      have h := World.block_lt_of_cell? _ _ g0
      simp only [] at h
      rw [HPP.out]
      exact h
    go_wp2_with fail
    go_loopg [18] q (fun gk s18 wr => ∃ (a zz : Nat) (ra : Option Addr) (rn rc : Nat) (us : List Value), s18 = .int .i64 (zz : Nat) ∧ Hid (zz = z0 + a) ∧ a ≤ q ∧ q - a ≤ gk ∧ Hid (Mk w5 P (G.x + x0) (G.z + z0) p q wr ra rn rc us (prtL G x0 z0 p (a * p))))
    case atStart => exact ⟨0, z0, none, 0, 0, [], rfl, Lib.hid rfl, by omega, by omega, by rw [Nat.zero_mul]; exact HM⟩
    case round =>
      clear HM
      obtain ⟨a, zz, ra, rn, rc, us, rfl, hzz, ha, hgk, HM⟩ := hrel
      by_cases hat : a < q
      rotate_left
      · obtain rfl : q = a := by omega
        have hd1 : decide ((zz : Int) < (z1 : Int)) = false := decide_eq_false (by have := hzz.out; omega)
        have hd2 : decide (zz < z1) = false := decide_eq_false (by have := hzz.out; omega)
        have NR := Lib.hid (N5.out.trans HM.out.nw)
        obtain ⟨c0, c1, c2, c3, c4, c5, c6, g0, g1, g2, g3, g4⟩ := HCG.out _ NR.out
        obtain ⟨hC, hE⟩ := HCE2.out
        have hlk : lkE C G = 0 := by unfold lkE; rw [if_pos hC]; exact hE
        rw [hlk, show fdT C G = fdL C G from by unfold fdT; rw [if_pos hlk]] at KA
        obtain ⟨PG, hPG⟩ : ∃ PG, PG = prtG G x0 z0 p q ra rc := ⟨_, rfl⟩
        have hlp : lkE C PG = gE PG := by unfold lkE; rw [if_pos hC]
        have hPL : rn = PG.L.length := by rw [hPG]; exact HM.out.len
        have hPLn : PG.L.length = q * p := by rw [hPG]; exact prtL_len _ _ _ _ _
        have HPok : Hid (∀ W, New wr W → PG.ok W) := Lib.hid (fun W n => by
          have h : PG.ok wr := by
            show RowsK Fl.enc 3 wr (.slice PG.ga PG.L.length PG.gc) PG.L
            rw [← hPL, hPG]
            exact HM.out.ro.rows
          exact h.keep n)
        have KB : Hid (∀ W, New wr W → Calls Tryd.prog 11 #[.agg #[.int .i64 C.cl, .int .i64 C.cb, .int .i64 C.ht, .int .i64 C.ri, .int .i64 C.ru, .int .i64 C.wd, .int .i64 C.dp], .agg #[.int .i64 (G.x + (x0 : Nat)), .int .i64 (G.z + (z0 : Nat)), .int .i64 (p : Nat), .int .i64 (q : Nat), .slice ra rn rc]] W fun e w' => ∃ v, e = .returned (.tuple #[v, .int .i64 (gE PG)]) ∧ RowsK iE 1 w' v (fdT C PG) ∧ New W w') := Lib.hid (fun W n => by
          have h := HBD.out PG W (HPok.out W n) (N0.out.trans (NR.out.trans n))
          rw [hlp, ← hPL] at h
          rw [hPG] at h ⊢
          exact h)
        have KFB : Hid (gE PG = 0 → ∀ va W, New wr W → RowsK iE 1 W va (fdL C PG) → Calls Tryd.prog 21 #[.agg #[.int .i64 (G.x + (x0 : Nat)), .int .i64 (G.z + (z0 : Nat)), .int .i64 (p : Nat), .int .i64 (q : Nat), .slice ra rn rc], va] W fun e w' => e = .returned (.bool true) ∧ New W w') := Lib.hid (fun he va W n hr => by
          have h := KFP.out PG hC he va W (HPok.out W n) hr
          rw [← hPL] at h
          rw [hPG] at h
          exact h)
        have KRB : Hid (∀ W, New wr W → Calls Tryd.prog 24 #[.agg #[.int .i64 (G.x + (x0 : Nat)), .int .i64 (G.z + (z0 : Nat)), .int .i64 (p : Nat), .int .i64 (q : Nat), .slice ra rn rc]] W fun e w' => e = .returned (.int .i64 (gE PG)) ∧ New W w') := Lib.hid (fun W n => by
          have h := KRP.out PG W (HPok.out W n)
          rw [← hPL] at h
          rw [hPG] at h ⊢
          exact h)
        have hp2 := gE_two PG
        obtain ⟨pe, hpe⟩ : ∃ q, q = gE PG := ⟨_, rfl⟩
        have hwt : G.w.toNat = wn := by have := HWD.out.1; omega
        have hdt : G.d.toNat = dn := by have := HWD.out.2; omega
        obtain ⟨cm1, cm2, cm3, cm4⟩ := capN_is hC
        have HPR : Hid (pe = 0 → ∀ i, i < q * p → ∃ j, j = (z0 + i / p) * wn + (x0 + i % p) ∧ i / p < q ∧ i % p < p ∧ ∃ (h1 : j < (fdL C G).length), ∃ (h2 : i < (fdL C PG).length), ((fdL C G)[j]).length = ((fdL C PG)[i]).length ∧
            ∀ k (q1 : k < ((fdL C G)[j]).length) (q2 : k < ((fdL C PG)[i]).length), ((fdL C PG)[i])[k] ≤ ((fdL C G)[j])[k] ∧ (FarA G x0 z0 p q (capN C) (i % p) (i / p) → ((fdL C PG)[i])[k] = ((fdL C G)[j])[k])) := Lib.hid (fun he i hi => by
          have hP : gE (prtG G x0 z0 p q ra rc) = 0 := by rw [← hPG, ← hpe]; exact he
          rw [hPG]
          exact prt_look hC hE hwt hp0 hq0 (by omega) (by omega) hP i hi)
        have HFAR : Hid (∀ m xm zm, ((x0 = 0 ∨ m ≤ xm) ∧ (x1 = wn ∨ xm + m + 1 ≤ p) ∧ (z0 = 0 ∨ m ≤ zm) ∧ (z1 = dn ∨ zm + m + 1 ≤ q)) → FarA G x0 z0 p q m xm zm) := Lib.hid (fun m xm zm h => by
          unfold FarA
          rw [hwt, hdt]
          omega)
        have HFT : Hid (pe = 0 → fdT C PG = fdL C PG) := Lib.hid (fun he => by unfold fdT; rw [if_pos (by rw [hlp, ← hpe]; exact he)])
        have HBL : Hid ((fdL C PG).length = q * p ∧ (fdL C G).length = n) := Lib.hid ⟨by rw [fdL_len, hPLn], by rw [fdL_len, HN.out]⟩
        have KFG := Lib.hid (KFI.out hC hE)
        rw [cm4] at KP
        rw [← hpe] at KB KFB KRB hp2
        have HM0 := Lib.hid HM.out.gd
        clear KFI KFP KRP HBD hlk hlp hPL hPLn hpe hPG hwt hdt hC hE HPok HM cm1 cm4 hgk
        have hbn64 : q * p ≤ 64 * 64 := Nat.mul_le_mul (by omega) (by omega)
        have hp64 : p ≤ 64 := by omega
        have hq64 : q ≤ 64 := by omega
        have HPQ := Lib.hid (And.intro hp hq)
        clear hwn hdn hp hq
        generalize capN C = m at *
        generalize fdT C PG = BT at *
        generalize fdL C PG = B at *
        generalize fdL C G = A at *
        go_wp2_with fail
        clear hd1 hd2
        refine (KA.out _ (N0.out.trans NR.out)).mono ?_
        rintro e w6 ⟨va, rfl, hra, n6⟩
        have HRA := Lib.hid hra
        have N6 := Lib.hid n6
        have HN6 := Lib.hid (NR.out.trans n6)
        clear c0 c1 c2 c3 c4 c5 c6 g0 g1 g2 g3 g4
        clear hra n6 KA
        obtain ⟨c0, c1, c2, c3, c4, c5, c6, g0, g1, g2, g3, g4⟩ := HCG.out _ HN6.out
        obtain ⟨p0, p1, p2, p3, p4, -⟩ := HM0.out.new N6.out
        go_wp2_with fail
        refine (KB.out _ N6.out).mono ?_
        rintro e w7 ⟨vb, rfl, hrb, n7⟩
        have HRB := Lib.hid hrb
        have HRA7 := Lib.hid (HRA.out.keep n7)
        have N7 := Lib.hid (N6.out.trans n7)
        have HN7 := Lib.hid (HN6.out.trans n7)
        clear c0 c1 c2 c3 c4 c5 c6 g0 g1 g2 g3 g4
        clear hrb n7 KB p0 p1 p2 p3 p4 N6 HN6 HRA
        obtain ⟨p0, p1, p2, p3, p4, -⟩ := HM0.out.new N7.out
        rcases hp2 with rfl | rfl
        rotate_left
        · go_wp2_with fail
          refine (KRB.out _ N7.out).mono ?_
          rintro e w8 ⟨rfl, n8⟩
          go_wp2_with fail
          refine (KW.out _ (N0.out.trans (HN7.out.trans n8))).mono ?_
          rintro e w9 ⟨rfl, n9⟩
          go_wp2_with fail
          go_ret
          exact ⟨rfl, (N0.out.trans (HN7.out.trans n8)).trans n9⟩
        have HPR0 := Lib.hid (HPR.out rfl)
        rw [HFT.out rfl] at HRB
        have KFB0 := Lib.hid (KFB.out rfl)
        clear HPR HFT KFB KRB
        obtain ⟨c0, c1, c2, c3, c4, c5, c6, g0, g1, g2, g3, g4⟩ := HCG.out _ HN7.out
        go_wp2_with fail
        refine (KFG.out va _ (N0.out.trans HN7.out) HRA7.out).mono ?_
        rintro e w8 ⟨rfl, n8⟩
        have N8 := Lib.hid (N7.out.trans n8)
        have HN8 := Lib.hid (HN7.out.trans n8)
        have HRA8 := Lib.hid (HRA7.out.keep n8)
        have HRB8 := Lib.hid (HRB.out.keep n8)
        clear c0 c1 c2 c3 c4 c5 c6 g0 g1 g2 g3 g4
        clear n8 p0 p1 p2 p3 p4 N7 HN7 HRA7 HRB KFG
        obtain ⟨p0, p1, p2, p3, p4, -⟩ := HM0.out.new N8.out
        go_wp2_with fail
        refine (KFB0.out vb _ N8.out HRB8.out).mono ?_
        rintro e w9 ⟨rfl, n9⟩
        have N9 := Lib.hid (N8.out.trans n9)
        have HN9 := Lib.hid (HN8.out.trans n9)
        have HRA9 := Lib.hid (HRA8.out.keep n9)
        have HRB9 := Lib.hid (HRB8.out.keep n9)
        clear n9 p0 p1 p2 p3 p4 N8 HN8 HRA8 HRB8 KFB0
        obtain ⟨c0, c1, c2, c3, c4, c5, c6, -, -, -, -, -⟩ := HCG.out _ HN9.out
        go_wp2_with fail
        refine (KP.out _).mono ?_
        rintro e wa ⟨rfl, na⟩
        have N10 := Lib.hid (N9.out.trans na)
        have HN10 := Lib.hid (HN9.out.trans na)
        have HRA := Lib.hid (HRA9.out.keep na)
        have HRB := Lib.hid (HRB9.out.keep na)
        clear na c0 c1 c2 c3 c4 c5 c6 N9 HN9 HRA9 HRB9 KP
        obtain ⟨aa, ac, rfl⟩ := HRA.out.shape
        obtain ⟨ba, bc, rfl⟩ := HRB.out.shape
        rw [HBL.out.2] at HRA ⊢
        rw [HBL.out.1] at HRB ⊢
        obtain ⟨bn, hbn⟩ : ∃ t, t = q * p := ⟨_, rfl⟩
        rw [← hbn] at HRB HPR0 hbn64 ⊢
        have HBN := Lib.hid (And.intro hbn HBL.out.1)
        clear hbn
        go_wp2_with fail
        go_loopg [25] bn (fun gk s25 wr => ∃ i : Nat, s25 = .int .i64 i ∧ i ≤ bn ∧ bn - i ≤ gk ∧ Hid (New wa wr))
        case atStart => exact ⟨0, rfl, by omega, by omega, Lib.hid (New.refl _)⟩
        case round =>
          rename World => wr0
          obtain ⟨i, rfl, hi, hgk, hnr⟩ := hrel
          rename World => wi
          by_cases hlt : i < bn
          rotate_left
          · obtain rfl : i = bn := by omega
            have NE := Lib.hid (N0.out.trans (HN10.out.trans hnr.out))
            go_wp2_with fail
            refine (KW.out _ NE.out).mono ?_
            rintro e wb ⟨rfl, nb⟩
            go_wp2_with fail
            go_ret
            exact ⟨rfl, NE.out.trans nb⟩
          obtain ⟨j, hj, hzm, hxm, h1, h2, hll, hval⟩ := HPR0.out i hlt
          obtain ⟨xm, hxe⟩ : ∃ t, t = i % p := ⟨_, rfl⟩
          obtain ⟨zm, hze⟩ : ∃ t, t = i / p := ⟨_, rfl⟩
          have hr1 : ((i : Int).tmod (p : Int)) = (xm : Int) := by rw [hxe]; rfl
          have hr2 : ((i : Int).tdiv (p : Int)) = (zm : Int) := by rw [hze]; rfl
          rw [← hxe] at hj hxm hval
          rw [← hze] at hj hzm hval
          have HVAL := Lib.hid hval
          obtain ⟨b1, o1, a1, e1, rfl, hc1, hs1⟩ := (HRA.out.keep hnr.out).at j h1
          obtain ⟨b2, o2, a2, e2, rfl, hc2, hs2⟩ := (HRB.out.keep hnr.out).at i h2
          obtain ⟨a1', e1', x1a, -, -, hr1a⟩ := sl_at hs1
          obtain ⟨a2', e2', x2a, -, -, hr2a⟩ := sl_at hs2
          injection x1a with x1b x1c x1d
          injection x2a with x2b x2c x2d
          subst x1b
          subst x2b
          have hml : A[j].length ≤ 9223372036854775807 := by
            obtain ⟨_, _, _, y1, y2, -⟩ := hs1
            unfold maxLen at y2
            omega
          have HR1 := Lib.hid hr1a
          have HR2 := Lib.hid hr2a
          obtain ⟨r, hr⟩ : ∃ t, t = A[j].length := ⟨_, rfl⟩
          rw [← hll, ← hr] at hc2
          rw [← hr] at hc1 hml hll
          have HM := Lib.hid (And.intro hr hll)
          have HC := Lib.hid (fun W (q : New wi W) => And.intro (q.keep hc1) (q.keep hc2))
          have HGK := Lib.hid hgk
          obtain ⟨zz, hzz⟩ : ∃ t, t = z0 + zm := ⟨_, rfl⟩
          obtain ⟨xx, hxx⟩ : ∃ t, t = x0 + xm := ⟨_, rfl⟩
          rw [← hzz, ← hxx] at hj
          have hjn : j < n := by rw [← HBL.out.2]; exact h1
          have HJ := Lib.hid (And.intro hj (And.intro hzz hxx))
          have hzd : zz < dn := by have := HPQ.out; omega
          have hxw : xx < wn := by have := HPQ.out; omega
          have hmb : zz * wn ≤ 64 * 64 := Nat.mul_le_mul (by omega) (by omega)
          have hmb2 : ((zz : Int) * (wn : Int)) = ((zz * wn : Nat) : Int) := (Int.natCast_mul _ _).symm
          have hwm : IntKind.i64.wrap ((zz : Int) * (wn : Int)) = (zz : Int) * (wn : Int) := IntWalk.i64_in _ (by omega)
          have hwa : IntKind.i64.wrap ((zz : Int) * (wn : Int) + (xx : Int)) = (j : Int) := by rw [show (zz : Int) * (wn : Int) + (xx : Int) = (j : Int) by omega]; exact IntWalk.i64_in _ (by omega)
          have HWM := Lib.hid (And.intro hwm hwa)
          have hv1 : IntKind.i64.wrap ((x0 : Int) + (xm : Int)) = (xx : Int) := by rw [show (x0 : Int) + (xm : Int) = (xx : Int) by omega]; exact IntWalk.i64_in _ (by omega)
          have hv2 : IntKind.i64.wrap ((z0 : Int) + (zm : Int)) = (zz : Int) := by rw [show (z0 : Int) + (zm : Int) = (zz : Int) by omega]; exact IntWalk.i64_in _ (by omega)
          have hw1 : IntKind.i64.wrap (xm : Int) = xm := IntWalk.i64_in _ (by omega)
          have hw2 : IntKind.i64.wrap (zm : Int) = zm := IntWalk.i64_in _ (by omega)
          have hpne : ¬ p = 0 := by omega
          have hpn1 : ((p : Int) == 0) = false := by rw [beq_eq_false_iff_ne]; omega
          obtain ⟨p0, p1, p2, p3, p4, -⟩ := HM0.out.new (N10.out.trans hnr.out)
          clear hj hzz hxx hmb hmb2 hwm hwa hxe hze hs1 hs2 hr1a hr2a x1c x1d x2c x2d hval hll hr hgk hc1 hc2 p0 p1 p3 p4
          go_upto_region 21 with fail
          (refine wp_region_hat (by kernel_rfl) (by kernel_rfl) ?_; intro hatc hatf; (repeat (go_big_quiet_step ((fail)))); refine wpQuiet_nil ?_; rintro _ ⟨qq, rfl⟩)
          have HQ := Lib.hid (hnr.out.trans qq.h)
          have HQ2 : Hid (New wi qq.w) := Lib.hid qq.h
          clear hatc hatf hr1 hr2 hv1 hv2 hw1 hw2 hpne hpn1 p2
          generalize qq.w = wj at *
          clear qq
          obtain ⟨rm, hrm⟩ : ∃ t, t = p - 1 - xm := ⟨_, rfl⟩
          obtain ⟨sm, hsm⟩ : ∃ t, t = q - 1 - zm := ⟨_, rfl⟩
          have hu1 : IntKind.i64.wrap ((xx : Int) - (x0 : Int)) = (xm : Int) := by rw [show (xx : Int) - (x0 : Int) = (xm : Int) by have := HJ.out; omega]; exact IntWalk.i64_in _ (by omega)
          have hu2 : IntKind.i64.wrap ((zz : Int) - (z0 : Int)) = (zm : Int) := by rw [show (zz : Int) - (z0 : Int) = (zm : Int) by have := HJ.out; omega]; exact IntWalk.i64_in _ (by omega)
          have hu3 : IntKind.i64.wrap ((x1 : Int) - 1) = (x1 : Int) - 1 := IntWalk.i64_in _ (by omega)
          have hu4 : IntKind.i64.wrap ((z1 : Int) - 1) = (z1 : Int) - 1 := IntWalk.i64_in _ (by omega)
          have hu5 : IntKind.i64.wrap ((x1 : Int) - 1 - (xx : Int)) = (rm : Int) := by rw [show (x1 : Int) - 1 - (xx : Int) = (rm : Int) by have := HJ.out; have := HPQ.out; omega]; exact IntWalk.i64_in _ (by omega)
          have hu6 : IntKind.i64.wrap ((z1 : Int) - 1 - (zz : Int)) = (sm : Int) := by rw [show (z1 : Int) - 1 - (zz : Int) = (sm : Int) by have := HJ.out; have := HPQ.out; omega]; exact IntWalk.i64_in _ (by omega)
          have HRS := Lib.hid (And.intro hrm hsm)
          obtain ⟨-, -, -, -, -, -, -, -, -, g2, g3, -⟩ := HCG2.out _ (HN10.out.trans HQ.out)
          clear hrm hsm
          go_upto_region 22 with fail
          go_cut [28] (fun s28 Z => (∃ f : Bool, s28 = .bool f ∧ (f = true → (x0 = 0 ∨ m ≤ xm) ∧ (x1 = wn ∨ m ≤ rm) ∧ (z0 = 0 ∨ m ≤ zm) ∧ (z1 = dn ∨ m ≤ sm))) ∧ New wj Z)
          case first =>
            as_aux_lemma =>
              try clear KW
              try clear HPR0
              try clear HVAL
              try clear HR1
              try clear HR2
              try clear HRA
              try clear HRB
              try clear HC
              try clear HM
              try clear HWM
              try clear HCG
              try clear HCG2
              try clear HM0
              try clear HFAR
              try clear HBL
              try clear HBN
              try clear N0
              try clear N10
              try clear HN10
              try clear HQ
              try clear HQ2
              try clear hnr
              try clear HGK
              try clear HJ
              try clear HPQ
              try clear HRS
              try clear KC1
              try clear KC2
              try clear NR
              try clear HGOK
              try clear HGR
              try clear HGA
              try clear HGE
              try clear HCE
              refine wp_region_list ?_
              refine wpList_cut 10 (Grp9 168 (x0 = 0 ∨ m ≤ xm)) ?_ ?_
              · simp only [List.take_succ_cons, List.take_zero]
                rcases far_ways0 x0 m xm with ⟨ea, E⟩ | ⟨ea, eb, ec, E⟩ | ⟨ea, eb, ec⟩
                · go_wp2_with fail
                  show Grp9 168 (x0 = 0 ∨ m ≤ xm) _ _ _ _
                  unfold Grp9
                  simp only [Act.put, List.setIfInBounds_toArray, List.set_cons_zero, List.set_cons_succ, Nat.reduceAdd, Nat.add_zero]
                  exact ⟨trivial, _, _, _, _, _, _, _, _, _, true, rfl, fun _ => E.out⟩
                · go_wp2_with fail
                  show Grp9 168 (x0 = 0 ∨ m ≤ xm) _ _ _ _
                  unfold Grp9
                  simp only [Act.put, List.setIfInBounds_toArray, List.set_cons_zero, List.set_cons_succ, Nat.reduceAdd, Nat.add_zero]
                  exact ⟨trivial, _, _, _, _, _, _, _, _, _, true, rfl, fun _ => E.out⟩
                · go_wp2_with fail
                  show Grp9 168 (x0 = 0 ∨ m ≤ xm) _ _ _ _
                  unfold Grp9
                  simp only [Act.put, List.setIfInBounds_toArray, List.set_cons_zero, List.set_cons_succ, Nat.reduceAdd, Nat.add_zero]
                  exact ⟨trivial, _, _, _, _, _, _, _, _, _, false, rfl, fun h => by cases h⟩
              rintro a' w' ⟨rfl, t0_0, t0_1, t0_2, t0_3, t0_4, t0_5, t0_6, t0_7, t0_8, f, rfl, hf⟩
              simp only [List.drop_succ_cons, List.drop_zero, Act.put, List.setIfInBounds_toArray, List.set_cons_zero, List.set_cons_succ, Nat.reduceAdd, Nat.add_zero]
              have E1 := Lib.hid hf
              clear hf
              cases f
              · go_wp2_with fail
                go_meet
                exact ⟨⟨false, rfl, fun h => by cases h⟩, New.refl _⟩
              refine wpList_cut 14 (Grp13 178 (x1 = wn ∨ m ≤ rm)) ?_ ?_
              · simp only [List.take_succ_cons, List.take_zero]
                rcases far_ways x1 wn m rm with ⟨ea, E⟩ | ⟨ea, eb, ec, E⟩ | ⟨ea, eb, ec⟩
                · go_wp2_with fail
                  show Grp13 178 (x1 = wn ∨ m ≤ rm) _ _ _ _
                  unfold Grp13
                  simp only [Act.put, List.setIfInBounds_toArray, List.set_cons_zero, List.set_cons_succ, Nat.reduceAdd, Nat.add_zero]
                  exact ⟨trivial, _, _, _, _, _, _, _, _, _, _, _, _, _, true, rfl, fun _ => E.out⟩
                · go_wp2_with fail
                  show Grp13 178 (x1 = wn ∨ m ≤ rm) _ _ _ _
                  unfold Grp13
                  simp only [Act.put, List.setIfInBounds_toArray, List.set_cons_zero, List.set_cons_succ, Nat.reduceAdd, Nat.add_zero]
                  exact ⟨trivial, _, _, _, _, _, _, _, _, _, _, _, _, _, true, rfl, fun _ => E.out⟩
                · go_wp2_with fail
                  show Grp13 178 (x1 = wn ∨ m ≤ rm) _ _ _ _
                  unfold Grp13
                  simp only [Act.put, List.setIfInBounds_toArray, List.set_cons_zero, List.set_cons_succ, Nat.reduceAdd, Nat.add_zero]
                  exact ⟨trivial, _, _, _, _, _, _, _, _, _, _, _, _, _, false, rfl, fun h => by cases h⟩
              rintro a' w' ⟨rfl, t1_0, t1_1, t1_2, t1_3, t1_4, t1_5, t1_6, t1_7, t1_8, t1_9, t1_10, t1_11, t1_12, f, rfl, hf⟩
              simp only [List.drop_succ_cons, List.drop_zero, Act.put, List.setIfInBounds_toArray, List.set_cons_zero, List.set_cons_succ, Nat.reduceAdd, Nat.add_zero]
              have E2 := Lib.hid hf
              clear hf
              cases f
              · go_wp2_with fail
                go_meet
                exact ⟨⟨false, rfl, fun h => by cases h⟩, New.refl _⟩
              refine wpList_cut 11 (Grp10 192 (z0 = 0 ∨ m ≤ zm)) ?_ ?_
              · simp only [List.take_succ_cons, List.take_zero]
                rcases far_ways0 z0 m zm with ⟨ea, E⟩ | ⟨ea, eb, ec, E⟩ | ⟨ea, eb, ec⟩
                · go_wp2_with fail
                  show Grp10 192 (z0 = 0 ∨ m ≤ zm) _ _ _ _
                  unfold Grp10
                  simp only [Act.put, List.setIfInBounds_toArray, List.set_cons_zero, List.set_cons_succ, Nat.reduceAdd, Nat.add_zero]
                  exact ⟨trivial, _, _, _, _, _, _, _, _, _, _, true, rfl, fun _ => E.out⟩
                · go_wp2_with fail
                  show Grp10 192 (z0 = 0 ∨ m ≤ zm) _ _ _ _
                  unfold Grp10
                  simp only [Act.put, List.setIfInBounds_toArray, List.set_cons_zero, List.set_cons_succ, Nat.reduceAdd, Nat.add_zero]
                  exact ⟨trivial, _, _, _, _, _, _, _, _, _, _, true, rfl, fun _ => E.out⟩
                · go_wp2_with fail
                  show Grp10 192 (z0 = 0 ∨ m ≤ zm) _ _ _ _
                  unfold Grp10
                  simp only [Act.put, List.setIfInBounds_toArray, List.set_cons_zero, List.set_cons_succ, Nat.reduceAdd, Nat.add_zero]
                  exact ⟨trivial, _, _, _, _, _, _, _, _, _, _, false, rfl, fun h => by cases h⟩
              rintro a' w' ⟨rfl, t2_0, t2_1, t2_2, t2_3, t2_4, t2_5, t2_6, t2_7, t2_8, t2_9, f, rfl, hf⟩
              simp only [List.drop_succ_cons, List.drop_zero, Act.put, List.setIfInBounds_toArray, List.set_cons_zero, List.set_cons_succ, Nat.reduceAdd, Nat.add_zero]
              have E3 := Lib.hid hf
              clear hf
              cases f
              · go_wp2_with fail
                go_meet
                exact ⟨⟨false, rfl, fun h => by cases h⟩, New.refl _⟩
              rcases far_ways z1 dn m sm with ⟨ea, E⟩ | ⟨ea, eb, ec, E⟩ | ⟨ea, eb, ec⟩
              · go_wp2_with fail
                go_meet
                exact ⟨⟨true, rfl, fun _ => ⟨E1.out trivial, E2.out trivial, E3.out trivial, E.out⟩⟩, New.refl _⟩
              · go_wp2_with fail
                go_meet
                exact ⟨⟨true, rfl, fun _ => ⟨E1.out trivial, E2.out trivial, E3.out trivial, E.out⟩⟩, New.refl _⟩
              · go_wp2_with fail
                go_meet
                exact ⟨⟨false, rfl, fun h => by cases h⟩, New.refl _⟩
          case rest =>
            as_aux_lemma =>
              clear g2 g3 hu1 hu2 hu3 hu4 hu5 hu6
              obtain ⟨⟨f, rfl, hf⟩, hNZ⟩ := hcut
              have HFF := Lib.hid hf
              have NZ := Lib.hid (HQ2.out.trans hNZ)
              rename World => wz
              obtain ⟨hc1, hc2⟩ := HC.out _ NZ.out
              clear hf hNZ HQ
              go_wp2_with fail
              clear hc1 hc2
              go_loopg [29] r (fun gk s29 wr => ∃ k : Nat, s29 = .int .i64 k ∧ k ≤ r ∧ r - k ≤ gk ∧ Hid (New wi wr))
              case atStart => exact ⟨0, rfl, by omega, by omega, NZ⟩
              case round =>
                obtain ⟨k, rfl, hk, hgk, hnk⟩ := hrel
                obtain ⟨hc1, hc2⟩ := HC.out _ hnk.out
                by_cases hkt : k < r
                rotate_left
                · obtain rfl : k = r := by omega
                  have hgk := HGK.out
                  go_wp2_with fail
                  go_roundg (bn - (i + 1))
                  case measure => omega
                  case rel => exact ⟨i + 1, by go_num, by omega, by omega, Lib.hid (hnr.out.trans hnk.out)⟩
                have q1 : k < A[j].length := by rw [← HM.out.1]; exact hkt
                have q2 : k < B[i].length := by rw [← HM.out.2]; exact hkt
                obtain ⟨t1, s1, rfl, hx1⟩ := HR1.out k q1
                obtain ⟨t2, s2, rfl, hx2⟩ := HR2.out k q2
                replace hx1 := hnk.out.keep hx1
                replace hx2 := hnk.out.keep hx2
                obtain ⟨v1, v2⟩ := HVAL.out k q1 q2
                generalize A[j][k] = x at *
                generalize B[i][k] = y at *
                have HFE : Hid (f = true → y = x) := Lib.hid (fun h => v2 (HFAR.out m xm zm (by have := HFF.out h; have := HPQ.out; have := HRS.out; omega)))
                have HLE : Hid (y ≤ x) := Lib.hid v1
                obtain ⟨hwm, hwa⟩ := HWM.out
                obtain ⟨-, -, -, -, -, -, -, -, -, g2, -, -⟩ := HCG2.out _ (HN10.out.trans (hnr.out.trans hnk.out))
                clear v1 v2
                have hxy := HFE.out
                have hle : y ≤ x := HLE.out
                cases f
                · have hd1 : decide (x < y) = false := decide_eq_false (by omega)
                  clear hxy
                  go_wp2_with fail
                  go_roundg (r - (k + 1))
                  case measure => omega
                  case rel => exact ⟨k + 1, by go_num, by omega, by omega, hnk⟩
                · obtain rfl := hxy rfl
                  have hd1 : decide (y < y) = false := decide_eq_false (by omega)
                  have hd2 : (y != y) = false := by simp
                  clear hxy
                  go_wp2_with fail
                  go_roundg (r - (k + 1))
                  case measure => omega
                  case rel => exact ⟨k + 1, by go_num, by omega, by omega, hnk⟩
      as_aux_lemma =>
        have hzw : zz < dn := by have := hzz.out; omega
        have hd1 : decide ((zz : Int) < (z1 : Int)) = true := decide_eq_true (by have := hzz.out; omega)
        have hd2 : decide (zz < z1) = true := decide_eq_true (by have := hzz.out; omega)
        have HGK := Lib.hid hgk
        clear hgk
        go_wp2_with fail
        clear hd1 hd2
        go_loopg [19] p (fun gk s19 wr => ∃ (b xx : Nat) (ra : Option Addr) (rn rc : Nat) (us : List Value), s19 = .int .i64 (xx : Nat) ∧ Hid (xx = x0 + b) ∧ b ≤ p ∧ p - b ≤ gk ∧ Hid (Mk w5 P (G.x + x0) (G.z + z0) p q wr ra rn rc us (prtL G x0 z0 p (a * p + b))))
        case atStart => exact ⟨0, x0, ra, rn, rc, us, rfl, Lib.hid rfl, by omega, by omega, by rw [Nat.add_zero]; exact HM⟩
        case round =>
          clear HM
          obtain ⟨b, xx, ra, rn, rc, us, rfl, hxx, hbp, hgk, HM⟩ := hrel
          by_cases hbt : b < p
          rotate_left
          · obtain rfl : p = b := by omega
            have hd1 : decide ((xx : Int) < (x1 : Int)) = false := decide_eq_false (by have := hxx.out; omega)
            have hd2 : decide (xx < x1) = false := decide_eq_false (by have := hxx.out; omega)
            have hab : a * p + p = (a + 1) * p := by rw [Nat.add_mul, Nat.one_mul]
            rw [hab] at HM
            have hgk := HGK.out
            clear hab
            go_wp2_with fail
            go_roundg (q - (a + 1))
            case measure => omega
            case rel => exact ⟨a + 1, zz + 1, ra, rn, rc, us, by go_num, Lib.hid (by have := hzz.out; omega), by omega, by omega, HM⟩
          have hxw : xx < wn := by have := hxx.out; omega
          have hd1 : decide ((xx : Int) < (x1 : Int)) = true := decide_eq_true (by have := hxx.out; omega)
          have hd2 : decide (xx < x1) = true := decide_eq_true (by have := hxx.out; omega)
          have HNR := Lib.hid (N5.out.trans HM.out.nw)
          obtain ⟨j, hjl, hje, hprt⟩ := prt_at HCE2.out.2 (show G.w.toNat = wn by have := HWD.out.1; omega) hp0 (show x0 + p ≤ wn by omega) (show z0 + q ≤ G.d.toNat by have := HWD.out.2; omega) hat hbt
          rw [← hzz.out, ← hxx.out] at hje
          obtain ⟨b1, o1, a1, d1, e1, hc, hs⟩ := HGR.out.at j hjl
          have hjn : j < n := by rw [HN.out]; exact hjl
          have hlt1 := fun h0 => sl_own_lt hs h0
          obtain ⟨l, hl⟩ : ∃ l, l = G.L[j] := ⟨_, rfl⟩
          rw [← hl] at hc hs hlt1 hprt
          obtain ⟨ln, hln⟩ : ∃ q, q = l.length := ⟨_, rfl⟩
          rw [← hln] at hc hs hlt1
          have HL1 := Lib.hid hlt1
          have HSL := Lib.hid hs
          have HPRT := Lib.hid hprt
          have HLN := Lib.hid hln
          have hcell := (N0.out.trans HNR.out).keep hc
          have hb1 : zz * wn ≤ 64 * 64 := Nat.mul_le_mul (by omega) (by omega)
          have hb2 : ((zz : Int) * (wn : Int)) = ((zz * wn : Nat) : Int) := (Int.natCast_mul _ _).symm
          have hwm : IntKind.i64.wrap ((zz : Int) * (wn : Int)) = (zz : Int) * (wn : Int) := IntWalk.i64_in _ (by omega)
          have hwa : IntKind.i64.wrap ((zz : Int) * (wn : Int) + (xx : Int)) = (j : Int) := by rw [show (zz : Int) * (wn : Int) + (xx : Int) = (j : Int) by omega]; exact IntWalk.i64_in _ (by omega)
          have hul : us.length ≤ 100000 := by
            have h := HM.out.ro.len
            rw [prtL_len] at h
            have h2 : a * p ≤ 64 * 64 := Nat.mul_le_mul (by omega) (by omega)
            omega
          have HGK2 := Lib.hid hgk
          clear hc hs hlt1 hprt hl hln hb1 hb2 hje hjl hgk
          subst e1
          go_upto_region 12 with fail
          clear hd1 hd2
          have g4 := HM.out.gd.c4
          obtain ⟨-, -, -, -, -, -, -, -, -, g2, -, g5⟩ := HCG2.out _ HNR.out
          refine wp_region_loose 13 (pcV P (w.heap.size + 1) ra (some ⟨b1, o1, none⟩) rn rc n G.gc (zz : Nat) (wn : Nat) (xx : Nat) (j : Nat) (some ⟨b1, o1 + j, none⟩) (.slice a1 ln d1)) (by kernel_rfl) (by kernel_rfl) pcV_keep ?_ ?_
          · intro i' o hi2 ho a' w' nn hr hd
            replace g2 := nn.keep g2
            replace g4 := nn.keep g4
            replace g5 := nn.keep g5
            replace hcell := nn.keep hcell
            rcases (show i' = 0 ∨ i' = 1 ∨ i' = 2 ∨ i' = 3 ∨ i' = 4 ∨ i' = 5 ∨ i' = 6 ∨ i' = 7 ∨ i' = 8 ∨ i' = 9 ∨ i' = 10 ∨ i' = 11 ∨ i' = 12 by omega) with rfl | rfl | rfl | rfl | rfl | rfl | rfl | rfl | rfl | rfl | rfl | rfl | rfl <;> obtain rfl := Option.some.inj ho
            · have r1 : (a'.tmps[17]?).getD undef = .pointer (some ⟨P, 0, none⟩) := (eval_get a' 17).symm.trans (hr 17 (by kernel_rfl))
              exact yields_value (.pointer (some ⟨P, 4, none⟩)) (by go_simp) ⟨New.refl _, rfl⟩
            · have r1 : (a'.tmps[97]?).getD undef = .pointer (some ⟨P, 4, none⟩) := (eval_get a' 97).symm.trans (hd 0 97 (by omega) (by kernel_rfl) (by kernel_rfl))
              exact yields_value (.slice ra rn rc) (by go_simp) ⟨New.refl _, rfl⟩
            · have r1 : (a'.tmps[7]?).getD undef = .pointer (some ⟨w.heap.size + 1, 0, none⟩) := (eval_get a' 7).symm.trans (hr 7 (by kernel_rfl))
              exact yields_value (.pointer (some ⟨w.heap.size + 1, 4, none⟩)) (by go_simp) ⟨New.refl _, rfl⟩
            · have r1 : (a'.tmps[99]?).getD undef = .pointer (some ⟨w.heap.size + 1, 4, none⟩) := (eval_get a' 99).symm.trans (hd 2 99 (by omega) (by kernel_rfl) (by kernel_rfl))
              exact yields_value (.slice (some ⟨b1, o1, none⟩) n G.gc) (by go_simp) ⟨New.refl _, rfl⟩
            · have r1 : (a'.tmps[18]?).getD undef = .int .i64 (zz : Nat) := (eval_get a' 18).symm.trans (hr 18 (by kernel_rfl))
              exact yields_value (.int .i64 (zz : Nat)) (by go_simp) ⟨New.refl _, rfl⟩
            · have r1 : (a'.tmps[7]?).getD undef = .pointer (some ⟨w.heap.size + 1, 0, none⟩) := (eval_get a' 7).symm.trans (hr 7 (by kernel_rfl))
              exact yields_value (.pointer (some ⟨w.heap.size + 1, 2, none⟩)) (by go_simp) ⟨New.refl _, rfl⟩
            · have r1 : (a'.tmps[102]?).getD undef = .pointer (some ⟨w.heap.size + 1, 2, none⟩) := (eval_get a' 102).symm.trans (hd 5 102 (by omega) (by kernel_rfl) (by kernel_rfl))
              exact yields_value (.int .i64 (wn : Nat)) (by go_simp) ⟨New.refl _, rfl⟩
            · have r1 : (a'.tmps[101]?).getD undef = .int .i64 (zz : Nat) := (eval_get a' 101).symm.trans (hd 4 101 (by omega) (by kernel_rfl) (by kernel_rfl))
              have r2 : (a'.tmps[103]?).getD undef = .int .i64 (wn : Nat) := (eval_get a' 103).symm.trans (hd 6 103 (by omega) (by kernel_rfl) (by kernel_rfl))
              exact yields_value (.int .i64 ((zz : Int) * (wn : Int))) (by go_simp) ⟨New.refl _, rfl⟩
            · have r1 : (a'.tmps[19]?).getD undef = .int .i64 (xx : Nat) := (eval_get a' 19).symm.trans (hr 19 (by kernel_rfl))
              exact yields_value (.int .i64 (xx : Nat)) (by go_simp) ⟨New.refl _, rfl⟩
            · have r1 : (a'.tmps[104]?).getD undef = .int .i64 ((zz : Int) * (wn : Int)) := (eval_get a' 104).symm.trans (hd 7 104 (by omega) (by kernel_rfl) (by kernel_rfl))
              have r2 : (a'.tmps[105]?).getD undef = .int .i64 (xx : Nat) := (eval_get a' 105).symm.trans (hd 8 105 (by omega) (by kernel_rfl) (by kernel_rfl))
              exact yields_value (.int .i64 (j : Nat)) (by go_simp) ⟨New.refl _, rfl⟩
            · have r1 : (a'.tmps[100]?).getD undef = .slice (some ⟨b1, o1, none⟩) n G.gc := (eval_get a' 100).symm.trans (hd 3 100 (by omega) (by kernel_rfl) (by kernel_rfl))
              have r2 : (a'.tmps[106]?).getD undef = .int .i64 (j : Nat) := (eval_get a' 106).symm.trans (hd 9 106 (by omega) (by kernel_rfl) (by kernel_rfl))
              exact yields_value (.pointer (some ⟨b1, o1 + j, none⟩)) (by go_simp) ⟨New.refl _, rfl⟩
            · have r1 : (a'.tmps[107]?).getD undef = .pointer (some ⟨b1, o1 + j, none⟩) := (eval_get a' 107).symm.trans (hd 10 107 (by omega) (by kernel_rfl) (by kernel_rfl))
              exact yields_value (.slice a1 ln d1) (by go_simp) ⟨New.refl _, rfl⟩
            · have r1 : (a'.tmps[108]?).getD undef = .slice a1 ln d1 := (eval_get a' 108).symm.trans (hd 11 108 (by omega) (by kernel_rfl) (by kernel_rfl))
              have na : New w' (w'.alloc (.cells #[.slice a1 ln d1] 44)) := by (repeat (first | (with_reducible exact New.refl _) | (with_reducible assumption) | ((with_reducible refine New.setB ?_ ?_ _); focus (first | omega | (simp; omega) | (simp; done))) | (with_reducible refine New.alloc ?_ _) | (with_reducible refine New.drew ?_) | (with_reducible refine New.drewN ?_ _) | (with_reducible refine New.hat ?_ _) | ((with_reducible apply New.snart); (with_reducible assumption))))
              exact yields_value (w' := w'.alloc (.cells #[.slice a1 ln d1] 44)) (.slice (some ⟨w'.heap.size, 0, none⟩) 1 1) (by go_simp) ⟨na, w'.heap.size, rfl, cell_of_heap (heap_new _ _) rfl⟩
          · intro vs w9 nn hv
            have e1 : vs 1 = .slice ra rn rc := hv 1 (by omega)
            obtain ⟨pp, e12, hp⟩ : ∃ pp, vs 12 = .slice (some ⟨pp, 0, none⟩) 1 1 ∧ w9.cell? ⟨pp, 0, none⟩ = some (.slice a1 ln d1) := hv 12 (by omega)
            simp only [List.take_succ_cons, List.take_zero, List.drop_succ_cons, List.drop_zero, putL, Act.put, List.setIfInBounds_toArray, List.set_cons_zero, List.set_cons_succ, Nat.reduceAdd, Nat.zero_add]
            rw [e1, e12]
            have HM9 := Lib.hid (HM.out.new nn)
            have HS9 := Lib.hid (HSL.out.keep (N0.out.trans (HNR.out.trans nn)))
            have hb9 := HM9.out.sz
            have ho9 := HM9.out.ro.own
            clear hv e1 e12 nn g2 g4 g5 hcell hwm hwa
            go_upto_region 11 with (at_builtin; refine wpList_app_row rfl _ _ rfl (P + 1) _ us rfl ho9 pp _ rfl hp rfl hul hb9 ?_; intro v' w4' hown' hgrow hat; obtain ⟨a', d', N', hN', rfl⟩ := own_shape2 hown'; clear hN'; have hgb := HM9.out.after hgrow; have g4' := hgb.c4; have gf := hgb.fz)
            refine Code.at (fun W5 hW => ?_)
            have HM5 : Hid (Mk w5 P (G.x + x0) (G.z + z0) p q W5 a' N' d' (us ++ [.slice a1 ln d1]) (prtL G x0 z0 p (a * p + (b + 1)))) := Lib.hid (by
              subst hW
              rw [HPRT.out]
              refine HM9.out.push HS9.out (fun h0 g e => ?_) hown' hgrow hat
              have q1 := HL1.out (by rw [HLN.out]; exact h0) g e
              refine ⟨fun e2 => ?_, by omega⟩
              have := (HM.out.ro.own.lt g e2).1
              omega)
            have hgk := HGK2.out
            clear hW hgrow hat hown' hgb g4' gf hp HS9 HM9 HM ho9
            go_wp2_with fail
            go_roundg (p - (b + 1))
            case measure => omega
            case rel => exact ⟨b + 1, xx + 1, a', N', d', _, by go_num, Lib.hid (by have := hxx.out; omega), by omega, by omega, HM5⟩

end Go.Proofs.YtgoggogcbjfofaaDoor
