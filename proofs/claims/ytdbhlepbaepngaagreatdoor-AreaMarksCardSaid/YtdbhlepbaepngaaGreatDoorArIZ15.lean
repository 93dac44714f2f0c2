import Derived.Test.YtdbhlepbaepngaaGreatDoorArCZ15
import Derived.Test.YtdbhlepbaepngaaGreatDoorOgMZ15

/- Layer 12: the document's In, Of; Great; the law AreaOf. -/
namespace Go.Proofs.YtdbhlepbaepngaaGreatDoor
open Go.RowKit
set_option linter.unusedVariables false

theorem inX_iff {X : BoxR} {x z y : Int} : inX X x z y = true ↔ (X.x0 ≤ x ∧ x ≤ X.x1) ∧ (X.z0 ≤ z ∧ z ≤ X.z1) ∧ X.y0 ≤ y ∧ y ≤ X.y1 := by
  unfold inX
  simp only [Bool.and_eq_true, wiB_iff]
theorem inX_not {X : BoxR} {x z y : Int} (h : ¬ ((X.x0 ≤ x ∧ x ≤ X.x1) ∧ (X.z0 ≤ z ∧ z ≤ X.z1) ∧ X.y0 ≤ y ∧ y ≤ X.y1)) : inX X x z y = false := by
  cases e : inX X x z y
  · rfl
  · exact absurd (inX_iff.1 e) h

set_option maxHeartbeats 4000000 in
theorem rr_In (X : BoxR) (x z y : Int) (w : World) : Calls Tryz.prog 28 #[.agg #[.int .i64 X.i, .int .i64 X.x0, .int .i64 X.z0, .int .i64 X.x1, .int .i64 X.z1, .int .i64 X.y0, .int .i64 X.y1, .int .i64 X.ar], .agg #[.int .i64 x, .int .i64 z, .int .i64 y]] w fun e w' => e = .returned (.bool (inX X x z y)) ∧ New w w' := by
  by_cases h0 : X.x0 ≤ x
  rotate_left
  · rw [inX_not (fun h => h0 (by omega))]
    have g0 : decide (X.x0 ≤ x) = false := decide_eq_false h0
    clear h0
    go_enter Tryz.func28, Tryz.ntmps28
    go_wp2_with fail
    go_ret
    exact ⟨rfl, by (repeat (first | (with_reducible exact New.refl _) | (with_reducible assumption) | ((with_reducible refine New.setB ?_ ?_ _); focus (first | omega | (simp; omega) | (simp; done))) | (with_reducible refine New.alloc ?_ _) | (with_reducible refine New.drew ?_) | (with_reducible refine New.drewN ?_ _) | (with_reducible refine New.hat ?_ _) | ((with_reducible apply New.snart); (with_reducible assumption))))⟩
  by_cases h1 : x ≤ X.x1
  rotate_left
  · rw [inX_not (fun h => h1 (by omega))]
    have g0 : decide (X.x0 ≤ x) = true := decide_eq_true h0
    have g1 : decide (x ≤ X.x1) = false := decide_eq_false h1
    clear h0 h1
    go_enter Tryz.func28, Tryz.ntmps28
    go_wp2_with fail
    go_ret
    exact ⟨rfl, by (repeat (first | (with_reducible exact New.refl _) | (with_reducible assumption) | ((with_reducible refine New.setB ?_ ?_ _); focus (first | omega | (simp; omega) | (simp; done))) | (with_reducible refine New.alloc ?_ _) | (with_reducible refine New.drew ?_) | (with_reducible refine New.drewN ?_ _) | (with_reducible refine New.hat ?_ _) | ((with_reducible apply New.snart); (with_reducible assumption))))⟩
  by_cases h2 : X.z0 ≤ z
  rotate_left
  · rw [inX_not (fun h => h2 (by omega))]
    have g0 : decide (X.x0 ≤ x) = true := decide_eq_true h0
    have g1 : decide (x ≤ X.x1) = true := decide_eq_true h1
    have g2 : decide (X.z0 ≤ z) = false := decide_eq_false h2
    clear h0 h1 h2
    go_enter Tryz.func28, Tryz.ntmps28
    go_wp2_with fail
    go_ret
    exact ⟨rfl, by (repeat (first | (with_reducible exact New.refl _) | (with_reducible assumption) | ((with_reducible refine New.setB ?_ ?_ _); focus (first | omega | (simp; omega) | (simp; done))) | (with_reducible refine New.alloc ?_ _) | (with_reducible refine New.drew ?_) | (with_reducible refine New.drewN ?_ _) | (with_reducible refine New.hat ?_ _) | ((with_reducible apply New.snart); (with_reducible assumption))))⟩
  by_cases h3 : z ≤ X.z1
  rotate_left
  · rw [inX_not (fun h => h3 (by omega))]
    have g0 : decide (X.x0 ≤ x) = true := decide_eq_true h0
    have g1 : decide (x ≤ X.x1) = true := decide_eq_true h1
    have g2 : decide (X.z0 ≤ z) = true := decide_eq_true h2
    have g3 : decide (z ≤ X.z1) = false := decide_eq_false h3
    clear h0 h1 h2 h3
    go_enter Tryz.func28, Tryz.ntmps28
    go_wp2_with fail
    go_ret
    exact ⟨rfl, by (repeat (first | (with_reducible exact New.refl _) | (with_reducible assumption) | ((with_reducible refine New.setB ?_ ?_ _); focus (first | omega | (simp; omega) | (simp; done))) | (with_reducible refine New.alloc ?_ _) | (with_reducible refine New.drew ?_) | (with_reducible refine New.drewN ?_ _) | (with_reducible refine New.hat ?_ _) | ((with_reducible apply New.snart); (with_reducible assumption))))⟩
  by_cases h4 : X.y0 ≤ y
  rotate_left
  · rw [inX_not (fun h => h4 (by omega))]
    have g0 : decide (X.x0 ≤ x) = true := decide_eq_true h0
    have g1 : decide (x ≤ X.x1) = true := decide_eq_true h1
    have g2 : decide (X.z0 ≤ z) = true := decide_eq_true h2
    have g3 : decide (z ≤ X.z1) = true := decide_eq_true h3
    have g4 : decide (X.y0 ≤ y) = false := decide_eq_false h4
    clear h0 h1 h2 h3 h4
    go_enter Tryz.func28, Tryz.ntmps28
    go_wp2_with fail
    go_ret
    exact ⟨rfl, by (repeat (first | (with_reducible exact New.refl _) | (with_reducible assumption) | ((with_reducible refine New.setB ?_ ?_ _); focus (first | omega | (simp; omega) | (simp; done))) | (with_reducible refine New.alloc ?_ _) | (with_reducible refine New.drew ?_) | (with_reducible refine New.drewN ?_ _) | (with_reducible refine New.hat ?_ _) | ((with_reducible apply New.snart); (with_reducible assumption))))⟩
  by_cases h5 : y ≤ X.y1
  rotate_left
  · rw [inX_not (fun h => h5 (by omega))]
    have g0 : decide (X.x0 ≤ x) = true := decide_eq_true h0
    have g1 : decide (x ≤ X.x1) = true := decide_eq_true h1
    have g2 : decide (X.z0 ≤ z) = true := decide_eq_true h2
    have g3 : decide (z ≤ X.z1) = true := decide_eq_true h3
    have g4 : decide (X.y0 ≤ y) = true := decide_eq_true h4
    have g5 : decide (y ≤ X.y1) = false := decide_eq_false h5
    clear h0 h1 h2 h3 h4 h5
    go_enter Tryz.func28, Tryz.ntmps28
    go_wp2_with fail
    go_ret
    exact ⟨rfl, by (repeat (first | (with_reducible exact New.refl _) | (with_reducible assumption) | ((with_reducible refine New.setB ?_ ?_ _); focus (first | omega | (simp; omega) | (simp; done))) | (with_reducible refine New.alloc ?_ _) | (with_reducible refine New.drew ?_) | (with_reducible refine New.drewN ?_ _) | (with_reducible refine New.hat ?_ _) | ((with_reducible apply New.snart); (with_reducible assumption))))⟩
  rw [inX_iff.2 ⟨⟨h0, h1⟩, ⟨h2, h3⟩, h4, h5⟩]
  have g0 : decide (X.x0 ≤ x) = true := decide_eq_true h0
  have g1 : decide (x ≤ X.x1) = true := decide_eq_true h1
  have g2 : decide (X.z0 ≤ z) = true := decide_eq_true h2
  have g3 : decide (z ≤ X.z1) = true := decide_eq_true h3
  have g4 : decide (X.y0 ≤ y) = true := decide_eq_true h4
  have g5 : decide (y ≤ X.y1) = true := decide_eq_true h5
  clear h0 h1 h2 h3 h4 h5
  go_enter Tryz.func28, Tryz.ntmps28
  go_wp2_with fail
  go_ret
  exact ⟨rfl, by (repeat (first | (with_reducible exact New.refl _) | (with_reducible assumption) | ((with_reducible refine New.setB ?_ ?_ _); focus (first | omega | (simp; omega) | (simp; done))) | (with_reducible refine New.alloc ?_ _) | (with_reducible refine New.drew ?_) | (with_reducible refine New.drewN ?_ _) | (with_reducible refine New.hat ?_ _) | ((with_reducible apply New.snart); (with_reducible assumption))))⟩

set_option maxHeartbeats 4000000 in
set_option maxRecDepth 100000 in
theorem rr_Of (at0 : Option Addr) (l : List BoxR) (cap : Nat) (x z y : Int) (hl : l.length ≤ maxLen) (w : World) (H : RowIn BoxR.enc 8 w at0 l) :
    Calls Tryz.prog 18 #[.slice at0 l.length cap, .agg #[.int .i64 x, .int .i64 z, .int .i64 y]] w fun e w' => e = .returned (.int .i64 (ofX l x z y)) ∧ New w w' := by
  have KI := Lib.hid (fun X W => rr_In X x z y W)
  have HH := Lib.hid H
  unfold maxLen at hl
  obtain ⟨r, hr⟩ : ∃ r, r = ofX l x z y := ⟨_, rfl⟩
  rw [← hr]
  have HR := Lib.hid hr
  obtain ⟨n, hn⟩ : ∃ q, q = l.length := ⟨_, rfl⟩
  rw [← hn] at hl ⊢
  have HN := Lib.hid hn
  clear hr hn H
  go_enter Tryz.func18, Tryz.ntmps18
  go_wp2_with fail
  refine Code.at (fun W0 hW => ?_)
  have n0 : New w W0 := by subst hW; (repeat (first | (with_reducible exact New.refl _) | (with_reducible assumption) | ((with_reducible refine New.setB ?_ ?_ _); focus (first | omega | (simp; omega) | (simp; done))) | (with_reducible refine New.alloc ?_ _) | (with_reducible refine New.drew ?_) | (with_reducible refine New.drewN ?_ _) | (with_reducible refine New.hat ?_ _) | ((with_reducible apply New.snart); (with_reducible assumption))))
  have s0 : W0.cell? ⟨w.heap.size, 0, none⟩ = some (.int .i64 x) := by subst hW; go_simp
  have s1 : W0.cell? ⟨w.heap.size, 1, none⟩ = some (.int .i64 z) := by subst hW; go_simp
  have s2 : W0.cell? ⟨w.heap.size, 2, none⟩ = some (.int .i64 y) := by subst hW; go_simp
  clear hW
  have N0 := Lib.hid n0
  have HS := Lib.hid (fun W (q : New W0 W) => And.intro (q.keep s0) (And.intro (q.keep s1) (q.keep s2)))
  clear n0 s0 s1 s2
  go_loopg [6, 5] n (fun gk s6 s5 wr => ∃ (i : Nat) (o : Option BoxR) (bi : Int), s6 = .int .i64 i ∧ s5 = .int .i64 bi ∧ i ≤ n ∧ n - i ≤ gk ∧ Hid (o = bestX (l.take i) x z y) ∧ Hid ((o = none ∧ bi = -1) ∨ ∃ j, ∃ h : j < l.length, j < i ∧ bi = j ∧ o = some l[j]) ∧ Hid (New W0 wr))
  case atStart => exact ⟨0, none, -1, rfl, rfl, by omega, by omega, Lib.hid rfl, Lib.hid (.inl ⟨rfl, rfl⟩), Lib.hid (New.refl _)⟩
  case round =>
    obtain ⟨i, o, bi, rfl, rfl, hi, hgk, HO, HJ, HNW⟩ := hrel
    by_cases hlt : i < n
    · have hil : i < l.length := by rw [← HN.out]; exact hlt
      obtain ⟨b, off, rfl, hA⟩ := HH.out (by omega)
      obtain ⟨c0, c1, c2, c3, c4, c5, c6, c7⟩ := BoxR.cells (hA.keep (N0.out.trans HNW.out)) i hil
      obtain ⟨s0, s1, s2⟩ := HS.out _ HNW.out
      have hst := bestX_take hil x z y
      rw [← HO.out] at hst
      obtain ⟨X, hX⟩ : ∃ X, X = l[i] := ⟨_, rfl⟩
      rw [← hX] at c0 c1 c2 c3 c4 c5 c6 c7 hst
      have HX := Lib.hid (show ∃ h : i < l.length, X = l[i] from ⟨hil, hX⟩)
      have HST := Lib.hid hst
      have HA := Lib.hid (hA.keep (N0.out.trans HNW.out))
      clear hX hst hA
      have F1 := Lib.hid (fun (q : Hat wr) => KI.out X q.w)
      cases hin : inX X x z y
      · have HE : Hid (o = bestX (l.take (i + 1)) x z y) := Lib.hid (by rw [HST.out, stepX_out hin])
        rw [hin] at F1
        clear hin
        go_upto_region 5 with fail
        (refine wp_region_hat (by kernel_rfl) (by kernel_rfl) ?_; intro hatc hatf; (repeat (go_big_quiet_step ((go_at_call 28; with_reducible exact Calls.hat (F1.out _))))); refine wpQuiet_nil ?_; rintro _ ⟨q, rfl⟩)
        go_wp2_with fail
        go_roundg (n - (i + 1))
        case measure => omega
        case rel => exact ⟨i + 1, o, bi, by go_num, rfl, by omega, by omega, HE, Lib.hid (HJ.out.imp id (fun ⟨j, h, h1, h2⟩ => ⟨j, h, by omega, h2⟩)), Lib.hid (HNW.out.trans q.h)⟩
      · rw [hin] at F1
        have HIN := Lib.hid hin
        clear hin
        rcases HJ.out with ⟨rfl, rfl⟩ | ⟨j, hj, hji, rfl, rfl⟩
        · have HE : Hid (some X = bestX (l.take (i + 1)) x z y) := Lib.hid (by rw [HST.out, stepX_first HIN.out])
          go_upto_region 5 with fail
          (refine wp_region_hat (by kernel_rfl) (by kernel_rfl) ?_; intro hatc hatf; (repeat (go_big_quiet_step ((go_at_call 28; with_reducible exact Calls.hat (F1.out _))))); refine wpQuiet_nil ?_; rintro _ ⟨q, rfl⟩)
          go_wp2_with fail
          go_roundg (n - (i + 1))
          case measure => omega
          case rel => exact ⟨i + 1, some X, i, by go_num, rfl, by omega, by omega, HE, Lib.hid (.inr (by obtain ⟨h, e⟩ := HX.out; exact ⟨i, h, by omega, rfl, by rw [e]⟩)), Lib.hid (HNW.out.trans q.h)⟩
        · obtain ⟨k0, k1, k2, k3, k4, k5, k6, k7⟩ := BoxR.cells HA.out j hj
          obtain ⟨q2, hq2⟩ : ∃ q2, q2 = l[j] := ⟨_, rfl⟩
          rw [← hq2] at k0 k1 k2 k3 k4 k5 k6 k7 HST
          have HQ2 := Lib.hid hq2
          have hjn : j < n := by omega
          have hneg : decide ((j : Int) < 0) = false := decide_eq_false (by omega)
          clear hq2 k1 k2 k3 k4 k5 k6 k7
          by_cases hq : q2.i ≤ X.i
          · have HE : Hid (some X = bestX (l.take (i + 1)) x z y) := Lib.hid (by rw [HST.out, stepX_more HIN.out hq])
            have hg2 : decide (q2.i ≤ X.i) = true := decide_eq_true hq
            have hg : decide (X.i ≥ q2.i) = true := decide_eq_true hq
            clear hq
            go_upto_region 5 with fail
            (refine wp_region_hat (by kernel_rfl) (by kernel_rfl) ?_; intro hatc hatf; (repeat (go_big_quiet_step ((go_at_call 28; with_reducible exact Calls.hat (F1.out _))))); refine wpQuiet_nil ?_; rintro _ ⟨q, rfl⟩)
            go_wp2_with fail
            go_roundg (n - (i + 1))
            case measure => omega
            case rel => exact ⟨i + 1, some X, i, by go_num, rfl, by omega, by omega, HE, Lib.hid (.inr (by obtain ⟨h, e⟩ := HX.out; exact ⟨i, h, by omega, rfl, by rw [e]⟩)), Lib.hid (HNW.out.trans q.h)⟩
          · have HE : Hid (some q2 = bestX (l.take (i + 1)) x z y) := Lib.hid (by rw [HST.out, stepX_less hq])
            have hg2 : decide (q2.i ≤ X.i) = false := decide_eq_false hq
            have hg : decide (X.i ≥ q2.i) = false := decide_eq_false hq
            clear hq
            go_upto_region 5 with fail
            (refine wp_region_hat (by kernel_rfl) (by kernel_rfl) ?_; intro hatc hatf; (repeat (go_big_quiet_step ((go_at_call 28; with_reducible exact Calls.hat (F1.out _))))); refine wpQuiet_nil ?_; rintro _ ⟨q, rfl⟩)
            go_wp2_with fail
            go_roundg (n - (i + 1))
            case measure => omega
            case rel => exact ⟨i + 1, some q2, j, by go_num, rfl, by omega, by omega, HE, Lib.hid (.inr ⟨j, hj, by omega, rfl, by rw [HQ2.out]⟩), Lib.hid (HNW.out.trans q.h)⟩
    · obtain rfl : i = n := by omega
      have HE : Hid (o = bestX l x z y) := Lib.hid (by rw [HO.out, List.take_of_length_le (by rw [HN.out]; exact Nat.le_refl _)])
      rcases HJ.out with ⟨rfl, rfl⟩ | ⟨j, hj, hji, rfl, rfl⟩
      · go_wp2_with fail
        go_ret
        exact ⟨by rw [HR.out]; unfold ofX; rw [← HE.out]; rfl, N0.out.trans HNW.out⟩
      · obtain ⟨b, off, rfl, hA⟩ := HH.out (by omega)
        obtain ⟨k0, k1, k2, k3, k4, k5, k6, k7⟩ := BoxR.cells (hA.keep (N0.out.trans HNW.out)) j hj
        have hra : r = l[j].ar := by rw [HR.out]; unfold ofX; rw [← HE.out]
        obtain ⟨q2, hq2⟩ : ∃ q2, q2 = l[j] := ⟨_, rfl⟩
        rw [← hq2] at k7 hra
        have hneg : decide ((j : Int) < 0) = false := decide_eq_false (by omega)
        have HRA := Lib.hid hra
        clear hq2 hra hA k0 k1 k2 k3 k4 k5 k6
        go_wp2_with fail
        go_ret
        exact ⟨by rw [HRA.out]; rfl, N0.out.trans HNW.out⟩

/-- What Great tells: where it says no, no column has many floors. -/
def ArGreated (L : List (List Fl)) (w : World) (e : Ending) (w' : World) : Prop := ∃ b, e = .returned (.bool b) ∧ (b = false → smallL L ∧ L.length ≤ 600) ∧ New w w'

set_option maxHeartbeats 4000000 in
set_option maxRecDepth 100000 in
theorem ar_great (G : Gd) (w : World) (h : G.ok w) : Calls Tryz.prog 4 #[.agg #[.int .i64 G.x, .int .i64 G.z, .int .i64 G.w, .int .i64 G.d, .slice G.ga G.L.length G.gc]] w (ArGreated G.L w) := by
  have HH : Hid (RowsK Fl.enc 3 w (.slice G.ga G.L.length G.gc) G.L) := Lib.hid h
  have hmx : G.L.length ≤ maxLen := by obtain ⟨us, h1, ⟨a, c, e, h2, h3, -⟩, -⟩ := h; omega
  unfold maxLen at hmx
  obtain ⟨n, hn⟩ : ∃ n, n = G.L.length := ⟨_, rfl⟩
  obtain ⟨ga, hga⟩ : ∃ q, q = G.ga := ⟨_, rfl⟩
  rw [← hn, ← hga] at HH
  rw [← hn] at hmx
  rw [← hn, ← hga]
  have HN := Lib.hid hn
  clear h hn hga
  go_enter Tryz.func4, Tryz.ntmps4
  go_upto_region 1 with fail
  refine Code.at (fun W0 hW => ?_)
  have n0 : Hid (New w W0) := Lib.hid (by subst hW; (repeat (first | (with_reducible exact New.refl _) | (with_reducible assumption) | ((with_reducible refine New.setB ?_ ?_ _); focus (first | omega | (simp; omega) | (simp; done))) | (with_reducible refine New.alloc ?_ _) | (with_reducible refine New.drew ?_) | (with_reducible refine New.drewN ?_ _) | (with_reducible refine New.hat ?_ _) | ((with_reducible apply New.snart); (with_reducible assumption)))))
  have g4 : W0.cell? ⟨w.heap.size, 4, none⟩ = some (.slice ga n G.gc) := by subst hW; go_simp
  clear hW
  by_cases h6 : 600 < n
  · have hd : decide (600 < n) = true := decide_eq_true h6
    have hd2 : ((n : Int) > 600) := by omega
    go_wp2_with fail
    go_ret
    exact ⟨true, rfl, (fun h => by cases h), n0.out⟩
  · have hn6 : n ≤ 600 := by omega
    have hd : decide (600 < n) = false := decide_eq_false h6
    have hd2 : ¬ ((n : Int) > 600) := by omega
    have HG := Lib.hid (fun W (q : New W0 W) => q.keep g4)
    clear h6
    go_wp2_with fail
    clear g4 hd hd2
    go_loopg [3] n (fun gk s3 wr => ∃ i : Nat, s3 = .int .i64 i ∧ i ≤ n ∧ n - i ≤ gk ∧ Hid (∀ j (h : j < G.L.length), j < i → G.L[j].length ≤ 1000) ∧ Hid (New W0 wr))
    case atStart => exact ⟨0, rfl, by omega, by omega, Lib.hid (fun j _ h => by omega), Lib.hid (New.refl _)⟩
    case round =>
      obtain ⟨i, rfl, hi, hgk, HB, hnr⟩ := hrel
      have g4 := HG.out _ hnr.out
      by_cases hlt : i < n
      · have hil : i < G.L.length := by rw [← HN.out]; exact hlt
        obtain ⟨b, off, a, c, rfl, hc, hs⟩ := (HH.out.keep (n0.out.trans hnr.out)).at i hil
        obtain ⟨m, hm⟩ : ∃ m, m = G.L[i].length := ⟨_, rfl⟩
        rw [← hm] at hc
        have HM := Lib.hid hm
        clear hm hs
        by_cases hq : 40 < m
        · have hd : decide (40 < m) = true := decide_eq_true hq
          have hd2 : ((m : Int) > 40) := by omega
          go_wp2_with fail
          go_ret
          exact ⟨true, rfl, (fun h => by cases h), n0.out.trans hnr.out⟩
        · have hd : decide (40 < m) = false := decide_eq_false hq
          have hd2 : ¬ ((m : Int) > 40) := by omega
          have hnx : Hid (∀ j (h : j < G.L.length), j < i + 1 → G.L[j].length ≤ 1000) := Lib.hid (fun j h hj => by
            by_cases e : j < i
            · exact HB.out j h e
            · obtain rfl : j = i := by omega
              have := HM.out
              omega)
          go_wp2_with fail
          go_roundg (n - (i + 1))
          case measure => omega
          case rel => exact ⟨i + 1, by go_num, by omega, by omega, hnx, hnr⟩
      · obtain rfl : i = n := by omega
        go_wp2_with fail
        go_ret
        exact ⟨false, rfl, (fun _ => ⟨fun j hj => HB.out j hj (by rw [HN.out]; exact hj), by rw [← HN.out]; exact hn6⟩), n0.out.trans hnr.out⟩

end Go.Proofs.YtdbhlepbaepngaaGreatDoor
