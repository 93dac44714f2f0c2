import Derived.Test.YtgoggogcbjfofaaDoorOgIY14

/- The document's own Check of grids. -/
namespace Go.Proofs.YtgoggogcbjfofaaDoor
open Go.RowKit
set_option linter.unusedVariables false

theorem okAt_ref {l : List Fl} {k : Nat} (hk : k < l.length) (hp : ∀ j, j < k → okAt l j = true) : okAt l k = true ↔ (-2048 ≤ l[k].y ∧ l[k].y ≤ 2048 ∧ l[k].y < l[k].top ∧ l[k].top ≤ 1048576 ∧ 0 ≤ l[k].area ∧ l[k].area ≤ 7 ∧ ∀ q (h : q < l.length), k = q + 1 → l[q].top ≤ l[k].y) := by
  have hlo := leastAt_lo (Nat.le_of_lt hk) hp
  rw [okAt_at hk]
  unfold okF
  simp only [Bool.and_eq_true, wiB_iff]
  cases k with
  | zero =>
    have e : leastAt l 0 = -2048 := rfl
    rw [e]
    constructor
    · intro h
      exact ⟨by omega, by omega, by omega, by omega, by omega, by omega, fun q _ h => by omega⟩
    · intro h
      omega
  | succ q =>
    have hq : q < l.length := by omega
    rw [leastAt_succ hq] at hlo ⊢
    constructor
    · intro h
      refine ⟨by omega, by omega, by omega, by omega, by omega, by omega, fun p hp' e => ?_⟩
      obtain rfl : q = p := by omega
      omega
    · intro h
      have := h.2.2.2.2.2.2 q hq rfl
      omega

set_option maxHeartbeats 8000000 in
set_option maxRecDepth 100000 in
theorem rg_check (G : Gd) (w : World) (h : G.ok w) : Calls Tryd.prog 24 #[.agg #[.int .i64 G.x, .int .i64 G.z, .int .i64 G.w, .int .i64 G.d, .slice G.ga G.L.length G.gc]] w fun e w' => e = .returned (.int .i64 (gE G)) ∧ New w w' := by
  have HH : Hid (RowsK Fl.enc 3 w (.slice G.ga G.L.length G.gc) G.L) := Lib.hid h
  obtain ⟨r, hr⟩ : ∃ r, r = gE G := ⟨_, rfl⟩
  rw [← hr]
  have HR := Lib.hid hr
  obtain ⟨n, hn⟩ : ∃ n, n = G.L.length := ⟨_, rfl⟩
  rw [← hn] at HH ⊢
  have HN := Lib.hid hn
  clear hn hr h
  have HP := Lib.hid (@placeB_iff G)
  obtain ⟨x, hx⟩ : ∃ x, x = G.x := ⟨_, rfl⟩
  obtain ⟨z, hz⟩ : ∃ x, x = G.z := ⟨_, rfl⟩
  obtain ⟨wi, hwi⟩ : ∃ x, x = G.w := ⟨_, rfl⟩
  obtain ⟨d, hdd⟩ : ∃ x, x = G.d := ⟨_, rfl⟩
  rw [← hx] at HP ⊢
  rw [← hz] at HP ⊢
  rw [← hwi] at HP ⊢
  rw [← hdd] at HP ⊢
  have HX := Lib.hid (And.intro hwi hdd)
  obtain ⟨ga, hga⟩ : ∃ q, q = G.ga := ⟨_, rfl⟩
  rw [← hga] at HH ⊢
  clear hx hz hwi hdd hga
  have hpf : Hid (¬ ((-64 ≤ x ∧ x ≤ 64) ∧ (-64 ≤ z ∧ z ≤ 64) ∧ (0 ≤ wi ∧ wi ≤ 64) ∧ 0 ≤ d ∧ d ≤ 64) → r = 2) := Lib.hid (fun h => by
    rw [HR.out]
    exact gd_place (by
      cases q : placeB G with
      | false => rfl
      | true => exact absurd (HP.out.1 q) h))
  by_cases q0 : x < -64
  · have e0 : decide (x < -64) = true := decide_eq_true q0
    have HE : Hid (r = 2) := Lib.hid (hpf.out (by omega))
    clear q0 hpf
    go_enter Tryd.func24, Tryd.ntmps24
    go_wp2_with fail
    go_ret
    exact ⟨by rw [HE.out]; rfl, by (repeat (first | (with_reducible exact New.refl _) | (with_reducible assumption) | ((with_reducible refine New.setB ?_ ?_ _); focus (first | omega | (simp; omega) | (simp; done))) | (with_reducible refine New.alloc ?_ _) | (with_reducible refine New.drew ?_) | (with_reducible refine New.drewN ?_ _) | (with_reducible refine New.hat ?_ _) | ((with_reducible apply New.snart); (with_reducible assumption))))⟩
  have e0 : decide (x < -64) = false := decide_eq_false q0
  by_cases q1 : 64 < x
  · have e1 : decide (64 < x) = true := decide_eq_true q1
    have HE : Hid (r = 2) := Lib.hid (hpf.out (by omega))
    clear q1 hpf
    go_enter Tryd.func24, Tryd.ntmps24
    go_wp2_with fail
    go_ret
    exact ⟨by rw [HE.out]; rfl, by (repeat (first | (with_reducible exact New.refl _) | (with_reducible assumption) | ((with_reducible refine New.setB ?_ ?_ _); focus (first | omega | (simp; omega) | (simp; done))) | (with_reducible refine New.alloc ?_ _) | (with_reducible refine New.drew ?_) | (with_reducible refine New.drewN ?_ _) | (with_reducible refine New.hat ?_ _) | ((with_reducible apply New.snart); (with_reducible assumption))))⟩
  have e1 : decide (64 < x) = false := decide_eq_false q1
  by_cases q2 : z < -64
  · have e2 : decide (z < -64) = true := decide_eq_true q2
    have HE : Hid (r = 2) := Lib.hid (hpf.out (by omega))
    clear q2 hpf
    go_enter Tryd.func24, Tryd.ntmps24
    go_wp2_with fail
    go_ret
    exact ⟨by rw [HE.out]; rfl, by (repeat (first | (with_reducible exact New.refl _) | (with_reducible assumption) | ((with_reducible refine New.setB ?_ ?_ _); focus (first | omega | (simp; omega) | (simp; done))) | (with_reducible refine New.alloc ?_ _) | (with_reducible refine New.drew ?_) | (with_reducible refine New.drewN ?_ _) | (with_reducible refine New.hat ?_ _) | ((with_reducible apply New.snart); (with_reducible assumption))))⟩
  have e2 : decide (z < -64) = false := decide_eq_false q2
  by_cases q3 : 64 < z
  · have e3 : decide (64 < z) = true := decide_eq_true q3
    have HE : Hid (r = 2) := Lib.hid (hpf.out (by omega))
    clear q3 hpf
    go_enter Tryd.func24, Tryd.ntmps24
    go_wp2_with fail
    go_ret
    exact ⟨by rw [HE.out]; rfl, by (repeat (first | (with_reducible exact New.refl _) | (with_reducible assumption) | ((with_reducible refine New.setB ?_ ?_ _); focus (first | omega | (simp; omega) | (simp; done))) | (with_reducible refine New.alloc ?_ _) | (with_reducible refine New.drew ?_) | (with_reducible refine New.drewN ?_ _) | (with_reducible refine New.hat ?_ _) | ((with_reducible apply New.snart); (with_reducible assumption))))⟩
  have e3 : decide (64 < z) = false := decide_eq_false q3
  by_cases q4 : wi < 0
  · have e4 : decide (wi < 0) = true := decide_eq_true q4
    have HE : Hid (r = 2) := Lib.hid (hpf.out (by omega))
    clear q4 hpf
    go_enter Tryd.func24, Tryd.ntmps24
    go_wp2_with fail
    go_ret
    exact ⟨by rw [HE.out]; rfl, by (repeat (first | (with_reducible exact New.refl _) | (with_reducible assumption) | ((with_reducible refine New.setB ?_ ?_ _); focus (first | omega | (simp; omega) | (simp; done))) | (with_reducible refine New.alloc ?_ _) | (with_reducible refine New.drew ?_) | (with_reducible refine New.drewN ?_ _) | (with_reducible refine New.hat ?_ _) | ((with_reducible apply New.snart); (with_reducible assumption))))⟩
  have e4 : decide (wi < 0) = false := decide_eq_false q4
  by_cases q5 : 64 < wi
  · have e5 : decide (64 < wi) = true := decide_eq_true q5
    have HE : Hid (r = 2) := Lib.hid (hpf.out (by omega))
    clear q5 hpf
    go_enter Tryd.func24, Tryd.ntmps24
    go_wp2_with fail
    go_ret
    exact ⟨by rw [HE.out]; rfl, by (repeat (first | (with_reducible exact New.refl _) | (with_reducible assumption) | ((with_reducible refine New.setB ?_ ?_ _); focus (first | omega | (simp; omega) | (simp; done))) | (with_reducible refine New.alloc ?_ _) | (with_reducible refine New.drew ?_) | (with_reducible refine New.drewN ?_ _) | (with_reducible refine New.hat ?_ _) | ((with_reducible apply New.snart); (with_reducible assumption))))⟩
  have e5 : decide (64 < wi) = false := decide_eq_false q5
  by_cases q6 : d < 0
  · have e6 : decide (d < 0) = true := decide_eq_true q6
    have HE : Hid (r = 2) := Lib.hid (hpf.out (by omega))
    clear q6 hpf
    go_enter Tryd.func24, Tryd.ntmps24
    go_wp2_with fail
    go_ret
    exact ⟨by rw [HE.out]; rfl, by (repeat (first | (with_reducible exact New.refl _) | (with_reducible assumption) | ((with_reducible refine New.setB ?_ ?_ _); focus (first | omega | (simp; omega) | (simp; done))) | (with_reducible refine New.alloc ?_ _) | (with_reducible refine New.drew ?_) | (with_reducible refine New.drewN ?_ _) | (with_reducible refine New.hat ?_ _) | ((with_reducible apply New.snart); (with_reducible assumption))))⟩
  have e6 : decide (d < 0) = false := decide_eq_false q6
  by_cases q7 : 64 < d
  · have e7 : decide (64 < d) = true := decide_eq_true q7
    have HE : Hid (r = 2) := Lib.hid (hpf.out (by omega))
    clear q7 hpf
    go_enter Tryd.func24, Tryd.ntmps24
    go_wp2_with fail
    go_ret
    exact ⟨by rw [HE.out]; rfl, by (repeat (first | (with_reducible exact New.refl _) | (with_reducible assumption) | ((with_reducible refine New.setB ?_ ?_ _); focus (first | omega | (simp; omega) | (simp; done))) | (with_reducible refine New.alloc ?_ _) | (with_reducible refine New.drew ?_) | (with_reducible refine New.drewN ?_ _) | (with_reducible refine New.hat ?_ _) | ((with_reducible apply New.snart); (with_reducible assumption))))⟩
  have e7 : decide (64 < d) = false := decide_eq_false q7
  have hm := mul_64 (a := wi) (b := d) (by omega) (by omega) (by omega) (by omega)
  have HPT : Hid (placeB G = true) := Lib.hid (HP.out.2 (by omega))
  have hwm : IntKind.i64.wrap (wi * d) = wi * d := IntWalk.i64_in _ (by omega)
  clear q0 q1 q2 q3 q4 q5 q6 q7 hpf
  by_cases hln : (n : Int) = wi * d
  rotate_left
  · have HE : Hid (r = 2) := Lib.hid (by rw [HR.out]; exact gd_len (by rw [← HN.out, ← HX.out.1, ← HX.out.2]; exact hln))
    have hne : ((n : Int) != wi * d) = true := by rw [bne_iff_ne]; exact hln
    clear hln
    go_enter Tryd.func24, Tryd.ntmps24
    go_wp2_with fail
    go_ret
    exact ⟨by rw [HE.out]; rfl, by (repeat (first | (with_reducible exact New.refl _) | (with_reducible assumption) | ((with_reducible refine New.setB ?_ ?_ _); focus (first | omega | (simp; omega) | (simp; done))) | (with_reducible refine New.alloc ?_ _) | (with_reducible refine New.drew ?_) | (with_reducible refine New.drewN ?_ _) | (with_reducible refine New.hat ?_ _) | ((with_reducible apply New.snart); (with_reducible assumption))))⟩
  have hne : ((n : Int) != wi * d) = false := by rw [bne_eq_false_iff_eq]; exact hln
  have HLN : Hid ((G.L.length : Int) = G.w * G.d) := Lib.hid (by rw [← HN.out, ← HX.out.1, ← HX.out.2]; exact hln)
  have hn4 : n ≤ 4096 := by omega
  clear hln
  go_enter Tryd.func24, Tryd.ntmps24
  go_wp2_with fail
  generalize hW : World.alloc _ _ = W0
  have n0 : Hid (New w W0) := Lib.hid (by subst hW; (repeat (first | (with_reducible exact New.refl _) | (with_reducible assumption) | ((with_reducible refine New.setB ?_ ?_ _); focus (first | omega | (simp; omega) | (simp; done))) | (with_reducible refine New.alloc ?_ _) | (with_reducible refine New.drew ?_) | (with_reducible refine New.drewN ?_ _) | (with_reducible refine New.hat ?_ _) | ((with_reducible apply New.snart); (with_reducible assumption)))))
  have g4 : W0.cell? ⟨w.heap.size, 4, none⟩ = some (.slice ga n G.gc) := by subst hW; go_simp
  clear hW
  have HG := Lib.hid (fun W (q : New W0 W) => q.keep g4)
  clear g4 e0 e1 e2 e3 e4 e5 e6 e7 hne hwm hm
  go_loopg [3] n (fun gk s3 wr => ∃ i : Nat, s3 = .int .i64 i ∧ i ≤ n ∧ n - i ≤ gk ∧ Hid (∀ j (h : j < G.L.length), j < i → riseB G.L[j] = true) ∧ Hid (New W0 wr))
  case atStart => exact ⟨0, rfl, by omega, by omega, Lib.hid (fun j _ h => by omega), Lib.hid (New.refl _)⟩
  case round =>
    obtain ⟨i, rfl, hi, hgk, HB, hnr⟩ := hrel
    have g4 := HG.out _ hnr.out
    by_cases hlt : i < n
    · have hil : i < G.L.length := by rw [← HN.out]; exact hlt
      obtain ⟨b, off, a, c, rfl, hc, hs⟩ := (HH.out.keep (n0.out.trans hnr.out)).at i hil
      have hlx : G.L[i].length ≤ maxLen := by obtain ⟨_, q1, q2, _⟩ := hs.row'; omega
      have HROW := Lib.hid (hs.row'.2.2.2.2)
      have hbad : Hid (riseB G.L[i] = false → r = 2) := Lib.hid (fun hq => by rw [HR.out]; exact gd_row i hil hq)
      have hnxt : Hid (riseB G.L[i] = true → ∀ j (h : j < G.L.length), j < i + 1 → riseB G.L[j] = true) := Lib.hid (fun hq j h hj => by
          by_cases e : j < i
          · exact HB.out j h e
          · obtain rfl : j = i := by omega
            exact hq)
      obtain ⟨l, hl⟩ : ∃ l, l = G.L[i] := ⟨_, rfl⟩
      rw [← hl] at hc HROW hbad hnxt hlx
      clear hs hl
      obtain ⟨m, hm2⟩ : ∃ m, m = l.length := ⟨_, rfl⟩
      rw [← hm2] at hc hlx
      have HM := Lib.hid hm2
      clear hm2
      unfold maxLen at hlx
      by_cases h8 : 8 < m
      · have HE : Hid (r = 2) := Lib.hid (hbad.out (riseB_long (by rw [← HM.out]; exact h8)))
        have hd : decide (8 < m) = true := decide_eq_true h8
        go_wp2_with fail
        go_ret
        exact ⟨by rw [HE.out]; rfl, n0.out.trans hnr.out⟩
      have hd : decide (8 < m) = false := decide_eq_false h8
      have HGK := Lib.hid hgk
      have HNR := Lib.hid hnr.out
      clear hgk hnr
      rename World => wA
      go_wp2_with fail
      clear g4 hc
      go_loopg [5] m (fun gk s5 wr => ∃ k : Nat, s5 = .int .i64 k ∧ k ≤ m ∧ m - k ≤ gk ∧ Hid (∀ j, j < k → okAt l j = true) ∧ Hid (New wA wr))
      case atStart => exact ⟨0, rfl, by omega, by omega, Lib.hid (fun j h => by omega), Lib.hid (New.refl _)⟩
      case round =>
        obtain ⟨k, rfl, hk, hgk, HO, hnr⟩ := hrel
        by_cases hkt : k < m
        · have hkl : k < l.length := by rw [← HM.out]; exact hkt
          obtain ⟨b1, off1, rfl, hA⟩ := HROW.out (by omega)
          obtain ⟨c0, c1, c2⟩ := Fl.cells (hA.keep hnr.out) k hkl
          have HA := Lib.hid (hA.keep hnr.out)
          have href := okAt_ref hkl HO.out
          have hok : Hid (okAt l k = true → ∀ j, j < k + 1 → okAt l j = true) := Lib.hid (fun h j hj => by
            by_cases e : j < k
            · exact HO.out j e
            · obtain rfl : j = k := by omega
              exact h)
          have hno : Hid (okAt l k = false → r = 2) := Lib.hid (fun h => hbad.out (riseB_bad hkl h))
          obtain ⟨f, hf⟩ : ∃ f, f = l[k] := ⟨_, rfl⟩
          rw [← hf] at c0 c1 c2 href
          have hz := World.block_lt_of_cell? _ _ c0
          have HREF := Lib.hid href
          have hfail : Hid (¬ (-2048 ≤ f.y ∧ f.y ≤ 2048 ∧ f.y < f.top ∧ f.top ≤ 1048576 ∧ 0 ≤ f.area ∧ f.area ≤ 7 ∧ ∀ q (h : q < l.length), k = q + 1 → l[q].top ≤ f.y) → r = 2) := Lib.hid (fun h => hno.out (by
            cases q : okAt l k with
            | false => rfl
            | true => exact absurd (HREF.out.1 q) h))
          clear hA hf href hno
          go_upto_region 13 with fail
          refine Code.at (fun W5 hW => ?_)
          have n5 : New wA W5 := by have := hnr.out; subst hW; (repeat (first | (with_reducible exact New.refl _) | (with_reducible assumption) | ((with_reducible refine New.setB ?_ ?_ _); focus (first | omega | (simp; omega) | (simp; done))) | (with_reducible refine New.alloc ?_ _) | (with_reducible refine New.drew ?_) | (with_reducible refine New.drewN ?_ _) | (with_reducible refine New.hat ?_ _) | ((with_reducible apply New.snart); (with_reducible assumption))))
          have f0 : W5.cell? ⟨wr.heap.size, 0, none⟩ = some (.int .i64 f.y) := by subst hW; go_simp
          have f1 : W5.cell? ⟨wr.heap.size, 1, none⟩ = some (.int .i64 f.top) := by subst hW; go_simp
          have f2 : W5.cell? ⟨wr.heap.size, 2, none⟩ = some (.int .i64 f.area) := by subst hW; go_simp
          have n6 : New wr W5 := by subst hW; (repeat (first | (with_reducible exact New.refl _) | (with_reducible assumption) | ((with_reducible refine New.setB ?_ ?_ _); focus (first | omega | (simp; omega) | (simp; done))) | (with_reducible refine New.alloc ?_ _) | (with_reducible refine New.drew ?_) | (with_reducible refine New.drewN ?_ _) | (with_reducible refine New.hat ?_ _) | ((with_reducible apply New.snart); (with_reducible assumption))))
          clear hW c0 c1 c2 hnr
          by_cases q0 : f.y < -2048
          · have e0 : decide (f.y < -2048) = true := decide_eq_true q0
            have HE : Hid (r = 2) := Lib.hid (hfail.out (by omega))
            clear q0
            (refine wp_region_hat (by kernel_rfl) (by kernel_rfl) ?_; intro hatc hatf; (repeat (go_big_quiet_step ((fail)))); refine wpQuiet_nil ?_; rintro _ ⟨X, rfl⟩)
            clear hatc hatf
            go_wp2_with fail
            go_ret
            exact ⟨by rw [HE.out]; rfl, n0.out.trans (HNR.out.trans (n5.trans X.h))⟩
          have e0 : decide (f.y < -2048) = false := decide_eq_false q0
          by_cases q1 : 2048 < f.y
          · have e1 : decide (2048 < f.y) = true := decide_eq_true q1
            have HE : Hid (r = 2) := Lib.hid (hfail.out (by omega))
            clear q1
            (refine wp_region_hat (by kernel_rfl) (by kernel_rfl) ?_; intro hatc hatf; (repeat (go_big_quiet_step ((fail)))); refine wpQuiet_nil ?_; rintro _ ⟨X, rfl⟩)
            clear hatc hatf
            go_wp2_with fail
            go_ret
            exact ⟨by rw [HE.out]; rfl, n0.out.trans (HNR.out.trans (n5.trans X.h))⟩
          have e1 : decide (2048 < f.y) = false := decide_eq_false q1
          by_cases q2 : f.top ≤ f.y
          · have e2 : decide (f.top ≤ f.y) = true := decide_eq_true q2
            have HE : Hid (r = 2) := Lib.hid (hfail.out (by omega))
            clear q2
            (refine wp_region_hat (by kernel_rfl) (by kernel_rfl) ?_; intro hatc hatf; (repeat (go_big_quiet_step ((fail)))); refine wpQuiet_nil ?_; rintro _ ⟨X, rfl⟩)
            clear hatc hatf
            go_wp2_with fail
            go_ret
            exact ⟨by rw [HE.out]; rfl, n0.out.trans (HNR.out.trans (n5.trans X.h))⟩
          have e2 : decide (f.top ≤ f.y) = false := decide_eq_false q2
          by_cases q3 : 1048576 < f.top
          · have e3 : decide (1048576 < f.top) = true := decide_eq_true q3
            have HE : Hid (r = 2) := Lib.hid (hfail.out (by omega))
            clear q3
            (refine wp_region_hat (by kernel_rfl) (by kernel_rfl) ?_; intro hatc hatf; (repeat (go_big_quiet_step ((fail)))); refine wpQuiet_nil ?_; rintro _ ⟨X, rfl⟩)
            clear hatc hatf
            go_wp2_with fail
            go_ret
            exact ⟨by rw [HE.out]; rfl, n0.out.trans (HNR.out.trans (n5.trans X.h))⟩
          have e3 : decide (1048576 < f.top) = false := decide_eq_false q3
          by_cases q4 : f.area < 0
          · have e4 : decide (f.area < 0) = true := decide_eq_true q4
            have HE : Hid (r = 2) := Lib.hid (hfail.out (by omega))
            clear q4
            (refine wp_region_hat (by kernel_rfl) (by kernel_rfl) ?_; intro hatc hatf; (repeat (go_big_quiet_step ((fail)))); refine wpQuiet_nil ?_; rintro _ ⟨X, rfl⟩)
            clear hatc hatf
            go_wp2_with fail
            go_ret
            exact ⟨by rw [HE.out]; rfl, n0.out.trans (HNR.out.trans (n5.trans X.h))⟩
          have e4 : decide (f.area < 0) = false := decide_eq_false q4
          by_cases q5 : 7 < f.area
          · have e5 : decide (7 < f.area) = true := decide_eq_true q5
            have HE : Hid (r = 2) := Lib.hid (hfail.out (by omega))
            clear q5
            (refine wp_region_hat (by kernel_rfl) (by kernel_rfl) ?_; intro hatc hatf; (repeat (go_big_quiet_step ((fail)))); refine wpQuiet_nil ?_; rintro _ ⟨X, rfl⟩)
            clear hatc hatf
            go_wp2_with fail
            go_ret
            exact ⟨by rw [HE.out]; rfl, n0.out.trans (HNR.out.trans (n5.trans X.h))⟩
          have e5 : decide (7 < f.area) = false := decide_eq_false q5
          by_cases hk0 : k = 0
          · have hgt : decide (0 < k) = false := decide_eq_false (by omega)
            have hnx : Hid (∀ j, j < k + 1 → okAt l j = true) := Lib.hid (hok.out (HREF.out.2 ⟨by omega, by omega, by omega, by omega, by omega, by omega, fun q _ h => by omega⟩))
            clear q0 q1 q2 q3 q4 q5 hk0
            (refine wp_region_hat (by kernel_rfl) (by kernel_rfl) ?_; intro hatc hatf; (repeat (go_big_quiet_step ((fail)))); refine wpQuiet_nil ?_; rintro _ ⟨X, rfl⟩)
            clear hatc hatf
            have n7 := Lib.hid (n5.trans X.h)
            generalize X.w = W6 at *
            clear X f0 f1 f2 n6 n5
            go_wp2_with fail
            go_roundg (m - (k + 1))
            case measure => omega
            case rel => exact ⟨k + 1, by go_num, by omega, by omega, hnx, n7⟩
          have hgt : decide (0 < k) = true := decide_eq_true (by omega)
          have hz1 : IntKind.i64.wrap ((k : Int) - 1) = ((k - 1 : Nat) : Int) := by rw [IntWalk.i64_in _ (by omega)]; omega
          have hk1 : k - 1 < m := by omega
          have hkl1 : k - 1 < l.length := by rw [← HM.out]; exact hk1
          obtain ⟨-, d1, -⟩ := Fl.cells (HA.out.keep n6) (k - 1) hkl1
          obtain ⟨y, hy⟩ : ∃ y, y = l[k - 1].top := ⟨_, rfl⟩
          rw [← hy] at d1
          by_cases q6 : f.y < y
          · have e6 : decide (f.y < y) = true := decide_eq_true q6
            have HE : Hid (r = 2) := Lib.hid (hfail.out (fun h => by have := h.2.2.2.2.2.2 (k - 1) hkl1 (by omega); omega))
            clear q6 q0 q1 q2 q3 q4 q5 hy
            (refine wp_region_hat (by kernel_rfl) (by kernel_rfl) ?_; intro hatc hatf; (repeat (go_big_quiet_step ((fail)))); refine wpQuiet_nil ?_; rintro _ ⟨X, rfl⟩)
            clear hatc hatf
            go_wp2_with fail
            go_ret
            exact ⟨by rw [HE.out]; rfl, n0.out.trans (HNR.out.trans (n5.trans X.h))⟩
          have e6 : decide (f.y < y) = false := decide_eq_false q6
          have hnx : Hid (∀ j, j < k + 1 → okAt l j = true) := Lib.hid (hok.out (HREF.out.2 ⟨by omega, by omega, by omega, by omega, by omega, by omega, fun q hq h => by
            have e : q = k - 1 := by omega
            subst e
            omega⟩))
          clear q0 q1 q2 q3 q4 q5 q6 hy
          (refine wp_region_hat (by kernel_rfl) (by kernel_rfl) ?_; intro hatc hatf; (repeat (go_big_quiet_step ((fail)))); refine wpQuiet_nil ?_; rintro _ ⟨X, rfl⟩)
          clear hatc hatf
          have n7 := Lib.hid (n5.trans X.h)
          generalize X.w = W6 at *
          clear X f0 f1 f2 n6 n5 d1
          go_wp2_with fail
          go_roundg (m - (k + 1))
          case measure => omega
          case rel => exact ⟨k + 1, by go_num, by omega, by omega, hnx, n7⟩
        · obtain rfl : k = m := by omega
          have hnx : Hid (∀ j (h : j < G.L.length), j < i + 1 → riseB G.L[j] = true) := Lib.hid (hnxt.out (riseB_all (by rw [← HM.out]; omega) (by rw [← HM.out]; exact HO.out)))
          have n7 := Lib.hid (HNR.out.trans hnr.out)
          clear hnr
          go_wp2_with fail
          go_roundg (n - (i + 1))
          case measure => have := HGK.out; omega
          case rel => exact ⟨i + 1, by go_num, by omega, by omega, hnx, n7⟩
    · obtain rfl : i = n := by omega
      have HE : Hid (r = 0) := Lib.hid (by rw [HR.out]; exact gd_fine HPT.out HLN.out (fun j hj => HB.out j hj (by rw [HN.out]; exact hj)))
      go_wp2_with fail
      go_ret
      exact ⟨by rw [HE.out]; rfl, n0.out.trans hnr.out⟩

end Go.Proofs.YtgoggogcbjfofaaDoor
