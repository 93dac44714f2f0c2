import Derived.Test.YtgoggogcbjfofaaDoorLkEY14
import Derived.Test.YtgoggogcbjfofaaDoorWholeJY14
import Derived.Test.YtgoggogcbjfofaaDoorLkGY14
import Derived.Test.YtgoggogcbjfofaaDoorOgQY14
import Derived.Deep.LoopGhost
import Derived.Test.YtgoggogcbjfofaaDoorLkJY14
import Derived.Deep.DeepCutAuto
import Derived.Test.YtgoggogcbjfofaaDoorLkKY14

/- The document's Linked. -/
namespace Go.Proofs.YtgoggogcbjfofaaDoor
open Go.RowKit
set_option linter.unusedVariables false

set_option maxHeartbeats 8000000 in
set_option maxRecDepth 100000 in
theorem lr_Linked (C : CfgR) (a b : Fl) (w : World) : Calls Tryd.prog 53 #[.agg #[.int .i64 C.cl, .int .i64 C.cb, .int .i64 C.ht, .int .i64 C.ri, .int .i64 C.ru, .int .i64 C.wd, .int .i64 C.dp], .agg #[.int .i64 a.y, .int .i64 a.top, .int .i64 a.area], .agg #[.int .i64 b.y, .int .i64 b.top, .int .i64 b.area]] w fun e w' => e = .returned (.bool (lkF C a b)) ∧ New w w' := by
  have KC : Hid (∀ W, Calls Tryd.prog 25 #[.agg #[.int .i64 C.cl, .int .i64 C.cb, .int .i64 C.ht, .int .i64 C.ri, .int .i64 C.ru, .int .i64 C.wd, .int .i64 C.dp]] W fun e w' => e = .returned (.int .i64 C.err) ∧ New W w') := Lib.hid (fun W => (rcheck_any C.cl C.cb C.ht C.ri C.ru C.wd C.dp W).mono fun e w' h => ⟨h.1, h.2.1⟩)
  have h1 := err_or C
  have HF := Lib.hid (fun h => lkF_fine (C := C) h a b)
  have HB := Lib.hid (fun h => lkF_bad (C := C) h a b)
  have HI := Lib.hid (lkB_iff (C := C) (a := a) (b := b))
  generalize lkF C a b = r at *
  generalize lkB C a b = rb at *
  generalize C.err = ce at *
  rcases h1 with rfl | rfl
  rotate_left
  · have HRR := Lib.hid (HB.out (by decide))
    clear HB HF HI
    go_enter Tryd.func53, Tryd.ntmps53
    go_wp2_with fail
    refine Calls.at (fun W hW => ?_)
    have n0 : New w W := by subst hW; (repeat (first | (with_reducible exact New.refl _) | (with_reducible assumption) | ((with_reducible refine New.setB ?_ ?_ _); focus (first | omega | (simp; omega) | (simp; done))) | (with_reducible refine New.alloc ?_ _) | (with_reducible refine New.drew ?_) | (with_reducible refine New.drewN ?_ _) | (with_reducible refine New.hat ?_ _) | ((with_reducible apply New.snart); (with_reducible assumption))))
    clear hW
    refine (KC.out _).mono ?_
    rintro e w1 ⟨rfl, n1⟩
    go_wp2_with fail
    go_ret
    exact ⟨by rw [HRR.out]; rfl, n0.trans n1⟩
  have hr := HF.out rfl
  rw [hr]
  clear hr HF HB
  go_enter Tryd.func53, Tryd.ntmps53
  go_wp2_with fail
  refine Calls.at (fun W hW => ?_)
  have n0 : New w W := by subst hW; (repeat (first | (with_reducible exact New.refl _) | (with_reducible assumption) | ((with_reducible refine New.setB ?_ ?_ _); focus (first | omega | (simp; omega) | (simp; done))) | (with_reducible refine New.alloc ?_ _) | (with_reducible refine New.drew ?_) | (with_reducible refine New.drewN ?_ _) | (with_reducible refine New.hat ?_ _) | ((with_reducible apply New.snart); (with_reducible assumption))))
  have c1 : W.cell? ⟨w.heap.size, 1, none⟩ = some (.int .i64 C.cb) := by subst hW; go_simp
  have c2 : W.cell? ⟨w.heap.size, 2, none⟩ = some (.int .i64 C.ht) := by subst hW; go_simp
  have a0 : W.cell? ⟨w.heap.size + 1, 0, none⟩ = some (.int .i64 a.y) := by subst hW; go_simp
  have a1 : W.cell? ⟨w.heap.size + 1, 1, none⟩ = some (.int .i64 a.top) := by subst hW; go_simp
  have a2 : W.cell? ⟨w.heap.size + 1, 2, none⟩ = some (.int .i64 a.area) := by subst hW; go_simp
  have b0 : W.cell? ⟨w.heap.size + 1 + 1, 0, none⟩ = some (.int .i64 b.y) := by subst hW; go_simp
  have b1 : W.cell? ⟨w.heap.size + 1 + 1, 1, none⟩ = some (.int .i64 b.top) := by subst hW; go_simp
  have b2 : W.cell? ⟨w.heap.size + 1 + 1, 2, none⟩ = some (.int .i64 b.area) := by subst hW; go_simp
  clear hW
  refine (KC.out _).mono ?_
  rintro e w1 ⟨rfl, n1⟩
  replace c1 := n1.keep c1
  replace c2 := n1.keep c2
  replace a0 := n1.keep a0
  replace a1 := n1.keep a1
  replace a2 := n1.keep a2
  replace b0 := n1.keep b0
  replace b1 := n1.keep b1
  replace b2 := n1.keep b2
  have N1 := n0.trans n1
  clear n0 n1 KC
  by_cases hA : a.area ≤ 0 ∨ b.area ≤ 0
  · have HRR : Hid (rb = false) := Lib.hid (by
      cases q : rb
      · rfl
      · have := HI.out.1 q
        omega)
    by_cases hA1 : a.area ≤ 0
    · have hd : decide (a.area ≤ 0) = true := decide_eq_true hA1
      clear hA hA1
      go_wp2_with fail
      go_ret
      exact ⟨by rw [HRR.out]; rfl, N1⟩
    · have hA2 : b.area ≤ 0 := by omega
      have hd : decide (a.area ≤ 0) = false := decide_eq_false hA1
      have hd2 : decide (b.area ≤ 0) = true := decide_eq_true hA2
      clear hA hA1 hA2
      go_wp2_with fail
      go_ret
      exact ⟨by rw [HRR.out]; rfl, N1⟩
  have hd : decide (a.area ≤ 0) = false := decide_eq_false (by omega)
  have hd2 : decide (b.area ≤ 0) = false := decide_eq_false (by omega)
  have HA := Lib.hid hA
  clear hA
  go_upto_region 3 with fail
  (refine wp_region_hat (by kernel_rfl) (by kernel_rfl) ?_; intro hatc hatf; (repeat (go_big_quiet_step ((fail)))); refine wpQuiet_nil ?_; rintro _ ⟨q, rfl⟩)
  replace N1 := N1.trans q.h
  replace c1 := New.keep q.h c1
  replace c2 := New.keep q.h c2
  replace a1 := New.keep q.h a1
  replace b1 := New.keep q.h b1
  clear a0 a2 b0 b2 hatc hatf hd hd2
  generalize q.w = w4 at *
  clear q
  by_cases hn : (-1099511627776 ≤ a.y ∧ a.y ≤ 1099511627776) ∧ (-1099511627776 ≤ a.top ∧ a.top ≤ 1099511627776) ∧ (-1099511627776 ≤ b.y ∧ b.y ≤ 1099511627776) ∧ -1099511627776 ≤ b.top ∧ b.top ≤ 1099511627776
  · have hs1 : IntKind.i64.wrap (max a.y b.y - min a.y b.y) = max a.y b.y - min a.y b.y := IntWalk.i64_in _ (by omega)
    have hs2 : IntKind.i64.wrap (min a.top b.top - max a.y b.y) = min a.top b.top - max a.y b.y := IntWalk.i64_in _ (by omega)
    have e1 : decide (min a.y b.y < -1099511627776) = false := decide_eq_false (by omega)
    have e2 : decide (1099511627776 < max a.y b.y) = false := decide_eq_false (by omega)
    have e3 : decide (min a.top b.top < -1099511627776) = false := decide_eq_false (by omega)
    have e4 : decide (1099511627776 < max a.top b.top) = false := decide_eq_false (by omega)
    have HNN := Lib.hid hn
    clear hn
    have HRR : Hid (rb = (decide (max a.y b.y - min a.y b.y ≤ C.cb) && decide (C.ht ≤ min a.top b.top - max a.y b.y))) := Lib.hid (by
      have h1 := HNN.out
      have h2 := HA.out
      rw [Bool.eq_iff_iff, HI.out]
      simp only [Bool.and_eq_true, decide_eq_true_eq]
      omega)
    cases q1 : decide (max a.y b.y - min a.y b.y ≤ C.cb)
    · rw [q1] at HRR
      go_wp2_with fail
      go_ret
      exact ⟨by rw [HRR.out]; rfl, N1⟩
    · rw [q1] at HRR
      go_wp2_with fail
      go_ret
      exact ⟨by rw [HRR.out]; simp, N1⟩
  · have HNN := Lib.hid hn
    clear hn
    have HRR : Hid (rb = false) := Lib.hid (by
      cases q : rb
      · rfl
      · exact absurd (HI.out.1 q).1 HNN.out)
    go_wp2_with fail
    all_goals first
      | (go_ret; exact ⟨by rw [HRR.out]; rfl, N1⟩)
      | (exfalso; have := HNN.out; omega)

end Go.Proofs.YtgoggogcbjfofaaDoor

/- The document's columns, and where a floor leads. -/
namespace Go.Proofs.YtgoggogcbjfofaaDoor
open Go.RowKit
set_option linter.unusedVariables false

set_option maxHeartbeats 4000000 in
set_option maxRecDepth 100000 in
theorem lr_at (G : Gd) (hE : gE G = 0) (x z : Int) (w0 w : World) (hn0 : New w0 w) (h : G.ok w0) : Calls Tryd.prog 51 #[.agg #[.int .i64 G.x, .int .i64 G.z, .int .i64 G.w, .int .i64 G.d, .slice G.ga G.L.length G.gc], .int .i64 x, .int .i64 z] w fun e w' => ∃ v, e = .returned v ∧ Sl Fl.enc 3 w0 v (atG G x z) ∧ New w w' := by
  have HH : Hid (RowsK Fl.enc 3 w0 (.slice G.ga G.L.length G.gc) G.L) := Lib.hid h
  have hb := placeB_iff.1 (gd_is hE).1
  have HIX := Lib.hid ((ixG_is (G := G) hE (x := x) (z := z)))
  have HAT := Lib.hid ((atG_in (G := G) hE (x := x) (z := z)))
  have HIN := Lib.hid (inG_iff (G := G) (x := x) (z := z))
  obtain ⟨n, hn⟩ : ∃ n, n = G.L.length := ⟨_, rfl⟩
  have HN := Lib.hid hn
  rw [← hn] at HH ⊢
  obtain ⟨ga, hga⟩ : ∃ q, q = G.ga := ⟨_, rfl⟩
  rw [← hga] at HH ⊢
  clear hn hga h
  have hxa : IntKind.i64.wrap (G.x + G.w) = G.x + G.w := IntWalk.i64_in _ (by omega)
  have hza : IntKind.i64.wrap (G.z + G.d) = G.z + G.d := IntWalk.i64_in _ (by omega)
  have hout : Hid (¬ ((G.x ≤ x ∧ x ≤ G.x + G.w - 1) ∧ (G.z ≤ z ∧ z ≤ G.z + G.d - 1)) → atG G x z = []) := Lib.hid (fun q => by
    refine atG_out ?_
    cases q2 : inG G x z with
    | false => rfl
    | true => exact absurd (HIN.out.1 q2) q)
  by_cases q0 : x < G.x
  · have e0 : decide (x < G.x) = true := decide_eq_true q0
    have HO := Lib.hid (hout.out (by omega))
    clear q0 hb hout HIX HAT HIN
    go_enter Tryd.func51, Tryd.ntmps51
    go_wp2_with fail
    go_ret
    exact ⟨_, rfl, by rw [HO.out]; exact Sl.nil, by (repeat (first | (with_reducible exact New.refl _) | (with_reducible assumption) | ((with_reducible refine New.setB ?_ ?_ _); focus (first | omega | (simp; omega) | (simp; done))) | (with_reducible refine New.alloc ?_ _) | (with_reducible refine New.drew ?_) | (with_reducible refine New.drewN ?_ _) | (with_reducible refine New.hat ?_ _) | ((with_reducible apply New.snart); (with_reducible assumption))))⟩
  have e0 : decide (x < G.x) = false := decide_eq_false q0
  by_cases q1 : G.x + G.w ≤ x
  · have e1 : decide (G.x + G.w ≤ x) = true := decide_eq_true q1
    have HO := Lib.hid (hout.out (by omega))
    clear q0 q1 hb hout HIX HAT HIN
    go_enter Tryd.func51, Tryd.ntmps51
    go_wp2_with fail
    go_ret
    exact ⟨_, rfl, by rw [HO.out]; exact Sl.nil, by (repeat (first | (with_reducible exact New.refl _) | (with_reducible assumption) | ((with_reducible refine New.setB ?_ ?_ _); focus (first | omega | (simp; omega) | (simp; done))) | (with_reducible refine New.alloc ?_ _) | (with_reducible refine New.drew ?_) | (with_reducible refine New.drewN ?_ _) | (with_reducible refine New.hat ?_ _) | ((with_reducible apply New.snart); (with_reducible assumption))))⟩
  have e1 : decide (G.x + G.w ≤ x) = false := decide_eq_false q1
  by_cases q2 : z < G.z
  · have e2 : decide (z < G.z) = true := decide_eq_true q2
    have HO := Lib.hid (hout.out (by omega))
    clear q0 q1 q2 hb hout HIX HAT HIN
    go_enter Tryd.func51, Tryd.ntmps51
    go_wp2_with fail
    go_ret
    exact ⟨_, rfl, by rw [HO.out]; exact Sl.nil, by (repeat (first | (with_reducible exact New.refl _) | (with_reducible assumption) | ((with_reducible refine New.setB ?_ ?_ _); focus (first | omega | (simp; omega) | (simp; done))) | (with_reducible refine New.alloc ?_ _) | (with_reducible refine New.drew ?_) | (with_reducible refine New.drewN ?_ _) | (with_reducible refine New.hat ?_ _) | ((with_reducible apply New.snart); (with_reducible assumption))))⟩
  have e2 : decide (z < G.z) = false := decide_eq_false q2
  by_cases q3 : G.z + G.d ≤ z
  · have e3 : decide (G.z + G.d ≤ z) = true := decide_eq_true q3
    have HO := Lib.hid (hout.out (by omega))
    clear q0 q1 q2 q3 hb hout HIX HAT HIN
    go_enter Tryd.func51, Tryd.ntmps51
    go_wp2_with fail
    go_ret
    exact ⟨_, rfl, by rw [HO.out]; exact Sl.nil, by (repeat (first | (with_reducible exact New.refl _) | (with_reducible assumption) | ((with_reducible refine New.setB ?_ ?_ _); focus (first | omega | (simp; omega) | (simp; done))) | (with_reducible refine New.alloc ?_ _) | (with_reducible refine New.drew ?_) | (with_reducible refine New.drewN ?_ _) | (with_reducible refine New.hat ?_ _) | ((with_reducible apply New.snart); (with_reducible assumption))))⟩
  have e3 : decide (G.z + G.d ≤ z) = false := decide_eq_false q3
  have hin : inG G x z = true := HIN.out.2 (by omega)
  obtain ⟨i1, i2, i3, i4⟩ := HIX.out hin
  have hs1 : IntKind.i64.wrap (z - G.z) = z - G.z := IntWalk.i64_in _ (by omega)
  have hs2 : IntKind.i64.wrap ((z - G.z) * G.w) = (z - G.z) * G.w := IntWalk.i64_in _ (by omega)
  have hs3 : IntKind.i64.wrap ((z - G.z) * G.w + x) = (z - G.z) * G.w + x := IntWalk.i64_in _ (by omega)
  have hs4 : IntKind.i64.wrap ((z - G.z) * G.w + x - G.x) = (ixG G x z : Int) := by rw [IntWalk.i64_in _ (by omega)]; omega
  obtain ⟨b, off, a, c, rfl, hc, hs⟩ := HH.out.at (ixG G x z) i4
  have hkn : ixG G x z < n := by rw [HN.out]; exact i4
  have hO : atG G x z = G.L[ixG G x z] := HAT.out hin
  obtain ⟨l, hl⟩ : ∃ l, l = G.L[ixG G x z] := ⟨_, rfl⟩
  rw [← hl] at hc hs hO
  have HS := Lib.hid hs
  have HO2 := Lib.hid hO
  obtain ⟨m, hm⟩ : ∃ m, m = l.length := ⟨_, rfl⟩
  rw [← hm] at hc HS
  replace hc := hn0.keep hc
  have hbz : b < w.heap.size := World.block_lt_of_cell? _ _ hc
  clear hl hs hO HIX HAT HIN i1 i2 i3 i4 hin hm q0 q1 q2 q3 hb hout HH
  generalize ixG G x z = k at *
  go_enter Tryd.func51, Tryd.ntmps51
  go_wp2_with fail
  go_ret
  exact ⟨_, rfl, by rw [HO2.out]; exact HS.out, by (repeat (first | (with_reducible exact New.refl _) | (with_reducible assumption) | ((with_reducible refine New.setB ?_ ?_ _); focus (first | omega | (simp; omega) | (simp; done))) | (with_reducible refine New.alloc ?_ _) | (with_reducible refine New.drew ?_) | (with_reducible refine New.drewN ?_ _) | (with_reducible refine New.hat ?_ _) | ((with_reducible apply New.snart); (with_reducible assumption))))⟩

end Go.Proofs.YtgoggogcbjfofaaDoor

/- The document's: where a floor leads. -/
namespace Go.Proofs.YtgoggogcbjfofaaDoor
open Go.RowKit
set_option linter.unusedVariables false

set_option maxHeartbeats 8000000 in
set_option maxRecDepth 100000 in
theorem lr_to (C : CfgR) (G : Gd) (hC : C.err = 0) (hE : gE G = 0) (x z k d : Int) (w0 w : World) (hn0 : New w0 w) (h : G.ok w0) : Calls Tryd.prog 40 #[.agg #[.int .i64 C.cl, .int .i64 C.cb, .int .i64 C.ht, .int .i64 C.ri, .int .i64 C.ru, .int .i64 C.wd, .int .i64 C.dp], .agg #[.int .i64 G.x, .int .i64 G.z, .int .i64 G.w, .int .i64 G.d, .slice G.ga G.L.length G.gc], .int .i64 x, .int .i64 z, .int .i64 k, .int .i64 d] w fun e w' => e = .returned (.tuple #[.int .i64 (sdO (toS C G ⟨x, z, k⟩ d)).k, .bool (toS C G ⟨x, z, k⟩ d).isSome]) ∧ New w w' := by
  have K1 := Lib.hid (fun W (q : New w W) => lr_at G hE x z w0 W (hn0.trans q) h)
  have K2 := Lib.hid (fun W (q : New w W) => lr_at G hE (x + dxD d) (z + dzD d) w0 W (hn0.trans q) h)
  have KS := Lib.hid (fun W => lr_Step d W)
  have KL : Hid (∀ (a b : Fl) W, Calls Tryd.prog 53 #[.agg #[.int .i64 C.cl, .int .i64 C.cb, .int .i64 C.ht, .int .i64 C.ri, .int .i64 C.ru, .int .i64 C.wd, .int .i64 C.dp], .agg #[.int .i64 a.y, .int .i64 a.top, .int .i64 a.area], .agg #[.int .i64 b.y, .int .i64 b.top, .int .i64 b.area]] W fun e w' => e = .returned (.bool (lkB C a b)) ∧ New W w') := Lib.hid (fun a b W => by
    have := lr_Linked C a b W
    rw [lkF_fine hC] at this
    exact this)
  have hl8 := at_len hE x z
  have hm8 := at_len hE (x + dxD d) (z + dzD d)
  obtain ⟨r, hr⟩ : ∃ r, r = toS C G ⟨x, z, k⟩ d := ⟨_, rfl⟩
  have R1 : Hid (¬ (0 ≤ k ∧ k < (atG G x z).length) → r = none) := Lib.hid (fun q => by rw [hr, toS_floor (flG_none (s := ⟨x, z, k⟩) q)])
  have R2 : Hid (okD d = false → r = none) := Lib.hid (fun q => by rw [hr, toS_dir q])
  obtain ⟨m, hm⟩ : ∃ l, l = atG G (x + dxD d) (z + dzD d) := ⟨_, rfl⟩
  have R3 : Hid (∀ (kk : Nat) (e : k = kk) (hk : kk < (atG G x z).length), okD d = true → ∀ i (hi : i < m.length), lkB C (atG G x z)[kk] m[i] = true → (∀ j (hj : j < m.length), j < i → lkB C (atG G x z)[kk] m[j] = false) → r = some ⟨x + dxD d, z + dzD d, i⟩) := Lib.hid (fun kk e hk q2 i hi q3 q4 => hr.trans (toS_hit (s := ⟨x, z, k⟩) (flG_some (s := ⟨x, z, k⟩) e hk) q2 hm hi q3 q4))
  have R4 : Hid (∀ (kk : Nat) (e : k = kk) (hk : kk < (atG G x z).length), okD d = true → (∀ j (hj : j < m.length), lkB C (atG G x z)[kk] m[j] = false) → r = none) := Lib.hid (fun kk e hk q2 q3 => hr.trans (toS_miss (s := ⟨x, z, k⟩) (flG_some (s := ⟨x, z, k⟩) e hk) q2 hm q3))
  have RI : Hid (0 < (atG G x z).length → -100 ≤ x ∧ x ≤ 200 ∧ -100 ≤ z ∧ z ≤ 200) := Lib.hid (fun q => by
    cases q2 : inG G x z
    · rw [atG_out q2] at q; cases q
    · have h1 := inG_iff.1 q2
      have h2 := placeB_iff.1 (gd_is hE).1
      omega)
  rw [← hr]
  rw [← hm] at hm8 K2
  have hdx := dxD_small d
  have hdz := dzD_small d
  obtain ⟨n, hn⟩ : ∃ n, n = G.L.length := ⟨_, rfl⟩
  rw [← hn] at K1 K2 ⊢
  clear hr hm hn h hC hE
  unfold stV at KS
  generalize dxD d = dx at *
  generalize dzD d = dz at *
  generalize atG G x z = l at *
  obtain ⟨ln, hln⟩ : ∃ q, q = l.length := ⟨_, rfl⟩
  have HLN := Lib.hid hln
  rw [← hln] at hl8
  clear hln
  go_enter Tryd.func40, Tryd.ntmps40
  go_wp2_with fail
  refine Calls.at (fun W hW => ?_)
  have n0 : New w W := by subst hW; (repeat (first | (with_reducible exact New.refl _) | (with_reducible assumption) | ((with_reducible refine New.setB ?_ ?_ _); focus (first | omega | (simp; omega) | (simp; done))) | (with_reducible refine New.alloc ?_ _) | (with_reducible refine New.drew ?_) | (with_reducible refine New.drewN ?_ _) | (with_reducible refine New.hat ?_ _) | ((with_reducible apply New.snart); (with_reducible assumption))))
  ((have c0 : W.cell? ⟨w.heap.size, 0, none⟩ = some (.int .i64 C.cl) := (by subst hW; go_simp)); (have c1 : W.cell? ⟨w.heap.size, 1, none⟩ = some (.int .i64 C.cb) := (by subst hW; go_simp)); (have c2 : W.cell? ⟨w.heap.size, 2, none⟩ = some (.int .i64 C.ht) := (by subst hW; go_simp)); (have c3 : W.cell? ⟨w.heap.size, 3, none⟩ = some (.int .i64 C.ri) := (by subst hW; go_simp)); (have c4 : W.cell? ⟨w.heap.size, 4, none⟩ = some (.int .i64 C.ru) := (by subst hW; go_simp)); (have c5 : W.cell? ⟨w.heap.size, 5, none⟩ = some (.int .i64 C.wd) := (by subst hW; go_simp)); (have c6 : W.cell? ⟨w.heap.size, 6, none⟩ = some (.int .i64 C.dp) := (by subst hW; go_simp)))
  have g0 : W.cell? ⟨w.heap.size + 1, 0, none⟩ = some (.int .i64 G.x) := by subst hW; go_simp
  have g1 : W.cell? ⟨w.heap.size + 1, 1, none⟩ = some (.int .i64 G.z) := by subst hW; go_simp
  have g2 : W.cell? ⟨w.heap.size + 1, 2, none⟩ = some (.int .i64 G.w) := by subst hW; go_simp
  have g3 : W.cell? ⟨w.heap.size + 1, 3, none⟩ = some (.int .i64 G.d) := by subst hW; go_simp
  have g4 : W.cell? ⟨w.heap.size + 1, 4, none⟩ = some (.slice G.ga n G.gc) := by subst hW; go_simp
  clear hW
  have HCG := Lib.hid (fun W2 (q : New W W2) => And.intro (And.intro (q.keep c0) (And.intro (q.keep c1) (And.intro (q.keep c2) (And.intro (q.keep c3) (And.intro (q.keep c4) (And.intro (q.keep c5) (q.keep c6))))))) (And.intro (q.keep g0) (And.intro (q.keep g1) (And.intro (q.keep g2) (And.intro (q.keep g3) (q.keep g4))))))
  have N0 := Lib.hid n0
  clear c0 c1 c2 c3 c4 c5 c6 g0 g1 g2 g3 g4
  refine (K1.out _ n0).mono ?_
  rintro e w1 ⟨v, rfl, hs, n1⟩
  have N1 := Lib.hid n1
  have HSL := Lib.hid hs
  obtain ⟨la, lc, rfl, -⟩ := hs
  rw [← HLN.out]
  clear n0 n1 K1
  go_wp2_with fail
  refine (KS.out _).mono ?_
  rintro e w2 ⟨rfl, n2⟩
  have N2 := Lib.hid (N1.out.trans n2)
  clear n2 KS N1
  cases hok : okD d
  · have HR := Lib.hid (R2.out hok)
    have nn := N0.out.trans N2.out
    clear hok R1 R2 R3 R4 RI
    go_wp2_with fail
    refine bodyPost_ret (v := .tuple #[.int .i64 0, .bool false]) (by simp [results, Tryd.results40, go_sem, *]) rfl ?_
    rw [HR.out]
    exact ⟨rfl, nn⟩
  by_cases hk0 : k < 0
  · have hd : decide (k < 0) = true := decide_eq_true hk0
    have HR := Lib.hid (R1.out (by omega))
    have nn := N0.out.trans N2.out
    clear hok R1 R2 R3 R4 RI hk0
    go_wp2_with fail
    refine bodyPost_ret (v := .tuple #[.int .i64 0, .bool false]) (by simp [results, Tryd.results40, go_sem, *]) rfl ?_
    rw [HR.out]
    exact ⟨rfl, nn⟩
  obtain ⟨kk, hkk⟩ : ∃ kk : Nat, k = kk := ⟨k.toNat, by omega⟩
  subst hkk
  have hd1 : decide ((kk : Int) < 0) = false := decide_eq_false hk0
  by_cases hk1 : ln ≤ kk
  · have hd : decide (ln ≤ kk) = true := decide_eq_true hk1
    have hd3 : decide ((ln : Int) ≤ (kk : Int)) = true := decide_eq_true (by omega)
    have HR := Lib.hid (R1.out (by rw [← HLN.out]; omega))
    have nn := N0.out.trans N2.out
    clear hok R1 R2 R3 R4 RI hk0 hk1
    go_wp2_with fail
    refine bodyPost_ret (v := .tuple #[.int .i64 0, .bool false]) (by simp [results, Tryd.results40, go_sem, *]) rfl ?_
    rw [HR.out]
    exact ⟨rfl, nn⟩
  have hd : decide (ln ≤ kk) = false := decide_eq_false hk1
  have hd3 : decide ((ln : Int) ≤ (kk : Int)) = false := decide_eq_false (by omega)
  have hkl : kk < l.length := by rw [← HLN.out]; omega
  have hkn : kk < ln := by omega
  obtain ⟨i1, i2, i3, i4⟩ := RI.out (by omega)
  have R5 := Lib.hid (R3.out kk rfl hkl hok)
  have R6 := Lib.hid (R4.out kk rfl hkl hok)
  clear hok R1 R2 R3 R4 RI hk0 hk1
  have hsx : IntKind.i64.wrap (x + dx) = x + dx := IntWalk.i64_in _ (by omega)
  have hsz : IntKind.i64.wrap (z + dz) = z + dz := IntWalk.i64_in _ (by omega)
  obtain ⟨-, g0, g1, g2, g3, g4⟩ := HCG.out _ N2.out
  go_wp2_with fail
  refine (K2.out _ (N0.out.trans N2.out)).mono ?_
  rintro e w3 ⟨v, rfl, hs, n3⟩
  have N3 := Lib.hid (N2.out.trans n3)
  have HSM := Lib.hid hs
  obtain ⟨ma, mc, rfl, -⟩ := hs
  obtain ⟨mn, hmn⟩ : ∃ q, q = m.length := ⟨_, rfl⟩
  have HMN := Lib.hid hmn
  rw [← hmn] at hm8 ⊢
  clear hmn n3 g0 g1 g2 g3 g4 K2 hsx hsz i1 i2 i3 i4 hdx hdz
  obtain ⟨b1, off1, rfl, hA1⟩ := HSL.out.row'.2.2.2.2 (by omega)
  have HA1 := Lib.hid hA1
  have HF0 := Lib.hid (fun W (q : New w3 W) => Fl.cells (hA1.keep (hn0.trans (N0.out.trans (N3.out.trans q)))) kk hkl)
  obtain ⟨a, ha⟩ : ∃ a, a = l[kk] := ⟨_, rfl⟩
  rw [← ha] at R5 R6 HF0
  clear hA1 ha
  go_wp2_with fail
  go_loopg [19] mn (fun gk s19 wr => ∃ i : Nat, s19 = .int .i64 i ∧ i ≤ mn ∧ mn - i ≤ gk ∧ Hid (∀ j (hj : j < m.length), j < i → lkB C a m[j] = false) ∧ Hid (New w3 wr))
  case atStart => exact ⟨0, rfl, by omega, by omega, Lib.hid (fun j _ h => by omega), Lib.hid (New.refl _)⟩
  case round =>
    obtain ⟨i, rfl, hi, hgk, HB, hnr⟩ := hrel
    by_cases hlt : i < mn
    · have hil : i < m.length := by rw [← HMN.out]; exact hlt
      obtain ⟨b, off, rfl, hA⟩ := HSM.out.row'.2.2.2.2 (by omega)
      obtain ⟨d0, d1, d2⟩ := Fl.cells (hA.keep (hn0.trans (N0.out.trans (N3.out.trans hnr.out)))) i hil
      obtain ⟨a0, a1, a2⟩ := HF0.out _ hnr.out
      obtain ⟨⟨c0, c1, c2, c3, c4, c5, c6⟩, -⟩ := HCG.out _ (N3.out.trans hnr.out)
      have KLi := Lib.hid (KL.out a m[i])
      have R5i := Lib.hid (fun q => R5.out i hil q HB.out)
      obtain ⟨f, hf⟩ : ∃ f, f = m[i] := ⟨_, rfl⟩
      rw [← hf] at d0 d1 d2 KLi R5i
      have HF := Lib.hid hf
      obtain ⟨lb, hlb⟩ : ∃ q, q = lkB C a f := ⟨_, rfl⟩
      rw [← hlb] at KLi R5i
      have HLB := Lib.hid hlb
      clear hA hf hlb
      have F0 := Lib.hid (fun (q : Hat wr) => KLi.out q.w)
      go_upto_region 9 with fail
      (refine wp_region_hat (by kernel_rfl) (by kernel_rfl) ?_; intro hatc hatf; (repeat (go_big_quiet_step (((go_at_call 53; with_reducible exact Calls.hat (F0.out _)))))); refine wpQuiet_nil ?_; rintro _ ⟨q, rfl⟩)
      have nn := Lib.hid (hnr.out.trans q.h)
      have NN := Lib.hid (N0.out.trans (N3.out.trans nn.out))
      clear hatc hatf c0 c1 c2 c3 c4 c5 c6 a0 a1 a2 d0 d1 d2 F0
      cases lb
      · have hnx : Hid (∀ j (hj : j < m.length), j < i + 1 → lkB C a m[j] = false) := Lib.hid (fun j hj h => by
          by_cases e : j < i
          · exact HB.out j hj e
          · obtain rfl : j = i := by omega
            rw [← HF.out]; exact HLB.out.symm)
        clear R5i
        go_wp2_with fail
        go_roundg (mn - (i + 1))
        case measure => omega
        case rel => exact ⟨i + 1, by go_num, by omega, by omega, hnx, nn⟩
      · have HR := Lib.hid (R5i.out rfl)
        have n3 := NN.out
        clear R5i
        go_wp2_with fail
        refine bodyPost_ret (v := .tuple #[.int .i64 (i : Nat), .bool true]) (by simp [results, Tryd.results40, go_sem, *]) rfl ?_
        rw [HR.out]
        exact ⟨rfl, n3⟩
    · obtain rfl : i = mn := by omega
      have HR := Lib.hid (R6.out (fun j hj => HB.out j hj (by rw [HMN.out]; exact hj)))
      have n3 := N0.out.trans (N3.out.trans hnr.out)
      go_wp2_with fail
      refine bodyPost_ret (v := .tuple #[.int .i64 0, .bool false]) (by simp [results, Tryd.results40, go_sem, *]) rfl ?_
      rw [HR.out]
      exact ⟨rfl, n3⟩

end Go.Proofs.YtgoggogcbjfofaaDoor

/- The document's may, To, diagonal, Diagonal. -/
namespace Go.Proofs.YtgoggogcbjfofaaDoor
open Go.RowKit
set_option linter.unusedVariables false

/-- May the config and the grid be, and a column's numbers? -/
def mayB (C : CfgR) (G : Gd) (x z : Int) : Bool := decide (lkE C G = 0) && (decide (-1000 ≤ x) && (decide (x ≤ 1000) && (decide (-1000 ≤ z) && decide (z ≤ 1000))))
theorem mayB_is {C : CfgR} {G : Gd} {x z : Int} (h : mayB C G x z = true) : C.err = 0 ∧ gE G = 0 ∧ lkE C G = 0 := by
  unfold mayB at h
  simp only [Bool.and_eq_true, decide_eq_true_eq] at h
  exact ⟨(lkE_is.1 h.1).1, (lkE_is.1 h.1).2, h.1⟩
theorem mayB_not {C : CfgR} {G : Gd} {x z : Int} (h : mayB C G x z = false) (k : Int) : lkE C G ≠ 0 ∨ (lkE C G = 0 ∧ flG G ⟨x, z, k⟩ = none) := by
  by_cases he : lkE C G = 0
  · refine .inr ⟨he, flG_far (lkE_is.1 he).2 (fun q => ?_)⟩
    simp only at q
    have : mayB C G x z = true := by
      unfold mayB
      simp only [Bool.and_eq_true, decide_eq_true_eq]
      exact ⟨he, by omega⟩
    rw [h] at this
    cases this
  · exact .inl he
theorem mayB_to {C : CfgR} {G : Gd} {x z : Int} (h : mayB C G x z = false) (k d : Int) : toT C G ⟨x, z, k⟩ d = none := by
  rcases mayB_not h k with q | ⟨q, f⟩
  · exact toT_bad q _ _
  · rw [toT_fine q, toS_floor f]
theorem rndS_floor {C : CfgR} {G : Gd} {s : Sd} (h : flG G s = none) (d e : Int) : rndS C G s d e = none := by unfold rndS; rw [toS_floor h]
theorem diaS_floor {C : CfgR} {G : Gd} {s : Sd} (h : flG G s = none) (d e : Int) : diaS C G s d e = none := by
  unfold diaS
  split
  · rw [rndS_floor h]
  · rfl
theorem cntE_floor {C : CfgR} {G : Gd} {s : Sd} (h : flG G s = none) : ∀ n, cntE C G s n = 0
  | 0 => rfl
  | n + 1 => by unfold cntE; rw [cntE_floor h n, toS_floor h, diaS_floor h]; rfl
theorem mayB_di {C : CfgR} {G : Gd} {x z : Int} (h : mayB C G x z = false) (k d e : Int) : diT C G ⟨x, z, k⟩ d e = none := by
  rcases mayB_not h k with q | ⟨q, f⟩
  · exact diT_bad q _ _ _
  · rw [diT_fine q, diaS_floor f]

end Go.Proofs.YtgoggogcbjfofaaDoor

/- The document's To, diagonal, Diagonal. -/
namespace Go.Proofs.YtgoggogcbjfofaaDoor
open Go.RowKit
set_option linter.unusedVariables false

/-- The diagonal, by the second way's last step. -/
theorem dia_eq {C : CfgR} {G : Gd} {s t1 t2 t3 : Sd} {d e : Int} (h : okD d = true ∧ okD e = true ∧ axB d e = false) (h1 : toS C G s d = some t1) (h2 : toS C G t1 e = some t2) (h3 : toS C G s e = some t3) : diaS C G s d e = match toS C G t3 d with
    | some t4 => if t2.k = t4.k then some t2 else none
    | none => none := by
  have r1 := rndS_of h1 h2
  unfold diaS
  rw [if_pos h, r1]
  cases h4 : toS C G t3 d with
  | none =>
    have : rndS C G s e d = none := by unfold rndS; rw [h3]; exact h4
    rw [this]
  | some t4 =>
    have r2 := rndS_of h3 h4
    rw [r2]
    simp only
    obtain ⟨a1, a2⟩ := rndS_at r1
    obtain ⟨b1, b2⟩ := rndS_at r2
    by_cases e1 : t2.k = t4.k
    · rw [if_pos e1, if_pos]
      obtain ⟨p1, p2, p3⟩ := t2
      obtain ⟨q1, q2, q3⟩ := t4
      simp only at a1 a2 b1 b2 e1
      subst e1
      rw [show p1 = q1 by omega, show p2 = q2 by omega]
    · rw [if_neg e1, if_neg (fun q => e1 (by rw [q]))]
theorem dia_1 {C : CfgR} {G : Gd} {s : Sd} {d e : Int} (h1 : toS C G s d = none) : diaS C G s d e = none := by
  unfold diaS
  split
  · have : rndS C G s d e = none := by unfold rndS; rw [h1]
    rw [this]
  · rfl
theorem dia_2 {C : CfgR} {G : Gd} {s t1 : Sd} {d e : Int} (h1 : toS C G s d = some t1) (h2 : toS C G t1 e = none) : diaS C G s d e = none := by
  unfold diaS
  split
  · have : rndS C G s d e = none := by unfold rndS; rw [h1]; exact h2
    rw [this]
  · rfl
theorem dia_3 {C : CfgR} {G : Gd} {s : Sd} {d e : Int} (h1 : toS C G s e = none) : diaS C G s d e = none := by
  unfold diaS
  split
  · have : rndS C G s e d = none := by unfold rndS; rw [h1]
    rw [this]
    cases rndS C G s d e <;> rfl
  · rfl
theorem toS_shape {C : CfgR} {G : Gd} {s t : Sd} {d : Int} (h : toS C G s d = some t) : t = ⟨s.x + dxD d, s.z + dzD d, t.k⟩ := by
  obtain ⟨-, _, _, -, -, -, h1, h2⟩ := toS_is h
  obtain ⟨a, b, c⟩ := t
  simp only at h1 h2 ⊢
  rw [h1, h2]
theorem toS_near {C : CfgR} {G : Gd} (hE : gE G = 0) {s t : Sd} {d : Int} (h : toS C G s d = some t) : -100 ≤ s.x ∧ s.x ≤ 200 ∧ -100 ≤ s.z ∧ s.z ≤ 200 := by
  obtain ⟨-, a, _, h1, -, -, -, -⟩ := toS_is h
  have h2 := inG_iff.1 (flG_in h1)
  have h3 := placeB_iff.1 (gd_is hE).1
  omega

/-- What the document's diagonal tells. -/
def DTold (r : Option Sd) (w : World) (e : Ending) (w' : World) : Prop := ∃ (v : Int) (b : Bool), e = .returned (.tuple #[.int .i64 v, .bool b]) ∧ b = r.isSome ∧ (b = true → v = (sdO r).k) ∧ New w w'

end Go.Proofs.YtgoggogcbjfofaaDoor

/- The document's diagonal. -/
namespace Go.Proofs.YtgoggogcbjfofaaDoor
open Go.RowKit
set_option linter.unusedVariables false

end Go.Proofs.YtgoggogcbjfofaaDoor

/- The document's Diagonal, Eight. -/
namespace Go.Proofs.YtgoggogcbjfofaaDoor
open Go.RowKit
set_option linter.unusedVariables false

theorem mayB_ei {C : CfgR} {G : Gd} {x z : Int} (h : mayB C G x z = false) (k : Int) : eiT C G ⟨x, z, k⟩ = 0 := by
  rcases mayB_not h k with q | ⟨q, f⟩
  · exact eiT_bad q _
  · rw [eiT_fine q, cntE_floor f]

end Go.Proofs.YtgoggogcbjfofaaDoor
