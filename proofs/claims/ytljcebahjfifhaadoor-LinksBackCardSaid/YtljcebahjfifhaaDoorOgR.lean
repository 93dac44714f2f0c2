/- The document's own At, Find. -/
import Derived.Test.YtljcebahjfifhaaDoorOgQ
import Derived.Test.YtljcebahjfifhaaDoorOgL
namespace Go.Proofs.YtljcebahjfifhaaDoor
open Go.RowKit
set_option linter.unusedVariables false

theorem tellG_bad {G : Gd} (h : gE G ≠ 0) (x z : Int) : tellG G x z = [] := by
  unfold tellG colG
  rw [if_neg h]
  refine atG_out ?_
  cases q : inG Gd.zero x z with
  | false => rfl
  | true =>
    have := inG_iff.1 q
    simp only [Gd.zero] at this
    omega
theorem tellG_fine {G : Gd} (h : gE G = 0) (x z : Int) : tellG G x z = atG G x z := by unfold tellG colG; rw [if_pos h]

set_option maxHeartbeats 4000000 in
set_option maxRecDepth 100000 in
theorem rg_At (G : Gd) (x z : Int) (w : World) (h : G.ok w) : Calls Tryd.prog 24 #[.agg #[.int .i64 G.x, .int .i64 G.z, .int .i64 G.w, .int .i64 G.d, .slice G.ga G.L.length G.gc], .int .i64 x, .int .i64 z] w fun e w' => ∃ v, e = .returned v ∧ Sl Fl.enc 3 w' v (tellG G x z) ∧ New w w' := by
  have KC := Lib.hid (fun W n => rg_check G W (h.keep (n : New w W)))
  have HH : Hid (RowsK Fl.enc 3 w (.slice G.ga G.L.length G.gc) G.L) := Lib.hid h
  have h2 := gE_two G
  have HB := Lib.hid (fun q => tellG_bad (G := G) q x z)
  have HF := Lib.hid (fun q => tellG_fine (G := G) q x z)
  have HP := Lib.hid (fun q => placeB_iff.1 (gd_is (G := G) q).1)
  have HIX := Lib.hid (fun q => (ixG_is (G := G) q (x := x) (z := z)))
  have HAT := Lib.hid (fun q => (atG_in (G := G) q (x := x) (z := z)))
  have HIN := Lib.hid (inG_iff (G := G) (x := x) (z := z))
  obtain ⟨r, hr⟩ : ∃ r, r = gE G := ⟨_, rfl⟩
  have HR := Lib.hid hr
  rw [← hr] at KC h2
  clear hr h
  obtain ⟨n, hn⟩ : ∃ n, n = G.L.length := ⟨_, rfl⟩
  have HN := Lib.hid hn
  rw [← hn] at KC HH ⊢
  obtain ⟨ga, hga⟩ : ∃ q, q = G.ga := ⟨_, rfl⟩
  rw [← hga] at KC HH ⊢
  clear hn hga
  rcases h2 with rfl | rfl
  rotate_left
  · have HO := Lib.hid (HB.out (by rw [← HR.out]; decide))
    go_enter Tryd.func24, Tryd.ntmps24
    go_wp2_with fail
    refine (KC.out _ (by (repeat (first | (with_reducible exact New.refl _) | (with_reducible assumption) | ((with_reducible refine New.setB ?_ ?_ _); focus (first | omega | (simp; omega) | (simp; done))) | (with_reducible refine New.alloc ?_ _) | (with_reducible refine New.drew ?_) | (with_reducible refine New.drewN ?_ _) | (with_reducible refine New.hat ?_ _) | ((with_reducible apply New.snart); (with_reducible assumption)))))).mono ?_
    rintro e w1 ⟨rfl, n1⟩
    have N1 : New w w1 := New.trans (by (repeat (first | (with_reducible exact New.refl _) | (with_reducible assumption) | ((with_reducible refine New.setB ?_ ?_ _); focus (first | omega | (simp; omega) | (simp; done))) | (with_reducible refine New.alloc ?_ _) | (with_reducible refine New.drew ?_) | (with_reducible refine New.drewN ?_ _) | (with_reducible refine New.hat ?_ _) | ((with_reducible apply New.snart); (with_reducible assumption))))) n1
    go_wp2_with fail
    go_ret
    exact ⟨_, rfl, by rw [HO.out]; exact Sl.nil, N1⟩
  have hE : gE G = 0 := HR.out.symm
  have hb := HP.out hE
  have hxa : IntKind.i64.wrap (G.x + G.w) = G.x + G.w := IntWalk.i64_in _ (by omega)
  have hza : IntKind.i64.wrap (G.z + G.d) = G.z + G.d := IntWalk.i64_in _ (by omega)
  have hout : Hid (¬ ((G.x ≤ x ∧ x ≤ G.x + G.w - 1) ∧ (G.z ≤ z ∧ z ≤ G.z + G.d - 1)) → tellG G x z = []) := Lib.hid (fun q => by
    rw [HF.out hE]
    refine atG_out ?_
    cases q2 : inG G x z with
    | false => rfl
    | true => exact absurd (HIN.out.1 q2) q)
  by_cases q0 : x < G.x
  · have e0 : decide (x < G.x) = true := decide_eq_true q0
    have HO := Lib.hid (hout.out (by omega))
    clear q0 hb hout
    go_enter Tryd.func24, Tryd.ntmps24
    go_wp2_with fail
    generalize hW : World.alloc _ _ = W0
    have n0 : New w W0 := by subst hW; (repeat (first | (with_reducible exact New.refl _) | (with_reducible assumption) | ((with_reducible refine New.setB ?_ ?_ _); focus (first | omega | (simp; omega) | (simp; done))) | (with_reducible refine New.alloc ?_ _) | (with_reducible refine New.drew ?_) | (with_reducible refine New.drewN ?_ _) | (with_reducible refine New.hat ?_ _) | ((with_reducible apply New.snart); (with_reducible assumption))))
    have g0 : W0.cell? ⟨w.heap.size, 0, none⟩ = some (.int .i64 G.x) := by subst hW; go_simp
    clear hW
    refine (KC.out _ n0).mono ?_
    rintro e w1 ⟨rfl, n1⟩
    have N1 : New w w1 := n0.trans n1
    replace g0 := n1.keep g0
    go_wp2_with fail
    go_ret
    exact ⟨_, rfl, by rw [HO.out]; exact Sl.nil, N1⟩
  have e0 : decide (x < G.x) = false := decide_eq_false q0
  by_cases q1 : G.x + G.w ≤ x
  · have e1 : decide (G.x + G.w ≤ x) = true := decide_eq_true q1
    have HO := Lib.hid (hout.out (by omega))
    clear q0 q1 hb hout
    go_enter Tryd.func24, Tryd.ntmps24
    go_wp2_with fail
    generalize hW : World.alloc _ _ = W0
    have n0 : New w W0 := by subst hW; (repeat (first | (with_reducible exact New.refl _) | (with_reducible assumption) | ((with_reducible refine New.setB ?_ ?_ _); focus (first | omega | (simp; omega) | (simp; done))) | (with_reducible refine New.alloc ?_ _) | (with_reducible refine New.drew ?_) | (with_reducible refine New.drewN ?_ _) | (with_reducible refine New.hat ?_ _) | ((with_reducible apply New.snart); (with_reducible assumption))))
    have g0 : W0.cell? ⟨w.heap.size, 0, none⟩ = some (.int .i64 G.x) := by subst hW; go_simp
    have g2 : W0.cell? ⟨w.heap.size, 2, none⟩ = some (.int .i64 G.w) := by subst hW; go_simp
    clear hW
    refine (KC.out _ n0).mono ?_
    rintro e w1 ⟨rfl, n1⟩
    have N1 : New w w1 := n0.trans n1
    replace g0 := n1.keep g0
    replace g2 := n1.keep g2
    go_wp2_with fail
    go_ret
    exact ⟨_, rfl, by rw [HO.out]; exact Sl.nil, N1⟩
  have e1 : decide (G.x + G.w ≤ x) = false := decide_eq_false q1
  by_cases q2 : z < G.z
  · have e2 : decide (z < G.z) = true := decide_eq_true q2
    have HO := Lib.hid (hout.out (by omega))
    clear q0 q1 q2 hb hout
    go_enter Tryd.func24, Tryd.ntmps24
    go_wp2_with fail
    generalize hW : World.alloc _ _ = W0
    have n0 : New w W0 := by subst hW; (repeat (first | (with_reducible exact New.refl _) | (with_reducible assumption) | ((with_reducible refine New.setB ?_ ?_ _); focus (first | omega | (simp; omega) | (simp; done))) | (with_reducible refine New.alloc ?_ _) | (with_reducible refine New.drew ?_) | (with_reducible refine New.drewN ?_ _) | (with_reducible refine New.hat ?_ _) | ((with_reducible apply New.snart); (with_reducible assumption))))
    have g0 : W0.cell? ⟨w.heap.size, 0, none⟩ = some (.int .i64 G.x) := by subst hW; go_simp
    have g1 : W0.cell? ⟨w.heap.size, 1, none⟩ = some (.int .i64 G.z) := by subst hW; go_simp
    have g2 : W0.cell? ⟨w.heap.size, 2, none⟩ = some (.int .i64 G.w) := by subst hW; go_simp
    clear hW
    refine (KC.out _ n0).mono ?_
    rintro e w1 ⟨rfl, n1⟩
    have N1 : New w w1 := n0.trans n1
    replace g0 := n1.keep g0
    replace g1 := n1.keep g1
    replace g2 := n1.keep g2
    go_wp2_with fail
    go_ret
    exact ⟨_, rfl, by rw [HO.out]; exact Sl.nil, N1⟩
  have e2 : decide (z < G.z) = false := decide_eq_false q2
  by_cases q3 : G.z + G.d ≤ z
  · have e3 : decide (G.z + G.d ≤ z) = true := decide_eq_true q3
    have HO := Lib.hid (hout.out (by omega))
    clear q0 q1 q2 q3 hb hout
    go_enter Tryd.func24, Tryd.ntmps24
    go_wp2_with fail
    generalize hW : World.alloc _ _ = W0
    have n0 : New w W0 := by subst hW; (repeat (first | (with_reducible exact New.refl _) | (with_reducible assumption) | ((with_reducible refine New.setB ?_ ?_ _); focus (first | omega | (simp; omega) | (simp; done))) | (with_reducible refine New.alloc ?_ _) | (with_reducible refine New.drew ?_) | (with_reducible refine New.drewN ?_ _) | (with_reducible refine New.hat ?_ _) | ((with_reducible apply New.snart); (with_reducible assumption))))
    have g0 : W0.cell? ⟨w.heap.size, 0, none⟩ = some (.int .i64 G.x) := by subst hW; go_simp
    have g1 : W0.cell? ⟨w.heap.size, 1, none⟩ = some (.int .i64 G.z) := by subst hW; go_simp
    have g2 : W0.cell? ⟨w.heap.size, 2, none⟩ = some (.int .i64 G.w) := by subst hW; go_simp
    have g3 : W0.cell? ⟨w.heap.size, 3, none⟩ = some (.int .i64 G.d) := by subst hW; go_simp
    clear hW
    refine (KC.out _ n0).mono ?_
    rintro e w1 ⟨rfl, n1⟩
    have N1 : New w w1 := n0.trans n1
    replace g0 := n1.keep g0
    replace g1 := n1.keep g1
    replace g2 := n1.keep g2
    replace g3 := n1.keep g3
    go_wp2_with fail
    go_ret
    exact ⟨_, rfl, by rw [HO.out]; exact Sl.nil, N1⟩
  have e3 : decide (G.z + G.d ≤ z) = false := decide_eq_false q3
  have hin : inG G x z = true := HIN.out.2 (by omega)
  obtain ⟨i1, i2, i3, i4⟩ := HIX.out hE hin
  have hs1 : IntKind.i64.wrap (z - G.z) = z - G.z := IntWalk.i64_in _ (by omega)
  have hs2 : IntKind.i64.wrap ((z - G.z) * G.w) = (z - G.z) * G.w := IntWalk.i64_in _ (by omega)
  have hs3 : IntKind.i64.wrap ((z - G.z) * G.w + x) = (z - G.z) * G.w + x := IntWalk.i64_in _ (by omega)
  have hs4 : IntKind.i64.wrap ((z - G.z) * G.w + x - G.x) = (ixG G x z : Int) := by rw [IntWalk.i64_in _ (by omega)]; omega
  obtain ⟨b, off, a, c, rfl, hc, hs⟩ := HH.out.at (ixG G x z) i4
  have hkn : ixG G x z < n := by rw [HN.out]; exact i4
  have hO : tellG G x z = G.L[ixG G x z] := by rw [HF.out hE]; exact HAT.out hE hin
  obtain ⟨l, hl⟩ : ∃ l, l = G.L[ixG G x z] := ⟨_, rfl⟩
  rw [← hl] at hc hs hO
  have HS := Lib.hid hs
  have HO2 := Lib.hid hO
  obtain ⟨m, hm⟩ : ∃ m, m = l.length := ⟨_, rfl⟩
  rw [← hm] at hc HS
  clear hl hs hO HIX HAT HIN HB HF HP i1 i2 i3 i4 hin hm q0 q1 q2 q3 hb hout hE HH
  generalize ixG G x z = k at *
  go_enter Tryd.func24, Tryd.ntmps24
  go_wp2_with fail
  generalize hW : World.alloc _ _ = W0
  have n0 : New w W0 := by subst hW; (repeat (first | (with_reducible exact New.refl _) | (with_reducible assumption) | ((with_reducible refine New.setB ?_ ?_ _); focus (first | omega | (simp; omega) | (simp; done))) | (with_reducible refine New.alloc ?_ _) | (with_reducible refine New.drew ?_) | (with_reducible refine New.drewN ?_ _) | (with_reducible refine New.hat ?_ _) | ((with_reducible apply New.snart); (with_reducible assumption))))
  have g0 : W0.cell? ⟨w.heap.size, 0, none⟩ = some (.int .i64 G.x) := by subst hW; go_simp
  have g1 : W0.cell? ⟨w.heap.size, 1, none⟩ = some (.int .i64 G.z) := by subst hW; go_simp
  have g2 : W0.cell? ⟨w.heap.size, 2, none⟩ = some (.int .i64 G.w) := by subst hW; go_simp
  have g3 : W0.cell? ⟨w.heap.size, 3, none⟩ = some (.int .i64 G.d) := by subst hW; go_simp
  have g4 : W0.cell? ⟨w.heap.size, 4, none⟩ = some (.slice (some ⟨b, off, none⟩) n G.gc) := by subst hW; go_simp
  clear hW
  refine (KC.out _ n0).mono ?_
  rintro e w1 ⟨rfl, n1⟩
  have N1 : New w w1 := n0.trans n1
  replace g0 := n1.keep g0
  replace g1 := n1.keep g1
  replace g2 := n1.keep g2
  replace g3 := n1.keep g3
  replace g4 := n1.keep g4
  replace hc := N1.keep hc
  go_wp2_with fail
  go_ret
  exact ⟨_, rfl, by rw [HO2.out]; exact HS.out.keep N1, N1⟩

end Go.Proofs.YtljcebahjfifhaaDoor
