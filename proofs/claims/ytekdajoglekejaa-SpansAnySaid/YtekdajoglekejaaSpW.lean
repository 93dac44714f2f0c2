/- What the laws of layer 8 say of three rows. -/
import Derived.Test.YtekdajoglekejaaSpQ
import Derived.Deep.DeepCutAuto
namespace Go.Proofs.Ytekdajoglekejaa
open Go.RowKit
set_option linter.unusedVariables false

/-- A row of two in a block of its own. -/
theorem sn_two {w : World} {g : Nat} {s t : Sn} (h0 : w.cell? ⟨g, 0, none⟩ = some (.int .i64 s.lo)) (h1 : w.cell? ⟨g, 1, none⟩ = some (.int .i64 s.hi)) (h2 : w.cell? ⟨g, 2, none⟩ = some (.bool s.wk)) (h3 : w.cell? ⟨g, 3, none⟩ = some (.int .i64 t.lo)) (h4 : w.cell? ⟨g, 4, none⟩ = some (.int .i64 t.hi)) (h5 : w.cell? ⟨g, 5, none⟩ = some (.bool t.wk)) : Sl Sn.enc 3 w (.slice (some ⟨g, 0, none⟩) [s, t].length 2) [s, t] :=
  ⟨_, _, rfl, Nat.le_refl _, by unfold maxLen; omega, fun h => (by cases h), fun _ => ⟨g, 0, rfl, fun j hj i hi => by
    have hj' : j < 2 := hj
    have hi' : i < 3 := by have := hi; rw [Sn.enc_len] at this; exact this
    rcases (show j = 0 ∨ j = 1 by omega) with rfl | rfl <;> rcases (show i = 0 ∨ i = 1 ∨ i = 2 by omega) with rfl | rfl | rfl
    · exact h0
    · exact h1
    · exact h2
    · exact h3
    · exact h4
    · exact h5⟩⟩

theorem w_one : IsM [⟨0, 2, false⟩, ⟨2, 5, true⟩] [⟨0, 5, true⟩] := IsM.two (p := ⟨0, 2, false⟩) (q := ⟨2, 5, true⟩) (by decide) (by decide) (by decide) (by decide)
theorem w_two : IsM [⟨0, 6, false⟩, ⟨2, 5, true⟩] [⟨0, 6, false⟩] := IsM.two (p := ⟨0, 6, false⟩) (q := ⟨2, 5, true⟩) (by decide) (by decide) (by decide) (by decide)
theorem w_three : IsM [⟨0, 1, false⟩, ⟨2, 3, false⟩] [⟨0, 1, false⟩, ⟨2, 3, false⟩] := IsM.self (by unfold Sep; simp) (by intro p hp; simp at hp; rcases hp with rfl | rfl <;> decide)

/-- Merge of a row of which the spans are known. -/
theorem k_known (g : Nat) (s t : Sn) (R : List Sn) (hb : fstB badS [s, t] = false) (hR : IsM [s, t] R) (w : World) (h : Sl Sn.enc 3 w (.slice (some ⟨g, 0, none⟩) [s, t].length 2) [s, t]) :
    Calls Try.prog 9 #[.slice (some ⟨g, 0, none⟩) 2 2] w fun e w' => ∃ a c, e = .returned (.tuple #[.slice a R.length c, .int .i64 0]) ∧ Sl Sn.enc 3 w' (.slice a R.length c) R ∧ New w w' := by
  refine (k_merge (some ⟨g, 0, none⟩) [s, t] 2 (by simp) w h).mono ?_
  rintro e w' ⟨hn, h | ⟨-, R', a, c, h1, -, rfl, h3⟩⟩
  · rw [hb] at h; exact absurd h.1 (by simp)
  · have e1 : R' = R := h1.uniq (fun p hp => (not_bad hb p hp).2.1) hR (fun p => Iff.rfl)
    subst e1
    exact ⟨a, c, rfl, h3, hn⟩

set_option maxHeartbeats 4000000 in
set_option maxRecDepth 100000 in
theorem s_wakes (w : World) : Calls Try.prog 8 #[] w fun e w' => e = .returned (.bool true) ∧ New w w' := by
  have K1 := Lib.hid (fun g W h => k_known g ⟨0, 2, false⟩ ⟨2, 5, true⟩ _ (by decide) w_one W h)
  have K2 := Lib.hid (fun g W h => k_known g ⟨0, 6, false⟩ ⟨2, 5, true⟩ _ (by decide) w_two W h)
  have K3 := Lib.hid (fun g W h => k_known g ⟨0, 1, false⟩ ⟨2, 3, false⟩ _ (by decide) w_three W h)
  go_enter Try.func8, Try.ntmps8
  go_wp2_with fail
  refine Calls.at (fun W0 hW => ?_)
  have n0 : New w W0 := by subst hW; (repeat (first | (with_reducible exact New.refl _) | (with_reducible assumption) | ((with_reducible refine New.setB ?_ ?_ _); focus (first | omega | (simp; omega) | (simp; done))) | (with_reducible refine New.alloc ?_ _) | (with_reducible refine New.drew ?_) | (with_reducible refine New.drewN ?_ _) | (with_reducible refine New.hat ?_ _) | ((with_reducible apply New.snart); (with_reducible assumption))))
  have hs := sn_two (w := W0) (g := w.heap.size) (s := ⟨0, 2, false⟩) (t := ⟨2, 5, true⟩) (by subst hW; go_simp) (by subst hW; go_simp) (by subst hW; go_simp) (by subst hW; go_simp) (by subst hW; go_simp) (by subst hW; go_simp)
  clear hW
  refine (K1.out _ _ hs).mono ?_
  rintro e w1 ⟨a1, c1, rfl, h1, n1⟩
  have HS1 := Lib.hid h1
  have N1 := Lib.hid (n0.trans n1)
  clear h1 n0 n1 hs
  go_wp2_with fail
  refine Calls.at (fun W0 hW => ?_)
  have n0 : New w1 W0 := by subst hW; (repeat (first | (with_reducible exact New.refl _) | (with_reducible assumption) | ((with_reducible refine New.setB ?_ ?_ _); focus (first | omega | (simp; omega) | (simp; done))) | (with_reducible refine New.alloc ?_ _) | (with_reducible refine New.drew ?_) | (with_reducible refine New.drewN ?_ _) | (with_reducible refine New.hat ?_ _) | ((with_reducible apply New.snart); (with_reducible assumption))))
  have hs := sn_two (w := W0) (g := w1.heap.size) (s := ⟨0, 6, false⟩) (t := ⟨2, 5, true⟩) (by subst hW; go_simp) (by subst hW; go_simp) (by subst hW; go_simp) (by subst hW; go_simp) (by subst hW; go_simp) (by subst hW; go_simp)
  clear hW
  refine (K2.out _ _ hs).mono ?_
  rintro e w2 ⟨a2, c2, rfl, h2, n2⟩
  have HS2 := Lib.hid h2
  have N2 := Lib.hid (n0.trans n2)
  clear h2 n0 n2 hs
  go_wp2_with fail
  refine Calls.at (fun W0 hW => ?_)
  have n0 : New w2 W0 := by subst hW; (repeat (first | (with_reducible exact New.refl _) | (with_reducible assumption) | ((with_reducible refine New.setB ?_ ?_ _); focus (first | omega | (simp; omega) | (simp; done))) | (with_reducible refine New.alloc ?_ _) | (with_reducible refine New.drew ?_) | (with_reducible refine New.drewN ?_ _) | (with_reducible refine New.hat ?_ _) | ((with_reducible apply New.snart); (with_reducible assumption))))
  have hs := sn_two (w := W0) (g := w2.heap.size) (s := ⟨0, 1, false⟩) (t := ⟨2, 3, false⟩) (by subst hW; go_simp) (by subst hW; go_simp) (by subst hW; go_simp) (by subst hW; go_simp) (by subst hW; go_simp) (by subst hW; go_simp)
  clear hW
  refine (K3.out _ _ hs).mono ?_
  rintro e w3 ⟨a3, c3, rfl, h3, n3⟩
  have N3 := Lib.hid (n0.trans n3)
  obtain ⟨b1, o1, rfl, r1⟩ := HS1.out.row'.2.2.2.2 (by simp)
  obtain ⟨b2, o2, rfl, r2⟩ := HS2.out.row'.2.2.2.2 (by simp)
  obtain ⟨x0, x1, x2⟩ := Sn.cells (r1.keep (N2.out.trans N3.out)) 0 (by simp)
  obtain ⟨y0, y1, y2⟩ := Sn.cells (r2.keep N3.out) 0 (by simp)
  simp only [List.getElem_cons_zero, Nat.zero_mul, Nat.add_zero] at x0 x1 x2 y0 y1 y2
  clear h3 n0 n3 hs r1 r2
  go_wp2_with fail
  go_ret
  exact ⟨rfl, ((N1.out.trans N2.out).trans N3.out).trans (by (repeat (first | (with_reducible exact New.refl _) | (with_reducible assumption) | ((with_reducible refine New.setB ?_ ?_ _); focus (first | omega | (simp; omega) | (simp; done))) | (with_reducible refine New.alloc ?_ _) | (with_reducible refine New.drew ?_) | (with_reducible refine New.drewN ?_ _) | (with_reducible refine New.hat ?_ _) | ((with_reducible apply New.snart); (with_reducible assumption)))))⟩

end Go.Proofs.Ytekdajoglekejaa
