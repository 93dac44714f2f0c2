import Derived.Test.YtklopjbpfddgfaaOgCZ11
import Derived.Deep.DeepCutAuto

/- Layer 11: what the laws say of two columns. -/
namespace Go.Proofs.Ytklopjbpfddgfaa
open Go.RowKit
set_option linter.unusedVariables false

/-- A row of two in a block of its own. -/
theorem og_two {w : World} {g : Nat} {s t : Sn} (h0 : w.cell? ⟨g, 0, none⟩ = some (.int .i64 s.lo)) (h1 : w.cell? ⟨g, 1, none⟩ = some (.int .i64 s.hi)) (h2 : w.cell? ⟨g, 2, none⟩ = some (.bool s.wk)) (h3 : w.cell? ⟨g, 3, none⟩ = some (.int .i64 t.lo)) (h4 : w.cell? ⟨g, 4, none⟩ = some (.int .i64 t.hi)) (h5 : w.cell? ⟨g, 5, none⟩ = some (.bool t.wk)) : Sl Sn.enc 3 w (.slice (some ⟨g, 0, none⟩) [s, t].length 2) [s, t] :=
  ⟨_, _, rfl, Nat.le_refl _, by unfold maxLen; omega, fun h => (by cases h), fun _ => ⟨g, 0, rfl, fun j hj i hi => by
    have hj' : j < 2 := hj
    have hi' : i < 3 := by have := hi; rw [Sn.enc_len] at this; exact this
    rcases (show j = 0 ∨ j = 1 by omega) with rfl | rfl <;> rcases (show i = 0 ∨ i = 1 ∨ i = 2 by omega) with rfl | rfl | rfl
    · exact h0
    · exact h1
    · exact h2
    · exact h3
    · exact h4
    · exact h5⟩⟩

def wokA : List Sn := [⟨0, 1, true⟩, ⟨3, 4, true⟩]
def wokB : List Sn := [⟨0, 1, true⟩, ⟨4, 5, false⟩]
def wokC : CfgR := ⟨0, 1, 3, 1, 1, 8, 8⟩
theorem wokA_is : fiE wokC wokA = 0 ∧ flX wokC wokA = [⟨4, 1048576, 1⟩] := ⟨by kernel_rfl, by kernel_rfl⟩
theorem wokB_is : fiE wokC wokB = 0 ∧ flX wokC wokB = [⟨1, 4, 1⟩] := ⟨by kernel_rfl, by kernel_rfl⟩

theorem og_known (g : Nat) (s t : Sn) (f : Fl) (hE : fiE wokC [s, t] = 0) (hR : flX wokC [s, t] = [f]) (w : World) (h : Sl Sn.enc 3 w (.slice (some ⟨g, 0, none⟩) [s, t].length 2) [s, t]) :
    Calls Try.prog 18 #[.agg #[.int .i64 0, .int .i64 1, .int .i64 3, .int .i64 1, .int .i64 1, .int .i64 8, .int .i64 8], .slice (some ⟨g, 0, none⟩) 2 2] w fun e w' => ∃ b o c, e = .returned (.tuple #[.slice (some ⟨b, o, none⟩) 1 c, .int .i64 0]) ∧ w'.cell? ⟨b, o, none⟩ = some (.int .i64 f.y) ∧ w'.cell? ⟨b, o + 1, none⟩ = some (.int .i64 f.top) ∧ w'.cell? ⟨b, o + 2, none⟩ = some (.int .i64 f.area) ∧ New w w' := by
  refine (og_Floors wokC (some ⟨g, 0, none⟩) [s, t] 2 w h).mono ?_
  rintro e w' ⟨v, he, ho, hn⟩
  have hs : Sl Fl.enc 3 w' v (flX wokC [s, t]) := own_sl Fl.enc_len ho
  rw [hE] at he
  rw [hR] at hs
  obtain ⟨a, c, rfl, h1, h2, h3, h4⟩ := hs
  obtain ⟨b, o, rfl, hr⟩ := h4 (by simp)
  obtain ⟨c0, c1, c2⟩ := Fl.cells hr 0 (by simp)
  simp only [Nat.zero_mul, Nat.add_zero, List.getElem_cons_zero] at c0 c1 c2
  exact ⟨b, o, c, he, c0, c1, c2, hn⟩

set_option maxHeartbeats 4000000 in
set_option maxRecDepth 100000 in
theorem og_wakes (w : World) : Calls Try.prog 6 #[] w fun e w' => e = .returned (.bool true) ∧ New w w' := by
  have K1 := Lib.hid (fun g W h => og_known g ⟨0, 1, true⟩ ⟨3, 4, true⟩ ⟨4, 1048576, 1⟩ wokA_is.1 wokA_is.2 W h)
  have K2 := Lib.hid (fun g W h => og_known g ⟨0, 1, true⟩ ⟨4, 5, false⟩ ⟨1, 4, 1⟩ wokB_is.1 wokB_is.2 W h)
  go_enter Try.func6, Try.ntmps6
  go_upto_region 2 with fail
  refine Code.at (fun W0 hW => ?_)
  have n0 : New w W0 := by subst hW; (repeat (first | (with_reducible exact New.refl _) | (with_reducible assumption) | ((with_reducible refine New.setB ?_ ?_ _); focus (first | omega | (simp; omega) | (simp; done))) | (with_reducible refine New.alloc ?_ _) | (with_reducible refine New.drew ?_) | (with_reducible refine New.drewN ?_ _) | (with_reducible refine New.hat ?_ _) | ((with_reducible apply New.snart); (with_reducible assumption))))
  have hc : CellsAt W0 w.heap.size 0 wokC.enc := by subst hW; exact cells_new _ _ _
  clear hW
  obtain ⟨c0, c1, c2, c3, c4, c5, c6⟩ := CfgR.at hc
  simp only [wokC] at c0 c1 c2 c3 c4 c5 c6
  go_wp2_with fail
  refine Calls.at (fun W1 hW => ?_)
  have n1 : New W0 W1 := by subst hW; (repeat (first | (with_reducible exact New.refl _) | (with_reducible assumption) | ((with_reducible refine New.setB ?_ ?_ _); focus (first | omega | (simp; omega) | (simp; done))) | (with_reducible refine New.alloc ?_ _) | (with_reducible refine New.drew ?_) | (with_reducible refine New.drewN ?_ _) | (with_reducible refine New.hat ?_ _) | ((with_reducible apply New.snart); (with_reducible assumption))))
  have hs := og_two (w := W1) (g := W0.heap.size) (s := ⟨0, 1, true⟩) (t := ⟨3, 4, true⟩) (by subst hW; go_simp) (by subst hW; go_simp) (by subst hW; go_simp) (by subst hW; go_simp) (by subst hW; go_simp) (by subst hW; go_simp)
  clear hW
  refine (K1.out _ _ hs).mono ?_
  rintro e w1 ⟨b1, o1, d1, rfl, p0, p1, p2, n2⟩
  have N1 := Lib.hid (n0.trans (n1.trans n2))
  replace hc := hc.keep (n1.trans n2)
  clear c0 c1 c2 c3 c4 c5 c6 hs n0 n1 n2
  obtain ⟨c0, c1, c2, c3, c4, c5, c6⟩ := CfgR.at hc
  simp only [wokC] at c0 c1 c2 c3 c4 c5 c6

  go_wp2_with fail
  refine Calls.at (fun W1 hW => ?_)
  have n1 : New w1 W1 := by subst hW; (repeat (first | (with_reducible exact New.refl _) | (with_reducible assumption) | ((with_reducible refine New.setB ?_ ?_ _); focus (first | omega | (simp; omega) | (simp; done))) | (with_reducible refine New.alloc ?_ _) | (with_reducible refine New.drew ?_) | (with_reducible refine New.drewN ?_ _) | (with_reducible refine New.hat ?_ _) | ((with_reducible apply New.snart); (with_reducible assumption))))
  have hs := og_two (w := W1) (g := w1.heap.size) (s := ⟨0, 1, true⟩) (t := ⟨4, 5, false⟩) (by subst hW; go_simp) (by subst hW; go_simp) (by subst hW; go_simp) (by subst hW; go_simp) (by subst hW; go_simp) (by subst hW; go_simp)
  clear hW
  refine (K2.out _ _ hs).mono ?_
  rintro e w2 ⟨b2, o2, d2, rfl, q0, q1, q2, n2⟩
  have N2 := Lib.hid (N1.out.trans (n1.trans n2))
  replace p0 := (n1.trans n2).keep p0
  replace p1 := (n1.trans n2).keep p1
  replace p2 := (n1.trans n2).keep p2

  clear c0 c1 c2 c3 c4 c5 c6 hs n1 n2 hc N1
  go_wp2_with fail
  go_ret
  exact ⟨rfl, N2.out⟩

end Go.Proofs.Ytklopjbpfddgfaa
