/- Layer 10: what the laws say of two columns. -/
import Derived.Test.YtajigioibkhhmaaFiG
import Derived.Deep.DeepCutAuto
namespace Go.Proofs.Ytajigioibkhhmaa
open Go.RowKit
set_option linter.unusedVariables false

/-- A row of two in a block of its own. -/
theorem fi_two {w : World} {g : Nat} {s t : Sn} (h0 : w.cell? ⟨g, 0, none⟩ = some (.int .i64 s.lo)) (h1 : w.cell? ⟨g, 1, none⟩ = some (.int .i64 s.hi)) (h2 : w.cell? ⟨g, 2, none⟩ = some (.bool s.wk)) (h3 : w.cell? ⟨g, 3, none⟩ = some (.int .i64 t.lo)) (h4 : w.cell? ⟨g, 4, none⟩ = some (.int .i64 t.hi)) (h5 : w.cell? ⟨g, 5, none⟩ = some (.bool t.wk)) : Sl Sn.enc 3 w (.slice (some ⟨g, 0, none⟩) [s, t].length 2) [s, t] :=
  ⟨_, _, rfl, Nat.le_refl _, by unfold maxLen; omega, fun h => (by cases h), fun _ => ⟨g, 0, rfl, fun j hj i hi => by
    have hj' : j < 2 := hj
    have hi' : i < 3 := by have := hi; rw [Sn.enc_len] at this; exact this
    rcases (show j = 0 ∨ j = 1 by omega) with rfl | rfl <;> rcases (show i = 0 ∨ i = 1 ∨ i = 2 by omega) with rfl | rfl | rfl
    · exact h0
    · exact h1
    · exact h2
    · exact h3
    · exact h4
    · exact h5⟩⟩

theorem fi_config (w : World) : Calls Try.prog 16 #[] w fun e w' => e = .returned (.agg #[.int .i64 0, .int .i64 1, .int .i64 3, .int .i64 1, .int .i64 1, .int .i64 8, .int .i64 8]) ∧ New w w' := by
  go_enter Try.func16, Try.ntmps16
  go_wp2
  refine bodyPost_ret (v := .agg #[.int .i64 0, .int .i64 1, .int .i64 3, .int .i64 1, .int .i64 1, .int .i64 8, .int .i64 8]) (by simp [results, Try.results16, go_sem, *]) rfl ?_
  exact ⟨rfl, by (repeat (first | (with_reducible exact New.refl _) | (with_reducible assumption) | ((with_reducible refine New.setB ?_ ?_ _); focus (first | omega | (simp; omega) | (simp; done))) | (with_reducible refine New.alloc ?_ _) | (with_reducible refine New.drew ?_) | (with_reducible refine New.drewN ?_ _) | (with_reducible refine New.hat ?_ _) | ((with_reducible apply New.snart); (with_reducible assumption))))⟩

def wakC : CfgR := ⟨0, 1, 3, 1, 1, 8, 8⟩
def wakA : List Sn := [⟨0, 1, true⟩, ⟨4, 5, true⟩]
def wakB : List Sn := [⟨0, 1, true⟩, ⟨3, 5, true⟩]
theorem wakA_is : fiE wakC wakA = 0 ∧ opI wakC wakA = [0, 1] := ⟨by kernel_rfl, by kernel_rfl⟩
theorem wakB_is : fiE wakC wakB = 0 ∧ opI wakC wakB = [1] := ⟨by kernel_rfl, by kernel_rfl⟩

theorem fi_known (g : Nat) (s t : Sn) (R : List Int) (hE : fiE wakC [s, t] = 0) (hR : opI wakC [s, t] = R) (w : World) (h : Sl Sn.enc 3 w (.slice (some ⟨g, 0, none⟩) [s, t].length 2) [s, t]) :
    Calls Try.prog 8 #[.agg #[.int .i64 0, .int .i64 1, .int .i64 3, .int .i64 1, .int .i64 1, .int .i64 8, .int .i64 8], .slice (some ⟨g, 0, none⟩) 2 2] w fun e w' => ∃ a c, e = .returned (.tuple #[.slice a R.length c, .int .i64 0]) ∧ Sl iE 1 w' (.slice a R.length c) R ∧ New w w' := by
  refine (fi_open wakC (some ⟨g, 0, none⟩) [s, t] 2 w h).mono ?_
  rintro e w' ⟨v, he, hs, hn⟩
  rw [hE] at he
  rw [hR] at hs
  obtain ⟨a, c, rfl, h1⟩ := id hs
  exact ⟨a, c, he, hs, hn⟩

set_option maxHeartbeats 4000000 in
set_option maxRecDepth 100000 in
theorem fi_wakes (w : World) : Calls Try.prog 5 #[] w fun e w' => e = .returned (.bool true) ∧ New w w' := by
  have KC := Lib.hid (fun W => fi_config W)
  have K1 := Lib.hid (fun g W h => fi_known g ⟨0, 1, true⟩ ⟨4, 5, true⟩ _ wakA_is.1 wakA_is.2 W h)
  have K2 := Lib.hid (fun g W h => fi_known g ⟨0, 1, true⟩ ⟨3, 5, true⟩ _ wakB_is.1 wakB_is.2 W h)
  go_enter Try.func5, Try.ntmps5
  go_wp2_with fail
  refine (KC.out _).mono ?_
  rintro e w0 ⟨rfl, n0⟩
  have N0 := Lib.hid n0
  clear n0
  go_wp2_with fail
  refine Calls.at (fun W0 hW => ?_)
  have n0 : New w0 W0 := by subst hW; (repeat (first | (with_reducible exact New.refl _) | (with_reducible assumption) | ((with_reducible refine New.setB ?_ ?_ _); focus (first | omega | (simp; omega) | (simp; done))) | (with_reducible refine New.alloc ?_ _) | (with_reducible refine New.drew ?_) | (with_reducible refine New.drewN ?_ _) | (with_reducible refine New.hat ?_ _) | ((with_reducible apply New.snart); (with_reducible assumption))))
  have hs := fi_two (w := W0) (g := w0.heap.size) (s := ⟨0, 1, true⟩) (t := ⟨4, 5, true⟩) (by subst hW; go_simp) (by subst hW; go_simp) (by subst hW; go_simp) (by subst hW; go_simp) (by subst hW; go_simp) (by subst hW; go_simp)
  clear hW
  refine (K1.out _ _ hs).mono ?_
  rintro e w1 ⟨a1, d1, rfl, h1, n1⟩
  have N1 := Lib.hid (N0.out.trans (n0.trans n1))
  clear h1 n0 n1 hs
  go_wp2_with fail
  refine (KC.out _).mono ?_
  rintro e w2 ⟨rfl, n2⟩
  have N2 := Lib.hid (N1.out.trans n2)
  clear n2
  go_wp2_with fail
  refine Calls.at (fun W0 hW => ?_)
  have n0 : New w2 W0 := by subst hW; (repeat (first | (with_reducible exact New.refl _) | (with_reducible assumption) | ((with_reducible refine New.setB ?_ ?_ _); focus (first | omega | (simp; omega) | (simp; done))) | (with_reducible refine New.alloc ?_ _) | (with_reducible refine New.drew ?_) | (with_reducible refine New.drewN ?_ _) | (with_reducible refine New.hat ?_ _) | ((with_reducible apply New.snart); (with_reducible assumption))))
  have hs := fi_two (w := W0) (g := w2.heap.size) (s := ⟨0, 1, true⟩) (t := ⟨3, 5, true⟩) (by subst hW; go_simp) (by subst hW; go_simp) (by subst hW; go_simp) (by subst hW; go_simp) (by subst hW; go_simp) (by subst hW; go_simp)
  clear hW
  refine (K2.out _ _ hs).mono ?_
  rintro e w3 ⟨a3, d3, rfl, h3, n3⟩
  have N3 := Lib.hid (N2.out.trans (n0.trans n3))
  obtain ⟨at3, c3, e3, -, -, H3⟩ := sl_at h3
  injection e3 with e31 e32 e33
  obtain ⟨b3, o3, q1, q2⟩ := H3 0 (by simp)
  have ha : a3 = some ⟨b3, o3, none⟩ := e31.trans q1
  subst ha
  simp only [List.getElem_cons_zero, Nat.add_zero] at q2
  clear h3 n0 n3 hs H3 e31 e32 e33 q1
  go_wp2_with fail
  go_ret
  exact ⟨rfl, N3.out⟩

end Go.Proofs.Ytajigioibkhhmaa
