import Derived.Test.YtgoggogcbjfofaaDoorFdMaY14
import Derived.Test.YtgoggogcbjfofaaDoorFdPbY14
import Derived.Test.YtgoggogcbjfofaaDoorFdCpY14

/- Which column of a grid is a column of the mirrored one: turned. -/
namespace Go.Proofs.YtgoggogcbjfofaaDoor
open Go.RowKit
set_option linter.unusedVariables false

def trnI (how wn dn x z : Nat) : Int := if how = 0 then (z : Int) * wn + wn - 1 - x else if how = 1 then ((dn : Int) - 1 - z) * wn + x else (x : Int) * wn + z
theorem trn_mir {G : Gd} (hE : gE G = 0) {how : Nat} (hh : how < 3) {wn dn mw : Nat} (hw : G.w = wn) (hd : G.d = dn) (hm : mirW G how = mw) {i : Nat} (hi : i < dn * wn) : trnI how wn dn (i % mw) (i / mw) = ((mirI G how i : Nat) : Int) := by
  have e1 : G.w.toNat = wn := by omega
  have e2 : G.d.toNat = dn := by omega
  have e3 : (mirW G how).toNat = mw := by omega
  obtain ⟨h1, h2, h3⟩ := mir_i hE hh (i := i) (by rw [e1, e2]; exact hi)
  obtain ⟨h4, h5⟩ := mir_ab hE hh h1 h2
  unfold mirI
  rw [e3] at h1 h2 h3 h4 h5 ⊢
  generalize i % mw = x at *
  generalize i / mw = z at *
  unfold mirH at h2
  unfold mirW at hm
  unfold mirA mirB at *
  unfold trnI
  rw [e1, e2] at *
  rcases (show how = 0 ∨ how = 1 ∨ how = 2 by omega) with rfl | rfl | rfl
  · simp at *
    omega
  · simp at *
    rw [show ((dn - 1 - z : Nat) : Int) = (dn : Int) - 1 - z by omega]
  · simp at *

set_option maxHeartbeats 4000000 in
set_option maxRecDepth 100000 in
theorem lw_turned (gx gz : Int) (ga : Option Addr) (n gc wn dn x z how : Nat) (hw : wn ≤ 64) (hd : dn ≤ 64) (hx : x ≤ 64) (hz : z ≤ 64) (hh : how < 3) (w : World) : Calls Tryd.prog 28 #[.agg #[.int .i64 gx, .int .i64 gz, .int .i64 (wn : Nat), .int .i64 (dn : Nat), .slice ga n gc], .int .i64 (x : Nat), .int .i64 (z : Nat), .int .i64 (how : Nat)] w fun e w' => e = .returned (.int .i64 (trnI how wn dn x z)) ∧ New w w' := by
  rcases (show how = 0 ∨ how = 1 ∨ how = 2 by omega) with rfl | rfl | rfl
  · have e : trnI 0 wn dn x z = (z : Int) * wn + wn - 1 - x := rfl
    rw [e]
    have hb := mul_64 (show 0 ≤ (z : Int) by omega) (show (z : Int) ≤ 64 by omega) (show 0 ≤ (wn : Int) by omega) (show (wn : Int) ≤ 64 by omega)
    have hw1 : IntKind.i64.wrap ((z : Int) * wn) = (z : Int) * wn := IntWalk.i64_in _ (by omega)
    have hw2 : IntKind.i64.wrap ((z : Int) * wn + wn) = (z : Int) * wn + wn := IntWalk.i64_in _ (by omega)
    have hw3 : IntKind.i64.wrap ((z : Int) * wn + wn - 1) = (z : Int) * wn + wn - 1 := IntWalk.i64_in _ (by omega)
    have hw4 : IntKind.i64.wrap ((z : Int) * wn + wn - 1 - x) = (z : Int) * wn + wn - 1 - x := IntWalk.i64_in _ (by omega)
    clear e hb
    go_enter Tryd.func28, Tryd.ntmps28
    go_wp2_with fail
    go_ret
    exact ⟨rfl, by (repeat (first | (with_reducible exact New.refl _) | (with_reducible assumption) | ((with_reducible refine New.setB ?_ ?_ _); focus (first | omega | (simp; omega) | (simp; done))) | (with_reducible refine New.alloc ?_ _) | (with_reducible refine New.drew ?_) | (with_reducible refine New.drewN ?_ _) | (with_reducible refine New.hat ?_ _) | ((with_reducible apply New.snart); (with_reducible assumption))))⟩
  · have e : trnI 1 wn dn x z = ((dn : Int) - 1 - z) * wn + x := rfl
    rw [e]
    obtain ⟨q, hq⟩ : ∃ q, q = (dn : Int) - 1 - z := ⟨_, rfl⟩
    have hb1 : q * wn ≤ 64 * 64 := Int.le_trans (Int.mul_le_mul_of_nonneg_right (show q ≤ 64 by omega) (by omega)) (Int.mul_le_mul_of_nonneg_left (by omega) (by omega))
    have hb2 : -q * wn ≤ 65 * 64 := Int.le_trans (Int.mul_le_mul_of_nonneg_right (show -q ≤ 65 by omega) (by omega)) (Int.mul_le_mul_of_nonneg_left (by omega) (by omega))
    rw [Int.neg_mul] at hb2
    have hw1 : IntKind.i64.wrap ((dn : Int) - 1) = (dn : Int) - 1 := IntWalk.i64_in _ (by omega)
    have hw2 : IntKind.i64.wrap ((dn : Int) - 1 - z) = q := by rw [hq]; exact IntWalk.i64_in _ (by omega)
    have hw3 : IntKind.i64.wrap (q * wn) = q * wn := IntWalk.i64_in _ (by omega)
    have hw4 : IntKind.i64.wrap (q * wn + x) = q * wn + x := IntWalk.i64_in _ (by omega)
    rw [← hq]
    clear e hb1 hb2 hq
    go_enter Tryd.func28, Tryd.ntmps28
    go_wp2_with fail
    go_ret
    exact ⟨rfl, by (repeat (first | (with_reducible exact New.refl _) | (with_reducible assumption) | ((with_reducible refine New.setB ?_ ?_ _); focus (first | omega | (simp; omega) | (simp; done))) | (with_reducible refine New.alloc ?_ _) | (with_reducible refine New.drew ?_) | (with_reducible refine New.drewN ?_ _) | (with_reducible refine New.hat ?_ _) | ((with_reducible apply New.snart); (with_reducible assumption))))⟩
  · have e : trnI 2 wn dn x z = (x : Int) * wn + z := rfl
    rw [e]
    have hb := mul_64 (show 0 ≤ (x : Int) by omega) (show (x : Int) ≤ 64 by omega) (show 0 ≤ (wn : Int) by omega) (show (wn : Int) ≤ 64 by omega)
    have hw1 : IntKind.i64.wrap ((x : Int) * wn) = (x : Int) * wn := IntWalk.i64_in _ (by omega)
    have hw2 : IntKind.i64.wrap ((x : Int) * wn + z) = (x : Int) * wn + z := IntWalk.i64_in _ (by omega)
    clear e hb
    go_enter Tryd.func28, Tryd.ntmps28
    go_wp2_with fail
    go_ret
    exact ⟨rfl, by (repeat (first | (with_reducible exact New.refl _) | (with_reducible assumption) | ((with_reducible refine New.setB ?_ ?_ _); focus (first | omega | (simp; omega) | (simp; done))) | (with_reducible refine New.alloc ?_ _) | (with_reducible refine New.drew ?_) | (with_reducible refine New.drewN ?_ _) | (with_reducible refine New.hat ?_ _) | ((with_reducible apply New.snart); (with_reducible assumption))))⟩

end Go.Proofs.YtgoggogcbjfofaaDoor
