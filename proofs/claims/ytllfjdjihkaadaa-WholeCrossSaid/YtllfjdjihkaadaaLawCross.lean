/-
  Proved here: whatever the input, the call of footpath/footpathlaw01.WholeCross of the landed code returns true and leaves its arguments as they were. Conditions: none.
-/
import Derived.Test.YtllfjdjihkaadaaRows
import Derived.WalkKit
import Derived.ProofKit
import Derived.OpenShut
import Derived.ShutString
import Derived.Test.YtllfjdjihkaadaaWholeK
import Derived.Test.YtllfjdjihkaadaaWholeH
namespace Go.Proofs.Ytllfjdjihkaadaa.wholeCross
open Go.ChangeShapes Go.WideShapes Go.ChangeAt Go.RowKit
open Go.ChangeMaps (open_string shut_string)
set_option linter.unusedVariables false      -- a walk need not use every 'w<i>' (that an integer argument fits its kind)

theorem own : ownKnob Try.prog.godebug = none := by kernel_rfl

/-! ### STEP 1: THE WALK: the Go text returns true. 'Grown w w'': the world has at most new blocks (Derived/RowKit3.lean). Part the cases AHEAD of 'go_enter' where a test parts the walk; take each callee by a contract of your own. -/
theorem walk (a0 : Int) (a1 : Int) (a2 : Int) (a3 : Int) (w0 : (Lit.int .i64 a0).wf = true) (w1 : (Lit.int .i64 a1).wf = true) (w2 : (Lit.int .i64 a2).wf = true) (w3 : (Lit.int .i64 a3).wf = true) (w : World) :
    Calls Try.prog 6 #[.int .i64 a0, .int .i64 a1, .int .i64 a2, .int .i64 a3] w fun e w' => e = .returned (.bool true) ∧ Grown w w' := by
  cases hx : crossB a0 a1 a2 a3
  · have e1 : crossI a0 a1 a2 a3 = 0 := by unfold crossI; simp_all
    have e3 : crossB a2 a3 a0 a1 = false := by unfold crossB at *; revert hx; cases nearB a0 <;> cases nearB a1 <;> cases nearB a2 <;> cases nearB a3 <;> simp
    have e2 : crossI a2 a3 a0 a1 = 0 := by unfold crossI; simp_all
    have e4 : crossI a0 a1 a0 a1 = 0 := by unfold crossI; split; exact Int.sub_eq_zero.mpr (Int.mul_comm _ _); rfl
    go_enter Try.func6, Try.ntmps6
    go_wp2_with fail
    refine (cross_any _ _ _ _ _).mono ?_; rw [e1, hx]; rintro e w' ⟨rfl, rfl⟩
    go_wp2_with fail
    refine (cross_any _ _ _ _ _).mono ?_; rw [e2, e3]; rintro e w' ⟨rfl, rfl⟩
    go_wp2_with fail
    refine (cross_any _ _ _ _ _).mono ?_; rw [e4]; rintro e w' ⟨rfl, rfl⟩
    have k1 : errI false = 2 := rfl
    go_wp2_with fail
    refine (wakes_any _).mono ?_; rintro e w1 ⟨rfl, c1⟩
    go_wp2_with fail
    go_ret
    exact ⟨rfl, c1.2⟩
  · have hn : nearB a0 = true ∧ nearB a1 = true ∧ nearB a2 = true ∧ nearB a3 = true := by simpa [crossB, and_assoc] using hx
    have e1 : crossI a0 a1 a2 a3 = a0 * a3 - a1 * a2 := by unfold crossI; simp_all
    have e3 : crossB a2 a3 a0 a1 = true := by simp [crossB, hn]
    have e5 : crossB a0 a1 a0 a1 = true := by simp [crossB, hn]
    have e2 : crossI a2 a3 a0 a1 = - crossI a0 a1 a2 a3 := by
      rw [e1]; unfold crossI; rw [if_pos e3, Int.mul_comm a2 a1, Int.mul_comm a3 a0]; omega
    have e4 : crossI a0 a1 a0 a1 = 0 := by unfold crossI; rw [if_pos e5]; exact Int.sub_eq_zero.mpr (Int.mul_comm _ _)
    have b1 := near_mul hn.1 hn.2.2.2
    have b2 := near_mul hn.2.1 hn.2.2.1
    have k1 : errI true = 0 := rfl
    rw [e1] at e2
    generalize hX : a0 * a3 - a1 * a2 = X at *
    have bX : -2305843009213693952 ≤ X ∧ X ≤ 2305843009213693952 := by omega
    clear hX
    go_enter Try.func6, Try.ntmps6
    go_wp2_with fail
    refine (cross_any _ _ _ _ _).mono ?_; rw [e1, hx]; rintro e w' ⟨rfl, rfl⟩
    go_wp2_with fail
    refine (cross_any _ _ _ _ _).mono ?_; rw [e2, e3]; rintro e w' ⟨rfl, rfl⟩
    go_wp2_with fail
    refine (cross_any _ _ _ _ _).mono ?_; rw [e4, e5]; rintro e w' ⟨rfl, rfl⟩
    go_wp2_with fail
    refine (wakes_any _).mono ?_; rintro e w1 ⟨rfl, c1⟩
    go_wp2_with fail
    go_ret
    exact ⟨rfl, c1.2⟩

/-! ### THE ROW's STEP: WRITTEN OUT: LEAVE IT -/
set_option maxRecDepth 100000 in
theorem lifted (os : Os) (started : os.Started) (H : Type) (enc : TypeId × Value → H) :
    ReturnsInHanded {} Try.checked os 6 .any (Rows.wholeCrossSpec.pre6 enc Try.prog Try.f6 Rows.wholeCrossRow.domain false) (Rows.wholeCrossSpec.post enc Try.prog Try.f6 false true false false) := by
  refine returnsInHanded_of_change (C := Try.checked) own started (by kernel_rfl) Try.func6
    (ChangeSpec.witness6 (enc := enc) (C := Try.checked) false ⟨#[], #[.int .i64 0, .int .i64 0, .int .i64 0, .int .i64 0], []⟩ 8 (by kernel_rfl) (by kernel_rfl) (by kernel_rfl) (by kernel_rfl)) ?_
  intro W base args ds gs before hval0 hW hcnd _
  have hval : ∀ (j : Nat) t v, Try.f6.params[j]? = some t → args[j]? = some v → Value.okWide Try.prog W .any base t v := hval0
  have hW' := hW
  obtain ⟨p, q, hA0, hV, rfl, hfz, hnd⟩ := hW
  have hA : DataW.TrodAll enc Try.prog W 0 (fun _ => true) true Try.f6.params.toList args.toList ds p := hA0
  rw [Try.params6] at hA hval
  obtain ⟨v0, vs0, d0, ds0, p0, q0, hargs, rfl, rfl, h0, r0⟩ := trodAll_cons hA
  obtain ⟨v1, vs1, d1, ds1, p1, q1, rfl, rfl, rfl, h1, r1⟩ := trodAll_cons r0
  obtain ⟨v2, vs2, d2, ds2, p2, q2, rfl, rfl, rfl, h2, r2⟩ := trodAll_cons r1
  obtain ⟨v3, vs3, d3, ds3, p3, q3, rfl, rfl, rfl, h3, r3⟩ := trodAll_cons r2
  obtain ⟨rfl, rfl, rfl⟩ := trodAll_nil r3
  obtain rfl : args = #[v0, v1, v2, v3] := by cases args; simp_all
  obtain ⟨rfl, rfl⟩ := trodVars_none hV
  obtain ⟨a0, rfl, rfl, rfl, w0⟩ := open_int Try.underlying3 (hval 0 3 v0 rfl rfl) h0
  obtain ⟨a1, rfl, rfl, rfl, w1⟩ := open_int Try.underlying3 (hval 1 3 v1 rfl rfl) h1
  obtain ⟨a2, rfl, rfl, rfl, w2⟩ := open_int Try.underlying3 (hval 2 3 v2 rfl rfl) h2
  obtain ⟨a3, rfl, rfl, rfl, w3⟩ := open_int Try.underlying3 (hval 3 3 v3 rfl rfl) h3
  clear hA0 hval0
  simp only [List.append_nil] at hW'
  refine (walk a0 a1 a2 a3 w0 w1 w2 w3 W).mono fun e W' ⟨he, hg⟩ => ?_
  subst he
  exact ⟨_, rfl, post_of_same (pa := []) (pv := []) hW' (fun _ _ _ => (trodAll_cons_mk (shut_bool Try.underlying4 _) trodAll_mk0)) (fun sp _ => (trodAll_cons_mk (shut_int Try.underlying3 w0) (trodAll_cons_mk (shut_int Try.underlying3 w1) (trodAll_cons_mk (shut_int Try.underlying3 w2) (trodAll_cons_mk (shut_int Try.underlying3 w3) trodAll_mk0))))) (fun _ _ => rfl) rfl
    (hg.frame _) hg.2.1 (ok_one (by kernel_rfl) rfl (okWide_bool_mk Try.underlying4 _))⟩

theorem over : Rows.wholeCrossRow.holds Try.pinned (OpenSpec.ofChange Rows.wholeCrossSpec) :=
  OpenClaim.holds_of_wide 6 Try.f6 rfl rfl rfl rfl rfl rfl rfl ⟨rfl, rfl, rfl, rfl, rfl⟩ rfl rfl rfl rfl rfl (by kernel_rfl) Try.func6 (by kernel_rfl)
    (of_decide_eq_true (by kernel_rfl)) (by unfold Func.isWrapper; first | (rw [if_pos (by decide +kernel)]; kernel_rfl) | (rw [if_neg (by decide +kernel)]; exact ⟨rfl, rfl⟩))
    (fun os started H enc _ => lifted os started H enc)

/-- ████ THE STATEMENT ████ -/
theorem proved : Rows.WholeCrossSaid :=
  over
#print axioms proved
end Go.Proofs.Ytllfjdjihkaadaa.wholeCross
