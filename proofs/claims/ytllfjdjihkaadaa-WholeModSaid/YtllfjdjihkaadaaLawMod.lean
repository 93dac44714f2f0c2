/-
  Proved here: whatever the input, the call of footpath/footpathlaw01.WholeMod of the landed code returns true and leaves its arguments as they were. Conditions: none.
-/
import Derived.Test.YtllfjdjihkaadaaRows
import Derived.WalkKit
import Derived.ProofKit
import Derived.OpenShut
import Derived.ShutString
import Derived.Test.YtllfjdjihkaadaaWholeK
namespace Go.Proofs.Ytllfjdjihkaadaa.wholeMod
open Go.ChangeShapes Go.WideShapes Go.ChangeAt Go.RowKit
open Go.ChangeMaps (open_string shut_string)
set_option linter.unusedVariables false      -- a walk need not use every 'w<i>' (that an integer argument fits its kind)

theorem own : ownKnob Try.prog.godebug = none := by kernel_rfl

/-! ### STEP 1: THE WALK: the Go text returns true. 'Grown w w'': the world has at most new blocks (Derived/RowKit3.lean). Part the cases AHEAD of 'go_enter' where a test parts the walk; take each callee by a contract of your own. -/
theorem walk (a0 : Int) (a1 : Int) (a2 : Int) (w0 : (Lit.int .i64 a0).wf = true) (w1 : (Lit.int .i64 a1).wf = true) (w2 : (Lit.int .i64 a2).wf = true) (w : World) :
    Calls Try.prog 7 #[.int .i64 a0, .int .i64 a1, .int .i64 a2] w fun e w' => e = .returned (.bool true) ∧ Grown w w' := by
  by_cases hg : -1073741824 ≤ a0 ∧ a0 ≤ 1073741824 ∧ 1 ≤ a1 ∧ a1 ≤ 1073741824 ∧ -1000 ≤ a2 ∧ a2 ≤ 1000
  · have hm : -1073741824000 ≤ a1 * a2 ∧ a1 * a2 ≤ 1073741824000 := by
      have h : (a1 * a2).natAbs ≤ 1073741824 * 1000 := by
        rw [Int.natAbs_mul]
        exact Nat.mul_le_mul (by omega) (by omega)
      omega
    have t0 : tameI a0 = a0 := by unfold tameI clampI; omega
    have t1 : tameI a1 = a1 := by unfold tameI clampI; omega
    have t2 : tameI (a0 + a1 * a2) = a0 + a1 * a2 := by unfold tameI clampI; omega
    have hq : floorI a0 a1 = a0.fdiv a1 := by unfold floorI; rw [t0, t1, if_neg (by omega)]
    have he : errI (tameI a1 != 0) = 0 := errI_ok (by rw [t1]; simp; omega)
    have hx : modI a0 a1 = a0 - a1 * a0.fdiv a1 := by unfold modI; rw [t0, t1, if_neg (by omega), Int.fmod_def]
    have hy : modI (a0 + a1 * a2) a1 = a0 - a1 * a0.fdiv a1 := by
      unfold modI
      rw [t2, t1, if_neg (by omega), Int.add_mul_fmod_self_left, Int.fmod_def]
    have hv : modE a1 = 0 := by unfold modE; rw [t1, if_neg (by omega)]
    have hb := mul_fdiv_bd a0 a1 (by omega) (by omega) (by omega)
    have hd : -1073741824 ≤ a0.fdiv a1 ∧ a0.fdiv a1 ≤ 1073741824 := by
      have h1 := Int.mul_fdiv_add_fmod a0 a1
      have h2 := Int.fmod_nonneg_of_pos a0 (b := a1) (by omega)
      have h3 := Int.fmod_lt_of_pos a0 (b := a1) (by omega)
      constructor
      · apply Decidable.byContradiction
        intro hlt
        have : a1 * a0.fdiv a1 ≤ a1 * (-1073741825) := Int.mul_le_mul_of_nonneg_left (by omega) (by omega)
        omega
      · apply Decidable.byContradiction
        intro hlt
        have : a1 * 1073741825 ≤ a1 * a0.fdiv a1 := Int.mul_le_mul_of_nonneg_left (by omega) (by omega)
        omega
    clear t0 t1 t2
    have HQ := Lib.hid hq
    have HE := Lib.hid he
    have HX := Lib.hid hx
    have HY := Lib.hid hy
    have HV := Lib.hid hv
    clear hq he hx hy hv
    go_enter Try.func7, Try.ntmps7
    go_wp2_with fail
    refine (mod_any _ _ _).mono ?_; rw [HX.out, HV.out]; rintro e w' ⟨rfl, rfl⟩
    go_wp2_with fail
    refine (mod_any _ _ _).mono ?_; rw [HY.out, HV.out]; rintro e w' ⟨rfl, rfl⟩
    go_wp2_with fail
    refine (floor_any _ _ _).mono ?_; rw [HQ.out, HE.out]; rintro e w' ⟨rfl, rfl⟩
    go_wp2_with fail
    refine (wakes_any _).mono ?_; rintro e w1 ⟨rfl, c1⟩
    go_wp2_with fail
    go_ret
    exact ⟨rfl, c1.2⟩
  · go_enter Try.func7, Try.ntmps7
    by_cases g1 : a0 < -1073741824
    · clear hg; go_wp2_with (go_at_call 22; refine (wakes_any _).mono ?_; rintro e w1 ⟨rfl, c1⟩); go_ret; exact ⟨rfl, (‹Calm _ _›).2⟩
    by_cases g2 : 1073741824 < a0
    · clear hg; go_wp2_with (go_at_call 22; refine (wakes_any _).mono ?_; rintro e w1 ⟨rfl, c1⟩); go_ret; exact ⟨rfl, (‹Calm _ _›).2⟩
    by_cases g3 : a1 < 1
    · clear hg; go_wp2_with (go_at_call 22; refine (wakes_any _).mono ?_; rintro e w1 ⟨rfl, c1⟩); go_ret; exact ⟨rfl, (‹Calm _ _›).2⟩
    by_cases g4 : 1073741824 < a1
    · clear hg; go_wp2_with (go_at_call 22; refine (wakes_any _).mono ?_; rintro e w1 ⟨rfl, c1⟩); go_ret; exact ⟨rfl, (‹Calm _ _›).2⟩
    by_cases g5 : a2 < -1000
    · clear hg; go_wp2_with (go_at_call 22; refine (wakes_any _).mono ?_; rintro e w1 ⟨rfl, c1⟩); go_ret; exact ⟨rfl, (‹Calm _ _›).2⟩
    by_cases g6 : 1000 < a2
    · clear hg; go_wp2_with (go_at_call 22; refine (wakes_any _).mono ?_; rintro e w1 ⟨rfl, c1⟩); go_ret; exact ⟨rfl, (‹Calm _ _›).2⟩
    exfalso
    omega

/-! ### THE ROW's STEP: WRITTEN OUT: LEAVE IT -/
set_option maxRecDepth 100000 in
theorem lifted (os : Os) (started : os.Started) (H : Type) (enc : TypeId × Value → H) :
    ReturnsInHanded {} Try.checked os 7 .any (Rows.wholeModSpec.pre6 enc Try.prog Try.f7 Rows.wholeModRow.domain false) (Rows.wholeModSpec.post enc Try.prog Try.f7 false true false false) := by
  refine returnsInHanded_of_change (C := Try.checked) own started (by kernel_rfl) Try.func7
    (ChangeSpec.witness6 (enc := enc) (C := Try.checked) false ⟨#[], #[.int .i64 0, .int .i64 0, .int .i64 0], []⟩ 8 (by kernel_rfl) (by kernel_rfl) (by kernel_rfl) (by kernel_rfl)) ?_
  intro W base args ds gs before hval0 hW hcnd _
  have hval : ∀ (j : Nat) t v, Try.f7.params[j]? = some t → args[j]? = some v → Value.okWide Try.prog W .any base t v := hval0
  have hW' := hW
  obtain ⟨p, q, hA0, hV, rfl, hfz, hnd⟩ := hW
  have hA : DataW.TrodAll enc Try.prog W 0 (fun _ => true) true Try.f7.params.toList args.toList ds p := hA0
  rw [Try.params7] at hA hval
  obtain ⟨v0, vs0, d0, ds0, p0, q0, hargs, rfl, rfl, h0, r0⟩ := trodAll_cons hA
  obtain ⟨v1, vs1, d1, ds1, p1, q1, rfl, rfl, rfl, h1, r1⟩ := trodAll_cons r0
  obtain ⟨v2, vs2, d2, ds2, p2, q2, rfl, rfl, rfl, h2, r2⟩ := trodAll_cons r1
  obtain ⟨rfl, rfl, rfl⟩ := trodAll_nil r2
  obtain rfl : args = #[v0, v1, v2] := by cases args; simp_all
  obtain ⟨rfl, rfl⟩ := trodVars_none hV
  obtain ⟨a0, rfl, rfl, rfl, w0⟩ := open_int Try.underlying3 (hval 0 3 v0 rfl rfl) h0
  obtain ⟨a1, rfl, rfl, rfl, w1⟩ := open_int Try.underlying3 (hval 1 3 v1 rfl rfl) h1
  obtain ⟨a2, rfl, rfl, rfl, w2⟩ := open_int Try.underlying3 (hval 2 3 v2 rfl rfl) h2
  clear hA0 hval0
  simp only [List.append_nil] at hW'
  refine (walk a0 a1 a2 w0 w1 w2 W).mono fun e W' ⟨he, hg⟩ => ?_
  subst he
  exact ⟨_, rfl, post_of_same (pa := []) (pv := []) hW' (fun _ _ _ => (trodAll_cons_mk (shut_bool Try.underlying4 _) trodAll_mk0)) (fun sp _ => (trodAll_cons_mk (shut_int Try.underlying3 w0) (trodAll_cons_mk (shut_int Try.underlying3 w1) (trodAll_cons_mk (shut_int Try.underlying3 w2) trodAll_mk0)))) (fun _ _ => rfl) rfl
    (hg.frame _) hg.2.1 (ok_one (by kernel_rfl) rfl (okWide_bool_mk Try.underlying4 _))⟩

theorem over : Rows.wholeModRow.holds Try.pinned (OpenSpec.ofChange Rows.wholeModSpec) :=
  OpenClaim.holds_of_wide 7 Try.f7 rfl rfl rfl rfl rfl rfl rfl ⟨rfl, rfl, rfl, rfl, rfl⟩ rfl rfl rfl rfl rfl (by kernel_rfl) Try.func7 (by kernel_rfl)
    (of_decide_eq_true (by kernel_rfl)) (by unfold Func.isWrapper; first | (rw [if_pos (by decide +kernel)]; kernel_rfl) | (rw [if_neg (by decide +kernel)]; exact ⟨rfl, rfl⟩))
    (fun os started H enc _ => lifted os started H enc)

/-- ████ THE STATEMENT ████ -/
theorem proved : Rows.WholeModSaid :=
  over
#print axioms proved
end Go.Proofs.Ytllfjdjihkaadaa.wholeMod
