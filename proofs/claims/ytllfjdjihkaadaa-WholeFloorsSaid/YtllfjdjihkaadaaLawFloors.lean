/-
  Proved here: whatever the input, the call of footpath/footpathlaw01.WholeFloors of the landed code returns true and leaves its arguments as they were. Conditions: none.
-/
import Derived.Test.YtllfjdjihkaadaaRows
import Derived.WalkKit
import Derived.ProofKit
import Derived.OpenShut
import Derived.ShutString
import Derived.Test.YtllfjdjihkaadaaFloorsD
import Derived.Test.YtllfjdjihkaadaaFloorsC
import Derived.Test.YtllfjdjihkaadaaFloorsB
import Derived.Test.YtllfjdjihkaadaaFloorsA
namespace Go.Proofs.Ytllfjdjihkaadaa.wholeFloors
open Go.ChangeShapes Go.WideShapes Go.ChangeAt Go.RowKit
open Go.ChangeMaps (open_string shut_string)
set_option linter.unusedVariables false      -- a walk need not use every 'w<i>' (that an integer argument fits its kind)

theorem own : ownKnob Try.prog.godebug = none := by kernel_rfl

/-! ### STEP 1: THE WALK: the Go text returns true. 'Grown w w'': the world has at most new blocks (Derived/RowKit3.lean). Part the cases AHEAD of 'go_enter' where a test parts the walk; take each callee by a contract of your own. -/
set_option maxRecDepth 100000 in
set_option maxHeartbeats 4000000 in
theorem walk (a0 : Int) (a1 : Int) (w0 : (Lit.int .i64 a0).wf = true) (w1 : (Lit.int .i64 a1).wf = true) (w : World) :
    Calls Try.prog 5 #[.int .i64 a0, .int .i64 a1] w fun e w' => e = .returned (.bool true) ∧ Grown w w' := by
  by_cases hg : -1152921504606846976 ≤ a0 ∧ a0 ≤ 1152921504606846976 ∧ 1 ≤ a1 ∧ a1 ≤ 1152921504606846976
  · obtain ⟨q, m, hf, hm, hn, hc, m0, m1, hp, q0, q1, hpos, hneg, hbig⟩ := floor_facts (a := a0) (b := a1) (by omega) (by omega) (by omega)
    have t1 : tameI a1 = a1 := tame_in (by omega)
    have he : errI (tameI a1 != 0) = 0 := errI_ok (by rw [t1]; simp; omega)
    have hv : modE a1 = 0 := by unfold modE; rw [t1, if_neg (by omega)]
    have ht := tdiv_bd a0 a1 (by omega)
    have df : ∀ {p : Prop} [Decidable p], ¬ p → decide p = false := fun h => by simpa using h
    have dt : ∀ {p : Prop} [Decidable p], p → decide p = true := fun h => by simpa using h
    by_cases hz : m = 0
    · subst hz
      simp only [if_true] at hn hc hbig
      rw [Int.sub_zero] at hp
      by_cases hs : a0 < 0
      · rcases hneg hs with hq | hq
        · exact fl_nz_t a0 a1 q w (by omega) (by omega) (by omega) (by omega) q0 q1 (by omega) (df (by omega)) (df (by omega)) (df (by omega)) (df (by omega)) (df (by omega)) (df (by omega)) (df (by omega)) hp (dt hs) (by simpa using hq) hf he hc hn hm hv
        · exact fl_nz_s a0 a1 q w (by omega) (by omega) (by omega) (by omega) q0 q1 (by omega) (df (by omega)) (df (by omega)) (df (by omega)) (df (by omega)) (df (by omega)) (df (by omega)) (df (by omega)) hp (dt hs) ht.1 ht.2 (by simp; omega) (by simpa using hq) hf he hc hn hm hv
      · have hq := hpos (by omega)
        have t0 : tameI a0 = a0 := tame_in (by omega)
        obtain ⟨r0, r1, r2⟩ := rootI_is (n := a0) (by omega)
        have r3 := rootI_bd (n := a0) (by omega) (by omega)
        have r4 := sq_bd (k := rootI a0 + 1) (by omega) (by omega)
        have r5 := sq_bd (k := rootI a0) (by omega) (by omega)
        have hre : rootE a0 = 0 := by unfold rootE; rw [t0, if_pos (by omega)]
        have hrv : rootV a0 = rootI a0 := by unfold rootV; rw [t0, if_pos (by omega)]
        have huv : upV a0 = upI a0 := by unfold upV; rw [t0, if_pos (by omega)]
        by_cases hl : rootI a0 * rootI a0 < a0
        · have hup : upI a0 = rootI a0 + 1 := if_pos hl
          exact fl_pz_r a0 a1 q (rootI a0) w (by omega) (by omega) (by omega) (by omega) q0 q1 (by omega) (df (by omega)) (df (by omega)) (df (by omega)) (df (by omega)) (df (by omega)) (df (by omega)) (df (by omega)) hp (by omega) (df (by omega)) (by simpa using hq) r0 (by omega) r5.1 (by omega) r4.1 r4.2 (dt r1) (dt r2) (df (by omega)) (df (by omega)) (by simp; omega) (by simp; omega) (by simp; omega) (huv.trans hup) hre hrv hf he hc hn hm hv
        · have hup : upI a0 = rootI a0 := if_neg hl
          exact fl_pz_e a0 a1 q (rootI a0) w (by omega) (by omega) (by omega) (by omega) q0 q1 (by omega) (df (by omega)) (df (by omega)) (df (by omega)) (df (by omega)) (df (by omega)) (df (by omega)) (df (by omega)) hp (by omega) (df (by omega)) (by simpa using hq) r0 (by omega) r5.1 (by omega) r4.1 r4.2 (dt r1) (dt r2) (df (by omega)) (df (by omega)) (by simp; omega) (huv.trans hup) hre hrv hf he hc hn hm hv
    · simp only [if_neg hz] at hn hc hbig
      by_cases hs : a0 < 0
      · rcases hneg hs with hq | hq
        · exact fl_nm_t a0 a1 q m w (by omega) (by omega) (by omega) (by omega) q0 q1 (by omega) (df (by omega)) (df (by omega)) (df (by omega)) (df (by omega)) (df (by omega)) (df (by omega)) (df (by omega)) (df (by omega)) m0 m1 (df (by omega)) (df (by omega)) (by simpa using hz) (by simp; omega) hp (by simp) (dt hs) (by simpa using hq) hf he hc hn hm hv
        · exact fl_nm_s a0 a1 q m w (by omega) (by omega) (by omega) (by omega) q0 q1 (by omega) (df (by omega)) (df (by omega)) (df (by omega)) (df (by omega)) (df (by omega)) (df (by omega)) (df (by omega)) (df (by omega)) m0 m1 (df (by omega)) (df (by omega)) (by simpa using hz) (by simp; omega) hp (by simp) (dt hs) ht.1 ht.2 (by simp; omega) (by simpa using hq) hf he hc hn hm hv
      · have hq := hpos (by omega)
        have t0 : tameI a0 = a0 := tame_in (by omega)
        obtain ⟨r0, r1, r2⟩ := rootI_is (n := a0) (by omega)
        have r3 := rootI_bd (n := a0) (by omega) (by omega)
        have r4 := sq_bd (k := rootI a0 + 1) (by omega) (by omega)
        have r5 := sq_bd (k := rootI a0) (by omega) (by omega)
        have hre : rootE a0 = 0 := by unfold rootE; rw [t0, if_pos (by omega)]
        have hrv : rootV a0 = rootI a0 := by unfold rootV; rw [t0, if_pos (by omega)]
        have huv : upV a0 = upI a0 := by unfold upV; rw [t0, if_pos (by omega)]
        by_cases hl : rootI a0 * rootI a0 < a0
        · have hup : upI a0 = rootI a0 + 1 := if_pos hl
          exact fl_pm_r a0 a1 q m (rootI a0) w (by omega) (by omega) (by omega) (by omega) q0 q1 (by omega) (df (by omega)) (df (by omega)) (df (by omega)) (df (by omega)) (df (by omega)) (df (by omega)) (df (by omega)) (df (by omega)) m0 m1 (df (by omega)) (df (by omega)) (by simpa using hz) (by simp; omega) hp (by simp) (by omega) (df (by omega)) (by simpa using hq) r0 (by omega) r5.1 (by omega) r4.1 r4.2 (dt r1) (dt r2) (df (by omega)) (df (by omega)) (by simp; omega) (by simp; omega) (by simp; omega) (huv.trans hup) hre hrv hf he hc hn hm hv
        · have hup : upI a0 = rootI a0 := if_neg hl
          exact fl_pm_e a0 a1 q m (rootI a0) w (by omega) (by omega) (by omega) (by omega) q0 q1 (by omega) (df (by omega)) (df (by omega)) (df (by omega)) (df (by omega)) (df (by omega)) (df (by omega)) (df (by omega)) (df (by omega)) m0 m1 (df (by omega)) (df (by omega)) (by simpa using hz) (by simp; omega) hp (by simp) (by omega) (df (by omega)) (by simpa using hq) r0 (by omega) r5.1 (by omega) r4.1 r4.2 (dt r1) (dt r2) (df (by omega)) (df (by omega)) (by simp; omega) (huv.trans hup) hre hrv hf he hc hn hm hv
  · go_enter Try.func5, Try.ntmps5
    by_cases g0 : a0 < -1152921504606846976
    · clear hg; go_wp2_with (go_at_call 22; refine (wakes_any _).mono ?_; rintro e w1 ⟨rfl, c1⟩); go_ret; exact ⟨rfl, (‹Calm _ _›).2⟩
    by_cases g1 : 1152921504606846976 < a0
    · clear hg; go_wp2_with (go_at_call 22; refine (wakes_any _).mono ?_; rintro e w1 ⟨rfl, c1⟩); go_ret; exact ⟨rfl, (‹Calm _ _›).2⟩
    by_cases g2 : a1 < 1
    · clear hg; go_wp2_with (go_at_call 22; refine (wakes_any _).mono ?_; rintro e w1 ⟨rfl, c1⟩); go_ret; exact ⟨rfl, (‹Calm _ _›).2⟩
    by_cases g3 : 1152921504606846976 < a1
    · clear hg; go_wp2_with (go_at_call 22; refine (wakes_any _).mono ?_; rintro e w1 ⟨rfl, c1⟩); go_ret; exact ⟨rfl, (‹Calm _ _›).2⟩
    exfalso
    omega

/-! ### THE ROW's STEP: WRITTEN OUT: LEAVE IT -/
set_option maxRecDepth 100000 in
theorem lifted (os : Os) (started : os.Started) (H : Type) (enc : TypeId × Value → H) :
    ReturnsInHanded {} Try.checked os 5 .any (Rows.wholeFloorsSpec.pre6 enc Try.prog Try.f5 Rows.wholeFloorsRow.domain false) (Rows.wholeFloorsSpec.post enc Try.prog Try.f5 false true false false) := by
  refine returnsInHanded_of_change (C := Try.checked) own started (by kernel_rfl) Try.func5
    (ChangeSpec.witness6 (enc := enc) (C := Try.checked) false ⟨#[], #[.int .i64 0, .int .i64 0], []⟩ 8 (by kernel_rfl) (by kernel_rfl) (by kernel_rfl) (by kernel_rfl)) ?_
  intro W base args ds gs before hval0 hW hcnd _
  have hval : ∀ (j : Nat) t v, Try.f5.params[j]? = some t → args[j]? = some v → Value.okWide Try.prog W .any base t v := hval0
  have hW' := hW
  obtain ⟨p, q, hA0, hV, rfl, hfz, hnd⟩ := hW
  have hA : DataW.TrodAll enc Try.prog W 0 (fun _ => true) true Try.f5.params.toList args.toList ds p := hA0
  rw [Try.params5] at hA hval
  obtain ⟨v0, vs0, d0, ds0, p0, q0, hargs, rfl, rfl, h0, r0⟩ := trodAll_cons hA
  obtain ⟨v1, vs1, d1, ds1, p1, q1, rfl, rfl, rfl, h1, r1⟩ := trodAll_cons r0
  obtain ⟨rfl, rfl, rfl⟩ := trodAll_nil r1
  obtain rfl : args = #[v0, v1] := by cases args; simp_all
  obtain ⟨rfl, rfl⟩ := trodVars_none hV
  obtain ⟨a0, rfl, rfl, rfl, w0⟩ := open_int Try.underlying3 (hval 0 3 v0 rfl rfl) h0
  obtain ⟨a1, rfl, rfl, rfl, w1⟩ := open_int Try.underlying3 (hval 1 3 v1 rfl rfl) h1
  clear hA0 hval0
  simp only [List.append_nil] at hW'
  refine (walk a0 a1 w0 w1 W).mono fun e W' ⟨he, hg⟩ => ?_
  subst he
  exact ⟨_, rfl, post_of_same (pa := []) (pv := []) hW' (fun _ _ _ => (trodAll_cons_mk (shut_bool Try.underlying4 _) trodAll_mk0)) (fun sp _ => (trodAll_cons_mk (shut_int Try.underlying3 w0) (trodAll_cons_mk (shut_int Try.underlying3 w1) trodAll_mk0))) (fun _ _ => rfl) rfl
    (hg.frame _) hg.2.1 (ok_one (by kernel_rfl) rfl (okWide_bool_mk Try.underlying4 _))⟩

theorem over : Rows.wholeFloorsRow.holds Try.pinned (OpenSpec.ofChange Rows.wholeFloorsSpec) :=
  OpenClaim.holds_of_wide 5 Try.f5 rfl rfl rfl rfl rfl rfl rfl ⟨rfl, rfl, rfl, rfl, rfl⟩ rfl rfl rfl rfl rfl (by kernel_rfl) Try.func5 (by kernel_rfl)
    (of_decide_eq_true (by kernel_rfl)) (by unfold Func.isWrapper; first | (rw [if_pos (by decide +kernel)]; kernel_rfl) | (rw [if_neg (by decide +kernel)]; exact ⟨rfl, rfl⟩))
    (fun os started H enc _ => lifted os started H enc)

/-- ████ THE STATEMENT ████ -/
theorem proved : Rows.WholeFloorsSaid :=
  over
#print axioms proved
end Go.Proofs.Ytllfjdjihkaadaa.wholeFloors
