/-
  Proved here: whatever the input, the call of footpath/footpathlaw02.GeomStraight of the landed code returns true and leaves its arguments as they were. Conditions: none.
-/
import Derived.Test.YtgpjeijhbikjaaaRows
import Derived.WalkKit
import Derived.ProofKit
import Derived.OpenShut
import Derived.ShutString
import Derived.ChangeOld
import Derived.Below
import Derived.Carry
import Derived.Outline
import Derived.Deep.DeepCutAuto
import Derived.Deep.LoopGhost
import Derived.Test.YtgpjeijhbikjaaaGeomN
import Derived.Test.YtgpjeijhbikjaaaGeomX
import Derived.Test.YtgpjeijhbikjaaaPtsO
namespace Go.Proofs.Ytgpjeijhbikjaaa.geomStraight
open Go.ChangeShapes Go.WideShapes Go.ChangeAt Go.RowKit
set_option linter.unusedVariables false

theorem own : ownKnob Try.prog.godebug = none := by kernel_rfl
theorem laidOut : laidOutB Try.prog = true := by kernel_rfl

/-! The walk: the Go text returns true, and writes nothing that was there. -/
set_option maxRecDepth 100000 in
set_option maxHeartbeats 4000000 in
theorem walk (H : Type) (enc : TypeId × Value → H) (base : Nat) (w : World) (v0 : Value) (d0 : DataW H) (p0 : List MemPlace) (k0 : Value.okWide Try.prog w .any base 24 v0) (h0 : DataW.Trod enc Try.prog w 0 (fun _ => true) true 24 v0 d0 p0) :
    Calls Try.prog 4 #[v0] w fun e w' => e = .returned (.bool true) ∧ Below w.heap.size w w' := by
  obtain ⟨at0, l, c, rfl, hl, HP⟩ := open_pts Try.underlying24 (by kernel_rfl) (by kernel_rfl) k0 h0
  clear h0 k0
  by_cases hlen : 100 < l.length
  · have hd : decide ((100 : Int) < (l.length : Int)) = true := by simp; omega
    clear HP
    unfold maxLen at hl
    go_enter Try.func4, Try.ntmps4
    go_wp2_with fail
    refine (gwakes_any _).mono ?_
    rintro e W1 ⟨rfl, n1⟩
    go_wp2_with fail
    go_ret
    exact ⟨rfl, by have h : New w _ := New.trans (by (repeat (first | (with_reducible exact New.refl _) | (with_reducible assumption) | ((with_reducible refine New.setB ?_ ?_ _); focus (first | omega | (simp; omega) | (simp; done))) | (with_reducible refine New.alloc ?_ _) | (with_reducible refine New.drew ?_) | (with_reducible refine New.drewN ?_ _) | (with_reducible refine New.hat ?_ _) | ((with_reducible apply New.snart); (with_reducible assumption))))) n1; exact h⟩
  have hd : decide ((100 : Int) < (l.length : Int)) = false := by simp; omega
  have hl1 : l.length ≤ 100 := by omega
  clear hlen hl
  have CS := Lib.hid (fun W (h : New w W) => gstraight_any at0 l c W hl1 (HP.keep h))
  have CD := Lib.hid (fun W (h : New w W) => rstraight_any at0 l c W hl1 (HP.keep h))
  by_cases hz : l.length = 0
  · obtain rfl : l = [] := List.eq_nil_of_length_eq_zero hz
    simp only [List.length_nil] at *
    go_enter Try.func4, Try.ntmps4
    go_wp2_with fail
    refine (CS.out _ (New.refl _)).mono ?_
    rintro e W1 ⟨a1, c1, rfl, pa, n1⟩
    rw [straight_nil]
    simp only [List.length_nil]
    go_wp2_with fail
    refine (CD.out _ n1).mono ?_
    rintro e W2 ⟨a2, c2, rfl, pb, n2⟩
    rw [← straight_doc, straight_nil]
    simp only [List.length_nil]
    go_wp2_with fail
    refine (rsame_any a1 a2 [] c1 c2 _ (by simp) (fun h => absurd h (by simp)) (fun h => absurd h (by simp))).mono ?_
    rintro e W3 ⟨rfl, n3⟩
    have hn : New w W3 := New.trans n1 (New.trans n2 n3)
    clear n1 n2 n3 CS CD pa pb
    go_wp2_with fail
    refine wp_loop_rounds 1 ?_
    rw [rounds_succ]
    go_wp2_with fail
    (refine wp_region_hat (by kernel_rfl) (by kernel_rfl) ?_; intro hatc hatf; (repeat (go_big_quiet_step ((go_at_call 7; exact Calls.hat (gwakes_any _))))); refine wpQuiet_nil ?_; rintro _ ⟨x, rfl⟩)
    go_wp2_with fail
    go_ret
    exact ⟨rfl, New.hat hn x⟩
  obtain ⟨A, hA, hA0, hAl, hAg, hAlen, cs', cd'⟩ : ∃ (A : List (Int × Int)) (hA : 0 < A.length), A[0] = inP l[0] ∧ A[A.length - 1] = inP l[l.length - 1] ∧ (∀ i (h : i + 2 < A.length), A[i + 1] ≠ A[i] ∧ onP A[i] A[i + 2] A[i + 1] = false) ∧ A.length ≤ l.length ∧ (∀ W, New w W → Calls Try.prog 16 #[.slice at0 l.length c] W (RowPost W A)) ∧ (∀ W, New w W → Calls Try.prog 18 #[.slice at0 l.length c] W (RowPost W A)) := by
    obtain ⟨hA, hA0⟩ := straight_first (l := l) (by omega)
    have hCD := CD.out
    rw [← straight_doc l] at hCD
    exact ⟨straightL l, hA, hA0, straight_last (l := l) (by omega) hA, straight_good l, straight_length l, CS.out, hCD⟩
  clear CS CD
  have CS := Lib.hid cs'
  have CD := Lib.hid cd'
  clear cs' cd'
  have HG := Lib.hid hAg
  have H0 := Lib.hid hA0
  have H1 := Lib.hid hAl
  have hA1 : A.length ≤ 100 := by omega
  clear hAg hA0 hAl
  have q1 : ((l.length : Int) == 0) = false := by rw [beq_eq_false_iff_ne]; omega
  have q2 : ((A.length : Int) == 0) = false := by rw [beq_eq_false_iff_ne]; omega
  have hl0 : 0 < l.length := by omega
  have HL := Lib.hid HP
  clear HP
  go_enter Try.func4, Try.ntmps4
  go_wp2_with fail
  refine (CS.out _ (New.refl _)).mono ?_
  rintro e W1 ⟨a1, c1, rfl, pa, n1⟩
  go_wp2_with fail
  refine (CD.out _ n1).mono ?_
  rintro e W2 ⟨a2, c2, rfl, pb, n2⟩
  go_wp2_with fail
  refine (rsame_any a1 a2 A c1 c2 _ (by unfold maxLen; omega) (pa.keep n2) pb).mono ?_
  rintro e W3 ⟨rfl, n3⟩
  have hn : New w W3 := New.trans n1 (New.trans n2 n3)
  obtain ⟨g, off, rfl, pt⟩ := (pa.keep (New.trans n2 n3)) hA
  have PT := Lib.hid pt
  clear n1 n2 n3 CS CD pa pb pt
  go_wp2_with fail
  go_loopg [4] A.length (fun k i wr => ∃ m : Nat, m + k = A.length ∧ i = .int .i64 ((m + 1 : Nat) : Int) ∧ New W3 wr)
  case atStart => exact ⟨0, by omega, rfl, New.refl _⟩
  case round =>
    obtain ⟨m, hm, rfl, hw⟩ := hrel
    by_cases hlt : m + 2 < A.length
    · have hg := HG.out m hlt
      have c3 := hw.keep (PT.out m (by omega)).1
      have c4 := hw.keep (PT.out m (by omega)).2
      have c5 := hw.keep (PT.out (m + 1) (by omega)).1
      have c6 := hw.keep (PT.out (m + 1) (by omega)).2
      have c7 := hw.keep (PT.out (m + 1 + 1) (by omega)).1
      have c8 := hw.keep (PT.out (m + 1 + 1) (by omega)).2
      have hq : ptEq A[m + 1].1 A[m + 1].2 A[m].1 A[m].2 = false := by
        cases h : ptEq A[m + 1].1 A[m + 1].2 A[m].1 A[m].2
        · rfl
        · obtain ⟨e1, e2⟩ := ptEq_iff.1 h
          exact absurd (Prod.ext e1 e2) hg.1
      have CO := Lib.hid (fun W => by have q' := gon_any A[m].1 A[m].2 A[m + 1 + 1].1 A[m + 1 + 1].2 A[m + 1].1 A[m + 1].2 W; rw [show onB A[m].1 A[m].2 A[m + 1 + 1].1 A[m + 1 + 1].2 A[m + 1].1 A[m + 1].2 = false from hg.2] at q'; exact q' : ∀ W, Calls Try.prog 12 #[.agg #[.int .i64 A[m].1, .int .i64 A[m].2], .agg #[.int .i64 A[m + 1 + 1].1, .int .i64 A[m + 1 + 1].2], .agg #[.int .i64 A[m + 1].1, .int .i64 A[m + 1].2]] W fun e w' => e = .returned (.bool false) ∧ New W w')
      clear hg
      have PE := pt_eql
      have hdl : decide (((m + 1 : Nat) : Int) + 1 < (A.length : Int)) = true := by simp; omega
      go_wp2_with fail
      (refine wp_region_hat (by kernel_rfl) (by kernel_rfl) ?_; intro hatc hatf; (repeat (go_big_quiet_step ((go_at_call 12; exact Calls.hat (CO.out _))))); refine wpQuiet_nil ?_; rintro _ ⟨x, rfl⟩)
      clear PE c3 c4 c5 c6 c7 c8 hatc hatf CO hq
      replace hw := New.trans hw x.h
      generalize x.w = V at *
      go_wp2_with fail
      go_roundg (gk - 1)
      case measure => omega
      case rel => exact ⟨m + 1, by omega, by go_num, hw⟩
    · have hdl : decide (((m + 1 : Nat) : Int) + 1 < (A.length : Int)) = false := by simp; omega
      obtain ⟨b0, o0, rfl, lp⟩ := HL.out hl0
      have c3 := hw.keep (PT.out 0 hA).1
      have c4 := hw.keep (PT.out 0 hA).2
      have c5 := hw.keep (PT.out (A.length - 1) (by omega)).1
      have c6 := hw.keep (PT.out (A.length - 1) (by omega)).2
      have c7 := (New.trans hn hw).keep (lp 0 hl0).1
      have c8 := (New.trans hn hw).keep (lp 0 hl0).2
      have c9 := (New.trans hn hw).keep (lp (l.length - 1) (by omega)).1
      have c10 := (New.trans hn hw).keep (lp (l.length - 1) (by omega)).2
      simp only [Nat.zero_mul, Nat.add_zero] at c3 c4 c7 c8
      have e0 : ptEq A[0].1 A[0].2 (inI l[0].1) (inI l[0].2) = true := by rw [H0.out]; exact ptEq_true rfl rfl
      have e1 : ptEq A[A.length - 1].1 A[A.length - 1].2 (inI l[l.length - 1].1) (inI l[l.length - 1].2) = true := by rw [H1.out]; exact ptEq_true rfl rfl
      have PE := pt_eql
      clear HG PT HL
      go_wp2_with fail
      (refine wp_region_hat (by kernel_rfl) (by kernel_rfl) ?_; intro hatc hatf; (repeat (go_big_quiet_step ((first | (go_at_call 19; exact Calls.hat (rin_any _ _ _)) | (go_at_call 7; exact Calls.hat (gwakes_any _)))))); refine wpQuiet_nil ?_; rintro _ ⟨x, rfl⟩)
      clear PE c3 c4 c5 c6 c7 c8 c9 c10 e0 e1 hatc hatf
      go_wp2_with fail
      go_ret
      exact ⟨rfl, New.trans hn (New.trans hw x.h)⟩

/-! The row over the walk: the arguments are read again behind the call. -/
set_option maxRecDepth 100000 in
theorem lifted (os : Os) (started : os.Started) (H : Type) (enc : TypeId × Value → H) :
    ReturnsInHanded {} Try.checked os 4 .any (Rows.geomStraightSpec.pre6 enc Try.prog Try.f4 Rows.geomStraightRow.domain false) (Rows.geomStraightSpec.post enc Try.prog Try.f4 false true false false) := by
  refine returnsInHanded_of_change (C := Try.checked) own started (by kernel_rfl) Try.func4
    (ChangeSpec.witness6 (enc := enc) (C := Try.checked) false ⟨#[], #[.slice none 0 0], []⟩ 8 (by kernel_rfl) (by kernel_rfl) (by kernel_rfl) (by kernel_rfl)) ?_
  intro W base args ds gs before hval0 hW hcnd _
  have hval : ∀ (j : Nat) t v, Try.f4.params[j]? = some t → args[j]? = some v → Value.okWide Try.prog W .any base t v := hval0
  have hW' := hW
  obtain ⟨p, q, hA0, hV, rfl, hfz, hnd⟩ := hW
  have hA : DataW.TrodAll enc Try.prog W 0 (fun _ => true) true Try.f4.params.toList args.toList ds p := hA0
  rw [Try.params4] at hA hval
  obtain ⟨v0, vs0, d0, ds0, p0, q0, hargs, rfl, rfl, h0, r0⟩ := trodAll_cons hA
  obtain ⟨rfl, rfl, rfl⟩ := trodAll_nil r0
  obtain rfl : args = #[v0] := by cases args; simp_all
  obtain ⟨rfl, rfl⟩ := trodVars_none hV
  have lt0 : ∀ x ∈ p0, x.block < W.heap.size := by obtain ⟨m, hm⟩ := h0; exact DataW.trod_lt m _ _ _ hm
  clear hA0
  refine (walk H enc base W v0 d0 p0 (hval 0 24 v0 rfl rfl) h0).mono fun e W' ⟨he, bel⟩ => ?_
  subst he
  exact ⟨_, rfl, _, _, _, [], _, [], hW', trodAll_mk1 (shut_bool Try.underlying4 _), (trodAll_cons_mk (Below.trod laidOut (by kernel_rfl) (of_decide_eq_true (by kernel_rfl)) h0 bel lt0) trodAll_mk0), rfl, bel.frame _, fun h => by cases h⟩

theorem over : Rows.geomStraightRow.holds Try.pinned (OpenSpec.ofChange Rows.geomStraightSpec) :=
  OpenClaim.holds_of_wide 4 Try.f4 rfl rfl rfl rfl rfl rfl rfl ⟨rfl, rfl, rfl, rfl, rfl⟩ rfl rfl rfl rfl rfl (by kernel_rfl) Try.func4 (by kernel_rfl)
    (of_decide_eq_true (by kernel_rfl)) (by unfold Func.isWrapper; first | (rw [if_pos (by decide +kernel)]; kernel_rfl) | (rw [if_neg (by decide +kernel)]; exact ⟨rfl, rfl⟩))
    (fun os started H enc _ => lifted os started H enc)

/-- The given statement. -/
theorem proved : Rows.GeomStraightSaid := over
#print axioms proved
end Go.Proofs.Ytgpjeijhbikjaaa.geomStraight
