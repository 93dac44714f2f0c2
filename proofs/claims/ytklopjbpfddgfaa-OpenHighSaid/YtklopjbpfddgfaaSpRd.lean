/- The document's own Check, Put, Solid, Same. -/
import Derived.Test.YtklopjbpfddgfaaSpRb
import Derived.Test.YtklopjbpfddgfaaSpQ0
import Derived.Test.YtklopjbpfddgfaaSoXS
import Derived.Test.YtklopjbpfddgfaaSlApp
import Derived.Deep.LoopGhost
import Derived.Deep.DeepCutAuto
namespace Go.Proofs.Ytklopjbpfddgfaa
open Go.RowKit
set_option linter.unusedVariables false

theorem Sl.with_eq {α : Type} {enc : α → List Value} {k : Nat} {w : World} {v : Value} {l : List α} (h : Sl enc k w v l) : ∃ a c, v = .slice a l.length c ∧ True := by
  obtain ⟨a, c, e, _⟩ := h
  exact ⟨a, c, e, trivial⟩

set_option maxHeartbeats 4000000 in
set_option maxRecDepth 100000 in
theorem rs_check (at0 : Option Addr) (l : List Sn) (c : Nat) (hl : l.length ≤ maxLen) (w : World) (H : RowIn Sn.enc 3 w at0 l) :
    Calls Try.prog 19 #[.slice at0 l.length c] w fun e w' => e = .returned (.int .i64 (spE l)) ∧ New w w' := by
  have KM := Lib.hid (fun p W => r_may p W)
  have HH := Lib.hid H
  unfold maxLen at hl
  clear H
  obtain ⟨r, hr⟩ : ∃ r, r = spE l := ⟨_, rfl⟩
  rw [← hr]
  have HR := Lib.hid hr
  obtain ⟨n, hn⟩ : ∃ n, n = l.length := ⟨_, rfl⟩
  rw [← hn] at hl ⊢
  have HN := Lib.hid hn
  clear hn hr
  go_enter Try.func19, Try.ntmps19
  go_wp2_with fail
  · rename_i h8
    have HE : Hid (r = 2) := Lib.hid (by rw [HR.out]; exact chkE_long (by have := HN.out; omega))
    go_ret
    exact ⟨by rw [HE.out]; rfl, by (repeat (first | (with_reducible exact New.refl _) | (with_reducible assumption) | ((with_reducible refine New.setB ?_ ?_ _); focus (first | omega | (simp; omega) | (simp; done))) | (with_reducible refine New.alloc ?_ _) | (with_reducible refine New.drew ?_) | (with_reducible refine New.drewN ?_ _) | (with_reducible refine New.hat ?_ _) | ((with_reducible apply New.snart); (with_reducible assumption))))⟩
  · rename_i h8
    go_loopg [3] n (fun gk s3 wr => ∃ i : Nat, s3 = .int .i64 i ∧ i ≤ n ∧ n - i ≤ gk ∧ Hid (∀ j (h : j < l.length), j < i → badS l[j] = false) ∧ Hid (∀ j (h : j + 1 < l.length), j + 1 < i → l[j].hi < l[j + 1].lo) ∧ Hid (New w wr))
    case atStart => exact ⟨0, rfl, by omega, by omega, Lib.hid (fun j h hj => by omega), Lib.hid (fun j h hj => by omega), Lib.hid (by (repeat (first | (with_reducible exact New.refl _) | (with_reducible assumption) | ((with_reducible refine New.setB ?_ ?_ _); focus (first | omega | (simp; omega) | (simp; done))) | (with_reducible refine New.alloc ?_ _) | (with_reducible refine New.drew ?_) | (with_reducible refine New.drewN ?_ _) | (with_reducible refine New.hat ?_ _) | ((with_reducible apply New.snart); (with_reducible assumption)))))⟩
    case round =>
      obtain ⟨i, rfl, hi, hgk, HB, HS, hnr⟩ := hrel
      by_cases hlt : i < n
      · have hil : i < l.length := by rw [← HN.out]; exact hlt
        obtain ⟨b0, off, rfl, hA⟩ := HH.out (by omega)
        have hA' := hA.keep hnr.out
        obtain ⟨c0, c1, c2⟩ := Sn.cells hA' i hil
        have HA := Lib.hid hA'
        clear hA hA'
        obtain ⟨E, hE⟩ : ∃ E, E = l[i] := ⟨_, rfl⟩
        rw [← hE] at c0 c1 c2
        have HEE := Lib.hid hE
        clear hE
        cases hb : badS E
        · have KC : Hid (∀ W, Calls Try.prog 31 #[.agg #[.int .i64 E.lo, .int .i64 E.hi, .bool E.wk]] W fun e w' => e = .returned (.bool true) ∧ New W w') := Lib.hid (fun W => by have := KM.out E W; rw [hb] at this; exact this)
          have HBE := Lib.hid hb
          have hall : Hid (∀ j (h : j < l.length), j < i + 1 → badS l[j] = false) := Lib.hid (fun j h hj => by
            by_cases e : j < i
            · exact HB.out j h e
            · have e2 : j = i := by omega
              subst e2
              rw [← HEE.out]; exact hb)
          clear hb HB
          by_cases hi0 : i = 0
          · have hgt : decide (0 < i) = false := decide_eq_false (by omega)
            have HI0 := Lib.hid hi0
            clear hi0
            go_upto_region 6 with fail
            (refine wp_region_hat (by kernel_rfl) (by kernel_rfl) ?_; intro hatc hatf; (repeat (go_big_quiet_step ((go_at_call 31; exact Calls.hat (KC.out _))))); refine wpQuiet_nil ?_; rintro _ ⟨X, rfl⟩)
            clear hatc hatf
            have n2 := Lib.hid (hnr.out.trans X.h)
            generalize X.w = W2 at *
            clear X c0 c1 c2
            go_wp2_with fail
            go_roundg (n - (i + 1))
            case measure => omega
            case rel => exact ⟨i + 1, by go_num, by omega, by omega, hall, Lib.hid (fun j h hj => by have := HI0.out; omega), n2⟩
          · obtain ⟨d0, d1, d2⟩ := Sn.cells HA.out (i - 1) (by omega)
            have hz : IntKind.i64.wrap ((i : Int) - 1) = ((i - 1 : Nat) : Int) := by rw [IntWalk.i64_in _ (by omega)]; omega
            have hlt2 : i - 1 < n := by omega
            have hgt : decide (0 < i) = true := decide_eq_true (by omega)
            obtain ⟨y, hy⟩ : ∃ y, y = l[i - 1].hi := ⟨_, rfl⟩
            rw [← hy] at d1
            have HY := Lib.hid hy
            clear hy d0 d2
            by_cases hm : E.lo ≤ y
            · have hm' : decide (E.lo ≤ y) = true := decide_eq_true hm
              have HE : Hid (r = 2) := Lib.hid (by
                rw [HR.out]
                refine chkE_meet (i - 1) (by omega) ?_
                have e : i - 1 + 1 = i := by omega
                simp only [e]
                rw [← HEE.out, ← HY.out]; exact hm)
              go_upto_region 6 with fail
              (refine wp_region_hat (by kernel_rfl) (by kernel_rfl) ?_; intro hatc hatf; (repeat (go_big_quiet_step ((go_at_call 31; exact Calls.hat (KC.out _))))); refine wpQuiet_nil ?_; rintro _ ⟨X, rfl⟩)
              clear hatc hatf
              have n2 := hnr.out.trans X.h
              generalize X.w = W2 at *
              clear X
              go_wp2_with fail
              go_ret
              exact ⟨by rw [HE.out]; rfl, n2⟩
            · have hm' : decide (E.lo ≤ y) = false := decide_eq_false hm
              have HM := Lib.hid hm
              clear hm
              go_upto_region 6 with fail
              (refine wp_region_hat (by kernel_rfl) (by kernel_rfl) ?_; intro hatc hatf; (repeat (go_big_quiet_step ((go_at_call 31; exact Calls.hat (KC.out _))))); refine wpQuiet_nil ?_; rintro _ ⟨X, rfl⟩)
              clear hatc hatf
              have n2 := Lib.hid (hnr.out.trans X.h)
              generalize X.w = W2 at *
              clear X
              go_wp2_with fail
              go_roundg (n - (i + 1))
              case measure => omega
              case rel =>
                refine ⟨i + 1, by go_num, by omega, by omega, hall, Lib.hid (fun j h hj => ?_), n2⟩
                by_cases e : j + 1 < i
                · exact HS.out j h e
                · have e2 : j + 1 = i := by omega
                  subst e2
                  have := HM.out
                  rw [HY.out, HEE.out] at this
                  simpa using this
        · have KC : Hid (∀ W, Calls Try.prog 31 #[.agg #[.int .i64 E.lo, .int .i64 E.hi, .bool E.wk]] W fun e w' => e = .returned (.bool false) ∧ New W w') := Lib.hid (fun W => by have := KM.out E W; rw [hb] at this; exact this)
          have HE : Hid (r = 2) := Lib.hid (by
            rw [HR.out]
            exact chkE_bad (List.any_eq_true.2 ⟨l[i], List.getElem_mem hil, by rw [← HEE.out]; exact hb⟩))
          clear hb
          go_upto_region 6 with fail
          (refine wp_region_hat (by kernel_rfl) (by kernel_rfl) ?_; intro hatc hatf; (repeat (go_big_quiet_step ((go_at_call 31; exact Calls.hat (KC.out _))))); refine wpQuiet_nil ?_; rintro _ ⟨X, rfl⟩)
          clear hatc hatf
          have n2 := hnr.out.trans X.h
          generalize X.w = W2 at *
          clear X
          go_wp2_with fail
          go_ret
          exact ⟨by rw [HE.out]; rfl, n2⟩
      · have HE : Hid (r = 0) := Lib.hid (by
          rw [HR.out]
          refine chkE_fine (by have := HN.out; omega) ?_ (fun j h => HS.out j h (by have := HN.out; omega))
          unfold fstB
          rw [List.any_eq_false]
          intro p hp
          obtain ⟨j, hj, rfl⟩ := List.getElem_of_mem hp
          rw [HB.out j hj (by have := HN.out; omega)]; simp)
        go_wp2_with fail
        go_ret
        exact ⟨by rw [HE.out]; rfl, hnr.out⟩

end Go.Proofs.Ytklopjbpfddgfaa
