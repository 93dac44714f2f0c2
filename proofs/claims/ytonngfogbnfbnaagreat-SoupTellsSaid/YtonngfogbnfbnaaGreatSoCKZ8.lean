import Derived.Test.YtonngfogbnfbnaaGreatSoYZ8
import Derived.Test.YtonngfogbnfbnaaGreatSlAppZ8

/- The document's package of soups: Same. -/
namespace Go.Proofs.YtonngfogbnfbnaaGreat
open Go.RowKit
set_option linter.unusedVariables false
set_option linter.unusedSimpArgs false
set_option maxRecDepth 100000

set_option maxHeartbeats 20000000 in
theorem u_same (S T : SoupV) (w : World) (hS : S.ok w) (hT : T.ok w) :
    Calls Tryz.prog 14 #[.agg #[.slice S.a0 S.ts.length S.c0, .slice S.a1 S.bs.length S.c1, .slice S.a2 S.hs.length S.c2], .agg #[.slice T.a0 T.ts.length T.c0, .slice T.a1 T.bs.length T.c1, .slice T.a2 T.hs.length T.c2]] w fun e w' => e = .returned (.bool (sameS S T)) ∧ New w w' := by
  have GT := Lib.hid hS.t.row.2.2.2.2
  have FT := Lib.hid hT.t.row.2.2.2.2
  have mT := Nat.le_trans hS.t.row.2.1 hS.t.row.2.2.1
  have nT := Nat.le_trans hT.t.row.2.1 hT.t.row.2.2.1
  unfold maxLen at mT nT
  have GB := Lib.hid hS.b.row.2.2.2.2
  have FB := Lib.hid hT.b.row.2.2.2.2
  have mB := Nat.le_trans hS.b.row.2.1 hS.b.row.2.2.1
  have nB := Nat.le_trans hT.b.row.2.1 hT.b.row.2.2.1
  unfold maxLen at mB nB
  have GH := Lib.hid hS.h.row.2.2.2.2
  have FH := Lib.hid hT.h.row.2.2.2.2
  have mH := Nat.le_trans hS.h.row.2.1 hS.h.row.2.2.1
  have nH := Nat.le_trans hT.h.row.2.1 hT.h.row.2.2.1
  unfold maxLen at mH nH
  have NO : Hid (¬ (S.ts = T.ts ∧ S.bs = T.bs ∧ S.hs = T.hs) → sameS S T = false) := Lib.hid (fun h => by
    cases hh : sameS S T
    · rfl
    · exact absurd (sameS_iff.1 hh) h)
  have YES : Hid (S.ts = T.ts → S.bs = T.bs → S.hs = T.hs → sameS S T = true) := Lib.hid (fun a b c => sameS_iff.2 ⟨a, b, c⟩)
  generalize sameS S T = v at *
  obtain ⟨ts, bs, hs, a0, a1, a2, k0, k1, k2⟩ := S
  obtain ⟨ts', bs', hs', b0, b1, b2, j0, j1, j2⟩ := T
  dsimp only at *
  clear hS hT
  by_cases hl : ts.length = ts'.length ∧ bs.length = bs'.length ∧ hs.length = hs'.length
  rotate_left
  · have hv : Hid (v = false) := Lib.hid (NO.out (fun ⟨e1, e2, e3⟩ => hl ⟨by rw [e1], by rw [e2], by rw [e3]⟩))
    have hl' : ¬ ((ts.length : Int) = (ts'.length : Int) ∧ (bs.length : Int) = (bs'.length : Int) ∧ (hs.length : Int) = (hs'.length : Int)) := by omega
    clear hl NO YES
    generalize ts.length = n0 at *
    generalize ts'.length = n1 at *
    generalize bs.length = n2 at *
    generalize bs'.length = n3 at *
    generalize hs.length = n4 at *
    generalize hs'.length = n5 at *
    cases e0 : ((n0 : Int) != (n1 : Int)) <;> cases e1 : ((n2 : Int) != (n3 : Int)) <;> cases e2 : ((n4 : Int) != (n5 : Int))
    all_goals
      first
        | (exfalso; simp only [bne_eq_false_iff_eq] at e0 e1 e2; omega)
        | (clear hl'
           go_enter Tryz.func14, Tryz.ntmps14
           go_wp2_with fail
           go_ret
           rw [hv.out]
           exact ⟨rfl, by (repeat (first | (with_reducible exact New.refl _) | (with_reducible assumption) | ((with_reducible refine New.setB ?_ ?_ _); focus (first | omega | (simp; omega) | (simp; done))) | (with_reducible refine New.alloc ?_ _) | (with_reducible refine New.drew ?_) | (with_reducible refine New.drewN ?_ _) | (with_reducible refine New.hat ?_ _) | ((with_reducible apply New.snart); (with_reducible assumption))))⟩)
  obtain ⟨l0, l1, l2⟩ := hl
  have q0 : ((ts.length : Int) != (ts'.length : Int)) = false := by rw [l0]; simp
  have q1 : ((bs.length : Int) != (bs'.length : Int)) = false := by rw [l1]; simp
  have q2 : ((hs.length : Int) != (hs'.length : Int)) = false := by rw [l2]; simp
  replace l0 := Lib.hid l0
  replace l1 := Lib.hid l1
  replace l2 := Lib.hid l2
  go_enter Tryz.func14, Tryz.ntmps14
  go_wp2_with fail
  refine Code.at (fun W0 hW => ?_)
  have c0 : W0.cell? ⟨w.heap.size, 0, none⟩ = some (.slice a0 ts.length k0) := by subst hW; go_simp
  have c1 : W0.cell? ⟨w.heap.size, 1, none⟩ = some (.slice a1 bs.length k1) := by subst hW; go_simp
  have c2 : W0.cell? ⟨w.heap.size, 2, none⟩ = some (.slice a2 hs.length k2) := by subst hW; go_simp
  have d0 : W0.cell? ⟨w.heap.size + 1, 0, none⟩ = some (.slice b0 ts'.length j0) := by subst hW; go_simp
  have d1 : W0.cell? ⟨w.heap.size + 1, 1, none⟩ = some (.slice b1 bs'.length j1) := by subst hW; go_simp
  have d2 : W0.cell? ⟨w.heap.size + 1, 2, none⟩ = some (.slice b2 hs'.length j2) := by subst hW; go_simp
  have hn : New w W0 := by subst hW; (repeat (first | (with_reducible exact New.refl _) | (with_reducible assumption) | ((with_reducible refine New.setB ?_ ?_ _); focus (first | omega | (simp; omega) | (simp; done))) | (with_reducible refine New.alloc ?_ _) | (with_reducible refine New.drew ?_) | (with_reducible refine New.drewN ?_ _) | (with_reducible refine New.hat ?_ _) | ((with_reducible apply New.snart); (with_reducible assumption))))
  clear hW q0 q1 q2
  go_loopg [5] ts.length (fun k s wr => ∃ i : Nat, s = .int .i64 i ∧ i + k = ts.length ∧ ts.take i = ts'.take i ∧ New W0 wr)
  case atStart => exact ⟨0, rfl, by omega, by simp, New.refl _⟩
  case round =>
    obtain ⟨i, rfl, hik, hall, nr⟩ := hrel
    have HAT := Lib.hid hall
    clear hall
    replace c0 := nr.keep c0
    replace c1 := nr.keep c1
    replace c2 := nr.keep c2
    replace d0 := nr.keep d0
    replace d1 := nr.keep d1
    replace d2 := nr.keep d2
    replace hn := hn.trans nr
    by_cases hlt : i < ts.length
    · have hlt2 : i < ts'.length := by have := l0.out; omega
      obtain ⟨b, off, rfl, hA⟩ := GT.out (by omega)
      obtain ⟨b', off', rfl, hA2⟩ := FT.out (by omega)
      have hA' := hA.keep hn
      have hA2' := hA2.keep hn
      obtain ⟨x0, x1, x2, x3, x4, x5, x6, x7, x8, x9⟩ := TriR.cells hA' i hlt
      obtain ⟨y0, y1, y2, y3, y4, y5, y6, y7, y8, y9⟩ := TriR.cells hA2' i hlt2
      have hq := fun W => t_neq W ts[i] ts'[i]
      clear hA hA' hA2 hA2'
      cases he : ts[i].eqB ts'[i]
      · rw [he] at hq
        have hv : Hid (v = false) := Lib.hid (NO.out (fun ⟨e1, e2, e3⟩ => by
          have := (TriR.eqB_iff ts[i] ts'[i]).2 (by simp only [e1])
          rw [this] at he
          cases he))
        clear he
        go_wp2_with fail
        (try (refine wp_region_hat (by kernel_rfl) (by kernel_rfl) ?_; intro hatc hatf; (repeat (go_big_quiet_step ((fail)))); refine wpQuiet_nil ?_; rintro _ ⟨x, rfl⟩))
        (try go_wp2_with fail)
        go_ret
        rw [hv.out]
        exact ⟨rfl, by first | exact hn | exact hn.hat x⟩
      · rw [he] at hq
        have HE := Lib.hid ((TriR.eqB_iff _ _).1 he)
        clear he
        go_wp2_with fail
        (try (refine wp_region_hat (by kernel_rfl) (by kernel_rfl) ?_; intro hatc hatf; (repeat (go_big_quiet_step ((fail)))); refine wpQuiet_nil ?_; rintro _ ⟨x, rfl⟩))
        (try go_wp2_with fail)
        go_roundg (gk - 1)
        case measure => omega
        case rel => exact ⟨i + 1, by go_num, by omega, by rw [List.take_succ_eq_append_getElem hlt, List.take_succ_eq_append_getElem hlt2, HAT.out, HE.out], by first | exact nr | exact nr.hat x⟩
    · have ET : Hid (ts = ts') := Lib.hid (by
        have := HAT.out
        rwa [List.take_of_length_le (by omega), List.take_of_length_le (by have := l0.out; omega)] at this)
      obtain rfl : i = ts.length := by omega
      clear hik hlt nr HAT
      rename World => W1
      go_wp2_with fail
      go_loopg [6] bs.length (fun k s wr => ∃ i : Nat, s = .int .i64 i ∧ i + k = bs.length ∧ bs.take i = bs'.take i ∧ New W1 wr)
      case atStart => exact ⟨0, rfl, by omega, by simp, New.refl _⟩
      case round =>
        obtain ⟨i, rfl, hik, hall, nr⟩ := hrel
        have HAB := Lib.hid hall
        clear hall
        replace c0 := nr.keep c0
        replace c1 := nr.keep c1
        replace c2 := nr.keep c2
        replace d0 := nr.keep d0
        replace d1 := nr.keep d1
        replace d2 := nr.keep d2
        replace hn := hn.trans nr
        by_cases hlt : i < bs.length
        · have hlt2 : i < bs'.length := by have := l1.out; omega
          obtain ⟨b, off, rfl, hA⟩ := GB.out (by omega)
          obtain ⟨b', off', rfl, hA2⟩ := FB.out (by omega)
          have hA' := hA.keep hn
          have hA2' := hA2.keep hn
          obtain ⟨x0, x1, x2, x3, x4, x5, x6, x7⟩ := BoxR.cells hA' i hlt
          obtain ⟨y0, y1, y2, y3, y4, y5, y6, y7⟩ := BoxR.cells hA2' i hlt2
          have hq := fun W => b_neq W bs[i] bs'[i]
          clear hA hA' hA2 hA2'
          cases he : bs[i].eqB bs'[i]
          · rw [he] at hq
            have hv : Hid (v = false) := Lib.hid (NO.out (fun ⟨e1, e2, e3⟩ => by
              have := (BoxR.eqB_iff bs[i] bs'[i]).2 (by simp only [e2])
              rw [this] at he
              cases he))
            clear he
            go_wp2_with fail
            (try (refine wp_region_hat (by kernel_rfl) (by kernel_rfl) ?_; intro hatc hatf; (repeat (go_big_quiet_step ((fail)))); refine wpQuiet_nil ?_; rintro _ ⟨x, rfl⟩))
            (try go_wp2_with fail)
            go_ret
            rw [hv.out]
            exact ⟨rfl, by first | exact hn | exact hn.hat x⟩
          · rw [he] at hq
            have HE := Lib.hid ((BoxR.eqB_iff _ _).1 he)
            clear he
            go_wp2_with fail
            (try (refine wp_region_hat (by kernel_rfl) (by kernel_rfl) ?_; intro hatc hatf; (repeat (go_big_quiet_step ((fail)))); refine wpQuiet_nil ?_; rintro _ ⟨x, rfl⟩))
            (try go_wp2_with fail)
            go_roundg (gk - 1)
            case measure => omega
            case rel => exact ⟨i + 1, by go_num, by omega, by rw [List.take_succ_eq_append_getElem hlt, List.take_succ_eq_append_getElem hlt2, HAB.out, HE.out], by first | exact nr | exact nr.hat x⟩
        · have EB : Hid (bs = bs') := Lib.hid (by
            have := HAB.out
            rwa [List.take_of_length_le (by omega), List.take_of_length_le (by have := l1.out; omega)] at this)
          obtain rfl : i = bs.length := by omega
          clear hik hlt nr HAB
          rename World => W2
          go_wp2_with fail
          go_loopg [7] hs.length (fun k s wr => ∃ i : Nat, s = .int .i64 i ∧ i + k = hs.length ∧ hs.take i = hs'.take i ∧ New W2 wr)
          case atStart => exact ⟨0, rfl, by omega, by simp, New.refl _⟩
          case round =>
            obtain ⟨i, rfl, hik, hall, nr⟩ := hrel
            have HAH := Lib.hid hall
            clear hall
            replace c0 := nr.keep c0
            replace c1 := nr.keep c1
            replace c2 := nr.keep c2
            replace d0 := nr.keep d0
            replace d1 := nr.keep d1
            replace d2 := nr.keep d2
            replace hn := hn.trans nr
            by_cases hlt : i < hs.length
            · have hlt2 : i < hs'.length := by have := l2.out; omega
              obtain ⟨b, off, rfl, hA⟩ := GH.out (by omega)
              obtain ⟨b', off', rfl, hA2⟩ := FH.out (by omega)
              have hA' := hA.keep hn
              have hA2' := hA2.keep hn
              obtain ⟨x0, x1, x2, x3, x4, x5, x6, x7, x8, x9⟩ := HopR.cells hA' i hlt
              obtain ⟨y0, y1, y2, y3, y4, y5, y6, y7, y8, y9⟩ := HopR.cells hA2' i hlt2
              have hq := fun W => h_neq W hs[i] hs'[i]
              clear hA hA' hA2 hA2'
              cases he : hs[i].eqB hs'[i]
              · rw [he] at hq
                have hv : Hid (v = false) := Lib.hid (NO.out (fun ⟨e1, e2, e3⟩ => by
                  have := (HopR.eqB_iff hs[i] hs'[i]).2 (by simp only [e3])
                  rw [this] at he
                  cases he))
                clear he
                go_wp2_with fail
                (try (refine wp_region_hat (by kernel_rfl) (by kernel_rfl) ?_; intro hatc hatf; (repeat (go_big_quiet_step ((fail)))); refine wpQuiet_nil ?_; rintro _ ⟨x, rfl⟩))
                (try go_wp2_with fail)
                go_ret
                rw [hv.out]
                exact ⟨rfl, by first | exact hn | exact hn.hat x⟩
              · rw [he] at hq
                have HE := Lib.hid ((HopR.eqB_iff _ _).1 he)
                clear he
                go_wp2_with fail
                (try (refine wp_region_hat (by kernel_rfl) (by kernel_rfl) ?_; intro hatc hatf; (repeat (go_big_quiet_step ((fail)))); refine wpQuiet_nil ?_; rintro _ ⟨x, rfl⟩))
                (try go_wp2_with fail)
                go_roundg (gk - 1)
                case measure => omega
                case rel => exact ⟨i + 1, by go_num, by omega, by rw [List.take_succ_eq_append_getElem hlt, List.take_succ_eq_append_getElem hlt2, HAH.out, HE.out], by first | exact nr | exact nr.hat x⟩
            · have EH : Hid (hs = hs') := Lib.hid (by
                have := HAH.out
                rwa [List.take_of_length_le (by omega), List.take_of_length_le (by have := l2.out; omega)] at this)
              obtain rfl : i = hs.length := by omega
              clear hik hlt nr HAH
              rename World => W3
              go_wp2_with fail
              go_ret
              rw [YES.out ET.out EB.out EH.out]
              exact ⟨rfl, hn⟩

end Go.Proofs.YtonngfogbnfbnaaGreat
