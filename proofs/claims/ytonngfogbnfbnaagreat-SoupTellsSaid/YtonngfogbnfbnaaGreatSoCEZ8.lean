import Derived.Test.YtonngfogbnfbnaaGreatSoCCZ8
import Derived.Test.YtonngfogbnfbnaaGreatSoGZ8
import Derived.Test.YtonngfogbnfbnaaGreatWholeJZ8

/- The document's package of soups: Check. -/
namespace Go.Proofs.YtonngfogbnfbnaaGreat
open Go.RowKit
set_option linter.unusedVariables false
set_option linter.unusedSimpArgs false
set_option maxRecDepth 100000

/-- One more that may be. -/
theorem TriR.okAt_no (C : CfgR) (l : List TriR) {i : Nat} (hi : i < l.length) (h : TriR.okAt C l i = false) : TriR.listB C l = false := by
  cases hh : TriR.listB C l
  · rfl
  · unfold TriR.listB at hh
    rw [Bool.and_eq_true] at hh
    have := List.all_eq_true.1 hh.2 i (List.mem_range.2 hi)
    rw [h] at this
    cases this
theorem TriR.okAt_all (C : CfgR) (l : List TriR) (hl : l.length ≤ 200) (h : ∀ j, j < l.length → TriR.okAt C l j = true) : TriR.listB C l = true := by
  unfold TriR.listB
  rw [Bool.and_eq_true, decide_eq_true_eq]
  exact ⟨hl, List.all_eq_true.2 fun i hi => h i (List.mem_range.1 hi)⟩

/-- One more that may be. -/
theorem BoxR.okAt_no (C : CfgR) (l : List BoxR) {i : Nat} (hi : i < l.length) (h : BoxR.okAt C l i = false) : BoxR.listB C l = false := by
  cases hh : BoxR.listB C l
  · rfl
  · unfold BoxR.listB at hh
    rw [Bool.and_eq_true] at hh
    have := List.all_eq_true.1 hh.2 i (List.mem_range.2 hi)
    rw [h] at this
    cases this
theorem BoxR.okAt_all (C : CfgR) (l : List BoxR) (hl : l.length ≤ 16) (h : ∀ j, j < l.length → BoxR.okAt C l j = true) : BoxR.listB C l = true := by
  unfold BoxR.listB
  rw [Bool.and_eq_true, decide_eq_true_eq]
  exact ⟨hl, List.all_eq_true.2 fun i hi => h i (List.mem_range.1 hi)⟩
theorem BoxR.may_id (C : CfgR) (x : BoxR) : x.may C = (idB x.i && x.tests C) := by
  unfold BoxR.may idB
  congr 1
  simp only [ordB, Bool.and_true]
  rw [Bool.eq_iff_iff]
  simp

/-- One more that may be. -/
theorem HopR.okAt_no (C : CfgR) (l : List HopR) {i : Nat} (hi : i < l.length) (h : HopR.okAt C l i = false) : HopR.listB C l = false := by
  cases hh : HopR.listB C l
  · rfl
  · unfold HopR.listB at hh
    rw [Bool.and_eq_true] at hh
    have := List.all_eq_true.1 hh.2 i (List.mem_range.2 hi)
    rw [h] at this
    cases this
theorem HopR.okAt_all (C : CfgR) (l : List HopR) (hl : l.length ≤ 16) (h : ∀ j, j < l.length → HopR.okAt C l j = true) : HopR.listB C l = true := by
  unfold HopR.listB
  rw [Bool.and_eq_true, decide_eq_true_eq]
  exact ⟨hl, List.all_eq_true.2 fun i hi => h i (List.mem_range.1 hi)⟩
theorem HopR.may_id (C : CfgR) (x : HopR) : x.may C = (idB x.i && x.tests C) := by
  unfold HopR.may idB
  congr 1
  simp only [ordB, Bool.and_true]
  rw [Bool.eq_iff_iff]
  simp

theorem err_list {C : CfgR} (h0 : C.err = 0) (S : SoupV) (h : TriR.listB C S.ts = false ∨ BoxR.listB C S.bs = false ∨ HopR.listB C S.hs = false) : S.err C = 2 := by
  unfold SoupV.err
  rw [if_neg (by simp [h0])]
  rcases h with h | h | h <;> simp [h]

set_option maxHeartbeats 20000000 in
/-- No list is too long: the walk over the three. -/
theorem u_check_walk (C : CfgR) (hC : C.fine) (S : SoupV) (w : World) (hS : S.ok w) (g1 : S.ts.length ≤ 200) (g2 : S.bs.length ≤ 16) (g3 : S.hs.length ≤ 16) :
    Calls Tryz.prog 16 #[.agg #[.int .i64 C.cl, .int .i64 C.cb, .int .i64 C.ht, .int .i64 C.ri, .int .i64 C.ru, .int .i64 C.wd, .int .i64 C.dp], .agg #[.slice S.a0 S.ts.length S.c0, .slice S.a1 S.bs.length S.c1, .slice S.a2 S.hs.length S.c2]] w fun e w' => e = .returned (.int .i64 (S.err C)) ∧ New w w' := by
  have HC := Lib.hid (fun W => rcheck_any C.cl C.cb C.ht C.ri C.ru C.wd C.dp W)
  rw [show checkE C.cl C.cb C.ht C.ri C.ru C.wd C.dp = 0 from hC.err] at HC
  have KI := Lib.hid (fun y W => u_id y W)
  have HT := Lib.hid hS.t.row.2.2.2.2
  have HB := Lib.hid hS.b.row.2.2.2.2
  have HH := Lib.hid hS.h.row.2.2.2.2
  have MT := Lib.hid (fun x W => u_mayTri C.wd C.dp ⟨hC.w1, hC.w2⟩ ⟨hC.d1, hC.d2⟩ x W)
  have MB := Lib.hid (fun x W => u_mayBox C x W)
  have MH := Lib.hid (fun x W => u_mayHop C x W)
  have FT := Lib.hid (mayTB_may C hC)
  have FB := Lib.hid (BoxR.may_id C)
  have FH := Lib.hid (HopR.may_id C)
  have NT := Lib.hid (fun i (h : i < S.ts.length) (e : TriR.okAt C S.ts i = false) => err_list hC.err S (.inl (TriR.okAt_no C S.ts h e)))
  have NB := Lib.hid (fun i (h : i < S.bs.length) (e : BoxR.okAt C S.bs i = false) => err_list hC.err S (.inr (.inl (BoxR.okAt_no C S.bs h e))))
  have NH := Lib.hid (fun i (h : i < S.hs.length) (e : HopR.okAt C S.hs i = false) => err_list hC.err S (.inr (.inr (HopR.okAt_no C S.hs h e))))
  have YY : Hid ((∀ j, j < S.ts.length → TriR.okAt C S.ts j = true) → (∀ j, j < S.bs.length → BoxR.okAt C S.bs j = true) → (∀ j, j < S.hs.length → HopR.okAt C S.hs j = true) → S.err C = 0) := Lib.hid (fun a b c => by
    have e1 := TriR.okAt_all C S.ts g1 a
    have e2 := BoxR.okAt_all C S.bs g2 b
    have e3 := HopR.okAt_all C S.hs g3 c
    have h0 : C.err = 0 := hC.err
    unfold SoupV.err
    rw [if_neg (by rw [h0]; decide), if_pos ⟨e1, e2, e3⟩])
  generalize S.err C = v at *
  obtain ⟨ts, bs, hs, a0, a1, a2, k0, k1, k2⟩ := S
  dsimp only at *
  clear hS
  have q1 : decide ((200 : Int) < (ts.length : Int)) = false := decide_eq_false (by omega)
  have q2 : decide ((16 : Int) < (bs.length : Int)) = false := decide_eq_false (by omega)
  have q3 : decide ((16 : Int) < (hs.length : Int)) = false := decide_eq_false (by omega)
  go_enter Tryz.func16, Tryz.ntmps16
  go_wp2_with fail
  refine Calls.at (fun W hW => ?_)
  ((have c0 : W.cell? ⟨w.heap.size, 0, none⟩ = some (.int .i64 C.cl) := (by subst hW; go_simp)); (have c1 : W.cell? ⟨w.heap.size, 1, none⟩ = some (.int .i64 C.cb) := (by subst hW; go_simp)); (have c2 : W.cell? ⟨w.heap.size, 2, none⟩ = some (.int .i64 C.ht) := (by subst hW; go_simp)); (have c3 : W.cell? ⟨w.heap.size, 3, none⟩ = some (.int .i64 C.ri) := (by subst hW; go_simp)); (have c4 : W.cell? ⟨w.heap.size, 4, none⟩ = some (.int .i64 C.ru) := (by subst hW; go_simp)); (have c5 : W.cell? ⟨w.heap.size, 5, none⟩ = some (.int .i64 C.wd) := (by subst hW; go_simp)); (have c6 : W.cell? ⟨w.heap.size, 6, none⟩ = some (.int .i64 C.dp) := (by subst hW; go_simp)))
  have e0 : W.cell? ⟨w.heap.size + 1, 0, none⟩ = some (.slice a0 ts.length k0) := by subst hW; go_simp
  have e1 : W.cell? ⟨w.heap.size + 1, 1, none⟩ = some (.slice a1 bs.length k1) := by subst hW; go_simp
  have e2 : W.cell? ⟨w.heap.size + 1, 2, none⟩ = some (.slice a2 hs.length k2) := by subst hW; go_simp
  have hn : New w W := by subst hW; (repeat (first | (with_reducible exact New.refl _) | (with_reducible assumption) | ((with_reducible refine New.setB ?_ ?_ _); focus (first | omega | (simp; omega) | (simp; done))) | (with_reducible refine New.alloc ?_ _) | (with_reducible refine New.drew ?_) | (with_reducible refine New.drewN ?_ _) | (with_reducible refine New.hat ?_ _) | ((with_reducible apply New.snart); (with_reducible assumption))))
  clear hW
  refine (HC.out _).mono ?_
  rintro e W0 ⟨rfl, n1, -⟩
  ((replace c0 := New.keep n1 c0); (replace c1 := New.keep n1 c1); (replace c2 := New.keep n1 c2); (replace c3 := New.keep n1 c3); (replace c4 := New.keep n1 c4); (replace c5 := New.keep n1 c5); (replace c6 := New.keep n1 c6))
  replace e0 := New.keep n1 e0
  replace e1 := New.keep n1 e1
  replace e2 := New.keep n1 e2
  replace hn : New w W0 := New.trans hn n1
  clear n1 HC q1 q2 q3
  go_wp2_with fail
  go_loopg [5] ts.length (fun k i wr => ∃ m : Nat, i = .int .i64 m ∧ m + k = ts.length ∧ (∀ j, j < m → TriR.okAt C ts j = true) ∧ New W0 wr)
  case atStart => exact ⟨0, rfl, by omega, fun j hj => absurd hj (by omega), New.refl _⟩
  case round =>
    obtain ⟨m, rfl, hmk, hall, nr⟩ := hrel
    have AT := Lib.hid hall
    clear hall
    ((replace c0 := New.keep nr c0); (replace c1 := New.keep nr c1); (replace c2 := New.keep nr c2); (replace c3 := New.keep nr c3); (replace c4 := New.keep nr c4); (replace c5 := New.keep nr c5); (replace c6 := New.keep nr c6))
    replace e0 := New.keep nr e0
    replace e1 := New.keep nr e1
    replace e2 := New.keep nr e2
    by_cases hlt : m < ts.length
    · have GO : Hid (∀ {b : Bool}, TriR.okAt C ts m = b → (b = true → ∀ j, j < m + 1 → TriR.okAt C ts j = true)) := Lib.hid (fun h hb j hj => by
        rcases Nat.lt_or_ge j m with h1 | h1
        · exact AT.out j h1
        · obtain rfl : j = m := by omega
          rw [h, hb])
      obtain ⟨b, off, rfl, hA⟩ := HT.out (by omega)
      have hA' := hA.keep (hn.trans nr)
      obtain ⟨f0, f1, f2, f3, f4, f5, f6, f7, f8, f9⟩ := TriR.cells hA' m hlt
      have EO : TriR.okAt C ts m = ((idB ts[m].i && mayTB C.wd C.dp ts[m]) && (m == 0 || decide ((ts[m - 1]'(by omega)).i < ts[m].i))) := by
        unfold TriR.okAt
        rw [getElem!_pos ts m hlt, getElem!_pos ts (m - 1) (by omega), FT.out]
      have NO : Hid (TriR.okAt C ts m = false → v = 2) := Lib.hid (fun h => NT.out m hlt h)
      have K1 := Lib.hid (fun W => KI.out ts[m].i W)
      have K2 := Lib.hid (fun W => MT.out ts[m] W)
      clear hA
      cases hi : idB ts[m].i
      · have hv := Lib.hid (NO.out (by rw [EO, hi]; rfl))
        rw [hi] at K1
        clear EO hi NO GO hA'
        go_wp2_with fail
        (refine wp_region_hat (by kernel_rfl) (by kernel_rfl) ?_; intro hatc hatf; (repeat (go_big_quiet_step ((first | (go_at_call 40; exact Calls.hat (K1.out _)) | (go_at_call 41; exact Calls.hat (K2.out _)))))); refine wpQuiet_nil ?_; rintro _ ⟨x, rfl⟩)
        go_wp2_with fail
        go_ret
        rw [hv.out]
        exact ⟨rfl, (hn.trans nr).hat x⟩
      rw [hi] at K1
      rcases Nat.eq_zero_or_pos m with rfl | hm
      · simp only [Nat.zero_mul, Nat.add_zero] at f0 f1 f2 f3 f4 f5 f6 f7 f8 f9
        cases ht : mayTB C.wd C.dp ts[0]
        · have hv := Lib.hid (NO.out (by rw [EO, hi, ht]; rfl))
          rw [ht] at K2
          clear EO hi NO GO hA' ht
          go_wp2_with fail
          (refine wp_region_hat (by kernel_rfl) (by kernel_rfl) ?_; intro hatc hatf; (repeat (go_big_quiet_step ((first | (go_at_call 40; exact Calls.hat (K1.out _)) | (go_at_call 41; exact Calls.hat (K2.out _)))))); refine wpQuiet_nil ?_; rintro _ ⟨x, rfl⟩)
          go_wp2_with fail
          go_ret
          rw [hv.out]
          exact ⟨rfl, (hn.trans nr).hat x⟩
        · have hg := Lib.hid (GO.out (by rw [EO, hi, ht]; rfl) rfl)
          rw [ht] at K2
          clear EO hi NO GO hA' ht
          go_wp2_with fail
          (refine wp_region_hat (by kernel_rfl) (by kernel_rfl) ?_; intro hatc hatf; (repeat (go_big_quiet_step ((first | (go_at_call 40; exact Calls.hat (K1.out _)) | (go_at_call 41; exact Calls.hat (K2.out _)))))); refine wpQuiet_nil ?_; rintro _ ⟨x, rfl⟩)
          go_wp2_with fail
          go_roundg (gk - 1)
          case measure => omega
          case rel => exact ⟨0 + 1, by go_num, by omega, hg.out, nr.hat x⟩
      · obtain ⟨p, rfl⟩ : ∃ p, m = p + 1 := ⟨m - 1, by omega⟩
        have hp : p < ts.length := by omega
        have b0 := (TriR.cells hA' p hp).1
        have q0 : decide ((0 : Int) < ((p + 1 : Nat) : Int)) = true := decide_eq_true (by omega)
        have EO2 : TriR.okAt C ts (p + 1) = ((idB ts[p + 1].i && mayTB C.wd C.dp ts[p + 1]) && decide (ts[p].i < ts[p + 1].i)) := by rw [EO]; simp
        clear EO
        by_cases hlo : ts[p + 1].i ≤ ts[p].i
        · have hv := Lib.hid (NO.out (by rw [EO2, decide_eq_false (by omega : ¬ ts[p].i < ts[p + 1].i)]; simp))
          have q4 : decide (ts[p + 1].i ≤ ts[p].i) = true := decide_eq_true hlo
          clear EO2 hi NO GO hA' hlo
          go_wp2_with fail
          (refine wp_region_hat (by kernel_rfl) (by kernel_rfl) ?_; intro hatc hatf; (repeat (go_big_quiet_step ((first | (go_at_call 40; exact Calls.hat (K1.out _)) | (go_at_call 41; exact Calls.hat (K2.out _)))))); refine wpQuiet_nil ?_; rintro _ ⟨x, rfl⟩)
          go_wp2_with fail
          go_ret
          rw [hv.out]
          exact ⟨rfl, (hn.trans nr).hat x⟩
        · have q4 : decide (ts[p + 1].i ≤ ts[p].i) = false := decide_eq_false hlo
          have q5 : decide (ts[p].i < ts[p + 1].i) = true := decide_eq_true (by omega)
          cases ht : mayTB C.wd C.dp ts[p + 1]
          · have hv := Lib.hid (NO.out (by rw [EO2, hi, ht]; rfl))
            rw [ht] at K2
            clear EO2 hi NO GO hA' ht q5 hlo
            go_wp2_with fail
            (refine wp_region_hat (by kernel_rfl) (by kernel_rfl) ?_; intro hatc hatf; (repeat (go_big_quiet_step ((first | (go_at_call 40; exact Calls.hat (K1.out _)) | (go_at_call 41; exact Calls.hat (K2.out _)))))); refine wpQuiet_nil ?_; rintro _ ⟨x, rfl⟩)
            go_wp2_with fail
            go_ret
            rw [hv.out]
            exact ⟨rfl, (hn.trans nr).hat x⟩
          · have hg := Lib.hid (GO.out (by rw [EO2, hi, ht, q5]; rfl) rfl)
            rw [ht] at K2
            clear EO2 hi NO GO hA' ht q5 hlo
            go_wp2_with fail
            (refine wp_region_hat (by kernel_rfl) (by kernel_rfl) ?_; intro hatc hatf; (repeat (go_big_quiet_step ((first | (go_at_call 40; exact Calls.hat (K1.out _)) | (go_at_call 41; exact Calls.hat (K2.out _)))))); refine wpQuiet_nil ?_; rintro _ ⟨x, rfl⟩)
            go_wp2_with fail
            go_roundg (gk - 1)
            case measure => omega
            case rel => exact ⟨p + 1 + 1, by go_num, by omega, hg.out, nr.hat x⟩
    · have AT' : Hid (∀ j, j < ts.length → TriR.okAt C ts j = true) := Lib.hid (fun j hj => AT.out j (by omega))
      clear AT
      replace hn := hn.trans nr
      obtain rfl : m = ts.length := by omega
      clear hmk hlt nr
      rename World => W1
      go_wp2_with fail
      go_loopg [6] bs.length (fun k i wr => ∃ m : Nat, i = .int .i64 m ∧ m + k = bs.length ∧ (∀ j, j < m → BoxR.okAt C bs j = true) ∧ New W1 wr)
      case atStart => exact ⟨0, rfl, by omega, fun j hj => absurd hj (by omega), New.refl _⟩
      case round =>
        obtain ⟨m, rfl, hmk, hall, nr⟩ := hrel
        have AB := Lib.hid hall
        clear hall
        ((replace c0 := New.keep nr c0); (replace c1 := New.keep nr c1); (replace c2 := New.keep nr c2); (replace c3 := New.keep nr c3); (replace c4 := New.keep nr c4); (replace c5 := New.keep nr c5); (replace c6 := New.keep nr c6))
        replace e0 := New.keep nr e0
        replace e1 := New.keep nr e1
        replace e2 := New.keep nr e2
        by_cases hlt : m < bs.length
        · have GO : Hid (∀ {b : Bool}, BoxR.okAt C bs m = b → (b = true → ∀ j, j < m + 1 → BoxR.okAt C bs j = true)) := Lib.hid (fun h hb j hj => by
            rcases Nat.lt_or_ge j m with h1 | h1
            · exact AB.out j h1
            · obtain rfl : j = m := by omega
              rw [h, hb])
          obtain ⟨b, off, rfl, hA⟩ := HB.out (by omega)
          have hA' := hA.keep (hn.trans nr)
          obtain ⟨f0, f1, f2, f3, f4, f5, f6, f7⟩ := BoxR.cells hA' m hlt
          have EO : BoxR.okAt C bs m = ((idB bs[m].i && BoxR.tests C bs[m]) && (m == 0 || decide ((bs[m - 1]'(by omega)).i < bs[m].i))) := by
            unfold BoxR.okAt
            rw [getElem!_pos bs m hlt, getElem!_pos bs (m - 1) (by omega), FB.out]
          have NO : Hid (BoxR.okAt C bs m = false → v = 2) := Lib.hid (fun h => NB.out m hlt h)
          have K1 := Lib.hid (fun W => KI.out bs[m].i W)
          have K2 := Lib.hid (fun W => MB.out bs[m] W)
          clear hA
          cases hi : idB bs[m].i
          · have hv := Lib.hid (NO.out (by rw [EO, hi]; rfl))
            rw [hi] at K1
            clear EO hi NO GO hA'
            go_wp2_with fail
            (refine wp_region_hat (by kernel_rfl) (by kernel_rfl) ?_; intro hatc hatf; (repeat (go_big_quiet_step ((first | (go_at_call 40; exact Calls.hat (K1.out _)) | (go_at_call 42; exact Calls.hat (K2.out _)))))); refine wpQuiet_nil ?_; rintro _ ⟨x, rfl⟩)
            go_wp2_with fail
            go_ret
            rw [hv.out]
            exact ⟨rfl, (hn.trans nr).hat x⟩
          rw [hi] at K1
          rcases Nat.eq_zero_or_pos m with rfl | hm
          · simp only [Nat.zero_mul, Nat.add_zero] at f0 f1 f2 f3 f4 f5 f6 f7
            cases ht : BoxR.tests C bs[0]
            · have hv := Lib.hid (NO.out (by rw [EO, hi, ht]; rfl))
              rw [ht] at K2
              clear EO hi NO GO hA' ht
              go_wp2_with fail
              (refine wp_region_hat (by kernel_rfl) (by kernel_rfl) ?_; intro hatc hatf; (repeat (go_big_quiet_step ((first | (go_at_call 40; exact Calls.hat (K1.out _)) | (go_at_call 42; exact Calls.hat (K2.out _)))))); refine wpQuiet_nil ?_; rintro _ ⟨x, rfl⟩)
              go_wp2_with fail
              go_ret
              rw [hv.out]
              exact ⟨rfl, (hn.trans nr).hat x⟩
            · have hg := Lib.hid (GO.out (by rw [EO, hi, ht]; rfl) rfl)
              rw [ht] at K2
              clear EO hi NO GO hA' ht
              go_wp2_with fail
              (refine wp_region_hat (by kernel_rfl) (by kernel_rfl) ?_; intro hatc hatf; (repeat (go_big_quiet_step ((first | (go_at_call 40; exact Calls.hat (K1.out _)) | (go_at_call 42; exact Calls.hat (K2.out _)))))); refine wpQuiet_nil ?_; rintro _ ⟨x, rfl⟩)
              go_wp2_with fail
              go_roundg (gk - 1)
              case measure => omega
              case rel => exact ⟨0 + 1, by go_num, by omega, hg.out, nr.hat x⟩
          · obtain ⟨p, rfl⟩ : ∃ p, m = p + 1 := ⟨m - 1, by omega⟩
            have hp : p < bs.length := by omega
            have b0 := (BoxR.cells hA' p hp).1
            have q0 : decide ((0 : Int) < ((p + 1 : Nat) : Int)) = true := decide_eq_true (by omega)
            have EO2 : BoxR.okAt C bs (p + 1) = ((idB bs[p + 1].i && BoxR.tests C bs[p + 1]) && decide (bs[p].i < bs[p + 1].i)) := by rw [EO]; simp
            clear EO
            by_cases hlo : bs[p + 1].i ≤ bs[p].i
            · have hv := Lib.hid (NO.out (by rw [EO2, decide_eq_false (by omega : ¬ bs[p].i < bs[p + 1].i)]; simp))
              have q4 : decide (bs[p + 1].i ≤ bs[p].i) = true := decide_eq_true hlo
              clear EO2 hi NO GO hA' hlo
              go_wp2_with fail
              (refine wp_region_hat (by kernel_rfl) (by kernel_rfl) ?_; intro hatc hatf; (repeat (go_big_quiet_step ((first | (go_at_call 40; exact Calls.hat (K1.out _)) | (go_at_call 42; exact Calls.hat (K2.out _)))))); refine wpQuiet_nil ?_; rintro _ ⟨x, rfl⟩)
              go_wp2_with fail
              go_ret
              rw [hv.out]
              exact ⟨rfl, (hn.trans nr).hat x⟩
            · have q4 : decide (bs[p + 1].i ≤ bs[p].i) = false := decide_eq_false hlo
              have q5 : decide (bs[p].i < bs[p + 1].i) = true := decide_eq_true (by omega)
              cases ht : BoxR.tests C bs[p + 1]
              · have hv := Lib.hid (NO.out (by rw [EO2, hi, ht]; rfl))
                rw [ht] at K2
                clear EO2 hi NO GO hA' ht q5 hlo
                go_wp2_with fail
                (refine wp_region_hat (by kernel_rfl) (by kernel_rfl) ?_; intro hatc hatf; (repeat (go_big_quiet_step ((first | (go_at_call 40; exact Calls.hat (K1.out _)) | (go_at_call 42; exact Calls.hat (K2.out _)))))); refine wpQuiet_nil ?_; rintro _ ⟨x, rfl⟩)
                go_wp2_with fail
                go_ret
                rw [hv.out]
                exact ⟨rfl, (hn.trans nr).hat x⟩
              · have hg := Lib.hid (GO.out (by rw [EO2, hi, ht, q5]; rfl) rfl)
                rw [ht] at K2
                clear EO2 hi NO GO hA' ht q5 hlo
                go_wp2_with fail
                (refine wp_region_hat (by kernel_rfl) (by kernel_rfl) ?_; intro hatc hatf; (repeat (go_big_quiet_step ((first | (go_at_call 40; exact Calls.hat (K1.out _)) | (go_at_call 42; exact Calls.hat (K2.out _)))))); refine wpQuiet_nil ?_; rintro _ ⟨x, rfl⟩)
                go_wp2_with fail
                go_roundg (gk - 1)
                case measure => omega
                case rel => exact ⟨p + 1 + 1, by go_num, by omega, hg.out, nr.hat x⟩
        · have AB' : Hid (∀ j, j < bs.length → BoxR.okAt C bs j = true) := Lib.hid (fun j hj => AB.out j (by omega))
          clear AB
          replace hn := hn.trans nr
          obtain rfl : m = bs.length := by omega
          clear hmk hlt nr
          rename World => W2
          go_wp2_with fail
          go_loopg [7] hs.length (fun k i wr => ∃ m : Nat, i = .int .i64 m ∧ m + k = hs.length ∧ (∀ j, j < m → HopR.okAt C hs j = true) ∧ New W2 wr)
          case atStart => exact ⟨0, rfl, by omega, fun j hj => absurd hj (by omega), New.refl _⟩
          case round =>
            obtain ⟨m, rfl, hmk, hall, nr⟩ := hrel
            have AH := Lib.hid hall
            clear hall
            ((replace c0 := New.keep nr c0); (replace c1 := New.keep nr c1); (replace c2 := New.keep nr c2); (replace c3 := New.keep nr c3); (replace c4 := New.keep nr c4); (replace c5 := New.keep nr c5); (replace c6 := New.keep nr c6))
            replace e0 := New.keep nr e0
            replace e1 := New.keep nr e1
            replace e2 := New.keep nr e2
            by_cases hlt : m < hs.length
            · have GO : Hid (∀ {b : Bool}, HopR.okAt C hs m = b → (b = true → ∀ j, j < m + 1 → HopR.okAt C hs j = true)) := Lib.hid (fun h hb j hj => by
                rcases Nat.lt_or_ge j m with h1 | h1
                · exact AH.out j h1
                · obtain rfl : j = m := by omega
                  rw [h, hb])
              obtain ⟨b, off, rfl, hA⟩ := HH.out (by omega)
              have hA' := hA.keep (hn.trans nr)
              obtain ⟨f0, f1, f2, f3, f4, f5, f6, f7, f8, f9⟩ := HopR.cells hA' m hlt
              have EO : HopR.okAt C hs m = ((idB hs[m].i && HopR.tests C hs[m]) && (m == 0 || decide ((hs[m - 1]'(by omega)).i < hs[m].i))) := by
                unfold HopR.okAt
                rw [getElem!_pos hs m hlt, getElem!_pos hs (m - 1) (by omega), FH.out]
              have NO : Hid (HopR.okAt C hs m = false → v = 2) := Lib.hid (fun h => NH.out m hlt h)
              have K1 := Lib.hid (fun W => KI.out hs[m].i W)
              have K2 := Lib.hid (fun W => MH.out hs[m] W)
              clear hA
              cases hi : idB hs[m].i
              · have hv := Lib.hid (NO.out (by rw [EO, hi]; rfl))
                rw [hi] at K1
                clear EO hi NO GO hA'
                go_wp2_with fail
                (refine wp_region_hat (by kernel_rfl) (by kernel_rfl) ?_; intro hatc hatf; (repeat (go_big_quiet_step ((first | (go_at_call 40; exact Calls.hat (K1.out _)) | (go_at_call 43; exact Calls.hat (K2.out _)))))); refine wpQuiet_nil ?_; rintro _ ⟨x, rfl⟩)
                go_wp2_with fail
                go_ret
                rw [hv.out]
                exact ⟨rfl, (hn.trans nr).hat x⟩
              rw [hi] at K1
              rcases Nat.eq_zero_or_pos m with rfl | hm
              · simp only [Nat.zero_mul, Nat.add_zero] at f0 f1 f2 f3 f4 f5 f6 f7 f8 f9
                cases ht : HopR.tests C hs[0]
                · have hv := Lib.hid (NO.out (by rw [EO, hi, ht]; rfl))
                  rw [ht] at K2
                  clear EO hi NO GO hA' ht
                  go_wp2_with fail
                  (refine wp_region_hat (by kernel_rfl) (by kernel_rfl) ?_; intro hatc hatf; (repeat (go_big_quiet_step ((first | (go_at_call 40; exact Calls.hat (K1.out _)) | (go_at_call 43; exact Calls.hat (K2.out _)))))); refine wpQuiet_nil ?_; rintro _ ⟨x, rfl⟩)
                  go_wp2_with fail
                  go_ret
                  rw [hv.out]
                  exact ⟨rfl, (hn.trans nr).hat x⟩
                · have hg := Lib.hid (GO.out (by rw [EO, hi, ht]; rfl) rfl)
                  rw [ht] at K2
                  clear EO hi NO GO hA' ht
                  go_wp2_with fail
                  (refine wp_region_hat (by kernel_rfl) (by kernel_rfl) ?_; intro hatc hatf; (repeat (go_big_quiet_step ((first | (go_at_call 40; exact Calls.hat (K1.out _)) | (go_at_call 43; exact Calls.hat (K2.out _)))))); refine wpQuiet_nil ?_; rintro _ ⟨x, rfl⟩)
                  go_wp2_with fail
                  go_roundg (gk - 1)
                  case measure => omega
                  case rel => exact ⟨0 + 1, by go_num, by omega, hg.out, nr.hat x⟩
              · obtain ⟨p, rfl⟩ : ∃ p, m = p + 1 := ⟨m - 1, by omega⟩
                have hp : p < hs.length := by omega
                have b0 := (HopR.cells hA' p hp).1
                have q0 : decide ((0 : Int) < ((p + 1 : Nat) : Int)) = true := decide_eq_true (by omega)
                have EO2 : HopR.okAt C hs (p + 1) = ((idB hs[p + 1].i && HopR.tests C hs[p + 1]) && decide (hs[p].i < hs[p + 1].i)) := by rw [EO]; simp
                clear EO
                by_cases hlo : hs[p + 1].i ≤ hs[p].i
                · have hv := Lib.hid (NO.out (by rw [EO2, decide_eq_false (by omega : ¬ hs[p].i < hs[p + 1].i)]; simp))
                  have q4 : decide (hs[p + 1].i ≤ hs[p].i) = true := decide_eq_true hlo
                  clear EO2 hi NO GO hA' hlo
                  go_wp2_with fail
                  (refine wp_region_hat (by kernel_rfl) (by kernel_rfl) ?_; intro hatc hatf; (repeat (go_big_quiet_step ((first | (go_at_call 40; exact Calls.hat (K1.out _)) | (go_at_call 43; exact Calls.hat (K2.out _)))))); refine wpQuiet_nil ?_; rintro _ ⟨x, rfl⟩)
                  go_wp2_with fail
                  go_ret
                  rw [hv.out]
                  exact ⟨rfl, (hn.trans nr).hat x⟩
                · have q4 : decide (hs[p + 1].i ≤ hs[p].i) = false := decide_eq_false hlo
                  have q5 : decide (hs[p].i < hs[p + 1].i) = true := decide_eq_true (by omega)
                  cases ht : HopR.tests C hs[p + 1]
                  · have hv := Lib.hid (NO.out (by rw [EO2, hi, ht]; rfl))
                    rw [ht] at K2
                    clear EO2 hi NO GO hA' ht q5 hlo
                    go_wp2_with fail
                    (refine wp_region_hat (by kernel_rfl) (by kernel_rfl) ?_; intro hatc hatf; (repeat (go_big_quiet_step ((first | (go_at_call 40; exact Calls.hat (K1.out _)) | (go_at_call 43; exact Calls.hat (K2.out _)))))); refine wpQuiet_nil ?_; rintro _ ⟨x, rfl⟩)
                    go_wp2_with fail
                    go_ret
                    rw [hv.out]
                    exact ⟨rfl, (hn.trans nr).hat x⟩
                  · have hg := Lib.hid (GO.out (by rw [EO2, hi, ht, q5]; rfl) rfl)
                    rw [ht] at K2
                    clear EO2 hi NO GO hA' ht q5 hlo
                    go_wp2_with fail
                    (refine wp_region_hat (by kernel_rfl) (by kernel_rfl) ?_; intro hatc hatf; (repeat (go_big_quiet_step ((first | (go_at_call 40; exact Calls.hat (K1.out _)) | (go_at_call 43; exact Calls.hat (K2.out _)))))); refine wpQuiet_nil ?_; rintro _ ⟨x, rfl⟩)
                    go_wp2_with fail
                    go_roundg (gk - 1)
                    case measure => omega
                    case rel => exact ⟨p + 1 + 1, by go_num, by omega, hg.out, nr.hat x⟩
            · have AH' : Hid (∀ j, j < hs.length → HopR.okAt C hs j = true) := Lib.hid (fun j hj => AH.out j (by omega))
              clear AH
              replace hn := hn.trans nr
              obtain rfl : m = hs.length := by omega
              clear hmk hlt nr
              rename World => W3
              go_wp2_with fail
              go_ret
              rw [YY.out AT'.out AB'.out AH'.out]
              exact ⟨rfl, hn⟩

end Go.Proofs.YtonngfogbnfbnaaGreat

/- The document's package of soups: Check, of any soup. -/
namespace Go.Proofs.YtonngfogbnfbnaaGreat
open Go.RowKit
set_option linter.unusedVariables false
set_option maxRecDepth 100000

theorem SoupV.err_long {C : CfgR} {S : SoupV} (h0 : C.err = 0) (h : 200 < S.ts.length ∨ 16 < S.bs.length ∨ 16 < S.hs.length) : S.err C = 2 := by
  refine err_list h0 S ?_
  rcases h with h | h | h
  · refine .inl ?_
    unfold TriR.listB
    rw [decide_eq_false (by omega)]
    rfl
  · refine .inr (.inl ?_)
    unfold BoxR.listB
    rw [decide_eq_false (by omega)]
    rfl
  · refine .inr (.inr ?_)
    unfold HopR.listB
    rw [decide_eq_false (by omega)]
    rfl

set_option maxHeartbeats 4000000 in
theorem u_check (C : CfgR) (S : SoupV) (w : World) (hS : S.ok w) :
    Calls Tryz.prog 16 #[.agg #[.int .i64 C.cl, .int .i64 C.cb, .int .i64 C.ht, .int .i64 C.ri, .int .i64 C.ru, .int .i64 C.wd, .int .i64 C.dp], .agg #[.slice S.a0 S.ts.length S.c0, .slice S.a1 S.bs.length S.c1, .slice S.a2 S.hs.length S.c2]] w fun e w' => e = .returned (.int .i64 (S.err C)) ∧ New w w' := by
  by_cases h0 : C.err = 0
  · by_cases hl : S.ts.length ≤ 200 ∧ S.bs.length ≤ 16 ∧ S.hs.length ≤ 16
    · exact u_check_walk C (CfgR.fine_of h0) S w hS hl.1 hl.2.1 hl.2.2
    have HV := Lib.hid (SoupV.err_long (S := S) h0 (by omega))
    have HC := Lib.hid (fun W => rcheck_any C.cl C.cb C.ht C.ri C.ru C.wd C.dp W)
    rw [show checkE C.cl C.cb C.ht C.ri C.ru C.wd C.dp = 0 from h0] at HC
    generalize S.err C = v at *
    clear hS h0
    have hl' : ¬ ((S.ts.length : Int) ≤ 200 ∧ (S.bs.length : Int) ≤ 16 ∧ (S.hs.length : Int) ≤ 16) := by omega
    clear hl
    go_enter Tryz.func16, Tryz.ntmps16
    go_wp2_with fail
    refine Calls.at (fun W hW => ?_)
    have e0 : W.cell? ⟨w.heap.size + 1, 0, none⟩ = some (.slice S.a0 S.ts.length S.c0) := by subst hW; go_simp
    have e1 : W.cell? ⟨w.heap.size + 1, 1, none⟩ = some (.slice S.a1 S.bs.length S.c1) := by subst hW; go_simp
    have e2 : W.cell? ⟨w.heap.size + 1, 2, none⟩ = some (.slice S.a2 S.hs.length S.c2) := by subst hW; go_simp
    have hn : New w W := by subst hW; (repeat (first | (with_reducible exact New.refl _) | (with_reducible assumption) | ((with_reducible refine New.setB ?_ ?_ _); focus (first | omega | (simp; omega) | (simp; done))) | (with_reducible refine New.alloc ?_ _) | (with_reducible refine New.drew ?_) | (with_reducible refine New.drewN ?_ _) | (with_reducible refine New.hat ?_ _) | ((with_reducible apply New.snart); (with_reducible assumption))))
    clear hW
    refine (HC.out _).mono ?_
    rintro e W0 ⟨rfl, n1, -⟩
    replace e0 := New.keep n1 e0
    replace e1 := New.keep n1 e1
    replace e2 := New.keep n1 e2
    replace hn : New w W0 := New.trans hn n1
    clear n1 HC
    go_wp2_with fail
    all_goals first
      | (exfalso; omega)
      | (go_ret; rw [HV.out]; exact ⟨rfl, hn⟩)
  · have HV : Hid (S.err C = 20) := Lib.hid (by unfold SoupV.err; rw [if_pos h0])
    have HC := Lib.hid (fun W => rcheck_any C.cl C.cb C.ht C.ri C.ru C.wd C.dp W)
    rcases checkE_two C.cl C.cb C.ht C.ri C.ru C.wd C.dp with h1 | h1
    · exact absurd h1 h0
    rw [h1] at HC
    generalize S.err C = v at *
    clear hS h0 h1
    go_enter Tryz.func16, Tryz.ntmps16
    go_wp2_with fail
    refine Calls.at (fun W hW => ?_)
    have hn : New w W := by subst hW; (repeat (first | (with_reducible exact New.refl _) | (with_reducible assumption) | ((with_reducible refine New.setB ?_ ?_ _); focus (first | omega | (simp; omega) | (simp; done))) | (with_reducible refine New.alloc ?_ _) | (with_reducible refine New.drew ?_) | (with_reducible refine New.drewN ?_ _) | (with_reducible refine New.hat ?_ _) | ((with_reducible apply New.snart); (with_reducible assumption))))
    clear hW
    refine (HC.out _).mono ?_
    rintro e W0 ⟨rfl, n1, -⟩
    replace hn : New w W0 := New.trans hn n1
    clear n1 HC
    go_wp2_with fail
    go_ret
    rw [HV.out]
    exact ⟨rfl, hn⟩

end Go.Proofs.YtonngfogbnfbnaaGreat
