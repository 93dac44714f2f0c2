/- sort.partialInsertionSort_func, whatever the comparison lays. -/
import Derived.Test.YtmpkciidhopckaaSortA
import Derived.Deep.DeepCutAuto
import Derived.Deep.CutBlock
namespace Go.Proofs.Ytmpkciidhopckaa
open Go.RowKit Go.Sort Go.Shelf Go.Lib
set_option linter.unusedVariables false
variable {α : Type} [Inhabited α] {g : Nat} {lb : Array Value} {sf : Nat} {sb : Array Value} {enc : α → List Value} {k : Nat} {lt : α → α → Bool} {blk off n : Nat} {w0 : World}

theorem g_scan_go (lt : α → α → Bool) (d : Array α) (b i : Nat) (h : i < b) (hl : lt d[i]! d[i - 1]! = false) : scanSorted lt d b i = scanSorted lt d b (i + 1) := by
  rw [scanSorted, if_pos (by simp [h, hl])]
theorem g_scan_end (lt : α → α → Bool) (d : Array α) (b i : Nat) (h : ¬ i < b ∨ lt d[i]! d[i - 1]! = true) : scanSorted lt d b i = i := by
  rw [scanSorted, if_neg (by rcases h with h | h <;> simp [h])]
theorem g_down_go (lt : α → α → Bool) (d : Array α) (j : Nat) (h0 : 0 < j) (hl : lt d[j]! d[j - 1]! = true) : shiftDown lt j d = shiftDown lt (j - 1) (Sort.swp d j (j - 1)) := by
  obtain ⟨m, rfl⟩ : ∃ m, j = m + 1 := ⟨j - 1, by omega⟩
  simp only [Nat.add_sub_cancel] at *
  rw [shiftDown, hl]; rfl
theorem g_down_end (lt : α → α → Bool) (d : Array α) (j : Nat) (h : j = 0 ∨ lt d[j]! d[j - 1]! = false) : shiftDown lt j d = d := by
  cases j with
  | zero => rfl
  | succ m =>
    have hl : lt d[m + 1]! d[m]! = false := by simpa using h
    rw [shiftDown, hl]; rfl
theorem g_up_go (lt : α → α → Bool) (d : Array α) (b j : Nat) (h : j < b) (hl : lt d[j]! d[j - 1]! = true) : shiftUp lt b j d = shiftUp lt b (j + 1) (Sort.swp d j (j - 1)) := by
  rw [shiftUp, if_pos h, hl]; rfl
theorem g_up_end (lt : α → α → Bool) (d : Array α) (b j : Nat) (h : ¬ j < b ∨ lt d[j]! d[j - 1]! = false) : shiftUp lt b j d = d := by
  rw [shiftUp]
  by_cases hj : j < b
  · rw [if_pos hj]
    have hl : lt d[j]! d[j - 1]! = false := by rcases h with h | h; · omega
                                               · exact h
    rw [hl]; rfl
  · rw [if_neg hj]

theorem g_step_sorted {lt : α → α → Bool} {a b s i i' : Nat} {dk d : Array α} (hi : i' = scanSorted lt dk b i) (hO : partialIns lt a b (s + 1) i dk = partialInsertionSort lt d a b) (h : i' = b) : partialInsertionSort lt d a b = (dk, true) := by
  rw [← hO, partialIns_succ, ← hi, if_pos h]
theorem g_step_short {lt : α → α → Bool} {a b s i i' : Nat} {dk d : Array α} (hi : i' = scanSorted lt dk b i) (hO : partialIns lt a b (s + 1) i dk = partialInsertionSort lt d a b) (h : i' ≠ b) (h2 : b - a < 50) : partialInsertionSort lt d a b = (dk, false) := by
  rw [← hO, partialIns_succ, ← hi, if_neg h, if_pos h2]
theorem g_step_on {lt : α → α → Bool} {a b s i i' : Nat} {dk d : Array α} (hi : i' = scanSorted lt dk b i) (hO : partialIns lt a b (s + 1) i dk = partialInsertionSort lt d a b) (h : i' ≠ b) (h2 : ¬ b - a < 50) : partialIns lt a b s i' (fixUp lt b i' (fixDown lt a i' (Sort.swp dk i' (i' - 1)))) = partialInsertionSort lt d a b := by
  rw [← hO, partialIns_succ, ← hi, if_neg h, if_neg h2]

set_option maxHeartbeats 8000000 in
set_option maxRecDepth 100000 in
theorem s_pins (C : Sorting Try.prog g lb sf sb enc k lt blk off n w0) (a b : Nat) (d : Array α) (w : World) (hR : Row enc k blk off n w0 d w) (hab : a < b) (hb : b ≤ n) :
    Calls Try.prog 93 #[.agg #[.func (.func g) #[] lb, .func (.func sf) #[] sb], .int .i64 a, .int .i64 b] w fun e w' =>
      e = .returned (.bool (partialInsertionSort lt d a b).2) ∧ But blk w w' ∧ Row enc k blk off n w0 (partialInsertionSort lt d a b).1 w' := by
  (have hn := C.small; have eg := C.eg; have hB : blk ≠ w.heap.size := (by (have := hR.le; have := C.lt0; omega)); (go_enter Try.func93, Try.ntmps93); go_wp2; (obtain ⟨w1, hw1⟩ : ∃ w1, w1 = w.alloc (.cells #[.func (.func g) #[] lb, .func (.func sf) #[] sb] 99) := ⟨_, rfl⟩); (have hR1 : Row enc k blk off n w0 d w1 := by (subst hw1; exact hR.alloc _)); (have n1 : New w w1 := by (subst hw1; (repeat (first | (with_reducible exact New.refl _) | (with_reducible assumption) | ((with_reducible refine New.setB ?_ ?_ _); focus (first | omega | (simp; omega) | (simp; done))) | (with_reducible refine New.alloc ?_ _) | (with_reducible refine New.drew ?_) | (with_reducible refine New.drewN ?_ _) | (with_reducible refine New.hat ?_ _) | ((with_reducible apply New.snart); (with_reducible assumption)))))); (have b0 : w1.cell? ⟨w.heap.size, 0, none⟩ = some (.func (.func g) #[] lb) := by (subst hw1; go_simp)); (have b1 : w1.cell? ⟨w.heap.size, 1, none⟩ = some (.func (.func sf) #[] sb) := by (subst hw1; go_simp)); rw [← hw1]; clear hw1)
  go_loopg [7, 8] 5 (fun kx s7 s8 wr => ∃ (i : Nat) (dk : Array α), s7 = .int .i64 i ∧ s8 = .int .i64 (5 - (kx : Int)) ∧ kx ≤ 5 ∧ a < i ∧ i ≤ b ∧ But blk w1 wr ∧ Row enc k blk off n w0 dk wr ∧ Hid (partialIns lt a b kx i dk = partialInsertionSort lt d a b))
  case atStart => exact ⟨a + 1, d, by go_num, by go_num, Nat.le_refl _, by omega, by omega, But.refl _ _, hR1, rfl⟩
  case round =>
    obtain ⟨i, dk, rfl, rfl, hk5, hai, hib, hBw, hRk, HE⟩ := hrel
    cases gk with
    | zero =>
      go_wp2
      go_ret
      rw [← HE.out]
      exact ⟨rfl, hBw.snd n1, hRk⟩
    | succ s =>
      have hq5 : decide ((5 : Int) - ((s + 1 : Nat) : Int) < 5) = true := decide_eq_true (by omega)
      have hq0 : 0 ≤ (5 : Int) - ((s + 1 : Nat) : Int) := by omega
      have hq1 : (5 : Int) - ((s + 1 : Nat) : Int) < 5 := by omega
      have hqs : (5 : Int) - ((s + 1 : Nat) : Int) + 1 = 5 - (s : Int) := by omega
      generalize (5 : Int) - ((s + 1 : Nat) : Int) = q at *
      have HQ : Hid _ := hqs
      clear hqs
      go_upto_block 2 with fail
      go_cut [7] (fun s7 wc => ∃ i' : Nat, s7 = .int .i64 i' ∧ i ≤ i' ∧ i' ≤ b ∧ Hid (i' = scanSorted lt dk b i) ∧ But blk w1 wc ∧ Row enc k blk off n w0 dk wc)
      case first =>
        go_wp2_with fail
        go_loopw [7] (fun vi wr => ∃ i' : Nat, vi = .int .i64 i' ∧ i ≤ i' ∧ i' ≤ b ∧ But blk w1 wr ∧ Row enc k blk off n w0 dk wr ∧ Hid (scanSorted lt dk b i' = scanSorted lt dk b i)) (fun vi _ => b - (intOf vi).toNat)
        case atStart => exact ⟨i, rfl, Nat.le_refl _, hib, hBw, hRk, rfl⟩
        case round =>
          clear hBw hRk
          obtain ⟨i', rfl, hii, hib', hBw, hRk, hsc⟩ := hrel
          have c0 := hBw.keep b0 hB.symm
          by_cases hle : i' < b
          · cases hlv : lt dk[i']! dk[i' - 1]! with
            | false =>
              have hl := C.at hRk i' (i' - 1) (by omega) (by omega) hlv
              rw [show (((i' - 1 : Nat) : Int)) = (i' : Int) - 1 by omega] at hl
              go_wp2_with (go_at_fn g; refine hl.mono ?_; rintro e w3 ⟨rfl, n3⟩)
              go_roundw
              case rel => exact ⟨i' + 1, by go_num, by omega, by omega, hBw.new n3, hRk.new n3, (g_scan_go lt dk b i' hle hlv).symm.trans hsc.out⟩
              case measure => simp [intOf]; omega
            | true =>
              have hl := C.at hRk i' (i' - 1) (by omega) (by omega) hlv
              rw [show (((i' - 1 : Nat) : Int)) = (i' : Int) - 1 by omega] at hl
              go_wp2_with (go_at_fn g; refine hl.mono ?_; rintro e w3 ⟨rfl, n3⟩)
              go_meet
              exact ⟨i', rfl, hii, hib', (g_scan_end lt dk b i' (Or.inr hlv)).symm.trans hsc.out, hBw.new n3, hRk.new n3⟩
          · go_wp2
            go_meet
            exact ⟨i', rfl, hii, hib', (g_scan_end lt dk b i' (Or.inl hle)).symm.trans hsc.out, hBw, hRk⟩
      case rest =>
        clear hBw hRk
        obtain ⟨i', rfl, hii, hib', hi2, hBw, hRk⟩ := hcut
        have c0 := hBw.keep b0 hB.symm
        have c1 := hBw.keep b1 hB.symm
        by_cases hend : i' = b
        · have hZ : Hid _ := g_step_sorted hi2.out HE.out hend
          subst hend
          go_wp2
          go_ret
          rw [hZ.out]
          exact ⟨rfl, hBw.snd n1, hRk⟩
        · by_cases h50 : b - a < 50
          · have hZ : Hid _ := g_step_short hi2.out HE.out hend h50
            have h50z : (b : Int) - (a : Int) < 50 := by omega
            go_wp2
            go_ret
            rw [hZ.out]
            exact ⟨rfl, hBw.snd n1, hRk⟩
          · have hZ : Hid _ := g_step_on hi2.out HE.out hend h50
            have h50z : ¬ ((b : Int) - (a : Int) < 50) := by omega
            obtain ⟨w3, s3, p3, r3⟩ := C.swp hRk i' (i' - 1) (by omega) (by omega)
            rw [show (((i' - 1 : Nat) : Int)) = (i' : Int) - 1 by omega] at s3
            have hB3 := hBw.trans p3
            clear hBw hRk hi2 HE
            go_upto_if 47 with fail
            clear s3 c0 c1
            generalize Sort.swp dk i' (i' - 1) = d3 at r3 hZ
            go_cut [] (fun wc => But blk w1 wc ∧ Row enc k blk off n w0 (fixDown lt a i' d3) wc)
            case first =>
              by_cases h2 : i' - a ≥ 2
              · have h2z : (i' : Int) - (a : Int) ≥ 2 := by omega
                have hfd : Hid (fixDown lt a i' d3 = shiftDown lt (i' - 1) d3) := by show fixDown lt a i' d3 = _; unfold fixDown; rw [if_pos h2]
                go_wp2_with fail
                go_loopw [9] (fun vj wr => ∃ (j : Nat) (dj : Array α), vj = .int .i64 j ∧ j < i' ∧ But blk w1 wr ∧ Row enc k blk off n w0 dj wr ∧ Hid (shiftDown lt j dj = shiftDown lt (i' - 1) d3)) (fun vj _ => (intOf vj).toNat)
                case atStart => exact ⟨i' - 1, d3, by congr 1; omega, by omega, hB3, r3, rfl⟩
                case round =>
                  clear hB3 r3
                  obtain ⟨j, dj, rfl, hji, hBw, hRj, hsc⟩ := hrel
                  have c0 := hBw.keep b0 hB.symm
                  have c1 := hBw.keep b1 hB.symm
                  by_cases hj0 : j = 0
                  · subst hj0
                    go_wp2
                    go_meet
                    exact ⟨hBw, by rw [hfd.out, ← hsc.out]; exact hRj⟩
                  · cases hlv : lt dj[j]! dj[j - 1]! with
                    | false =>
                      have hl := C.at hRj j (j - 1) (by omega) (by omega) hlv
                      rw [show (((j - 1 : Nat) : Int)) = (j : Int) - 1 by omega] at hl
                      go_wp2_with (go_at_fn g; refine hl.mono ?_; rintro e w4 ⟨rfl, n4⟩)
                      go_meet
                      exact ⟨hBw.new n4, by rw [hfd.out, ← hsc.out, g_down_end lt dj j (Or.inr hlv)]; exact hRj.new n4⟩
                    | true =>
                      have hl := C.at hRj j (j - 1) (by omega) (by omega) hlv
                      rw [show (((j - 1 : Nat) : Int)) = (j : Int) - 1 by omega] at hl
                      go_wp2_with (go_at_fn g; refine hl.mono ?_; rintro e w4 ⟨rfl, n4⟩; have c1 := n4.keep c1)
                      obtain ⟨w5, s5, p5, r5⟩ := C.swp (hRj.new n4) j (j - 1) (by omega) (by omega)
                      rw [show (((j - 1 : Nat) : Int)) = (j : Int) - 1 by omega] at s5
                      rw [s5, Oper.upon_value]
                      go_wp2
                      go_roundw
                      case rel => exact ⟨j - 1, _, by go_num, by omega, (hBw.new n4).trans p5, r5, (g_down_go lt dj j (by omega) hlv).symm.trans hsc.out⟩
                      case measure => simp [intOf]; omega
              · have h2z : ¬ ((i' : Int) - (a : Int) ≥ 2) := by omega
                go_wp2_with fail
                go_meet
                exact ⟨hB3, by unfold fixDown; rw [if_neg h2]; exact r3⟩
            case rest =>
              clear hB3 r3
              obtain ⟨hB3, r3⟩ := hcut
              generalize fixDown lt a i' d3 = d4 at r3 hZ
              go_upto_if 70 with fail
              have END : Hid (∀ W, But blk w1 W → Row enc k blk off n w0 (fixUp lt b i' d4) W → ∃ (i : Nat) (dk : Array α), Value.int .i64 (i' : Int) = .int .i64 i ∧ Value.int .i64 (q + 1) = .int .i64 (5 - (s : Int)) ∧ s ≤ 5 ∧ a < i ∧ i ≤ b ∧ But blk w1 W ∧ Row enc k blk off n w0 dk W ∧ Hid (partialIns lt a b s i dk = partialInsertionSort lt d a b)) :=
                fun W p r => ⟨i', _, rfl, by rw [HQ.out], by omega, by omega, hib', p, r, hZ⟩
              by_cases h2 : b - i' ≥ 2
              · have h2z : (b : Int) - (i' : Int) ≥ 2 := by omega
                have hfd : Hid (fixUp lt b i' d4 = shiftUp lt b (i' + 1) d4) := by show fixUp lt b i' d4 = _; unfold fixUp; rw [if_pos h2]
                go_wp2_with fail
                go_loopw [10] (fun vj wr => ∃ (j : Nat) (dj : Array α), vj = .int .i64 j ∧ i' < j ∧ j ≤ b ∧ But blk w1 wr ∧ Row enc k blk off n w0 dj wr ∧ Hid (shiftUp lt b j dj = shiftUp lt b (i' + 1) d4)) (fun vj _ => b - (intOf vj).toNat)
                case atStart => exact ⟨i' + 1, d4, by go_num, by omega, by omega, hB3, r3, rfl⟩
                case round =>
                  clear hB3 r3
                  obtain ⟨j, dj, rfl, hji, hjb, hBw, hRj, hsc⟩ := hrel
                  have c0 := hBw.keep b0 hB.symm
                  have c1 := hBw.keep b1 hB.symm
                  by_cases hj0 : j < b
                  · cases hlv : lt dj[j]! dj[j - 1]! with
                    | false =>
                      have hl := C.at hRj j (j - 1) (by omega) (by omega) hlv
                      rw [show (((j - 1 : Nat) : Int)) = (j : Int) - 1 by omega] at hl
                      go_wp2_with (go_at_fn g; refine hl.mono ?_; rintro e w4 ⟨rfl, n4⟩)
                      go_roundg s
                      case measure => omega
                      case rel => exact END.out _ (hBw.new n4) (by rw [hfd.out, ← hsc.out, g_up_end lt dj b j (Or.inr hlv)]; exact hRj.new n4)
                    | true =>
                      have hl := C.at hRj j (j - 1) (by omega) (by omega) hlv
                      rw [show (((j - 1 : Nat) : Int)) = (j : Int) - 1 by omega] at hl
                      go_wp2_with (go_at_fn g; refine hl.mono ?_; rintro e w4 ⟨rfl, n4⟩; have c1 := n4.keep c1)
                      obtain ⟨w5, s5, p5, r5⟩ := C.swp (hRj.new n4) j (j - 1) (by omega) (by omega)
                      rw [show (((j - 1 : Nat) : Int)) = (j : Int) - 1 by omega] at s5
                      rw [s5, Oper.upon_value]
                      go_wp2
                      go_roundw
                      case rel => exact ⟨j + 1, _, by go_num, by omega, by omega, (hBw.new n4).trans p5, r5, (g_up_go lt dj b j hj0 hlv).symm.trans hsc.out⟩
                      case measure => simp [intOf]; omega
                  · go_wp2
                    go_roundg s
                    case measure => omega
                    case rel => exact END.out _ (hBw) (by rw [hfd.out, ← hsc.out, g_up_end lt dj b j (Or.inl hj0)]; exact hRj)
              · have h2z : ¬ ((b : Int) - (i' : Int) ≥ 2) := by omega
                go_wp2_with fail
                go_roundg s
                case measure => omega
                case rel => exact END.out _ hB3 (by unfold fixUp; rw [if_neg h2]; exact r3)

end Go.Proofs.Ytmpkciidhopckaa
